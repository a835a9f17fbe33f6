/- Dot, Norm, Key. -/
import Derived.Test.YtbnemcggiopdmaaQe

import Derived.Great.BuildSlice

import Derived.Deep.Cut

import Derived.Deep.CutRange

namespace Go.Proofs.Ytbnemcggiopdmaa.vk

open Go.ChangeShapes Go.WideShapes Go.ChangeAt Go.RowKit

set_option linter.unusedVariables false
theorem common_same (A A' : Option Addr) (n c c' : Nat) (w : World) (hn : n ≤ 9223372036854775807) :
    Calls Try.prog 41 #[.slice A n c, .slice A' n c'] w fun e w' => e = .returned (.int .i64 n) ∧ w' = w := by
  have h := common_calls A A' n n c c' w hn hn
  rw [Nat.min_self] at h
  exact h
theorem Box.drewN {w : World} {g : Nat} {v : Value} (h : Box w g v) (q : Nat) : Box (w.drewN q) g v := h
theorem isI_drewN {w : World} {A : Option Addr} {n c : Nat} {l : List Int} (h : wo.IsI w A n c l) (q : Nat) : wo.IsI (w.drewN q) A n c l := h
theorem drewN_add (w : World) (a b : Nat) : (w.drewN a).drewN b = w.drewN (a + b) := World.drewN_drewN ..
theorem below_drewN {B : Nat} {a w : World} (h : Below B a w) (q : Nat) : Below B a (w.drewN q) := ⟨h.os, h.tape, h.output, h.size, h.block⟩
theorem box2 (w : World) (v1 v2 : Value) (t1 t2 : TypeId) : Box ((w.alloc (.cells #[v1] t1)).alloc (.cells #[v2] t2)) w.heap.size v1 ∧ Box ((w.alloc (.cells #[v1] t1)).alloc (.cells #[v2] t2)) (w.heap.size + 1) v2 ∧ Below w.heap.size w ((w.alloc (.cells #[v1] t1)).alloc (.cells #[v2] t2)) := by
  refine ⟨(Box.new w v1 t1).below (below_new _ _), ?_, Below.andThen (below_new _ _) (below_new _ _)⟩
  have := Box.new (w.alloc (.cells #[v1] t1)) v2 t2
  rw [size_new] at this
  exact this
/-- lists that are not greater than differences -/
def Few (l : List Int) : Prop := ∀ x ∈ l, -2000 ≤ x ∧ x ≤ 2000
theorem few_of {l : List Int} (h : vq.Vec l) : Few l := fun x hx => by have := h.lo x hx; have := h.hi x hx; omega
theorem Few.at {l : List Int} (h : Few l) {k : Nat} {x : Int} (hx : l[k]? = some x) : -2000 ≤ x ∧ x ≤ 2000 := h x (List.mem_of_getElem? hx)
theorem len_of {l : List Int} {k : Nat} (h : k < l.length) : l[k]? = some l[k] := List.getElem?_eq_getElem h
set_option maxRecDepth 100000 in
theorem dot_calls (A A' : Option Addr) (n c c' : Nat) (a b : List Int) (w : World) (h : wo.IsI w A n c a) (h' : wo.IsI w A' n c' b) (ha : Few a) (hb : Few b) (hn : n ≤ 32) :
    Calls Try.prog 22 #[.slice A n c, .slice A' n c'] w fun e w' => e = .returned (.int .i64 (vq.dot a b)) ∧ Below w.heap.size w w' := by
  have hl := h.1
  have hl' := h'.1
  obtain ⟨hx1, hx2, hB⟩ := box2 w (.slice A n c) (.slice A' n c') 22 22
  have h1 := isI_below h hB
  have h2 := isI_below h' hB
  have hF := fold_int 45 #[.pointer (some ⟨w.heap.size, 0, none⟩), .pointer (some ⟨w.heap.size + 1, 0, none⟩)] (fun _ _ => by kernel_rfl) n (by omega)
    (fun k v w' => ∃ s q, v = .int .i64 s ∧ s = vq.dotk a b k ∧ -4000000 * (k : Int) ≤ s ∧ s ≤ 4000000 * k ∧ w' = ((w.alloc (.cells #[.slice A n c] 22)).alloc (.cells #[.slice A' n c'] 22)).drewN q)
    ((w.alloc (.cells #[.slice A n c] 22)).alloc (.cells #[.slice A' n c'] 22)) (.int .i64 0)
    (fun k v w' hk ⟨s, q, hv, hs, hlo, hhi, hw⟩ => by
      subst hv hw
      have e1 := len_of (l := a) (k := k) (by omega)
      have e2 := len_of (l := b) (k := k) (by omega)
      have f1 := ha.at e1
      have f2 := hb.at e2
      refine (dot1_calls w.heap.size (w.heap.size + 1) A A' n n c c' k a b s _ _ _ (hx1.drewN q) (hx2.drewN q) (isI_drewN h1 q) (isI_drewN h2 q) e1 e2 f1.1 f1.2 f2.1 f2.2 (by omega) (by omega)).mono ?_
      rintro e w' ⟨rfl, q', rfl⟩
      have hm := vq.mul_le1000 f1.1 f1.2 f2.1 f2.2
      exact ⟨_, rfl, _, q + q', rfl, by have := vq.dotk_snoc e1 e2; omega, by omega, by omega, drewN_add _ _ _⟩)
    ⟨0, 0, rfl, (vq.dotk_zero a b).symm, by omega, by omega, rfl⟩
  have HF := Lib.hid hF
  have HE := Lib.hid (vq.dotk_end (a := a) (b := b) (n := n) (.inl (by omega)))
  have hc1 := hx1.cell
  have hc2 := hx2.cell
  have HB := Lib.hid hB
  have HC := Lib.hid (fun w' => common_same A A' n c c' w' (by omega))
  clear hx1 hx2 h1 h2 h h' hF hB ha hb hl hl'
  go_enter Try.func22, Try.ntmps22
  go_wp2_with fail
  refine (HC.out _).mono ?_
  rintro e w' ⟨rfl, rfl⟩
  go_wp2_with fail
  refine HF.out.mono ?_
  rintro e w' ⟨v, rfl, s, q, rfl, hs, -, -, rfl⟩
  have HS := Lib.hid hs
  clear hs
  go_wp2_with fail
  go_ret
  exact ⟨by rw [HS.out, HE.out]; rfl, below_drewN HB.out q⟩
theorem norm_take_bound (m : Int) {v : List Int} (h : Few v) (k : Nat) : 0 ≤ vq.norm m (v.take k) ∧ vq.norm m (v.take k) ≤ 4000000 * k := by
  refine ⟨vq.norm_nonneg m _, ?_⟩
  have := vq.norm_bound (m := m) (v := v.take k) fun x hx => h x (List.mem_of_mem_take hx)
  rw [List.length_take] at this
  omega
theorem infoG : (Try.prog.info? 51).map (·.size) = some 1 := by kernel_rfl
set_option maxRecDepth 100000 in
theorem norm_calls (m : Int) (A : Option Addr) (n c : Nat) (a : List Int) (w : World) (h0 : -9223372036854775808 ≤ m) (h1 : m ≤ 9223372036854775807) (h : wo.IsI w A n c a) (ha : Few a) (hn : n ≤ 32) :
    Calls Try.prog 27 #[.int .i64 m, .slice A n c] w fun e w' => e = .returned (.int .i64 (vq.norm m a)) ∧ Below w.heap.size w w' := by
  have hl := h.1
  have hx := Box.new w (.slice A n c) 22
  have hb := below_new w (.cells #[.slice A n c] 22)
  have hz := size_new w (.cells #[.slice A n c] 22)
  have HG := Lib.hid (growth_calls m (w.alloc (.cells #[.slice A n c] 22)) h0 h1)
  have HI := Lib.hid (isI_below h hb)
  have HX := Lib.hid hx
  have HB := Lib.hid hb
  clear hx hb h
  go_enter Try.func27, Try.ntmps27
  go_wp2_with fail
  refine HG.out.mono ?_
  rintro e w1 ⟨rfl, hb1⟩
  have HX1 := Lib.hid (HX.out.below hb1)
  have HI1 := Lib.hid (isI_below HI.out hb1)
  have HB1 := Lib.hid (Below.andThen HB.out hb1)
  clear hb1 HX HI HB hz
  have hb2 := below_new w1 (.cells #[.func (.func (gf m)) #[] #[]] 51)
  have HX2 := Lib.hid (HX1.out.below hb2)
  have HF2 := Lib.hid (Box.new w1 (.func (.func (gf m)) #[] #[]) 51)
  have HI2 := Lib.hid (isI_below HI1.out hb2)
  have HB2 := Lib.hid (Below.andThen HB1.out hb2)
  clear hb2
  go_upto_region 2 with (refine wpList_store_oneTo rfl 51 (.tmp 5) (.tmp 7) rfl rfl w1.heap.size (.func (.func (gf m)) #[] #[]) rfl rfl rfl 51 .nilFunc (heap_alloc_new _ _) infoG ?_)
  rw [wk.setRow_alloc]
  generalize w1.alloc (.cells #[.func (.func (gf m)) #[] #[]] 51) = w2 at *
  generalize w1.heap.size = G at *
  have hF := fold_int 48 #[.pointer (some ⟨G, 0, none⟩), .pointer (some ⟨w.heap.size, 0, none⟩)] (fun _ _ => by kernel_rfl) n (by omega)
    (fun k v w' => ∃ q, v = .int .i64 (vq.norm m (a.take k)) ∧ w' = w2.drewN q) w2 (.int .i64 0)
    (fun k v w' hk ⟨q, hv, hw⟩ => by
      subst hv hw
      have e1 := len_of (l := a) (k := k) (by omega)
      have f1 := ha.at e1
      have hbd := norm_take_bound m ha k
      refine (norm1_calls m G w.heap.size A n c k a _ _ _ (HF2.out.drewN q) (HX2.out.drewN q) (isI_drewN HI2.out q) e1 f1.1 f1.2 hbd.1 (by omega)).mono ?_
      rintro e w' ⟨rfl, q', rfl⟩
      exact ⟨_, rfl, q + q', by rw [vq.norm_snoc m e1], drewN_add _ _ _⟩)
    ⟨0, rfl, rfl⟩
  have HF := Lib.hid hF
  have hc1 := HX2.out.cell
  have HE : Hid (a.take n = a) := List.take_of_length_le (by omega)
  clear hF HX1 HI1 HB1 HX2 HF2 HI2 ha hl HG
  go_wp2_with fail
  refine HF.out.mono ?_
  rintro e w' ⟨v, rfl, q, rfl, rfl⟩
  go_wp2_with fail
  go_ret
  exact ⟨by rw [HE.out]; rfl, below_drewN HB2.out q⟩
theorem subk_take (a b : List Int) (k : Nat) : vq.subk a b k = (vq.sub a b).take k := rfl
set_option maxRecDepth 100000 in
theorem key_calls (m : Int) (A A' : Option Addr) (n c c' : Nat) (a b : List Int) (w : World) (h0 : -9223372036854775808 ≤ m) (h1 : m ≤ 9223372036854775807) (h : wo.IsI w A n c a) (h' : wo.IsI w A' n c' b) (ha : Few (vq.sub a b)) (hn : n ≤ 32) :
    Calls Try.prog 24 #[.int .i64 m, .slice A n c, .slice A' n c'] w fun e w' => e = .returned (.int .i64 (vq.key m a b)) ∧ Below w.heap.size w w' := by
  have hl := h.1
  have hl' := h'.1
  have hls := vq.sub_length (a := a) (b := b) (by omega)
  obtain ⟨hx1, hx2, hb⟩ := box2 w (.slice A n c) (.slice A' n c') 22 22
  have HG := Lib.hid (growth_calls m ((w.alloc (.cells #[.slice A n c] 22)).alloc (.cells #[.slice A' n c'] 22)) h0 h1)
  have HI := Lib.hid (isI_below h hb)
  have HI' := Lib.hid (isI_below h' hb)
  have HX := Lib.hid hx1
  have HX' := Lib.hid hx2
  have HB := Lib.hid hb
  have HC := Lib.hid (fun w' => common_same A A' n c c' w' (by omega))
  clear hx1 hx2 hb h h'
  go_enter Try.func24, Try.ntmps24
  go_wp2_with fail
  refine HG.out.mono ?_
  rintro e w1 ⟨rfl, hb1⟩
  have hX1 := HX.out.below hb1
  have hX1' := HX'.out.below hb1
  have hI1 := isI_below HI.out hb1
  have hI1' := isI_below HI'.out hb1
  have hB1 := Below.andThen HB.out hb1
  clear hb1 HX HX' HI HI' HB HG
  have hb2 := below_new w1 (.cells #[.func (.func (gf m)) #[] #[]] 51)
  have HX2 := Lib.hid (hX1.below hb2)
  have HX2' := Lib.hid (hX1'.below hb2)
  have HF2 := Lib.hid (Box.new w1 (.func (.func (gf m)) #[] #[]) 51)
  have HI2 := Lib.hid (isI_below hI1 hb2)
  have HI2' := Lib.hid (isI_below hI1' hb2)
  have HB2 := Lib.hid (Below.andThen hB1 hb2)
  clear hb2 hX1 hX1' hI1 hI1' hB1
  go_upto_region 2 with (refine wpList_store_oneTo rfl 51 (.tmp 7) (.tmp 9) rfl rfl w1.heap.size (.func (.func (gf m)) #[] #[]) rfl rfl rfl 51 .nilFunc (heap_alloc_new _ _) infoG ?_)
  rw [wk.setRow_alloc]
  generalize w1.alloc (.cells #[.func (.func (gf m)) #[] #[]] 51) = w2 at *
  generalize w1.heap.size = G at *
  have hF := fold_int 47 #[.pointer (some ⟨G, 0, none⟩), .pointer (some ⟨w.heap.size, 0, none⟩), .pointer (some ⟨w.heap.size + 1, 0, none⟩)] (fun _ _ => by kernel_rfl) n (by omega)
    (fun k v w' => ∃ q, v = .int .i64 (vq.norm m ((vq.sub a b).take k)) ∧ w' = w2.drewN q) w2 (.int .i64 0)
    (fun k v w' hk ⟨q, hv, hw⟩ => by
      subst hv hw
      have e1 := len_of (l := a) (k := k) (by omega)
      have e2 := len_of (l := b) (k := k) (by omega)
      have e3 := vq.sub_at e1 e2
      have f1 := ha.at e3
      have hbd := norm_take_bound m ha k
      refine (key1_calls m G w.heap.size (w.heap.size + 1) A A' n n c c' k a b _ _ _ _ (HF2.out.drewN q) (HX2.out.drewN q) (HX2'.out.drewN q) (isI_drewN HI2.out q) (isI_drewN HI2'.out q) e1 e2 f1.1 f1.2 hbd.1 (by omega)).mono ?_
      rintro e w' ⟨rfl, q', rfl⟩
      exact ⟨_, rfl, q + q', by rw [vq.norm_snoc m e3], drewN_add _ _ _⟩)
    ⟨0, rfl, rfl⟩
  have HF := Lib.hid hF
  have hc1 := HX2.out.cell
  have hc2 := HX2'.out.cell
  have HE : Hid (vq.norm m ((vq.sub a b).take n) = vq.key m a b) := by show _ = _; rw [List.take_of_length_le (by omega)]; rfl
  clear hF HX2 HX2' HF2 HI2 HI2' ha hl hl' hls
  go_wp2_with fail
  refine (HC.out _).mono ?_
  rintro e w' ⟨rfl, rfl⟩
  go_wp2_with fail
  refine HF.out.mono ?_
  rintro e w' ⟨v, rfl, q, rfl, rfl⟩
  go_wp2_with fail
  go_ret
  exact ⟨by rw [← HE.out]; rfl, below_drewN HB2.out q⟩
end Go.Proofs.Ytbnemcggiopdmaa.vk
