/- Joined: Qe Qf Qg Mem Qh Qi Qj Qk Ql Qm Jb. -/
import Derived.Test.YtjhagfggelhpkaaDoorG3

import Derived.Great.BuildSlice

import Derived.Deep.Cut

import Derived.Deep.CutRange

import Derived.Deep.RegionLaw

import Derived.Lib.SliceRun

import Derived.Lib.MinMax
/- Norms grow; Dot, Norm, Key. -/
namespace Go.Proofs.YtjhagfggelhpkaaDoor.vk

open Go.ChangeShapes Go.WideShapes Go.ChangeAt Go.RowKit

set_option linter.unusedVariables false
set_option maxRecDepth 100000 in
theorem grow_calls (m n x : Int) (w : World) (h0 : 0 ≤ n) (hn : n ≤ 1099511627776) (h1 : -2000 ≤ x) (h2 : x ≤ 2000) :
    Calls Tryd.prog (gf m) #[.int .i64 n, .int .i64 x] w fun e w' => e = .returned (.int .i64 (vq.grow m n x)) ∧ w' = w := by
  have q1 := vq.sq_le2000 h1 h2
  have q2 := vq.sq_nonneg x
  unfold gf vq.grow
  by_cases e1 : m = 1
  · rw [if_pos e1, if_pos e1]
    clear e1
    go_enter Tryd.func69, Tryd.ntmps69
    go_wp2_with fail
    all_goals
      go_ret
      exact ⟨wp.ret_i64 (by omega), rfl⟩
  by_cases e2 : m = 2
  · rw [if_neg e1, if_pos e2, if_neg e1, if_pos e2]
    clear e1 e2
    go_enter Tryd.func70, Tryd.ntmps70
    go_wp2_with fail
    go_ret
    exact ⟨rfl, rfl⟩
  by_cases e3 : m = 3
  · rw [if_neg e1, if_neg e2, if_pos e3, if_neg e1, if_neg e2, if_pos e3]
    clear e1 e2 e3
    go_enter Tryd.func71, Tryd.ntmps71
    go_wp2_with fail
    all_goals
      go_ret
      exact ⟨wp.ret_i64 (by omega), rfl⟩
  · rw [if_neg e1, if_neg e2, if_neg e3, if_neg e1, if_neg e2, if_neg e3]
    clear e1 e2 e3
    go_enter Tryd.func72, Tryd.ntmps72
    go_wp2_with fail
    go_ret
    exact ⟨rfl, rfl⟩
set_option maxRecDepth 100000 in
set_option maxHeartbeats 2000000 in
theorem growth_calls (m : Int) (w : World) (h0 : -9223372036854775808 ≤ m) (h1 : m ≤ 9223372036854775807) :
    Calls Tryd.prog 50 #[.int .i64 m] w fun e w' => e = .returned (.func (.func (gf m)) #[] #[]) ∧ Below w.heap.size w w' := by
  have hmm := @run_makeMap Tryd.prog
  go_enter Tryd.func50, Tryd.ntmps50
  have hn0 := heap_alloc_new w (.map #[] 0)
  have hb0 := below_new w (.map #[] 0)
  go_wp2_with (refine ins_step rfl 75 (.tmp 6) (.const (.int .i64 1)) (.func 69) rfl w.heap.size #[] 0 rfl 3 59 Tryd.underlying75 Tryd.underlying3 1 rfl hn0 rfl ?_)
  intro w1 hw1 _ hb1
  have hw1' : w1.heap[w.heap.size]? = some (.map #[en 1 69 0] 1) := hw1
  clear hw1
  replace hb1 := hb0.trans (hb1 w.heap.size (Nat.le_refl _))
  go_wp2_with (refine ins_step rfl 75 (.tmp 6) (.const (.int .i64 2)) (.func 70) rfl w.heap.size #[en 1 69 0] 1 rfl 3 59 Tryd.underlying75 Tryd.underlying3 2 rfl hw1' rfl ?_)
  intro w2 hw2 _ hb2
  have hw2' : w2.heap[w.heap.size]? = some (.map #[en 1 69 0, en 2 70 1] 2) := hw2
  clear hw2
  replace hb2 := hb1.trans (hb2 w.heap.size (Nat.le_refl _))
  go_wp2_with (refine ins_step rfl 75 (.tmp 6) (.const (.int .i64 3)) (.func 71) rfl w.heap.size #[en 1 69 0, en 2 70 1] 2 rfl 3 59 Tryd.underlying75 Tryd.underlying3 3 rfl hw2' rfl ?_)
  intro w3 hw3 _ hb3
  have hw3' : w3.heap[w.heap.size]? = some (.map #[en 1 69 0, en 2 70 1, en 3 71 2] 3) := hw3
  clear hw3
  replace hb3 := hb2.trans (hb3 w.heap.size (Nat.le_refl _))
  have hl := run_look (P := Tryd.prog) (w := w3) 75 w.heap.size _ 3 3 59 Tryd.underlying75 Tryd.underlying3 m hw3' .nilFunc (zeroF w3) _ (find3 m 69 70 71)
  have HB3 := Lib.hid hb3
  clear hb0 hb1 hb2 hb3 hn0 hw1' hw2' hw3' hmm
  by_cases e1 : m = 1
  · rw [if_pos e1] at hl
    simp only [lookRes] at hl
    have hG : gf m = 69 := by unfold gf; rw [if_pos e1]
    have HG := Lib.hid hG
    clear hG
    go_wp2_with (refine look_step rfl 75 (.tmp 7) (.tmp 8) rfl _ _ _ rfl rfl hl ?_)
    go_wp2_with fail
    go_ret
    rw [HG.out]
    exact ⟨rfl, HB3.out⟩
  by_cases e2 : m = 2
  · rw [if_neg e1, if_pos e2] at hl
    simp only [lookRes] at hl
    have hG : gf m = 70 := by unfold gf; rw [if_neg e1, if_pos e2]
    have HG := Lib.hid hG
    clear hG
    go_wp2_with (refine look_step rfl 75 (.tmp 7) (.tmp 8) rfl _ _ _ rfl rfl hl ?_)
    go_wp2_with fail
    go_ret
    rw [HG.out]
    exact ⟨rfl, HB3.out⟩
  by_cases e3 : m = 3
  · rw [if_neg e1, if_neg e2, if_pos e3] at hl
    simp only [lookRes] at hl
    have hG : gf m = 71 := by unfold gf; rw [if_neg e1, if_neg e2, if_pos e3]
    have HG := Lib.hid hG
    clear hG
    go_wp2_with (refine look_step rfl 75 (.tmp 7) (.tmp 8) rfl _ _ _ rfl rfl hl ?_)
    go_wp2_with fail
    go_ret
    rw [HG.out]
    exact ⟨rfl, HB3.out⟩
  · rw [if_neg e1, if_neg e2, if_neg e3] at hl
    simp only [lookRes] at hl
    have hG : gf m = 72 := by unfold gf; rw [if_neg e1, if_neg e2, if_neg e3]
    have HG := Lib.hid hG
    clear hG
    go_wp2_with (refine look_step rfl 75 (.tmp 7) (.tmp 8) rfl _ _ _ rfl rfl hl ?_)
    go_wp2_with fail
    go_ret
    rw [HG.out]
    exact ⟨rfl, HB3.out⟩
set_option maxRecDepth 100000 in
theorem dot1_calls (g g' : Nat) (A A' : Option Addr) (n n' c c' k : Nat) (a b : List Int) (s x y : Int) (w : World) (hg : Box w g (.slice A n c)) (hg' : Box w g' (.slice A' n' c')) (h : wo.IsI w A n c a) (h' : wo.IsI w A' n' c' b)
    (hx : a[k]? = some x) (hy : b[k]? = some y) (h1 : -2000 ≤ x) (h2 : x ≤ 2000) (h3 : -2000 ≤ y) (h4 : y ≤ 2000) (hs : -1099511627776 ≤ s) (hs' : s ≤ 1099511627776) :
    Calls Tryd.prog 62 #[.int .i64 s, .int .i64 k, .pointer (some ⟨g, 0, none⟩), .pointer (some ⟨g', 0, none⟩)] w fun e w' => e = .returned (.int .i64 (s + x * y)) ∧ ∃ q, w' = w.drewN q := by
  have hk : k < n := by
    rcases Nat.lt_or_ge k n with h'' | h''
    · exact h''
    · rw [List.getElem?_eq_none (by have := h.1; omega)] at hx; cases hx
  have hk' : k < n' := by
    rcases Nat.lt_or_ge k n' with h'' | h''
    · exact h''
    · rw [List.getElem?_eq_none (by have := h'.1; omega)] at hy; cases hy
  obtain ⟨b1, o1, x', rfl, hc1, hx', -, -⟩ := isI_at h hk
  obtain ⟨b2, o2, y', rfl, hc2, hy', -, -⟩ := isI_at h' hk'
  rw [hx] at hx'; rw [hy] at hy'
  cases hx'; cases hy'
  have hcb := hg.cell
  have hcb' := hg'.cell
  have hm := h.2.2.1
  have hm' := h'.2.2.1
  have hn := h.2.1
  have hn' := h'.2.1
  obtain ⟨q1, q2⟩ := vq.mul_le1000 h1 h2 h3 h4
  clear h h' hg hg' hx hy
  go_enter Tryd.func62, Tryd.ntmps62
  go_wp2_with fail
  go_quiet (fail)
  go_wp2_with fail
  go_ret
  exact ⟨rfl, _, rfl⟩

theorem isI_get {w : World} {A : Option Addr} {n c k : Nat} {l : List Int} {x : Int} (h : wo.IsI w A n c l) (hx : l[k]? = some x) : k < n ∧ ∃ b o, A = some ⟨b, o, none⟩ ∧ w.cell? ⟨b, o + k, none⟩ = some (.int .i64 x) := by
  have hk : k < n := by
    rcases Nat.lt_or_ge k n with h'' | h''
    · exact h''
    · rw [List.getElem?_eq_none (by have := h.1; omega)] at hx; cases hx
  obtain ⟨b, o, x', hA, hc, hx', -, -⟩ := isI_at h hk
  rw [hx] at hx'; cases hx'
  exact ⟨hk, b, o, hA, hc⟩
theorem gf_cases (m : Int) : gf m = 69 ∨ gf m = 70 ∨ gf m = 71 ∨ gf m = 72 := by
  unfold gf
  repeat' split
  all_goals simp
theorem gf_call (m : Int) : ∀ (args : Array Value) (w' : World), (callFunc (gf m) args).run Tryd.prog w' = .ok (.enter (gf m) args) w' := by
  intro args w'
  unfold gf
  split
  · kernel_rfl
  · split
    · kernel_rfl
    · split <;> kernel_rfl
set_option maxRecDepth 100000 in
set_option maxHeartbeats 2000000 in
theorem key1_calls (m : Int) (g0 g g' : Nat) (A A' : Option Addr) (n n' c c' k : Nat) (a b : List Int) (s x y : Int) (w : World) (hf : Box w g0 (.func (.func (gf m)) #[] #[])) (hg : Box w g (.slice A n c)) (hg' : Box w g' (.slice A' n' c')) (h : wo.IsI w A n c a) (h' : wo.IsI w A' n' c' b)
    (hx : a[k]? = some x) (hy : b[k]? = some y) (h1 : -2000 ≤ x - y) (h2 : x - y ≤ 2000) (hs : 0 ≤ s) (hs' : s ≤ 1099511627776) :
    Calls Tryd.prog 53 #[.int .i64 s, .int .i64 k, .pointer (some ⟨g0, 0, none⟩), .pointer (some ⟨g, 0, none⟩), .pointer (some ⟨g', 0, none⟩)] w fun e w' => e = .returned (.int .i64 (vq.grow m s (x - y))) ∧ ∃ q, w' = w.drewN q := by
  obtain ⟨hk, b1, o1, rfl, hc1⟩ := isI_get h hx
  obtain ⟨hk', b2, o2, rfl, hc2⟩ := isI_get h' hy
  have hcb := hg.cell
  have hcb' := hg'.cell
  have hcf := hf.cell
  have hm := h.2.2.1
  have hm' := h'.2.2.1
  have hn := h.2.1
  have hn' := h'.2.1
  have hG := fun (w' : World) => grow_calls m s (x - y) w' hs hs' h1 h2
  clear h h' hg hg' hx hy hf
  rcases gf_cases m with e | e | e | e
  all_goals
    rw [e] at hcf hG
    have HG := Lib.hid hG
    clear hG e
    go_enter Tryd.func53, Tryd.ntmps53
    go_wp2_with fail
    go_quiet (exact Calls.quiet_of_same (HG.out _))
    go_wp2_with fail
    go_ret
    exact ⟨rfl, _, rfl⟩
set_option maxRecDepth 100000 in
set_option maxHeartbeats 2000000 in
theorem norm1_calls (m : Int) (g0 g : Nat) (A : Option Addr) (n c k : Nat) (a : List Int) (s x : Int) (w : World) (hf : Box w g0 (.func (.func (gf m)) #[] #[])) (hg : Box w g (.slice A n c)) (h : wo.IsI w A n c a)
    (hx : a[k]? = some x) (h1 : -2000 ≤ x) (h2 : x ≤ 2000) (hs : 0 ≤ s) (hs' : s ≤ 1099511627776) :
    Calls Tryd.prog 92 #[.int .i64 s, .int .i64 k, .pointer (some ⟨g0, 0, none⟩), .pointer (some ⟨g, 0, none⟩)] w fun e w' => e = .returned (.int .i64 (vq.grow m s x)) ∧ ∃ q, w' = w.drewN q := by
  obtain ⟨hk, b1, o1, rfl, hc1⟩ := isI_get h hx
  have hcb := hg.cell
  have hcf := hf.cell
  have hm := h.2.2.1
  have hn := h.2.1
  have hG := fun (w' : World) => grow_calls m s x w' hs hs' h1 h2
  clear h hg hx hf
  rcases gf_cases m with e | e | e | e
  all_goals
    rw [e] at hcf hG
    have HG := Lib.hid hG
    clear hG e
    go_enter Tryd.func92, Tryd.ntmps92
    go_wp2_with fail
    go_quiet (exact Calls.quiet_of_same (HG.out _))
    go_wp2_with fail
    go_ret
    exact ⟨rfl, _, rfl⟩
end Go.Proofs.YtjhagfggelhpkaaDoor.vk
/- Dot, Norm, Key. -/
namespace Go.Proofs.YtjhagfggelhpkaaDoor.vk

open Go.ChangeShapes Go.WideShapes Go.ChangeAt Go.RowKit

set_option linter.unusedVariables false
theorem common_same (A A' : Option Addr) (n c c' : Nat) (w : World) (hn : n ≤ 9223372036854775807) :
    Calls Tryd.prog 52 #[.slice A n c, .slice A' n c'] w fun e w' => e = .returned (.int .i64 n) ∧ w' = w := by
  have h := common_calls A A' n n c c' w hn hn
  rw [Nat.min_self] at h
  exact h
theorem Box.drewN {w : World} {g : Nat} {v : Value} (h : Box w g v) (q : Nat) : Box (w.drewN q) g v := h
theorem isI_drewN {w : World} {A : Option Addr} {n c : Nat} {l : List Int} (h : wo.IsI w A n c l) (q : Nat) : wo.IsI (w.drewN q) A n c l := h
theorem drewN_add (w : World) (a b : Nat) : (w.drewN a).drewN b = w.drewN (a + b) := World.drewN_drewN ..
theorem below_drewN {B : Nat} {a w : World} (h : Below B a w) (q : Nat) : Below B a (w.drewN q) := ⟨h.os, h.tape, h.output, h.size, h.block⟩
theorem box2 (w : World) (v1 v2 : Value) (t1 t2 : TypeId) : Box ((w.alloc (.cells #[v1] t1)).alloc (.cells #[v2] t2)) w.heap.size v1 ∧ Box ((w.alloc (.cells #[v1] t1)).alloc (.cells #[v2] t2)) (w.heap.size + 1) v2 ∧ Below w.heap.size w ((w.alloc (.cells #[v1] t1)).alloc (.cells #[v2] t2)) := by
  refine ⟨(Box.new w v1 t1).below (below_new _ _), ?_, Below.andThen (below_new _ _) (below_new _ _)⟩
  have := Box.new (w.alloc (.cells #[v1] t1)) v2 t2
  rw [size_new] at this
  exact this
/-- lists that are not greater than differences -/
def Few (l : List Int) : Prop := ∀ x ∈ l, -2000 ≤ x ∧ x ≤ 2000
theorem few_of {l : List Int} (h : vq.Vec l) : Few l := fun x hx => by have := h.lo x hx; have := h.hi x hx; omega
theorem Few.at {l : List Int} (h : Few l) {k : Nat} {x : Int} (hx : l[k]? = some x) : -2000 ≤ x ∧ x ≤ 2000 := h x (List.mem_of_getElem? hx)
theorem len_of {l : List Int} {k : Nat} (h : k < l.length) : l[k]? = some l[k] := List.getElem?_eq_getElem h
set_option maxRecDepth 100000 in
theorem dot_calls (A A' : Option Addr) (n c c' : Nat) (a b : List Int) (w : World) (h : wo.IsI w A n c a) (h' : wo.IsI w A' n c' b) (ha : Few a) (hb : Few b) (hn : n ≤ 32) :
    Calls Tryd.prog 46 #[.slice A n c, .slice A' n c'] w fun e w' => e = .returned (.int .i64 (vq.dot a b)) ∧ Below w.heap.size w w' := by
  have hl := h.1
  have hl' := h'.1
  obtain ⟨hx1, hx2, hB⟩ := box2 w (.slice A n c) (.slice A' n c') 24 24
  have h1 := isI_below h hB
  have h2 := isI_below h' hB
  have hF := fold_int 62 #[.pointer (some ⟨w.heap.size, 0, none⟩), .pointer (some ⟨w.heap.size + 1, 0, none⟩)] (fun _ _ => by kernel_rfl) n (by omega)
    (fun k v w' => ∃ s q, v = .int .i64 s ∧ s = vq.dotk a b k ∧ -4000000 * (k : Int) ≤ s ∧ s ≤ 4000000 * k ∧ w' = ((w.alloc (.cells #[.slice A n c] 24)).alloc (.cells #[.slice A' n c'] 24)).drewN q)
    ((w.alloc (.cells #[.slice A n c] 24)).alloc (.cells #[.slice A' n c'] 24)) (.int .i64 0)
    (fun k v w' hk ⟨s, q, hv, hs, hlo, hhi, hw⟩ => by
      subst hv hw
      have e1 := len_of (l := a) (k := k) (by omega)
      have e2 := len_of (l := b) (k := k) (by omega)
      have f1 := ha.at e1
      have f2 := hb.at e2
      refine (dot1_calls w.heap.size (w.heap.size + 1) A A' n n c c' k a b s _ _ _ (hx1.drewN q) (hx2.drewN q) (isI_drewN h1 q) (isI_drewN h2 q) e1 e2 f1.1 f1.2 f2.1 f2.2 (by omega) (by omega)).mono ?_
      rintro e w' ⟨rfl, q', rfl⟩
      have hm := vq.mul_le1000 f1.1 f1.2 f2.1 f2.2
      exact ⟨_, rfl, _, q + q', rfl, by have := vq.dotk_snoc e1 e2; omega, by omega, by omega, drewN_add _ _ _⟩)
    ⟨0, 0, rfl, (vq.dotk_zero a b).symm, by omega, by omega, rfl⟩
  have HF := Lib.hid hF
  have HE := Lib.hid (vq.dotk_end (a := a) (b := b) (n := n) (.inl (by omega)))
  have hc1 := hx1.cell
  have hc2 := hx2.cell
  have HB := Lib.hid hB
  have HC := Lib.hid (fun w' => common_same A A' n c c' w' (by omega))
  clear hx1 hx2 h1 h2 h h' hF hB ha hb hl hl'
  go_enter Tryd.func46, Tryd.ntmps46
  go_wp2_with fail
  refine (HC.out _).mono ?_
  rintro e w' ⟨rfl, rfl⟩
  go_wp2_with fail
  refine HF.out.mono ?_
  rintro e w' ⟨v, rfl, s, q, rfl, hs, -, -, rfl⟩
  have HS := Lib.hid hs
  clear hs
  go_wp2_with fail
  go_ret
  exact ⟨by rw [HS.out, HE.out]; rfl, below_drewN HB.out q⟩
theorem norm_take_bound (m : Int) {v : List Int} (h : Few v) (k : Nat) : 0 ≤ vq.norm m (v.take k) ∧ vq.norm m (v.take k) ≤ 4000000 * k := by
  refine ⟨vq.norm_nonneg m _, ?_⟩
  have := vq.norm_bound (m := m) (v := v.take k) fun x hx => h x (List.mem_of_mem_take hx)
  rw [List.length_take] at this
  omega
theorem infoG : (Tryd.prog.info? 59).map (·.size) = some 1 := by kernel_rfl
set_option maxRecDepth 100000 in
theorem norm_calls (m : Int) (A : Option Addr) (n c : Nat) (a : List Int) (w : World) (h0 : -9223372036854775808 ≤ m) (h1 : m ≤ 9223372036854775807) (h : wo.IsI w A n c a) (ha : Few a) (hn : n ≤ 32) :
    Calls Tryd.prog 83 #[.int .i64 m, .slice A n c] w fun e w' => e = .returned (.int .i64 (vq.norm m a)) ∧ Below w.heap.size w w' := by
  have hl := h.1
  have hx := Box.new w (.slice A n c) 24
  have hb := below_new w (.cells #[.slice A n c] 24)
  have hz := size_new w (.cells #[.slice A n c] 24)
  have HG := Lib.hid (growth_calls m (w.alloc (.cells #[.slice A n c] 24)) h0 h1)
  have HI := Lib.hid (isI_below h hb)
  have HX := Lib.hid hx
  have HB := Lib.hid hb
  clear hx hb h
  go_enter Tryd.func83, Tryd.ntmps83
  go_wp2_with fail
  refine HG.out.mono ?_
  rintro e w1 ⟨rfl, hb1⟩
  have HX1 := Lib.hid (HX.out.below hb1)
  have HI1 := Lib.hid (isI_below HI.out hb1)
  have HB1 := Lib.hid (Below.andThen HB.out hb1)
  clear hb1 HX HI HB hz
  have hb2 := below_new w1 (.cells #[.func (.func (gf m)) #[] #[]] 59)
  have HX2 := Lib.hid (HX1.out.below hb2)
  have HF2 := Lib.hid (Box.new w1 (.func (.func (gf m)) #[] #[]) 59)
  have HI2 := Lib.hid (isI_below HI1.out hb2)
  have HB2 := Lib.hid (Below.andThen HB1.out hb2)
  clear hb2
  go_upto_region 2 with (refine wpList_store_oneTo rfl 59 (.tmp 5) (.tmp 7) rfl rfl w1.heap.size (.func (.func (gf m)) #[] #[]) rfl rfl rfl 59 .nilFunc (heap_alloc_new _ _) infoG ?_)
  rw [wk.setRow_alloc]
  generalize w1.alloc (.cells #[.func (.func (gf m)) #[] #[]] 59) = w2 at *
  generalize w1.heap.size = G at *
  have hF := fold_int 92 #[.pointer (some ⟨G, 0, none⟩), .pointer (some ⟨w.heap.size, 0, none⟩)] (fun _ _ => by kernel_rfl) n (by omega)
    (fun k v w' => ∃ q, v = .int .i64 (vq.norm m (a.take k)) ∧ w' = w2.drewN q) w2 (.int .i64 0)
    (fun k v w' hk ⟨q, hv, hw⟩ => by
      subst hv hw
      have e1 := len_of (l := a) (k := k) (by omega)
      have f1 := ha.at e1
      have hbd := norm_take_bound m ha k
      refine (norm1_calls m G w.heap.size A n c k a _ _ _ (HF2.out.drewN q) (HX2.out.drewN q) (isI_drewN HI2.out q) e1 f1.1 f1.2 hbd.1 (by omega)).mono ?_
      rintro e w' ⟨rfl, q', rfl⟩
      exact ⟨_, rfl, q + q', by rw [vq.norm_snoc m e1], drewN_add _ _ _⟩)
    ⟨0, rfl, rfl⟩
  have HF := Lib.hid hF
  have hc1 := HX2.out.cell
  have HE : Hid (a.take n = a) := List.take_of_length_le (by omega)
  clear hF HX1 HI1 HB1 HX2 HF2 HI2 ha hl HG
  go_wp2_with fail
  refine HF.out.mono ?_
  rintro e w' ⟨v, rfl, q, rfl, rfl⟩
  go_wp2_with fail
  go_ret
  exact ⟨by rw [HE.out]; rfl, below_drewN HB2.out q⟩
theorem subk_take (a b : List Int) (k : Nat) : vq.subk a b k = (vq.sub a b).take k := rfl
set_option maxRecDepth 100000 in
theorem key_calls (m : Int) (A A' : Option Addr) (n c c' : Nat) (a b : List Int) (w : World) (h0 : -9223372036854775808 ≤ m) (h1 : m ≤ 9223372036854775807) (h : wo.IsI w A n c a) (h' : wo.IsI w A' n c' b) (ha : Few (vq.sub a b)) (hn : n ≤ 32) :
    Calls Tryd.prog 35 #[.int .i64 m, .slice A n c, .slice A' n c'] w fun e w' => e = .returned (.int .i64 (vq.key m a b)) ∧ Below w.heap.size w w' := by
  have hl := h.1
  have hl' := h'.1
  have hls := vq.sub_length (a := a) (b := b) (by omega)
  obtain ⟨hx1, hx2, hb⟩ := box2 w (.slice A n c) (.slice A' n c') 24 24
  have HG := Lib.hid (growth_calls m ((w.alloc (.cells #[.slice A n c] 24)).alloc (.cells #[.slice A' n c'] 24)) h0 h1)
  have HI := Lib.hid (isI_below h hb)
  have HI' := Lib.hid (isI_below h' hb)
  have HX := Lib.hid hx1
  have HX' := Lib.hid hx2
  have HB := Lib.hid hb
  have HC := Lib.hid (fun w' => common_same A A' n c c' w' (by omega))
  clear hx1 hx2 hb h h'
  go_enter Tryd.func35, Tryd.ntmps35
  go_wp2_with fail
  refine HG.out.mono ?_
  rintro e w1 ⟨rfl, hb1⟩
  have hX1 := HX.out.below hb1
  have hX1' := HX'.out.below hb1
  have hI1 := isI_below HI.out hb1
  have hI1' := isI_below HI'.out hb1
  have hB1 := Below.andThen HB.out hb1
  clear hb1 HX HX' HI HI' HB HG
  have hb2 := below_new w1 (.cells #[.func (.func (gf m)) #[] #[]] 59)
  have HX2 := Lib.hid (hX1.below hb2)
  have HX2' := Lib.hid (hX1'.below hb2)
  have HF2 := Lib.hid (Box.new w1 (.func (.func (gf m)) #[] #[]) 59)
  have HI2 := Lib.hid (isI_below hI1 hb2)
  have HI2' := Lib.hid (isI_below hI1' hb2)
  have HB2 := Lib.hid (Below.andThen hB1 hb2)
  clear hb2 hX1 hX1' hI1 hI1' hB1
  go_upto_region 2 with (refine wpList_store_oneTo rfl 59 (.tmp 7) (.tmp 9) rfl rfl w1.heap.size (.func (.func (gf m)) #[] #[]) rfl rfl rfl 59 .nilFunc (heap_alloc_new _ _) infoG ?_)
  rw [wk.setRow_alloc]
  generalize w1.alloc (.cells #[.func (.func (gf m)) #[] #[]] 59) = w2 at *
  generalize w1.heap.size = G at *
  have hF := fold_int 53 #[.pointer (some ⟨G, 0, none⟩), .pointer (some ⟨w.heap.size, 0, none⟩), .pointer (some ⟨w.heap.size + 1, 0, none⟩)] (fun _ _ => by kernel_rfl) n (by omega)
    (fun k v w' => ∃ q, v = .int .i64 (vq.norm m ((vq.sub a b).take k)) ∧ w' = w2.drewN q) w2 (.int .i64 0)
    (fun k v w' hk ⟨q, hv, hw⟩ => by
      subst hv hw
      have e1 := len_of (l := a) (k := k) (by omega)
      have e2 := len_of (l := b) (k := k) (by omega)
      have e3 := vq.sub_at e1 e2
      have f1 := ha.at e3
      have hbd := norm_take_bound m ha k
      refine (key1_calls m G w.heap.size (w.heap.size + 1) A A' n n c c' k a b _ _ _ _ (HF2.out.drewN q) (HX2.out.drewN q) (HX2'.out.drewN q) (isI_drewN HI2.out q) (isI_drewN HI2'.out q) e1 e2 f1.1 f1.2 hbd.1 (by omega)).mono ?_
      rintro e w' ⟨rfl, q', rfl⟩
      exact ⟨_, rfl, q + q', by rw [vq.norm_snoc m e3], drewN_add _ _ _⟩)
    ⟨0, rfl, rfl⟩
  have HF := Lib.hid hF
  have hc1 := HX2.out.cell
  have hc2 := HX2'.out.cell
  have HE : Hid (vq.norm m ((vq.sub a b).take n) = vq.key m a b) := by show _ = _; rw [List.take_of_length_le (by omega)]; rfl
  clear hF HX2 HX2' HF2 HI2 HI2' ha hl hl' hls
  go_wp2_with fail
  refine (HC.out _).mono ?_
  rintro e w' ⟨rfl, rfl⟩
  go_wp2_with fail
  refine HF.out.mono ?_
  rintro e w' ⟨v, rfl, q, rfl, rfl⟩
  go_wp2_with fail
  go_ret
  exact ⟨by rw [← HE.out]; rfl, below_drewN HB2.out q⟩
end Go.Proofs.YtjhagfggelhpkaaDoor.vk
/- Sub. -/
namespace Go.Proofs.YtjhagfggelhpkaaDoor.vk

open Go.ChangeShapes Go.WideShapes Go.ChangeAt Go.RowKit

set_option linter.unusedVariables false
abbrev iv (l : List Int) : List Value := l.map (Value.int .i64)
theorem isI_of_own {w : World} {B n : Nat} {v : Value} {l : List Int} (h : w.ownsRow B 3 1 v n (iv l)) (hb : ∀ x ∈ l, -9223372036854775808 ≤ x ∧ x ≤ 9223372036854775807) : ∃ A c, v = .slice A n c ∧ wo.IsI w A n c l := by
  have hl : l.length = n := by have := h.1; simpa [iv] using this
  obtain ⟨A, c, rfl, h1, h2, hR⟩ := wp.RC.of_own h
  exact ⟨A, c, rfl, hl, h1, by unfold maxLen at h2; omega, hR, hb⟩
end Go.Proofs.YtjhagfggelhpkaaDoor.vk

namespace Go.Proofs.YtjhagfggelhpkaaDoor.wi

open Go.ChangeShapes Go.WideShapes Go.ChangeAt Go.RowKit

theorem RB_new {w : World} {g : Nat} (hg : w.heap.size = g) (l : List UInt8) {cs : Array Value} (t : TypeId) (hcs : cs = (wp.bc l).toArray) : wp.RB (w.alloc (.cells cs t)) (some ⟨g, 0, none⟩) l := fun hl => by
  subst hg hcs
  exact ⟨w.heap.size, 0, rfl, by simp, fun j u hu => by
    have := wk.cells_new w (wp.bc l) t j (.int .u8 (u.toNat : Int)) (by simp [wp.bc, hu])
    rw [wk.add_at] at this
    exact this⟩
theorem RC_new {w : World} {g : Nat} (hg : w.heap.size = g) (xs : List Value) {cs : Array Value} (t : TypeId) (hcs : cs = xs.toArray) : wp.RC (w.alloc (.cells cs t)) (some ⟨g, 0, none⟩) xs := fun hl => by
  subst hg hcs
  exact ⟨w.heap.size, 0, rfl, by simp, fun j u hu => by
    have := wk.cells_new w xs t j u hu
    rw [wk.add_at] at this
    exact this⟩

end Go.Proofs.YtjhagfggelhpkaaDoor.wi
/- Compare, Alike. -/
namespace Go.Proofs.YtjhagfggelhpkaaDoor.vk

open Go.ChangeShapes Go.WideShapes Go.ChangeAt Go.RowKit

set_option linter.unusedVariables false
def orI : List Int → Int
  | [] => 0
  | x :: l => if x = 0 then orI l else x
theorem drop_at {l : List Int} {k : Nat} {x : Int} (h : l[k]? = some x) : l.drop k = x :: l.drop (k + 1) := by
  obtain ⟨hk, rfl⟩ := List.getElem?_eq_some_iff.1 h
  exact List.drop_eq_getElem_cons hk
theorem isI_new {w : World} {g : Nat} (hg : w.heap.size = g) (l : List Int) {cs : Array Value} (hcs : cs = (iv l).toArray) (n : Nat) (hn : l.length = n) (h40 : n ≤ 1099511627776) (hb : ∀ x ∈ l, -9223372036854775808 ≤ x ∧ x ≤ 9223372036854775807) (t : TypeId) : wo.IsI (w.alloc (.cells cs t)) (some ⟨g, 0, none⟩) n n l :=
  ⟨hn, Nat.le_refl _, by omega, wi.RC_new hg _ _ hcs, hb⟩
theorem cmpI_bd (x y : Int) : -1 ≤ vq.cmpI x y ∧ vq.cmpI x y ≤ 1 := by
  unfold vq.cmpI
  split
  · omega
  · split <;> omega
theorem lex_bd (a b : List Int) : -1 ≤ vq.lex a b ∧ vq.lex a b ≤ 1 := by have := vq.lex_range a b; omega
theorem or_cmp (a b : List Int) : orI [vq.cmpI a.length b.length, vq.lex a b] = vq.cmp a b := by
  have := vq.lex_range a b
  unfold orI orI orI vq.cmpI vq.cmp
  repeat' split
  all_goals omega
end Go.Proofs.YtjhagfggelhpkaaDoor.vk
/- Alike, Encode, Decode: the program's. -/
namespace Go.Proofs.YtjhagfggelhpkaaDoor.vq

open Go.Proofs.YtjhagfggelhpkaaDoor
theorem getN_bd (l : List UInt8) : ∀ (g : Nat) (acc : List Int) (u : Int), (∀ x ∈ acc, -9223372036854775808 ≤ x ∧ x ≤ 9223372036854775807) → ∀ x ∈ (wp.getN wp.getI l g acc u).1, -9223372036854775808 ≤ x ∧ x ≤ 9223372036854775807
  | 0, acc, u, h => by rw [wp.getN]; exact h
  | g + 1, acc, u, h => by
    rw [wp.getN]
    split
    · intro x hx; cases hx
    · refine getN_bd l g _ _ fun x hx => ?_
      rw [List.mem_append, List.mem_singleton] at hx
      rcases hx with hx | rfl
      · exact h x hx
      · have := wp.getI_facts (l.drop u.toNat)
        exact ⟨this.1, this.2.1⟩
theorem getL_bd (l : List UInt8) : ∀ x ∈ (wp.getL wp.getI 1 l).1, -9223372036854775808 ≤ x ∧ x ≤ 9223372036854775807 := by
  unfold wp.getL
  split
  · intro x hx; cases hx
  · exact getN_bd l _ _ _ (by intro x hx; cases hx)
theorem encIs_length (l : List Int) (h : ∀ x ∈ l, -9223372036854775808 ≤ x ∧ x ≤ 9223372036854775807) (hl : l.length ≤ 1099511627776) : (wp.encIs l).length ≤ 10 + 10 * l.length := by
  have h1 : ∀ l : List Int, (∀ x ∈ l, -9223372036854775808 ≤ x ∧ x ≤ 9223372036854775807) → (l.flatMap wp.encI).length ≤ 10 * l.length := by
    intro l
    induction l with
    | nil => simp
    | cons x l ih =>
      intro h
      have := wp.encI_length (h x (by simp)).1 (h x (by simp)).2
      have := ih fun y hy => h y (by simp [hy])
      simp only [List.flatMap_cons, List.length_append, List.length_cons]
      omega
  have := h1 l h
  have := wp.encI_length (n := (l.length : Int)) (by omega) (by omega)
  unfold wp.encIs
  rw [List.length_append]
  omega
/-- Decode -/
def dec (l : List UInt8) : List Int × Int :=
  if (wp.getL wp.getI 1 l).2.2 ≠ 0 then ([], (wp.getL wp.getI 1 l).2.2) else if (wp.getL wp.getI 1 l).2.1 < (l.length : Int) then ([], 11) else if valid (wp.getL wp.getI 1 l).1 then ((wp.getL wp.getI 1 l).1, 0) else ([], 40)
theorem dec_eq (l : List UInt8) : dec l =
  if (wp.getL wp.getI 1 l).2.2 ≠ 0 then ([], (wp.getL wp.getI 1 l).2.2) else if (wp.getL wp.getI 1 l).2.1 < (l.length : Int) then ([], 11) else if valid (wp.getL wp.getI 1 l).1 then ((wp.getL wp.getI 1 l).1, 0) else ([], 40) := rfl
end Go.Proofs.YtjhagfggelhpkaaDoor.vq

namespace Go.Proofs.YtjhagfggelhpkaaDoor.vk

open Go.ChangeShapes Go.WideShapes Go.ChangeAt Go.RowKit

set_option linter.unusedVariables false
theorem isB_of_out {l : List UInt8} {w w' : World} {e : Ending} (h : wi.OutB l w e w') : ∃ A c, e = .returned (.slice A l.length c) ∧ wo.IsB w' A l.length c l ∧ Below w.heap.size w w' := by
  obtain ⟨v, rfl, hown, hb⟩ := h
  obtain ⟨A, c, rfl, h1, h2, hR⟩ := wp.RC.of_own hown
  exact ⟨A, c, rfl, ⟨rfl, h1, by unfold maxLen at h2; omega, hR.rb⟩, hb⟩
theorem isI_nil (w : World) : wo.IsI w none 0 0 [] := ⟨rfl, Nat.le_refl _, by omega, fun h => absurd h (by simp), fun x hx => by cases hx⟩
end Go.Proofs.YtjhagfggelhpkaaDoor.vk
/- The reference's: Valid, Alike, Compare, Same, Metric. -/
namespace Go.Proofs.YtjhagfggelhpkaaDoor.vk

open Go.ChangeShapes Go.WideShapes Go.ChangeAt Go.RowKit

set_option linter.unusedVariables false
theorem all_drop {l : List Int} {k : Nat} {x : Int} {p : Int → Bool} (h : l[k]? = some x) : (l.drop k).all p = (p x && (l.drop (k + 1)).all p) := by
  rw [drop_at h]; rfl
set_option maxRecDepth 100000 in
theorem rvalid_calls (A : Option Addr) (n c : Nat) (l : List Int) (w : World) (h : wo.IsI w A n c l) :
    Calls Tryd.prog 29 #[.slice A n c] w fun e w' => e = .returned (.bool (vq.valid l)) ∧ w' = w := by
  have hl := h.1
  have hE : vq.valid l = (decide (1 ≤ n) && decide (n ≤ 32) && l.all vq.okc) := by simp only [vq.valid, hl]
  rw [hE]
  have H := Lib.hid h
  have hm := h.2.2.1
  have hnc := h.2.1
  clear h hE hl
  go_enter Tryd.func29, Tryd.ntmps29
  go_wp2_with fail
  go_loopg [3] n (fun g x wr => ∃ k : Nat, k + g = n ∧ x = .int .i64 (k : Int) ∧ wr = w ∧ (l.drop k).all vq.okc = l.all vq.okc)
  case atStart => exact ⟨0, by omega, rfl, rfl, rfl⟩
  case round =>
    obtain ⟨k, hk, rfl, rfl, hr⟩ := hrel
    have HK := Lib.hid hk
    have HR := Lib.hid hr
    have hkn : k ≤ n := by omega
    clear hk hr
    by_cases hlt : k < n
    · obtain ⟨b, o, x, rfl, hc, hx, -, -⟩ := isI_at H.out hlt
      have hr := HR.out
      rw [all_drop hx] at hr
      have HR2 := Lib.hid hr
      clear hr hx
      by_cases h3 : x < -1000
      · go_wp2_with fail
        go_ret
        have := HR2.out
        have hx : vq.okc x = false := by simp [vq.okc]; omega
        rw [hx, Bool.false_and] at this
        refine ⟨?_, rfl⟩
        rw [← this]
        simp
      · by_cases h4 : 1000 < x
        · go_wp2_with fail
          go_ret
          have := HR2.out
          have hx : vq.okc x = false := by simp [vq.okc]; omega
          rw [hx, Bool.false_and] at this
          refine ⟨?_, rfl⟩
          rw [← this]
          simp
        · go_wp2_with fail
          go_roundg (gk - 1)
          case measure => have := HK.out; omega
          case rel =>
            refine ⟨k + 1, by have := HK.out; omega, by go_num, rfl, ?_⟩
            have := HR2.out
            have hx : vq.okc x = true := by simp [vq.okc]; omega
            rw [hx, Bool.true_and] at this
            exact this
    · have hall : l.all vq.okc = true := by
        have := HR.out
        rw [List.drop_of_length_le (by have := H.out.1; omega)] at this
        exact this.symm
      have HALL := Lib.hid hall
      clear hall
      by_cases h1 : 1 ≤ n
      · go_wp2_with fail
        go_ret
        exact ⟨by rw [HALL.out]; simp [h1]; omega, rfl⟩
      · go_wp2_with fail
        go_ret
        exact ⟨by first | rfl | simp [h1], rfl⟩
theorem decide_cast (a b : Nat) : decide ((a : Int) ≤ (b : Int)) = decide (a ≤ b) := by simp
set_option maxRecDepth 100000 in
theorem ralike_calls (A A' : Option Addr) (n n' c c' : Nat) (a b : List Int) (w : World) (h : wo.IsI w A n c a) (h' : wo.IsI w A' n' c' b) :
    Calls Tryd.prog 34 #[.slice A n c, .slice A' n' c'] w fun e w' => e = .returned (.bool (vq.alike a b)) ∧ w' = w := by
  have hl := h.1
  have hl' := h'.1
  have HA := Lib.hid (rvalid_calls A n c a w h)
  have HB := Lib.hid (rvalid_calls A' n' c' b w h')
  have hE : vq.alike a b = (decide (n = n') && vq.valid a && vq.valid b) := by simp only [vq.alike, hl, hl']
  rw [hE]
  clear h h' hl hl' hE
  cases hva : vq.valid a
  · rw [hva] at HA
    go_enter Tryd.func34, Tryd.ntmps34
    go_wp2_with fail
    refine HA.out.mono ?_
    rintro e w' ⟨rfl, rfl⟩
    go_wp2_with fail
    go_ret
    exact ⟨by simp, rfl⟩
  · cases hvb : vq.valid b
    · rw [hva] at HA
      rw [hvb] at HB
      go_enter Tryd.func34, Tryd.ntmps34
      go_wp2_with fail
      refine HA.out.mono ?_
      rintro e w' ⟨rfl, rfl⟩
      go_wp2_with fail
      refine HB.out.mono ?_
      rintro e w' ⟨rfl, rfl⟩
      go_wp2_with fail
      go_ret
      exact ⟨by simp, rfl⟩
    · rw [hva] at HA
      rw [hvb] at HB
      go_enter Tryd.func34, Tryd.ntmps34
      go_wp2_with fail
      refine HA.out.mono ?_
      rintro e w' ⟨rfl, rfl⟩
      go_wp2_with fail
      refine HB.out.mono ?_
      rintro e w' ⟨rfl, rfl⟩
      go_wp2_with fail
      go_ret
      refine ⟨?_, rfl⟩
      simp
      rw [Bool.eq_iff_iff]
      simp <;> omega
set_option maxRecDepth 100000 in
theorem metric_calls (m : Int) (w : World) : Calls Tryd.prog 31 #[.int .i64 m] w fun e w' => e = .returned (.bool (decide (1 ≤ m ∧ m ≤ 3))) ∧ w' = w := by
  by_cases h1 : 1 ≤ m
  · go_enter Tryd.func31, Tryd.ntmps31
    go_wp2_with fail
    go_ret
    exact ⟨by simp [h1], rfl⟩
  · go_enter Tryd.func31, Tryd.ntmps31
    go_wp2_with fail
    go_ret
    exact ⟨by first | rfl | (simp; omega), rfl⟩
set_option maxRecDepth 100000 in
set_option maxHeartbeats 1000000 in
theorem rcompare_calls (A A' : Option Addr) (n n' c c' : Nat) (a b : List Int) (w : World) (h : wo.IsI w A n c a) (h' : wo.IsI w A' n' c' b) :
    Calls Tryd.prog 45 #[.slice A n c, .slice A' n' c'] w fun e w' => e = .returned (.int .i64 (vq.cmp a b)) ∧ ∃ q, w' = w.drewN q := by
  have hl := h.1
  have hl' := h'.1
  have hE : vq.cmp a b = if n < n' then -1 else if n' < n then 1 else vq.lex a b := by simp only [vq.cmp, hl, hl']
  have HE := Lib.hid hE
  have H := Lib.hid h
  have H' := Lib.hid h'
  have hm := h.2.2.1
  have hnc := h.2.1
  have hm' := h'.2.2.1
  have hnc' := h'.2.1
  clear h h' hl hl' hE
  by_cases h1 : n < n'
  · go_enter Tryd.func45, Tryd.ntmps45
    go_wp2_with fail
    go_ret
    exact ⟨by rw [HE.out, if_pos h1]; rfl, 0, rfl⟩
  by_cases h2 : n' < n
  · go_enter Tryd.func45, Tryd.ntmps45
    go_wp2_with fail
    go_ret
    exact ⟨by rw [HE.out, if_neg (by omega), if_pos h2]; rfl, 0, rfl⟩
  have hnn : n = n' := by omega
  subst hnn
  have HE2 : Hid (vq.cmp a b = vq.lex a b) := by show _ = _; rw [HE.out, if_neg h1, if_neg h1]
  clear HE h1 h2
  go_enter Tryd.func45, Tryd.ntmps45
  go_wp2_with fail
  go_loopg [5] n (fun g x wr => ∃ (k q : Nat), k + g = n ∧ x = .int .i64 (k : Int) ∧ wr = w.drewN q ∧ vq.lex (a.drop k) (b.drop k) = vq.lex a b)
  case atStart => exact ⟨0, 0, by omega, rfl, rfl, rfl⟩
  case round =>
    obtain ⟨k, q, hk, rfl, rfl, hr⟩ := hrel
    have HK := Lib.hid hk
    have HR := Lib.hid hr
    have hkn : k ≤ n := by omega
    clear hk hr
    by_cases hlt : k < n
    · obtain ⟨b1, o1, x, rfl, hc, hx, -, -⟩ := isI_at H.out hlt
      obtain ⟨b2, o2, y, rfl, hc', hy, -, -⟩ := isI_at H'.out hlt
      have hr := HR.out
      rw [drop_at hx, drop_at hy, vq.lex] at hr
      have HR2 := Lib.hid hr
      clear hr hx hy
      by_cases h3 : x < y
      · go_wp2_with fail
        go_quiet (fail)
        go_wp2_with fail
        go_ret
        have := HR2.out
        rw [if_pos h3] at this
        exact ⟨by rw [HE2.out, ← this]; rfl, _, by simp only [drewN_add]; rfl⟩
      · by_cases h4 : y < x
        · go_wp2_with fail
          go_quiet (fail)
          go_wp2_with fail
          go_quiet (fail)
          go_wp2_with fail
          go_ret
          have := HR2.out
          rw [if_neg (by omega), if_pos h4] at this
          exact ⟨by rw [HE2.out, ← this]; rfl, _, by simp only [drewN_add]; rfl⟩
        · go_wp2_with fail
          go_quiet (fail)
          go_wp2_with fail
          go_quiet (fail)
          go_wp2_with fail
          go_roundg (gk - 1)
          case measure => have := HK.out; omega
          case rel =>
            refine ⟨k + 1, _, by have := HK.out; omega, by go_num, rfl, ?_⟩
            have := HR2.out
            rw [if_neg (by omega), if_neg (by omega)] at this
            exact this
    · go_wp2_with fail
      go_ret
      have := HR.out
      rw [List.drop_of_length_le (l := a) (by have := H.out.1; omega), List.drop_of_length_le (l := b) (by have := H'.out.1; omega), vq.lex] at this
      exact ⟨by rw [HE2.out, ← this]; rfl, q, rfl⟩
set_option maxRecDepth 100000 in
theorem same_calls (A A' : Option Addr) (n n' c c' : Nat) (a b : List Int) (w : World) (h : wo.IsI w A n c a) (h' : wo.IsI w A' n' c' b) :
    Calls Tryd.prog 23 #[.slice A n c, .slice A' n' c'] w fun e w' => e = .returned (.bool (a == b)) ∧ ∃ q, w' = w.drewN q := by
  have HC := Lib.hid (rcompare_calls A A' n n' c c' a b w h h')
  clear h h'
  have hz := vq.cmp_zero a b
  go_enter Tryd.func23, Tryd.ntmps23
  go_wp2_with fail
  refine HC.out.mono ?_
  rintro e w' ⟨rfl, q, rfl⟩
  go_wp2_with fail
  have e : (vq.cmp a b == 0) = (a == b) := by rw [Bool.eq_iff_iff]; simp [hz]
  go_ret
  exact ⟨by rw [← e]; rfl, q, rfl⟩
end Go.Proofs.YtjhagfggelhpkaaDoor.vk
/- The reference's: Difference, Dot, Sub, Norm, Key. -/
namespace Go.Proofs.YtjhagfggelhpkaaDoor.vq
def okd (x : Int) : Bool := decide (-2000 ≤ x) && decide (x ≤ 2000)
def diff (v : List Int) : Bool := decide (1 ≤ v.length) && decide (v.length ≤ 32) && v.all okd
theorem diff_iff {v : List Int} : diff v = true ↔ 1 ≤ v.length ∧ v.length ≤ 32 ∧ ∀ x ∈ v, -2000 ≤ x ∧ x ≤ 2000 := by
  simp [diff, okd, List.all_eq_true, and_assoc]
def growR (m n x : Int) : Int := if m = 1 then n + ab x else if m = 2 then n + x * x else max n (ab x)
theorem growR_eq {m n x : Int} (h1 : 1 ≤ m) (h2 : m ≤ 3) : growR m n x = grow m n x := by
  unfold growR grow ab
  split
  · rfl
  · split
    · rfl
    · rw [if_pos (by omega)]; omega
end Go.Proofs.YtjhagfggelhpkaaDoor.vq

namespace Go.Proofs.YtjhagfggelhpkaaDoor.vk

open Go.ChangeShapes Go.WideShapes Go.ChangeAt Go.RowKit

set_option linter.unusedVariables false
theorem few_diff {l : List Int} (h : vq.diff l = true) : Few l := (vq.diff_iff.1 h).2.2
set_option maxRecDepth 100000 in
theorem size_calls (x : Int) (w : World) (h1 : -2000 ≤ x) (h2 : x ≤ 2000) : Calls Tryd.prog 84 #[.int .i64 x] w fun e w' => e = .returned (.int .i64 (vq.ab x)) ∧ w' = w := by
  by_cases h : x < 0
  all_goals
    go_enter Tryd.func84, Tryd.ntmps84
    go_wp2_with fail
    go_ret
    exact ⟨wp.ret_i64 (by unfold vq.ab; omega), rfl⟩
set_option maxRecDepth 100000 in
set_option maxHeartbeats 1000000 in
theorem rdot_calls (A A' : Option Addr) (n c c' : Nat) (a b : List Int) (w : World) (h : wo.IsI w A n c a) (h' : wo.IsI w A' n c' b) (ha : Few a) (hb : Few b) (hn : n ≤ 32) :
    Calls Tryd.prog 44 #[.slice A n c, .slice A' n c'] w fun e w' => e = .returned (.int .i64 (vq.dot a b)) ∧ ∃ q, w' = w.drewN q := by
  have H := Lib.hid h
  have H' := Lib.hid h'
  have hm := h.2.2.1
  have hnc := h.2.1
  have hm' := h'.2.2.1
  have hnc' := h'.2.1
  have HA := Lib.hid ha
  have HB := Lib.hid hb
  have HE := Lib.hid (vq.dotk_end (a := a) (b := b) (n := n) (.inl (by have := h.1; omega)))
  clear h h' ha hb
  go_enter Tryd.func44, Tryd.ntmps44
  go_wp2_with fail
  go_loopg [5, 6] n (fun g s x wr => ∃ (k q : Nat) (z : Int), k + g = n ∧ x = .int .i64 (k : Int) ∧ s = .int .i64 z ∧ z = vq.dotk a b k ∧ -4000000 * (k : Int) ≤ z ∧ z ≤ 4000000 * k ∧ wr = w.drewN q)
  case atStart => exact ⟨0, 0, 0, by omega, rfl, rfl, (vq.dotk_zero a b).symm, by omega, by omega, rfl⟩
  case round =>
    obtain ⟨k, q, z, hk, rfl, rfl, hz, hlo, hhi, rfl⟩ := hrel
    have HK := Lib.hid hk
    have HZ := Lib.hid hz
    have hkn : k ≤ n := by omega
    clear hk hz
    by_cases hlt : k < n
    · obtain ⟨b1, o1, x, rfl, hc, hx, -, -⟩ := isI_at H.out hlt
      obtain ⟨b2, o2, y, rfl, hc', hy, -, -⟩ := isI_at H'.out hlt
      have f1 := HA.out.at hx
      have f2 := HB.out.at hy
      have hm := vq.mul_le1000 f1.1 f1.2 f2.1 f2.2
      have HS := Lib.hid (vq.dotk_snoc hx hy)
      clear hx hy
      go_wp2_with fail
      go_quiet (fail)
      go_wp2_with fail
      go_roundg (gk - 1)
      case measure => have := HK.out; omega
      case rel => exact ⟨k + 1, _, _, by have := HK.out; omega, by go_num, rfl, by have := HS.out; have := HZ.out; omega, by omega, by omega, rfl⟩
    · go_wp2_with fail
      go_ret
      have hkn2 : k = n := by omega
      subst hkn2
      exact ⟨by rw [← HE.out, ← HZ.out]; rfl, q, rfl⟩
set_option maxRecDepth 100000 in
set_option maxHeartbeats 1000000 in
theorem rnorm1_calls (A : Option Addr) (n c : Nat) (a : List Int) (w : World) (h : wo.IsI w A n c a) (ha : Few a) (hn : n ≤ 32) :
    Calls Tryd.prog 68 #[.int .i64 1, .slice A n c] w fun e w' => e = .returned (.int .i64 (vq.norm 1 a)) ∧ ∃ q, w' = w.drewN q := by
  have H := Lib.hid h
  have hm := h.2.2.1
  have hnc := h.2.1
  have HA := Lib.hid ha
  have HE : Hid (a.take n = a) := List.take_of_length_le (by have := h.1; omega)
  clear h ha
  go_enter Tryd.func68, Tryd.ntmps68
  go_wp2_with fail
  go_loopg [5, 6] n (fun g s x wr => ∃ (k q : Nat) (z : Int), k + g = n ∧ x = .int .i64 (k : Int) ∧ s = .int .i64 z ∧ z = vq.norm 1 (a.take k) ∧ 0 ≤ z ∧ z ≤ 4000000 * k ∧ wr = w.drewN q)
  case atStart => exact ⟨0, 0, 0, by omega, rfl, rfl, rfl, by omega, by omega, rfl⟩
  case round =>
    obtain ⟨k, q, z, hk, rfl, rfl, hz, hlo, hhi, rfl⟩ := hrel
    have HK := Lib.hid hk
    have HZ := Lib.hid hz
    have hkn : k ≤ n := by omega
    clear hk hz
    by_cases hlt : k < n
    · obtain ⟨b1, o1, x, rfl, hc, hx, -, -⟩ := isI_at H.out hlt
      have f1 := HA.out.at hx
      have hm := vq.sq_le2000 f1.1 f1.2
      have hm2 := vq.sq_nonneg x
      have hab : 0 ≤ vq.ab x ∧ vq.ab x ≤ 2000 := by unfold vq.ab; omega
      have HS := Lib.hid (vq.norm_snoc 1 hx)
      have HC := Lib.hid (fun w' => size_calls x w' f1.1 f1.2)
      clear hx
      go_wp2_with fail
      refine (HC.out _).mono ?_
      rintro e w' ⟨rfl, rfl⟩
      go_wp2_with fail
      all_goals
        go_roundg (gk - 1)
        case measure => have := HK.out; omega
        case rel => exact ⟨k + 1, _, _, by have := HK.out; omega, by go_num, rfl, by rw [HS.out, ← HZ.out]; unfold vq.grow; first | rfl | (unfold vq.ab at *; simp; omega) | (unfold vq.ab; simp), by omega, by omega, rfl⟩
    · go_wp2_with fail
      go_ret
      have hkn2 : k = n := by omega
      subst hkn2
      have := HZ.out
      rw [HE.out] at this
      exact ⟨by rw [← this]; rfl, q, rfl⟩
set_option maxRecDepth 100000 in
set_option maxHeartbeats 1000000 in
theorem rnorm2_calls (A : Option Addr) (n c : Nat) (a : List Int) (w : World) (h : wo.IsI w A n c a) (ha : Few a) (hn : n ≤ 32) :
    Calls Tryd.prog 68 #[.int .i64 2, .slice A n c] w fun e w' => e = .returned (.int .i64 (vq.norm 2 a)) ∧ ∃ q, w' = w.drewN q := by
  have H := Lib.hid h
  have hm := h.2.2.1
  have hnc := h.2.1
  have HA := Lib.hid ha
  have HE : Hid (a.take n = a) := List.take_of_length_le (by have := h.1; omega)
  clear h ha
  go_enter Tryd.func68, Tryd.ntmps68
  go_wp2_with fail
  go_loopg [5, 6] n (fun g s x wr => ∃ (k q : Nat) (z : Int), k + g = n ∧ x = .int .i64 (k : Int) ∧ s = .int .i64 z ∧ z = vq.norm 2 (a.take k) ∧ 0 ≤ z ∧ z ≤ 4000000 * k ∧ wr = w.drewN q)
  case atStart => exact ⟨0, 0, 0, by omega, rfl, rfl, rfl, by omega, by omega, rfl⟩
  case round =>
    obtain ⟨k, q, z, hk, rfl, rfl, hz, hlo, hhi, rfl⟩ := hrel
    have HK := Lib.hid hk
    have HZ := Lib.hid hz
    have hkn : k ≤ n := by omega
    clear hk hz
    by_cases hlt : k < n
    · obtain ⟨b1, o1, x, rfl, hc, hx, -, -⟩ := isI_at H.out hlt
      have f1 := HA.out.at hx
      have hm := vq.sq_le2000 f1.1 f1.2
      have hm2 := vq.sq_nonneg x
      have hab : 0 ≤ vq.ab x ∧ vq.ab x ≤ 2000 := by unfold vq.ab; omega
      have HS := Lib.hid (vq.norm_snoc 2 hx)
      have HC := Lib.hid (fun w' => size_calls x w' f1.1 f1.2)
      clear hx
      go_wp2_with fail
      go_quiet (fail)
      go_wp2_with fail
      all_goals
        go_roundg (gk - 1)
        case measure => have := HK.out; omega
        case rel => exact ⟨k + 1, _, _, by have := HK.out; omega, by go_num, rfl, by rw [HS.out, ← HZ.out]; unfold vq.grow; first | rfl | (unfold vq.ab at *; simp; omega) | (unfold vq.ab; simp), by omega, by omega, rfl⟩
    · go_wp2_with fail
      go_ret
      have hkn2 : k = n := by omega
      subst hkn2
      have := HZ.out
      rw [HE.out] at this
      exact ⟨by rw [← this]; rfl, q, rfl⟩
set_option maxRecDepth 100000 in
set_option maxHeartbeats 1000000 in
theorem rnorm3_calls (A : Option Addr) (n c : Nat) (a : List Int) (w : World) (h : wo.IsI w A n c a) (ha : Few a) (hn : n ≤ 32) :
    Calls Tryd.prog 68 #[.int .i64 3, .slice A n c] w fun e w' => e = .returned (.int .i64 (vq.norm 3 a)) ∧ ∃ q, w' = w.drewN q := by
  have H := Lib.hid h
  have hm := h.2.2.1
  have hnc := h.2.1
  have HA := Lib.hid ha
  have HE : Hid (a.take n = a) := List.take_of_length_le (by have := h.1; omega)
  clear h ha
  go_enter Tryd.func68, Tryd.ntmps68
  go_wp2_with fail
  go_loopg [5, 6] n (fun g s x wr => ∃ (k q : Nat) (z : Int), k + g = n ∧ x = .int .i64 (k : Int) ∧ s = .int .i64 z ∧ z = vq.norm 3 (a.take k) ∧ 0 ≤ z ∧ z ≤ 4000000 * k ∧ wr = w.drewN q)
  case atStart => exact ⟨0, 0, 0, by omega, rfl, rfl, rfl, by omega, by omega, rfl⟩
  case round =>
    obtain ⟨k, q, z, hk, rfl, rfl, hz, hlo, hhi, rfl⟩ := hrel
    have HK := Lib.hid hk
    have HZ := Lib.hid hz
    have hkn : k ≤ n := by omega
    clear hk hz
    by_cases hlt : k < n
    · obtain ⟨b1, o1, x, rfl, hc, hx, -, -⟩ := isI_at H.out hlt
      have f1 := HA.out.at hx
      have hm := vq.sq_le2000 f1.1 f1.2
      have hm2 := vq.sq_nonneg x
      have hab : 0 ≤ vq.ab x ∧ vq.ab x ≤ 2000 := by unfold vq.ab; omega
      have HS := Lib.hid (vq.norm_snoc 3 hx)
      have HC := Lib.hid (fun w' => size_calls x w' f1.1 f1.2)
      clear hx
      go_wp2_with fail
      refine (HC.out _).mono ?_
      rintro e w' ⟨rfl, rfl⟩
      go_wp2_with fail
      all_goals
        go_roundg (gk - 1)
        case measure => have := HK.out; omega
        case rel => exact ⟨k + 1, _, _, by have := HK.out; omega, by go_num, rfl, by rw [HS.out, ← HZ.out]; unfold vq.grow; first | rfl | (unfold vq.ab at *; simp; omega) | (unfold vq.ab; simp), by omega, by omega, rfl⟩
    · go_wp2_with fail
      go_ret
      have hkn2 : k = n := by omega
      subst hkn2
      have := HZ.out
      rw [HE.out] at this
      exact ⟨by rw [← this]; rfl, q, rfl⟩
theorem rnorm_calls (m : Int) (A : Option Addr) (n c : Nat) (a : List Int) (w : World) (h1 : 1 ≤ m) (h2 : m ≤ 3) (h : wo.IsI w A n c a) (ha : Few a) (hn : n ≤ 32) :
    Calls Tryd.prog 68 #[.int .i64 m, .slice A n c] w fun e w' => e = .returned (.int .i64 (vq.norm m a)) ∧ ∃ q, w' = w.drewN q := by
  rcases (by omega : m = 1 ∨ m = 2 ∨ m = 3) with rfl | rfl | rfl
  · exact rnorm1_calls A n c a w h ha hn
  · exact rnorm2_calls A n c a w h ha hn
  · exact rnorm3_calls A n c a w h ha hn
end Go.Proofs.YtjhagfggelhpkaaDoor.vk
/- Quotients, Clone. -/
namespace Go.Proofs.YtjhagfggelhpkaaDoor.vq
theorem tdiv_cases (s n : Int) (hn : 1 ≤ n) : (s.tmod n < 0 ∧ s.tdiv n - 1 = s / n) ∨ (0 ≤ s.tmod n ∧ s.tdiv n = s / n) := by
  rw [Int.tdiv_eq_ediv, Int.tmod_eq_emod]
  have h0 := Int.emod_nonneg s (show n ≠ 0 by omega)
  have h1 := Int.emod_lt_of_pos s (show 0 < n by omega)
  have hs : n.sign = 1 := Int.sign_eq_one_of_pos (by omega)
  split
  · right; omega
  · left; rw [hs]; omega
theorem tdiv_bd {s n : Int} (hn : 1 ≤ n) (h1 : -1099511627776 ≤ s) (h2 : s ≤ 1099511627776) : -1099511627776 ≤ s.tdiv n ∧ s.tdiv n ≤ 1099511627776 := by
  rcases Int.le_total 0 s with h | h
  · have a := Int.tdiv_le_self (a := s) n h
    have b := Int.tdiv_nonneg h (show 0 ≤ n by omega)
    omega
  · have a := Int.tdiv_le_self (a := -s) n (by omega)
    have b := Int.tdiv_nonneg (show 0 ≤ -s by omega) (show 0 ≤ n by omega)
    rw [Int.neg_tdiv] at a b
    omega
end Go.Proofs.YtjhagfggelhpkaaDoor.vq

namespace Go.Proofs.YtjhagfggelhpkaaDoor.vk

open Go.ChangeShapes Go.WideShapes Go.ChangeAt Go.RowKit

set_option linter.unusedVariables false
end Go.Proofs.YtjhagfggelhpkaaDoor.vk
/- Mean. -/
namespace Go.Proofs.YtjhagfggelhpkaaDoor.vq
def vadd (a b : List Int) : List Int := List.zipWith (· + ·) a b
def sums (m : List Int) (T : List (List Int)) : List Int := T.foldl vadd m
def mean (L : List (List Int)) : List Int := (sums (L.headD []) (L.drop 1)).map (· / (L.length : Int))
theorem vadd_length {a b : List Int} (h : a.length = b.length) : (vadd a b).length = a.length := by simp [vadd, h]
theorem vadd_at {a b : List Int} {i : Nat} {x y : Int} (h : a[i]? = some x) (h' : b[i]? = some y) : (vadd a b)[i]? = some (x + y) := by
  simp [vadd, List.getElem?_zipWith, h, h']
theorem sums_length {d : Nat} : ∀ (T : List (List Int)) (m : List Int), m.length = d → (∀ l ∈ T, l.length = d) → (sums m T).length = d
  | [], m, h, _ => h
  | l :: T, m, h, hT => by
    have h1 := hT l (by simp)
    exact sums_length T (vadd m l) (by rw [vadd_length (by omega)]; exact h) (fun x hx => hT x (by simp [hx]))
theorem sums_snoc (m : List Int) {T : List (List Int)} {k : Nat} {l : List Int} (h : T[k]? = some l) : sums m (T.take (k + 1)) = vadd (sums m (T.take k)) l := by
  rw [take_snoc h, sums, List.foldl_append]; rfl
theorem vadd_bd {a b : List Int} {c : Int} (ha : ∀ x ∈ a, -c ≤ x ∧ x ≤ c) (hb : ∀ x ∈ b, -1000 ≤ x ∧ x ≤ 1000) : ∀ x ∈ vadd a b, -(c + 1000) ≤ x ∧ x ≤ c + 1000 := by
  intro x hx
  obtain ⟨i, hi, rfl⟩ := List.mem_iff_getElem.1 hx
  have hi2 : i < a.length ∧ i < b.length := by simp [vadd] at hi; omega
  have h1 := ha _ (List.getElem_mem hi2.1)
  have h2 := hb _ (List.getElem_mem hi2.2)
  simp only [vadd, List.getElem_zipWith]
  omega
theorem sums_bd : ∀ (T : List (List Int)) (m : List Int) (c : Int), (∀ x ∈ m, -c ≤ x ∧ x ≤ c) → (∀ l ∈ T, ∀ x ∈ l, -1000 ≤ x ∧ x ≤ 1000) → ∀ x ∈ sums m T, -(c + 1000 * T.length) ≤ x ∧ x ≤ c + 1000 * T.length
  | [], m, c, h, _ => by intro x hx; have := h x hx; simp; omega
  | l :: T, m, c, h, hT => by
    have h1 := vadd_bd h (hT l (by simp))
    have h2 := sums_bd T (vadd m l) (c + 1000) h1 (fun x hx => hT x (by simp [hx]))
    intro x hx
    have := h2 x hx
    simp only [List.length_cons]
    omega
/-- partly done -/
def part (p q : List Int) (i : Nat) : List Int := p.take i ++ q.drop i
theorem part_zero (p q : List Int) : part p q 0 = q := by simp [part]
theorem part_end {p q : List Int} {i : Nat} (h1 : p.length = i) (h2 : q.length = i) : part p q i = p := by
  rw [part, List.take_of_length_le (by omega), List.drop_of_length_le (by omega), List.append_nil]
theorem part_at {p q : List Int} {i : Nat} {x : Int} (hp : i ≤ p.length) (h : q[i]? = some x) : (part p q i)[i]? = some x := by
  rw [part, List.getElem?_append_right (by rw [List.length_take]; omega), List.length_take, Nat.min_eq_left hp, Nat.sub_self, List.getElem?_drop, Nat.add_zero, h]
theorem part_set {p q : List Int} {i : Nat} {x y : Int} (hp : p[i]? = some x) (hq : q[i]? = some y) : (part p q i).set i x = part p q (i + 1) := by
  obtain ⟨hip, _⟩ := List.getElem?_eq_some_iff.1 hp
  obtain ⟨hiq, _⟩ := List.getElem?_eq_some_iff.1 hq
  rw [part, part, take_snoc hp, List.set_append_right _ _ (by rw [List.length_take]; omega), List.length_take, Nat.min_eq_left (by omega), Nat.sub_self, List.drop_eq_getElem_cons hiq, List.set_cons_zero]
  simp
theorem part_length {p q : List Int} {d i : Nat} (h1 : p.length = d) (h2 : q.length = d) (hi : i ≤ d) : (part p q i).length = d := by
  simp [part, h1, h2]; omega
theorem map_at {a : List Int} {n : Int} {i : Nat} {x : Int} (h : a[i]? = some x) : (a.map (· / n))[i]? = some (x / n) := by simp [h]
end Go.Proofs.YtjhagfggelhpkaaDoor.vq

namespace Go.Proofs.YtjhagfggelhpkaaDoor.vk

open Go.ChangeShapes Go.WideShapes Go.ChangeAt Go.RowKit

set_option linter.unusedVariables false
/-- a slice of slices of integers -/
def IsVV (w : World) (A : Option Addr) (n c : Nat) (L : List (List Int)) : Prop :=
  L.length = n ∧ n ≤ c ∧ c ≤ 9223372036854775807 ∧ ∀ k l, L[k]? = some l → ∃ b o A' n' c', A = some ⟨b, o, none⟩ ∧ b < w.heap.size ∧ w.cell? ⟨b, o + k, none⟩ = some (.slice A' n' c') ∧ wo.IsI w A' n' c' l
theorem isVV_below {w w' : World} {A : Option Addr} {n c : Nat} {L : List (List Int)} (h : IsVV w A n c L) (hb : Below w.heap.size w w') : IsVV w' A n c L :=
  ⟨h.1, h.2.1, h.2.2.1, fun k l hk => by
    obtain ⟨b, o, A', n', c', hA, hlt, hc, hI⟩ := h.2.2.2 k l hk
    exact ⟨b, o, A', n', c', hA, Nat.lt_of_lt_of_le hlt hb.size, (hb.cell (p := ⟨b, o + k, none⟩) hlt).trans hc, isI_below hI hb⟩⟩
theorem isVV_drewN {w : World} {A : Option Addr} {n c : Nat} {L : List (List Int)} (h : IsVV w A n c L) (q : Nat) : IsVV (w.drewN q) A n c L := h
theorem infoV : (Tryd.prog.info? 24).map (·.size) = some 1 := by kernel_rfl
/-- 'l[1:]' -/
theorem run_tail (w' : World) (A : Option Addr) (n c : Nat) (h1 : 1 ≤ n) (hc : n ≤ c) : (Instr.slice 22 (.slice A n c) (some (.int .i64 1)) none none).run Tryd.prog w' = .ok (.slice (if c = 1 then A else A.map (·.add 1)) (n - 1) (c - 1)) w' := by
  have ht : Tryd.prog.underlying 22 = some (.slice (Tryd.prog.elem 22)) := by simp [Program.elem, Tryd.underlying22]
  have he : Tryd.prog.elem 22 = 24 := by simp [Program.elem, Tryd.underlying22]
  rw [run_slice_l w' 22 A n c ht .i64 1 (by omega) (by omega), he, wk.run_sizeOf w' 24 1 infoV]
  simp only [Result.andThen, sliced]
  rfl
end Go.Proofs.YtjhagfggelhpkaaDoor.vk
/- Slices of ranges in memory. -/
namespace Go.Proofs.YtjhagfggelhpkaaDoor.jk

open Go.ChangeShapes Go.WideShapes Go.ChangeAt Go.RowKit

open Go.Proofs.YtjhagfggelhpkaaDoor.jq Go.Proofs.YtjhagfggelhpkaaDoor.vk

set_option linter.unusedVariables false
theorem grownOf {w w' : World} (h : Below w.heap.size w w') : w.grownBy w' none := ⟨h.os, h.tape, h.output, h.size, fun k hk _ => h.block k hk⟩
theorem own_apart {w : World} {b1 b2 s1 s2 n1 n2 : Nat} {e1 e2 : TypeId} {v1 v2 : Value} {xs1 xs2 : List Value} (h1 : w.ownsRow b1 e1 s1 v1 n1 xs1) (h2 : w.ownsRow b2 e2 s2 v2 n2 xs2) (hne : e1 ≠ e2) : v2.ownBlock = none ∨ v2.ownBlock ≠ v1.ownBlock := by
  rcases h2.2 with ⟨rfl, _⟩ | ⟨g2, cap2, cur2, rfl, _, hh2, _⟩
  · exact .inl rfl
  · refine .inr fun he => ?_
    rcases h1.2 with ⟨rfl, _⟩ | ⟨g1, cap1, cur1, rfl, _, hh1, _⟩
    · cases he
    · have hg : g2 = g1 := by injection he
      subst hg
      rw [hh1] at hh2
      injection hh2 with hh
      injection hh with _ h3 _
      exact hne h3
theorem keptB {w w' : World} {B n size : Nat} {e : TypeId} {v : Value} {xs : List Value} (h : w.ownsRow B e size v n xs) (hb : Below w.heap.size w w') : w'.ownsRow B e size v n xs :=
  World.ownsRow.kept h (grownOf hb) (by cases v.ownBlock; left; rfl; right; simp)
def rv (r : R) : List Value := [.int .i64 r.1, .int .i64 r.2]
def fl (l : List R) : List Value := l.flatMap rv
def Wd (r : R) : Prop := (-9223372036854775808 ≤ r.1 ∧ r.1 ≤ 9223372036854775807) ∧ -9223372036854775808 ≤ r.2 ∧ r.2 ≤ 9223372036854775807
def IsR (w : World) (A : Option Addr) (n c : Nat) (l : List R) : Prop := l.length = n ∧ n ≤ c ∧ c ≤ 9223372036854775807 ∧ wp.RC w A (fl l) ∧ ∀ r ∈ l, Wd r
theorem isR_below {w w' : World} {A : Option Addr} {n c : Nat} {l : List R} (h : IsR w A n c l) (hb : Below w.heap.size w w') : IsR w' A n c l := ⟨h.1, h.2.1, h.2.2.1, h.2.2.2.1.below hb, h.2.2.2.2⟩
theorem isR_drewN {w : World} {A : Option Addr} {n c : Nat} {l : List R} (h : IsR w A n c l) (q : Nat) : IsR (w.drewN q) A n c l := h
theorem fl_length (l : List R) : (fl l).length = l.length * 2 := by
  induction l with
  | nil => rfl
  | cons a l ih => simp only [fl, rv, List.flatMap_cons, List.length_append, List.length_cons, List.length_nil] at ih ⊢; omega
theorem fl_append (a b : List R) : fl (a ++ b) = fl a ++ fl b := by simp [fl]
theorem fl_at : ∀ {l : List R} {k : Nat} {r : R}, l[k]? = some r → (fl l)[k * 2]? = some (.int .i64 r.1) ∧ (fl l)[k * 2 + 1]? = some (.int .i64 r.2)
  | [], k, r, h => by simp at h
  | a :: l, 0, r, h => by
    simp only [List.getElem?_cons_zero, Option.some.injEq] at h
    subst h
    exact ⟨rfl, rfl⟩
  | a :: l, k + 1, r, h => by
    rw [List.getElem?_cons_succ] at h
    have ih := fl_at h
    have e : fl (a :: l) = .int .i64 a.1 :: .int .i64 a.2 :: fl l := rfl
    rw [e, show (k + 1) * 2 = k * 2 + 1 + 1 by omega]
    simpa using ih
theorem isR_get {w : World} {A : Option Addr} {n c k : Nat} {l : List R} (h : IsR w A n c l) (hk : k < n) : ∃ b o r, A = some ⟨b, o, none⟩ ∧ w.cell? ⟨b, o + k * 2, none⟩ = some (.int .i64 r.1) ∧ w.cell? ⟨b, o + k * 2 + 1, none⟩ = some (.int .i64 r.2) ∧ b < w.heap.size ∧ l[k]? = some r ∧ Wd r := by
  have hkl : k < l.length := by rw [h.1]; exact hk
  obtain ⟨b, o, rfl, hb, hc⟩ := h.2.2.2.1 (by rw [fl_length]; omega)
  have hx := fl_at (List.getElem?_eq_getElem hkl)
  exact ⟨b, o, l[k], rfl, hc _ _ hx.1, hc _ _ hx.2, hb, List.getElem?_eq_getElem hkl, h.2.2.2.2 _ (List.getElem_mem hkl)⟩
theorem isR_of_own {w : World} {B n : Nat} {v : Value} {l : List R} (h : w.ownsRow B 47 2 v n (fl l)) (hb : ∀ r ∈ l, Wd r) : ∃ A c, v = .slice A n c ∧ IsR w A n c l := by
  have hl : l.length = n := by have := h.1; rw [fl_length] at this; omega
  rcases h.2 with ⟨hv, hn⟩ | ⟨g, cap, cur, hv, hb2, hh, h3, h4, h5, h6⟩
  · subst hv
    exact ⟨none, 0, by rw [hn], hl, by omega, by omega, fun hlt => by rw [fl_length] at hlt; omega, hb⟩
  · subst hv
    refine ⟨_, _, rfl, hl, h3, by unfold maxLen at h4; omega, ?_, hb⟩
    refine wo.rc_of fun i u hu => ?_
    exact h.cells rfl i u hu
theorem infoRg : (Tryd.prog.info? 47).map (fun i => (i.zero, i.size, i.bytes)) = some (some (.agg #[.int .i64 0, .int .i64 0]), 2, 16) := by kernel_rfl
theorem ones2 {a b : Int} : ∀ u ∈ [Value.int .i64 a, Value.int .i64 b], u.oneCell' = true := by
  intro u hu
  simp only [List.mem_cons, List.not_mem_nil, or_false] at hu
  rcases hu with rfl | rfl <;> rfl
def RowR (w : World) (g : Nat) (a b : Int) : Prop := w.heap[g]? = some (.cells #[.int .i64 a, .int .i64 b] 47 (0, 0))
theorem RowR.lt {w : World} {g : Nat} {a b : Int} (h : RowR w g a b) : g < w.heap.size := (Array.getElem?_eq_some_iff.1 h).1
theorem RowR.below {w w' : World} {g : Nat} {a b : Int} (h : RowR w g a b) (hb : Below w.heap.size w w') : RowR w' g a b := (hb.block g h.lt).trans h
theorem RowR.new (w : World) (a b : Int) : RowR (w.alloc (.cells #[.int .i64 a, .int .i64 b] 47)) w.heap.size a b := heap_alloc_new w _
theorem RowR.cells {w : World} {g : Nat} {a b : Int} (h : RowR w g a b) : ∀ j u, [Value.int .i64 a, Value.int .i64 b][j]? = some u → w.cell? ((⟨g, 0, none⟩ : Addr).add j) = some u := fun j u hu => by
  rw [wk.add_at, Nat.zero_add, cell_of_row _ _ _ _ _ _ h]
  simpa using hu
section

variable {H : Type} {enc : TypeId × Value → H} {w : World} {base : Nat} {spare : Nat → Bool} {held : Bool} {t e : TypeId} {a : Option Addr} {n c fuel : Nat} {x : DataW H × List MemPlace}
set_option maxRecDepth 100000 in
theorem openR (h : DataW.trod enc Tryd.prog w base spare held fuel 29 [.slice a n c] = some x) : ∃ L, IsR w a n c L := by
  have hc : Tryd.prog.cellsOf 47 = 2 := by kernel_rfl
  rcases DataW.trod_slice Tryd.underlying29 h with ⟨hcs, _⟩ | ⟨ad, len, cap, elems, rest, m, _, hcs, _, hb, hl, hm, hlen, hel, _⟩
  · simp only [List.cons.injEq, Value.slice.injEq, and_true] at hcs
    obtain ⟨rfl, rfl, rfl⟩ := hcs
    exact ⟨[], rfl, Nat.le_refl _, by omega, fun h => absurd h (by simp [fl]), by simp⟩
  · simp only [List.cons.injEq, Value.slice.injEq, and_true] at hcs
    obtain ⟨rfl, rfl, rfl⟩ := hcs
    rw [hc] at hel
    have hone : ∀ i, i < n → ∃ r : R, Wd r ∧ w.cell? ((ad.add (i * 2)).add 0) = some (.int .i64 r.1) ∧ w.cell? ((ad.add (i * 2)).add 1) = some (.int .i64 r.2) := fun i hi => by
      have hi' := hel i hi
      rw [List.getElem?_eq_getElem (by omega)] at hi'
      cases hcc : w.cells? base (ad.add (i * 2)) 2 with
      | none => rw [hcc] at hi'; simp at hi'
      | some cs =>
        rw [hcc] at hi'
        simp only [Option.bind_some] at hi'
        obtain ⟨hlen1, _, hcell⟩ := World.cells?_some hcc
        match cs, hlen1 with
        | [c0, c1], _ =>
          obtain ⟨y0, y1, m, _, _, h0, h1⟩ := trod_struct2 Tryd.underlying47 hi'
          have hc1 : Tryd.prog.cellsOf 3 = 1 := by kernel_rfl
          rw [hc1] at h0 h1
          obtain ⟨z, hz, _, hwf⟩ := DataW.trod_int Tryd.underlying3 h0
          obtain ⟨z', hz', _, hwf'⟩ := DataW.trod_int Tryd.underlying3 h1
          simp at hz hz'
          subst hz
          subst hz'
          refine ⟨(z, z'), ⟨?_, ?_⟩, hcell 0 (by simp), hcell 1 (by simp)⟩
          · simpa [Lit.wf, IntKind.min, IntKind.max, IntKind.signed, IntKind.bits] using hwf
          · simpa [Lit.wf, IntKind.min, IntKind.max, IntKind.signed, IntKind.bits] using hwf'
    obtain ⟨L, hLl, hLq⟩ := wo.exists_list n hone
    refine ⟨L, hLl, hl, by unfold maxLen at hm; omega, ?_, fun r hr => ?_⟩
    · refine wo.rc_of fun j u hu => ?_
      have hj : j < n * 2 := by
        rcases Nat.lt_or_ge j (n * 2) with h' | h'
        · exact h'
        · rw [List.getElem?_eq_none (by rw [fl_length]; omega)] at hu; cases hu
      have hk : L[j / 2]? = some (L[j / 2]'(by omega)) := List.getElem?_eq_getElem _
      obtain ⟨_, q1, q2⟩ := hLq _ _ hk
      have f := fl_at hk
      obtain ⟨_, q0, _⟩ := hLq 0 _ (List.getElem?_eq_getElem (show 0 < L.length by omega))
      obtain ⟨b, o, rfl⟩ := wo.at_plain (ad := ad) (by simpa [Addr.add] using q0)
      rcases Nat.mod_two_eq_zero_or_one j with h2 | h2
      · have e : j / 2 * 2 = j := by omega
        rw [e] at f q1
        rw [f.1] at hu
        rw [← hu, ← q1, wk.add_at, wk.add_at, Nat.add_zero]
      · have e : j / 2 * 2 + 1 = j := by omega
        have e' : ((⟨b, o, none⟩ : Addr).add (j / 2 * 2)).add 1 = (⟨b, o, none⟩ : Addr).add j := by rw [wk.add_at, wk.add_at, wk.add_at, Nat.add_assoc, e]
        rw [e'] at q2
        rw [e] at f
        rw [f.2] at hu
        rw [← hu, ← q2]
    · obtain ⟨i, hi, rfl⟩ := List.mem_iff_getElem.1 hr
      exact (hLq i _ (List.getElem?_eq_getElem hi)).1
end

end Go.Proofs.YtjhagfggelhpkaaDoor.jk
