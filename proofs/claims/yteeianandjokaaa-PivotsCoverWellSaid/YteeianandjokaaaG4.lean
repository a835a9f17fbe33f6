/- Joined: Qe Qf Qg Mem Qh Qi Qj Qk Ql Qm. -/
import Derived.Test.YteeianandjokaaaG3

import Derived.Great.BuildSlice

import Derived.Deep.Cut

import Derived.Deep.CutRange

import Derived.Deep.RegionLaw

import Derived.Lib.SliceRun
/- Norms grow; Dot, Norm, Key. -/
namespace Go.Proofs.Yteeianandjokaaa.vk

open Go.ChangeShapes Go.WideShapes Go.ChangeAt Go.RowKit

set_option linter.unusedVariables false
set_option maxRecDepth 100000 in
theorem grow_calls (m n x : Int) (w : World) (h0 : 0 ≤ n) (hn : n ≤ 1099511627776) (h1 : -2000 ≤ x) (h2 : x ≤ 2000) :
    Calls Try.prog (gf m) #[.int .i64 n, .int .i64 x] w fun e w' => e = .returned (.int .i64 (vq.grow m n x)) ∧ w' = w := by
  have q1 := vq.sq_le2000 h1 h2
  have q2 := vq.sq_nonneg x
  unfold gf vq.grow
  by_cases e1 : m = 1
  · rw [if_pos e1, if_pos e1]
    clear e1
    go_enter Try.func92, Try.ntmps92
    go_wp2_with fail
    all_goals
      go_ret
      exact ⟨wp.ret_i64 (by omega), rfl⟩
  by_cases e2 : m = 2
  · rw [if_neg e1, if_pos e2, if_neg e1, if_pos e2]
    clear e1 e2
    go_enter Try.func93, Try.ntmps93
    go_wp2_with fail
    go_ret
    exact ⟨rfl, rfl⟩
  by_cases e3 : m = 3
  · rw [if_neg e1, if_neg e2, if_pos e3, if_neg e1, if_neg e2, if_pos e3]
    clear e1 e2 e3
    go_enter Try.func94, Try.ntmps94
    go_wp2_with fail
    all_goals
      go_ret
      exact ⟨wp.ret_i64 (by omega), rfl⟩
  · rw [if_neg e1, if_neg e2, if_neg e3, if_neg e1, if_neg e2, if_neg e3]
    clear e1 e2 e3
    go_enter Try.func95, Try.ntmps95
    go_wp2_with fail
    go_ret
    exact ⟨rfl, rfl⟩
set_option maxRecDepth 100000 in
set_option maxHeartbeats 2000000 in
theorem growth_calls (m : Int) (w : World) (h0 : -9223372036854775808 ≤ m) (h1 : m ≤ 9223372036854775807) :
    Calls Try.prog 70 #[.int .i64 m] w fun e w' => e = .returned (.func (.func (gf m)) #[] #[]) ∧ Below w.heap.size w w' := by
  have hmm := @run_makeMap Try.prog
  go_enter Try.func70, Try.ntmps70
  have hn0 := heap_alloc_new w (.map #[] 0)
  have hb0 := below_new w (.map #[] 0)
  go_wp2_with (refine ins_step rfl 112 (.tmp 6) (.const (.int .i64 1)) (.func 92) rfl w.heap.size #[] 0 rfl 3 95 Try.underlying112 Try.underlying3 1 rfl hn0 rfl ?_)
  intro w1 hw1 _ hb1
  have hw1' : w1.heap[w.heap.size]? = some (.map #[en 1 92 0] 1) := hw1
  clear hw1
  replace hb1 := hb0.trans (hb1 w.heap.size (Nat.le_refl _))
  go_wp2_with (refine ins_step rfl 112 (.tmp 6) (.const (.int .i64 2)) (.func 93) rfl w.heap.size #[en 1 92 0] 1 rfl 3 95 Try.underlying112 Try.underlying3 2 rfl hw1' rfl ?_)
  intro w2 hw2 _ hb2
  have hw2' : w2.heap[w.heap.size]? = some (.map #[en 1 92 0, en 2 93 1] 2) := hw2
  clear hw2
  replace hb2 := hb1.trans (hb2 w.heap.size (Nat.le_refl _))
  go_wp2_with (refine ins_step rfl 112 (.tmp 6) (.const (.int .i64 3)) (.func 94) rfl w.heap.size #[en 1 92 0, en 2 93 1] 2 rfl 3 95 Try.underlying112 Try.underlying3 3 rfl hw2' rfl ?_)
  intro w3 hw3 _ hb3
  have hw3' : w3.heap[w.heap.size]? = some (.map #[en 1 92 0, en 2 93 1, en 3 94 2] 3) := hw3
  clear hw3
  replace hb3 := hb2.trans (hb3 w.heap.size (Nat.le_refl _))
  have hl := run_look (P := Try.prog) (w := w3) 112 w.heap.size _ 3 3 95 Try.underlying112 Try.underlying3 m hw3' .nilFunc (zeroF w3) _ (find3 m 92 93 94)
  have HB3 := Lib.hid hb3
  clear hb0 hb1 hb2 hb3 hn0 hw1' hw2' hw3' hmm
  by_cases e1 : m = 1
  · rw [if_pos e1] at hl
    simp only [lookRes] at hl
    have hG : gf m = 92 := by unfold gf; rw [if_pos e1]
    have HG := Lib.hid hG
    clear hG
    go_wp2_with (refine look_step rfl 112 (.tmp 7) (.tmp 8) rfl _ _ _ rfl rfl hl ?_)
    go_wp2_with fail
    go_ret
    rw [HG.out]
    exact ⟨rfl, HB3.out⟩
  by_cases e2 : m = 2
  · rw [if_neg e1, if_pos e2] at hl
    simp only [lookRes] at hl
    have hG : gf m = 93 := by unfold gf; rw [if_neg e1, if_pos e2]
    have HG := Lib.hid hG
    clear hG
    go_wp2_with (refine look_step rfl 112 (.tmp 7) (.tmp 8) rfl _ _ _ rfl rfl hl ?_)
    go_wp2_with fail
    go_ret
    rw [HG.out]
    exact ⟨rfl, HB3.out⟩
  by_cases e3 : m = 3
  · rw [if_neg e1, if_neg e2, if_pos e3] at hl
    simp only [lookRes] at hl
    have hG : gf m = 94 := by unfold gf; rw [if_neg e1, if_neg e2, if_pos e3]
    have HG := Lib.hid hG
    clear hG
    go_wp2_with (refine look_step rfl 112 (.tmp 7) (.tmp 8) rfl _ _ _ rfl rfl hl ?_)
    go_wp2_with fail
    go_ret
    rw [HG.out]
    exact ⟨rfl, HB3.out⟩
  · rw [if_neg e1, if_neg e2, if_neg e3] at hl
    simp only [lookRes] at hl
    have hG : gf m = 95 := by unfold gf; rw [if_neg e1, if_neg e2, if_neg e3]
    have HG := Lib.hid hG
    clear hG
    go_wp2_with (refine look_step rfl 112 (.tmp 7) (.tmp 8) rfl _ _ _ rfl rfl hl ?_)
    go_wp2_with fail
    go_ret
    rw [HG.out]
    exact ⟨rfl, HB3.out⟩
theorem isI_get {w : World} {A : Option Addr} {n c k : Nat} {l : List Int} {x : Int} (h : wo.IsI w A n c l) (hx : l[k]? = some x) : k < n ∧ ∃ b o, A = some ⟨b, o, none⟩ ∧ w.cell? ⟨b, o + k, none⟩ = some (.int .i64 x) := by
  have hk : k < n := by
    rcases Nat.lt_or_ge k n with h'' | h''
    · exact h''
    · rw [List.getElem?_eq_none (by have := h.1; omega)] at hx; cases hx
  obtain ⟨b, o, x', hA, hc, hx', -, -⟩ := isI_at h hk
  rw [hx] at hx'; cases hx'
  exact ⟨hk, b, o, hA, hc⟩
theorem gf_cases (m : Int) : gf m = 92 ∨ gf m = 93 ∨ gf m = 94 ∨ gf m = 95 := by
  unfold gf
  repeat' split
  all_goals simp
theorem gf_call (m : Int) : ∀ (args : Array Value) (w' : World), (callFunc (gf m) args).run Try.prog w' = .ok (.enter (gf m) args) w' := by
  intro args w'
  unfold gf
  split
  · kernel_rfl
  · split
    · kernel_rfl
    · split <;> kernel_rfl
set_option maxRecDepth 100000 in
set_option maxHeartbeats 2000000 in
theorem key1_calls (m : Int) (g0 g g' : Nat) (A A' : Option Addr) (n n' c c' k : Nat) (a b : List Int) (s x y : Int) (w : World) (hf : Box w g0 (.func (.func (gf m)) #[] #[])) (hg : Box w g (.slice A n c)) (hg' : Box w g' (.slice A' n' c')) (h : wo.IsI w A n c a) (h' : wo.IsI w A' n' c' b)
    (hx : a[k]? = some x) (hy : b[k]? = some y) (h1 : -2000 ≤ x - y) (h2 : x - y ≤ 2000) (hs : 0 ≤ s) (hs' : s ≤ 1099511627776) :
    Calls Try.prog 73 #[.int .i64 s, .int .i64 k, .pointer (some ⟨g0, 0, none⟩), .pointer (some ⟨g, 0, none⟩), .pointer (some ⟨g', 0, none⟩)] w fun e w' => e = .returned (.int .i64 (vq.grow m s (x - y))) ∧ ∃ q, w' = w.drewN q := by
  obtain ⟨hk, b1, o1, rfl, hc1⟩ := isI_get h hx
  obtain ⟨hk', b2, o2, rfl, hc2⟩ := isI_get h' hy
  have hcb := hg.cell
  have hcb' := hg'.cell
  have hcf := hf.cell
  have hm := h.2.2.1
  have hm' := h'.2.2.1
  have hn := h.2.1
  have hn' := h'.2.1
  have hG := fun (w' : World) => grow_calls m s (x - y) w' hs hs' h1 h2
  clear h h' hg hg' hx hy hf
  rcases gf_cases m with e | e | e | e
  all_goals
    rw [e] at hcf hG
    have HG := Lib.hid hG
    clear hG e
    go_enter Try.func73, Try.ntmps73
    go_wp2_with fail
    go_quiet (exact Calls.quiet_of_same (HG.out _))
    go_wp2_with fail
    go_ret
    exact ⟨rfl, _, rfl⟩
end Go.Proofs.Yteeianandjokaaa.vk
/- Dot, Norm, Key. -/
namespace Go.Proofs.Yteeianandjokaaa.vk

open Go.ChangeShapes Go.WideShapes Go.ChangeAt Go.RowKit

set_option linter.unusedVariables false
theorem common_same (A A' : Option Addr) (n c c' : Nat) (w : World) (hn : n ≤ 9223372036854775807) :
    Calls Try.prog 72 #[.slice A n c, .slice A' n c'] w fun e w' => e = .returned (.int .i64 n) ∧ w' = w := by
  have h := common_calls A A' n n c c' w hn hn
  rw [Nat.min_self] at h
  exact h
theorem Box.drewN {w : World} {g : Nat} {v : Value} (h : Box w g v) (q : Nat) : Box (w.drewN q) g v := h
theorem isI_drewN {w : World} {A : Option Addr} {n c : Nat} {l : List Int} (h : wo.IsI w A n c l) (q : Nat) : wo.IsI (w.drewN q) A n c l := h
theorem drewN_add (w : World) (a b : Nat) : (w.drewN a).drewN b = w.drewN (a + b) := World.drewN_drewN ..
theorem below_drewN {B : Nat} {a w : World} (h : Below B a w) (q : Nat) : Below B a (w.drewN q) := ⟨h.os, h.tape, h.output, h.size, h.block⟩
theorem box2 (w : World) (v1 v2 : Value) (t1 t2 : TypeId) : Box ((w.alloc (.cells #[v1] t1)).alloc (.cells #[v2] t2)) w.heap.size v1 ∧ Box ((w.alloc (.cells #[v1] t1)).alloc (.cells #[v2] t2)) (w.heap.size + 1) v2 ∧ Below w.heap.size w ((w.alloc (.cells #[v1] t1)).alloc (.cells #[v2] t2)) := by
  refine ⟨(Box.new w v1 t1).below (below_new _ _), ?_, Below.andThen (below_new _ _) (below_new _ _)⟩
  have := Box.new (w.alloc (.cells #[v1] t1)) v2 t2
  rw [size_new] at this
  exact this
/-- lists that are not greater than differences -/
def Few (l : List Int) : Prop := ∀ x ∈ l, -2000 ≤ x ∧ x ≤ 2000
theorem few_of {l : List Int} (h : vq.Vec l) : Few l := fun x hx => by have := h.lo x hx; have := h.hi x hx; omega
theorem Few.at {l : List Int} (h : Few l) {k : Nat} {x : Int} (hx : l[k]? = some x) : -2000 ≤ x ∧ x ≤ 2000 := h x (List.mem_of_getElem? hx)
theorem len_of {l : List Int} {k : Nat} (h : k < l.length) : l[k]? = some l[k] := List.getElem?_eq_getElem h
theorem norm_take_bound (m : Int) {v : List Int} (h : Few v) (k : Nat) : 0 ≤ vq.norm m (v.take k) ∧ vq.norm m (v.take k) ≤ 4000000 * k := by
  refine ⟨vq.norm_nonneg m _, ?_⟩
  have := vq.norm_bound (m := m) (v := v.take k) fun x hx => h x (List.mem_of_mem_take hx)
  rw [List.length_take] at this
  omega
theorem infoG : (Try.prog.info? 95).map (·.size) = some 1 := by kernel_rfl
theorem subk_take (a b : List Int) (k : Nat) : vq.subk a b k = (vq.sub a b).take k := rfl
set_option maxRecDepth 100000 in
theorem key_calls (m : Int) (A A' : Option Addr) (n c c' : Nat) (a b : List Int) (w : World) (h0 : -9223372036854775808 ≤ m) (h1 : m ≤ 9223372036854775807) (h : wo.IsI w A n c a) (h' : wo.IsI w A' n c' b) (ha : Few (vq.sub a b)) (hn : n ≤ 32) :
    Calls Try.prog 36 #[.int .i64 m, .slice A n c, .slice A' n c'] w fun e w' => e = .returned (.int .i64 (vq.key m a b)) ∧ Below w.heap.size w w' := by
  have hl := h.1
  have hl' := h'.1
  have hls := vq.sub_length (a := a) (b := b) (by omega)
  obtain ⟨hx1, hx2, hb⟩ := box2 w (.slice A n c) (.slice A' n c') 23 23
  have HG := Lib.hid (growth_calls m ((w.alloc (.cells #[.slice A n c] 23)).alloc (.cells #[.slice A' n c'] 23)) h0 h1)
  have HI := Lib.hid (isI_below h hb)
  have HI' := Lib.hid (isI_below h' hb)
  have HX := Lib.hid hx1
  have HX' := Lib.hid hx2
  have HB := Lib.hid hb
  have HC := Lib.hid (fun w' => common_same A A' n c c' w' (by omega))
  clear hx1 hx2 hb h h'
  go_enter Try.func36, Try.ntmps36
  go_wp2_with fail
  refine HG.out.mono ?_
  rintro e w1 ⟨rfl, hb1⟩
  have hX1 := HX.out.below hb1
  have hX1' := HX'.out.below hb1
  have hI1 := isI_below HI.out hb1
  have hI1' := isI_below HI'.out hb1
  have hB1 := Below.andThen HB.out hb1
  clear hb1 HX HX' HI HI' HB HG
  have hb2 := below_new w1 (.cells #[.func (.func (gf m)) #[] #[]] 95)
  have HX2 := Lib.hid (hX1.below hb2)
  have HX2' := Lib.hid (hX1'.below hb2)
  have HF2 := Lib.hid (Box.new w1 (.func (.func (gf m)) #[] #[]) 95)
  have HI2 := Lib.hid (isI_below hI1 hb2)
  have HI2' := Lib.hid (isI_below hI1' hb2)
  have HB2 := Lib.hid (Below.andThen hB1 hb2)
  clear hb2 hX1 hX1' hI1 hI1' hB1
  go_upto_region 2 with (refine wpList_store_oneTo rfl 95 (.tmp 7) (.tmp 9) rfl rfl w1.heap.size (.func (.func (gf m)) #[] #[]) rfl rfl rfl 95 .nilFunc (heap_alloc_new _ _) infoG ?_)
  rw [wk.setRow_alloc]
  generalize w1.alloc (.cells #[.func (.func (gf m)) #[] #[]] 95) = w2 at *
  generalize w1.heap.size = G at *
  have hF := fold_int 73 #[.pointer (some ⟨G, 0, none⟩), .pointer (some ⟨w.heap.size, 0, none⟩), .pointer (some ⟨w.heap.size + 1, 0, none⟩)] (fun _ _ => by kernel_rfl) n (by omega)
    (fun k v w' => ∃ q, v = .int .i64 (vq.norm m ((vq.sub a b).take k)) ∧ w' = w2.drewN q) w2 (.int .i64 0)
    (fun k v w' hk ⟨q, hv, hw⟩ => by
      subst hv hw
      have e1 := len_of (l := a) (k := k) (by omega)
      have e2 := len_of (l := b) (k := k) (by omega)
      have e3 := vq.sub_at e1 e2
      have f1 := ha.at e3
      have hbd := norm_take_bound m ha k
      refine (key1_calls m G w.heap.size (w.heap.size + 1) A A' n n c c' k a b _ _ _ _ (HF2.out.drewN q) (HX2.out.drewN q) (HX2'.out.drewN q) (isI_drewN HI2.out q) (isI_drewN HI2'.out q) e1 e2 f1.1 f1.2 hbd.1 (by omega)).mono ?_
      rintro e w' ⟨rfl, q', rfl⟩
      exact ⟨_, rfl, q + q', by rw [vq.norm_snoc m e3], drewN_add _ _ _⟩)
    ⟨0, rfl, rfl⟩
  have HF := Lib.hid hF
  have hc1 := HX2.out.cell
  have hc2 := HX2'.out.cell
  have HE : Hid (vq.norm m ((vq.sub a b).take n) = vq.key m a b) := by show _ = _; rw [List.take_of_length_le (by omega)]; rfl
  clear hF HX2 HX2' HF2 HI2 HI2' ha hl hl' hls
  go_wp2_with fail
  refine (HC.out _).mono ?_
  rintro e w' ⟨rfl, rfl⟩
  go_wp2_with fail
  refine HF.out.mono ?_
  rintro e w' ⟨v, rfl, q, rfl, rfl⟩
  go_wp2_with fail
  go_ret
  exact ⟨by rw [← HE.out]; rfl, below_drewN HB2.out q⟩
end Go.Proofs.Yteeianandjokaaa.vk
/- Sub. -/
namespace Go.Proofs.Yteeianandjokaaa.vk

open Go.ChangeShapes Go.WideShapes Go.ChangeAt Go.RowKit

set_option linter.unusedVariables false
abbrev iv (l : List Int) : List Value := l.map (Value.int .i64)
theorem isI_of_own {w : World} {B n : Nat} {v : Value} {l : List Int} (h : w.ownsRow B 3 1 v n (iv l)) (hb : ∀ x ∈ l, -9223372036854775808 ≤ x ∧ x ≤ 9223372036854775807) : ∃ A c, v = .slice A n c ∧ wo.IsI w A n c l := by
  have hl : l.length = n := by have := h.1; simpa [iv] using this
  obtain ⟨A, c, rfl, h1, h2, hR⟩ := wp.RC.of_own h
  exact ⟨A, c, rfl, hl, h1, by unfold maxLen at h2; omega, hR, hb⟩
end Go.Proofs.Yteeianandjokaaa.vk

namespace Go.Proofs.Yteeianandjokaaa.wi

open Go.ChangeShapes Go.WideShapes Go.ChangeAt Go.RowKit

theorem RB_new {w : World} {g : Nat} (hg : w.heap.size = g) (l : List UInt8) {cs : Array Value} (t : TypeId) (hcs : cs = (wp.bc l).toArray) : wp.RB (w.alloc (.cells cs t)) (some ⟨g, 0, none⟩) l := fun hl => by
  subst hg hcs
  exact ⟨w.heap.size, 0, rfl, by simp, fun j u hu => by
    have := wk.cells_new w (wp.bc l) t j (.int .u8 (u.toNat : Int)) (by simp [wp.bc, hu])
    rw [wk.add_at] at this
    exact this⟩
theorem RC_new {w : World} {g : Nat} (hg : w.heap.size = g) (xs : List Value) {cs : Array Value} (t : TypeId) (hcs : cs = xs.toArray) : wp.RC (w.alloc (.cells cs t)) (some ⟨g, 0, none⟩) xs := fun hl => by
  subst hg hcs
  exact ⟨w.heap.size, 0, rfl, by simp, fun j u hu => by
    have := wk.cells_new w xs t j u hu
    rw [wk.add_at] at this
    exact this⟩

end Go.Proofs.Yteeianandjokaaa.wi
/- Compare, Alike. -/
namespace Go.Proofs.Yteeianandjokaaa.vk

open Go.ChangeShapes Go.WideShapes Go.ChangeAt Go.RowKit

set_option linter.unusedVariables false
def orI : List Int → Int
  | [] => 0
  | x :: l => if x = 0 then orI l else x
theorem drop_at {l : List Int} {k : Nat} {x : Int} (h : l[k]? = some x) : l.drop k = x :: l.drop (k + 1) := by
  obtain ⟨hk, rfl⟩ := List.getElem?_eq_some_iff.1 h
  exact List.drop_eq_getElem_cons hk
theorem isI_new {w : World} {g : Nat} (hg : w.heap.size = g) (l : List Int) {cs : Array Value} (hcs : cs = (iv l).toArray) (n : Nat) (hn : l.length = n) (h40 : n ≤ 1099511627776) (hb : ∀ x ∈ l, -9223372036854775808 ≤ x ∧ x ≤ 9223372036854775807) (t : TypeId) : wo.IsI (w.alloc (.cells cs t)) (some ⟨g, 0, none⟩) n n l :=
  ⟨hn, Nat.le_refl _, by omega, wi.RC_new hg _ _ hcs, hb⟩
theorem cmpI_bd (x y : Int) : -1 ≤ vq.cmpI x y ∧ vq.cmpI x y ≤ 1 := by
  unfold vq.cmpI
  split
  · omega
  · split <;> omega
theorem lex_bd (a b : List Int) : -1 ≤ vq.lex a b ∧ vq.lex a b ≤ 1 := by have := vq.lex_range a b; omega
theorem or_cmp (a b : List Int) : orI [vq.cmpI a.length b.length, vq.lex a b] = vq.cmp a b := by
  have := vq.lex_range a b
  unfold orI orI orI vq.cmpI vq.cmp
  repeat' split
  all_goals omega
end Go.Proofs.Yteeianandjokaaa.vk
/- Alike, Encode, Decode: the program's. -/
namespace Go.Proofs.Yteeianandjokaaa.vq

open Go.Proofs.Yteeianandjokaaa
theorem getN_bd (l : List UInt8) : ∀ (g : Nat) (acc : List Int) (u : Int), (∀ x ∈ acc, -9223372036854775808 ≤ x ∧ x ≤ 9223372036854775807) → ∀ x ∈ (wp.getN wp.getI l g acc u).1, -9223372036854775808 ≤ x ∧ x ≤ 9223372036854775807
  | 0, acc, u, h => by rw [wp.getN]; exact h
  | g + 1, acc, u, h => by
    rw [wp.getN]
    split
    · intro x hx; cases hx
    · refine getN_bd l g _ _ fun x hx => ?_
      rw [List.mem_append, List.mem_singleton] at hx
      rcases hx with hx | rfl
      · exact h x hx
      · have := wp.getI_facts (l.drop u.toNat)
        exact ⟨this.1, this.2.1⟩
theorem getL_bd (l : List UInt8) : ∀ x ∈ (wp.getL wp.getI 1 l).1, -9223372036854775808 ≤ x ∧ x ≤ 9223372036854775807 := by
  unfold wp.getL
  split
  · intro x hx; cases hx
  · exact getN_bd l _ _ _ (by intro x hx; cases hx)
theorem encIs_length (l : List Int) (h : ∀ x ∈ l, -9223372036854775808 ≤ x ∧ x ≤ 9223372036854775807) (hl : l.length ≤ 1099511627776) : (wp.encIs l).length ≤ 10 + 10 * l.length := by
  have h1 : ∀ l : List Int, (∀ x ∈ l, -9223372036854775808 ≤ x ∧ x ≤ 9223372036854775807) → (l.flatMap wp.encI).length ≤ 10 * l.length := by
    intro l
    induction l with
    | nil => simp
    | cons x l ih =>
      intro h
      have := wp.encI_length (h x (by simp)).1 (h x (by simp)).2
      have := ih fun y hy => h y (by simp [hy])
      simp only [List.flatMap_cons, List.length_append, List.length_cons]
      omega
  have := h1 l h
  have := wp.encI_length (n := (l.length : Int)) (by omega) (by omega)
  unfold wp.encIs
  rw [List.length_append]
  omega
/-- Decode -/
def dec (l : List UInt8) : List Int × Int :=
  if (wp.getL wp.getI 1 l).2.2 ≠ 0 then ([], (wp.getL wp.getI 1 l).2.2) else if (wp.getL wp.getI 1 l).2.1 < (l.length : Int) then ([], 11) else if valid (wp.getL wp.getI 1 l).1 then ((wp.getL wp.getI 1 l).1, 0) else ([], 40)
theorem dec_eq (l : List UInt8) : dec l =
  if (wp.getL wp.getI 1 l).2.2 ≠ 0 then ([], (wp.getL wp.getI 1 l).2.2) else if (wp.getL wp.getI 1 l).2.1 < (l.length : Int) then ([], 11) else if valid (wp.getL wp.getI 1 l).1 then ((wp.getL wp.getI 1 l).1, 0) else ([], 40) := rfl
end Go.Proofs.Yteeianandjokaaa.vq

namespace Go.Proofs.Yteeianandjokaaa.vk

open Go.ChangeShapes Go.WideShapes Go.ChangeAt Go.RowKit

set_option linter.unusedVariables false
set_option maxRecDepth 100000 in
theorem alike_calls (A A' : Option Addr) (n n' c c' : Nat) (a b : List Int) (w : World) (h : wo.IsI w A n c a) (h' : wo.IsI w A' n' c' b) :
    Calls Try.prog 35 #[.slice A n c, .slice A' n' c'] w fun e w' => e = .returned (.bool (vq.alike a b)) ∧ Below w.heap.size w w' := by
  have hl := h.1
  have hl' := h'.1
  unfold vq.alike
  rw [hl, hl']
  by_cases hn : n = n'
  · subst hn
    have HA := Lib.hid (valid_calls A n c a w h)
    have HB := Lib.hid (fun w' (hb : Below w.heap.size w w') => valid_calls A' n c' b w' (isI_below h' hb))
    cases hva : vq.valid a
    · rw [hva] at HA
      clear h h' hl hl' hva
      go_enter Try.func35, Try.ntmps35
      go_wp2_with fail
      refine HA.out.mono ?_
      rintro e w' ⟨rfl, hb⟩
      have HBE := Lib.hid hb
      clear hb
      go_wp2_with fail
      go_ret
      exact ⟨by simp, HBE.out⟩
    · rw [hva] at HA
      clear h h' hl hl' hva
      go_enter Try.func35, Try.ntmps35
      go_wp2_with fail
      refine HA.out.mono ?_
      rintro e w1 ⟨rfl, hb⟩
      have HBE := Lib.hid hb
      clear hb
      go_wp2_with fail
      refine (HB.out w1 HBE.out).mono ?_
      rintro e w2 ⟨rfl, hb2⟩
      have HBE2 := Lib.hid (Below.andThen HBE.out hb2)
      clear hb2
      go_wp2_with fail
      go_ret
      exact ⟨by simp, HBE2.out⟩
  · clear h h' hl hl'
    go_enter Try.func35, Try.ntmps35
    go_wp2_with fail
    go_ret
    exact ⟨by simp [hn], Below.refl _ _⟩
theorem isB_of_out {l : List UInt8} {w w' : World} {e : Ending} (h : wi.OutB l w e w') : ∃ A c, e = .returned (.slice A l.length c) ∧ wo.IsB w' A l.length c l ∧ Below w.heap.size w w' := by
  obtain ⟨v, rfl, hown, hb⟩ := h
  obtain ⟨A, c, rfl, h1, h2, hR⟩ := wp.RC.of_own hown
  exact ⟨A, c, rfl, ⟨rfl, h1, by unfold maxLen at h2; omega, hR.rb⟩, hb⟩
theorem isI_nil (w : World) : wo.IsI w none 0 0 [] := ⟨rfl, Nat.le_refl _, by omega, fun h => absurd h (by simp), fun x hx => by cases hx⟩
end Go.Proofs.Yteeianandjokaaa.vk
/- The reference's: Valid, Alike, Compare, Same, Metric. -/
namespace Go.Proofs.Yteeianandjokaaa.vk

open Go.ChangeShapes Go.WideShapes Go.ChangeAt Go.RowKit

set_option linter.unusedVariables false
theorem all_drop {l : List Int} {k : Nat} {x : Int} {p : Int → Bool} (h : l[k]? = some x) : (l.drop k).all p = (p x && (l.drop (k + 1)).all p) := by
  rw [drop_at h]; rfl
set_option maxRecDepth 100000 in
theorem rvalid_calls (A : Option Addr) (n c : Nat) (l : List Int) (w : World) (h : wo.IsI w A n c l) :
    Calls Try.prog 74 #[.slice A n c] w fun e w' => e = .returned (.bool (vq.valid l)) ∧ w' = w := by
  have hl := h.1
  have hE : vq.valid l = (decide (1 ≤ n) && decide (n ≤ 32) && l.all vq.okc) := by simp only [vq.valid, hl]
  rw [hE]
  have H := Lib.hid h
  have hm := h.2.2.1
  have hnc := h.2.1
  clear h hE hl
  go_enter Try.func74, Try.ntmps74
  go_wp2_with fail
  go_loopg [3] n (fun g x wr => ∃ k : Nat, k + g = n ∧ x = .int .i64 (k : Int) ∧ wr = w ∧ (l.drop k).all vq.okc = l.all vq.okc)
  case atStart => exact ⟨0, by omega, rfl, rfl, rfl⟩
  case round =>
    obtain ⟨k, hk, rfl, rfl, hr⟩ := hrel
    have HK := Lib.hid hk
    have HR := Lib.hid hr
    have hkn : k ≤ n := by omega
    clear hk hr
    by_cases hlt : k < n
    · obtain ⟨b, o, x, rfl, hc, hx, -, -⟩ := isI_at H.out hlt
      have hr := HR.out
      rw [all_drop hx] at hr
      have HR2 := Lib.hid hr
      clear hr hx
      by_cases h3 : x < -1000
      · go_wp2_with fail
        go_ret
        have := HR2.out
        have hx : vq.okc x = false := by simp [vq.okc]; omega
        rw [hx, Bool.false_and] at this
        refine ⟨?_, rfl⟩
        rw [← this]
        simp
      · by_cases h4 : 1000 < x
        · go_wp2_with fail
          go_ret
          have := HR2.out
          have hx : vq.okc x = false := by simp [vq.okc]; omega
          rw [hx, Bool.false_and] at this
          refine ⟨?_, rfl⟩
          rw [← this]
          simp
        · go_wp2_with fail
          go_roundg (gk - 1)
          case measure => have := HK.out; omega
          case rel =>
            refine ⟨k + 1, by have := HK.out; omega, by go_num, rfl, ?_⟩
            have := HR2.out
            have hx : vq.okc x = true := by simp [vq.okc]; omega
            rw [hx, Bool.true_and] at this
            exact this
    · have hall : l.all vq.okc = true := by
        have := HR.out
        rw [List.drop_of_length_le (by have := H.out.1; omega)] at this
        exact this.symm
      have HALL := Lib.hid hall
      clear hall
      by_cases h1 : 1 ≤ n
      · go_wp2_with fail
        go_ret
        exact ⟨by rw [HALL.out]; simp [h1]; omega, rfl⟩
      · go_wp2_with fail
        go_ret
        exact ⟨by first | rfl | simp [h1], rfl⟩
theorem decide_cast (a b : Nat) : decide ((a : Int) ≤ (b : Int)) = decide (a ≤ b) := by simp
set_option maxRecDepth 100000 in
theorem ralike_calls (A A' : Option Addr) (n n' c c' : Nat) (a b : List Int) (w : World) (h : wo.IsI w A n c a) (h' : wo.IsI w A' n' c' b) :
    Calls Try.prog 53 #[.slice A n c, .slice A' n' c'] w fun e w' => e = .returned (.bool (vq.alike a b)) ∧ w' = w := by
  have hl := h.1
  have hl' := h'.1
  have HA := Lib.hid (rvalid_calls A n c a w h)
  have HB := Lib.hid (rvalid_calls A' n' c' b w h')
  have hE : vq.alike a b = (decide (n = n') && vq.valid a && vq.valid b) := by simp only [vq.alike, hl, hl']
  rw [hE]
  clear h h' hl hl' hE
  cases hva : vq.valid a
  · rw [hva] at HA
    go_enter Try.func53, Try.ntmps53
    go_wp2_with fail
    refine HA.out.mono ?_
    rintro e w' ⟨rfl, rfl⟩
    go_wp2_with fail
    go_ret
    exact ⟨by simp, rfl⟩
  · cases hvb : vq.valid b
    · rw [hva] at HA
      rw [hvb] at HB
      go_enter Try.func53, Try.ntmps53
      go_wp2_with fail
      refine HA.out.mono ?_
      rintro e w' ⟨rfl, rfl⟩
      go_wp2_with fail
      refine HB.out.mono ?_
      rintro e w' ⟨rfl, rfl⟩
      go_wp2_with fail
      go_ret
      exact ⟨by simp, rfl⟩
    · rw [hva] at HA
      rw [hvb] at HB
      go_enter Try.func53, Try.ntmps53
      go_wp2_with fail
      refine HA.out.mono ?_
      rintro e w' ⟨rfl, rfl⟩
      go_wp2_with fail
      refine HB.out.mono ?_
      rintro e w' ⟨rfl, rfl⟩
      go_wp2_with fail
      go_ret
      refine ⟨?_, rfl⟩
      simp
      rw [Bool.eq_iff_iff]
      simp <;> omega
end Go.Proofs.Yteeianandjokaaa.vk
/- The reference's: Difference, Dot, Sub, Norm, Key. -/
namespace Go.Proofs.Yteeianandjokaaa.vq
def okd (x : Int) : Bool := decide (-2000 ≤ x) && decide (x ≤ 2000)
def diff (v : List Int) : Bool := decide (1 ≤ v.length) && decide (v.length ≤ 32) && v.all okd
theorem diff_iff {v : List Int} : diff v = true ↔ 1 ≤ v.length ∧ v.length ≤ 32 ∧ ∀ x ∈ v, -2000 ≤ x ∧ x ≤ 2000 := by
  simp [diff, okd, List.all_eq_true, and_assoc]
def growR (m n x : Int) : Int := if m = 1 then n + ab x else if m = 2 then n + x * x else max n (ab x)
theorem growR_eq {m n x : Int} (h1 : 1 ≤ m) (h2 : m ≤ 3) : growR m n x = grow m n x := by
  unfold growR grow ab
  split
  · rfl
  · split
    · rfl
    · rw [if_pos (by omega)]; omega
end Go.Proofs.Yteeianandjokaaa.vq

namespace Go.Proofs.Yteeianandjokaaa.vk

open Go.ChangeShapes Go.WideShapes Go.ChangeAt Go.RowKit

set_option linter.unusedVariables false
theorem few_diff {l : List Int} (h : vq.diff l = true) : Few l := (vq.diff_iff.1 h).2.2
set_option maxRecDepth 100000 in
theorem size_calls (x : Int) (w : World) (h1 : -2000 ≤ x) (h2 : x ≤ 2000) : Calls Try.prog 112 #[.int .i64 x] w fun e w' => e = .returned (.int .i64 (vq.ab x)) ∧ w' = w := by
  by_cases h : x < 0
  all_goals
    go_enter Try.func112, Try.ntmps112
    go_wp2_with fail
    go_ret
    exact ⟨wp.ret_i64 (by unfold vq.ab; omega), rfl⟩
set_option maxRecDepth 100000 in
set_option maxHeartbeats 1000000 in
theorem rsub_calls (A A' : Option Addr) (n c c' : Nat) (a b : List Int) (w : World) (h : wo.IsI w A n c a) (h' : wo.IsI w A' n c' b) (ha : Few a) (hb : Few b) (hn : n ≤ 32) :
    Calls Try.prog 108 #[.slice A n c, .slice A' n c'] w fun e w' => ∃ A2 c2, e = .returned (.slice A2 n c2) ∧ wo.IsI w' A2 n c2 (vq.sub a b) ∧ Below w.heap.size w w' := by
  obtain ⟨i0, hi, hz0, hz1, hz2⟩ := info_parts wi.infoI
  have hls := vq.sub_length (a := a) (b := b) (by have := h.1; have := h'.1; omega)
  have HE : Hid ((vq.sub a b).take n = vq.sub a b) := List.take_of_length_le (by have := h.1; omega)
  have HBD : Hid (∀ x ∈ vq.sub a b, -9223372036854775808 ≤ x ∧ x ≤ 9223372036854775807) := fun x hx => by
    obtain ⟨p, hp, rfl⟩ := List.mem_map.1 hx
    have h1 := List.of_mem_zip hp
    have := ha _ h1.1; have := hb _ h1.2
    omega
  have H := Lib.hid h
  have H' := Lib.hid h'
  have hm := h.2.2.1
  have hnc := h.2.1
  have hm' := h'.2.2.1
  have hnc' := h'.2.1
  have HA := Lib.hid ha
  have HB := Lib.hid hb
  clear h h' ha hb hls
  go_enter Try.func108, Try.ntmps108
  go_wp2_with fail
  generalize hG : w.heap.size = B at *
  have HG := Lib.hid hG
  clear hG
  go_loopg [5, 6] n (fun g v x wr => ∃ (k : Nat), k + g = n ∧ x = .int .i64 (k : Int) ∧ wr.ownsRow B 3 1 v k (iv ((vq.sub a b).take k)) ∧ Below B w wr)
  case atStart => exact ⟨0, by omega, rfl, World.ownsRow_nil _ _ _ _, Below.refl _ _⟩
  case round =>
    obtain ⟨k, hk, rfl, hown, hbel⟩ := hrel
    have HK := Lib.hid hk
    have HOWN := Lib.hid hown
    have HBEL := Lib.hid hbel
    have hkn : k ≤ n := by omega
    have HBW : Hid (B ≤ wr.heap.size) := by have := hbel.size; have := HG.out; show _ ≤ _; omega
    clear hk hown hbel
    by_cases hlt : k < n
    · obtain ⟨b1, o1, x, rfl, hc, hx, -, -⟩ := isI_at (isI_below H.out (by rw [HG.out]; exact HBEL.out)) hlt
      obtain ⟨b2, o2, y, rfl, hc', hy, -, -⟩ := isI_at (isI_below H'.out (by rw [HG.out]; exact HBEL.out)) hlt
      have f1 := HA.out.at hx
      have f2 := HB.out.at hy
      have HS := Lib.hid (vq.take_snoc (vq.sub_at hx hy))
      have HM1 : Hid (k + 1 ≤ maxLen) := by show _ ≤ _; unfold maxLen; omega
      have HM2 : Hid ((k + 1) * 8 ≤ 140737488355328) := by show _ ≤ _; omega
      have HM3 : Hid (B ≤ (wr.alloc (.cells #[.int .i64 (x - y)] 3)).drew.heap.size) := by have := HBW.out; show _ ≤ _; simp; omega
      have HO : Hid (∀ u ∈ [Value.int .i64 (x - y)], u.oneCell' = true) := by intro u hu; simp at hu; subst hu; rfl
      have HCN : Hid (∀ j u, [Value.int .i64 (x - y)][j]? = some u → (wr.alloc (.cells #[.int .i64 (x - y)] 3)).drew.cell? ((⟨wr.heap.size, 0, none⟩ : Addr).add j) = some u) := wk.cells_new wr [.int .i64 (x - y)] 3
      have hwr : IntKind.i64.wrap (x - y) = x - y := by rw [IntKind.wrap_i64]; omega
      clear hx hy
      go_wp2_with fail
      go_region_law (rw [if_pos (by rfl)]; refine wp_append_own _ (.tmp 13) (.tmp 23) 23 rfl B 3 i0 (.int .i64 0) 1 8 Try.underlying23 hi hz0 hz1 hz2 rfl (by decide) _ _ _ rfl (HOWN.out.drew.alloc _) ⟨wr.heap.size, 0, none⟩ 1 1 [.int .i64 (x - y)] rfl rfl HCN.out HO.out HM1.out HM2.out HM3.out ?_; intro v' w2 hown' hgrow _)
      all_goals
        have hb2 : Below B wr w2 := (((Below.refl _ _).alloc HBW.out _).drew).grown hgrow (by have := HBW.out; simp; omega) (fun g hg => (HOWN.out.lt g hg).1)
        have HB2 := Lib.hid hb2
        have HO2 := Lib.hid hown'
        clear hb2 hgrow hown'
        go_wp2_with fail
        go_roundg (gk - 1)
        case measure => have := HK.out; omega
        case rel =>
          refine ⟨k + 1, by have := HK.out; omega, by go_num, ?_, HBEL.out.trans HB2.out⟩
          have h := HO2.out
          rw [HS.out]
          unfold iv
          rw [List.map_append]
          exact h
    · have hkn2 : k = n := by omega
      have ho := HOWN.out
      rw [hkn2, HE.out] at ho
      obtain ⟨A2, c2, rfl, hI⟩ := isI_of_own ho HBD.out
      have HI := Lib.hid hI
      clear ho hI
      go_wp2_with fail
      go_ret
      exact ⟨A2, c2, rfl, HI.out, by rw [HG.out]; exact HBEL.out⟩
set_option maxRecDepth 100000 in
set_option maxHeartbeats 1000000 in
theorem rnorm1_calls (A : Option Addr) (n c : Nat) (a : List Int) (w : World) (h : wo.IsI w A n c a) (ha : Few a) (hn : n ≤ 32) :
    Calls Try.prog 107 #[.int .i64 1, .slice A n c] w fun e w' => e = .returned (.int .i64 (vq.norm 1 a)) ∧ ∃ q, w' = w.drewN q := by
  have H := Lib.hid h
  have hm := h.2.2.1
  have hnc := h.2.1
  have HA := Lib.hid ha
  have HE : Hid (a.take n = a) := List.take_of_length_le (by have := h.1; omega)
  clear h ha
  go_enter Try.func107, Try.ntmps107
  go_wp2_with fail
  go_loopg [5, 6] n (fun g s x wr => ∃ (k q : Nat) (z : Int), k + g = n ∧ x = .int .i64 (k : Int) ∧ s = .int .i64 z ∧ z = vq.norm 1 (a.take k) ∧ 0 ≤ z ∧ z ≤ 4000000 * k ∧ wr = w.drewN q)
  case atStart => exact ⟨0, 0, 0, by omega, rfl, rfl, rfl, by omega, by omega, rfl⟩
  case round =>
    obtain ⟨k, q, z, hk, rfl, rfl, hz, hlo, hhi, rfl⟩ := hrel
    have HK := Lib.hid hk
    have HZ := Lib.hid hz
    have hkn : k ≤ n := by omega
    clear hk hz
    by_cases hlt : k < n
    · obtain ⟨b1, o1, x, rfl, hc, hx, -, -⟩ := isI_at H.out hlt
      have f1 := HA.out.at hx
      have hm := vq.sq_le2000 f1.1 f1.2
      have hm2 := vq.sq_nonneg x
      have hab : 0 ≤ vq.ab x ∧ vq.ab x ≤ 2000 := by unfold vq.ab; omega
      have HS := Lib.hid (vq.norm_snoc 1 hx)
      have HC := Lib.hid (fun w' => size_calls x w' f1.1 f1.2)
      clear hx
      go_wp2_with fail
      refine (HC.out _).mono ?_
      rintro e w' ⟨rfl, rfl⟩
      go_wp2_with fail
      all_goals
        go_roundg (gk - 1)
        case measure => have := HK.out; omega
        case rel => exact ⟨k + 1, _, _, by have := HK.out; omega, by go_num, rfl, by rw [HS.out, ← HZ.out]; unfold vq.grow; first | rfl | (unfold vq.ab at *; simp; omega) | (unfold vq.ab; simp), by omega, by omega, rfl⟩
    · go_wp2_with fail
      go_ret
      have hkn2 : k = n := by omega
      subst hkn2
      have := HZ.out
      rw [HE.out] at this
      exact ⟨by rw [← this]; rfl, q, rfl⟩
set_option maxRecDepth 100000 in
set_option maxHeartbeats 1000000 in
theorem rnorm2_calls (A : Option Addr) (n c : Nat) (a : List Int) (w : World) (h : wo.IsI w A n c a) (ha : Few a) (hn : n ≤ 32) :
    Calls Try.prog 107 #[.int .i64 2, .slice A n c] w fun e w' => e = .returned (.int .i64 (vq.norm 2 a)) ∧ ∃ q, w' = w.drewN q := by
  have H := Lib.hid h
  have hm := h.2.2.1
  have hnc := h.2.1
  have HA := Lib.hid ha
  have HE : Hid (a.take n = a) := List.take_of_length_le (by have := h.1; omega)
  clear h ha
  go_enter Try.func107, Try.ntmps107
  go_wp2_with fail
  go_loopg [5, 6] n (fun g s x wr => ∃ (k q : Nat) (z : Int), k + g = n ∧ x = .int .i64 (k : Int) ∧ s = .int .i64 z ∧ z = vq.norm 2 (a.take k) ∧ 0 ≤ z ∧ z ≤ 4000000 * k ∧ wr = w.drewN q)
  case atStart => exact ⟨0, 0, 0, by omega, rfl, rfl, rfl, by omega, by omega, rfl⟩
  case round =>
    obtain ⟨k, q, z, hk, rfl, rfl, hz, hlo, hhi, rfl⟩ := hrel
    have HK := Lib.hid hk
    have HZ := Lib.hid hz
    have hkn : k ≤ n := by omega
    clear hk hz
    by_cases hlt : k < n
    · obtain ⟨b1, o1, x, rfl, hc, hx, -, -⟩ := isI_at H.out hlt
      have f1 := HA.out.at hx
      have hm := vq.sq_le2000 f1.1 f1.2
      have hm2 := vq.sq_nonneg x
      have hab : 0 ≤ vq.ab x ∧ vq.ab x ≤ 2000 := by unfold vq.ab; omega
      have HS := Lib.hid (vq.norm_snoc 2 hx)
      have HC := Lib.hid (fun w' => size_calls x w' f1.1 f1.2)
      clear hx
      go_wp2_with fail
      go_quiet (fail)
      go_wp2_with fail
      all_goals
        go_roundg (gk - 1)
        case measure => have := HK.out; omega
        case rel => exact ⟨k + 1, _, _, by have := HK.out; omega, by go_num, rfl, by rw [HS.out, ← HZ.out]; unfold vq.grow; first | rfl | (unfold vq.ab at *; simp; omega) | (unfold vq.ab; simp), by omega, by omega, rfl⟩
    · go_wp2_with fail
      go_ret
      have hkn2 : k = n := by omega
      subst hkn2
      have := HZ.out
      rw [HE.out] at this
      exact ⟨by rw [← this]; rfl, q, rfl⟩
set_option maxRecDepth 100000 in
set_option maxHeartbeats 1000000 in
theorem rnorm3_calls (A : Option Addr) (n c : Nat) (a : List Int) (w : World) (h : wo.IsI w A n c a) (ha : Few a) (hn : n ≤ 32) :
    Calls Try.prog 107 #[.int .i64 3, .slice A n c] w fun e w' => e = .returned (.int .i64 (vq.norm 3 a)) ∧ ∃ q, w' = w.drewN q := by
  have H := Lib.hid h
  have hm := h.2.2.1
  have hnc := h.2.1
  have HA := Lib.hid ha
  have HE : Hid (a.take n = a) := List.take_of_length_le (by have := h.1; omega)
  clear h ha
  go_enter Try.func107, Try.ntmps107
  go_wp2_with fail
  go_loopg [5, 6] n (fun g s x wr => ∃ (k q : Nat) (z : Int), k + g = n ∧ x = .int .i64 (k : Int) ∧ s = .int .i64 z ∧ z = vq.norm 3 (a.take k) ∧ 0 ≤ z ∧ z ≤ 4000000 * k ∧ wr = w.drewN q)
  case atStart => exact ⟨0, 0, 0, by omega, rfl, rfl, rfl, by omega, by omega, rfl⟩
  case round =>
    obtain ⟨k, q, z, hk, rfl, rfl, hz, hlo, hhi, rfl⟩ := hrel
    have HK := Lib.hid hk
    have HZ := Lib.hid hz
    have hkn : k ≤ n := by omega
    clear hk hz
    by_cases hlt : k < n
    · obtain ⟨b1, o1, x, rfl, hc, hx, -, -⟩ := isI_at H.out hlt
      have f1 := HA.out.at hx
      have hm := vq.sq_le2000 f1.1 f1.2
      have hm2 := vq.sq_nonneg x
      have hab : 0 ≤ vq.ab x ∧ vq.ab x ≤ 2000 := by unfold vq.ab; omega
      have HS := Lib.hid (vq.norm_snoc 3 hx)
      have HC := Lib.hid (fun w' => size_calls x w' f1.1 f1.2)
      clear hx
      go_wp2_with fail
      refine (HC.out _).mono ?_
      rintro e w' ⟨rfl, rfl⟩
      go_wp2_with fail
      all_goals
        go_roundg (gk - 1)
        case measure => have := HK.out; omega
        case rel => exact ⟨k + 1, _, _, by have := HK.out; omega, by go_num, rfl, by rw [HS.out, ← HZ.out]; unfold vq.grow; first | rfl | (unfold vq.ab at *; simp; omega) | (unfold vq.ab; simp), by omega, by omega, rfl⟩
    · go_wp2_with fail
      go_ret
      have hkn2 : k = n := by omega
      subst hkn2
      have := HZ.out
      rw [HE.out] at this
      exact ⟨by rw [← this]; rfl, q, rfl⟩
theorem rnorm_calls (m : Int) (A : Option Addr) (n c : Nat) (a : List Int) (w : World) (h1 : 1 ≤ m) (h2 : m ≤ 3) (h : wo.IsI w A n c a) (ha : Few a) (hn : n ≤ 32) :
    Calls Try.prog 107 #[.int .i64 m, .slice A n c] w fun e w' => e = .returned (.int .i64 (vq.norm m a)) ∧ ∃ q, w' = w.drewN q := by
  rcases (by omega : m = 1 ∨ m = 2 ∨ m = 3) with rfl | rfl | rfl
  · exact rnorm1_calls A n c a w h ha hn
  · exact rnorm2_calls A n c a w h ha hn
  · exact rnorm3_calls A n c a w h ha hn
set_option maxRecDepth 100000 in
theorem rkey_calls (m : Int) (A A' : Option Addr) (n c c' : Nat) (a b : List Int) (w : World) (h1 : 1 ≤ m) (h2 : m ≤ 3) (h : wo.IsI w A n c a) (h' : wo.IsI w A' n c' b) (ha : Few a) (hb : Few b) (hf : Few (vq.sub a b)) (hn : n ≤ 32) :
    Calls Try.prog 81 #[.int .i64 m, .slice A n c, .slice A' n c'] w fun e w' => e = .returned (.int .i64 (vq.key m a b)) ∧ Below w.heap.size w w' := by
  have HS := Lib.hid (rsub_calls A A' n c c' a b w h h' ha hb hn)
  have HN := Lib.hid (fun A2 c2 w' (hi : wo.IsI w' A2 n c2 (vq.sub a b)) => rnorm_calls m A2 n c2 (vq.sub a b) w' h1 h2 hi hf hn)
  clear h h' ha hb hf
  go_enter Try.func81, Try.ntmps81
  go_wp2_with fail
  refine HS.out.mono ?_
  rintro e w1 ⟨A2, c2, rfl, hI, hb⟩
  have HN1 := Lib.hid (HN.out A2 c2 w1 hI)
  have HB := Lib.hid hb
  clear hI hb HN
  go_wp2_with fail
  refine HN1.out.mono ?_
  rintro e w2 ⟨rfl, q, rfl⟩
  go_wp2_with fail
  go_ret
  exact ⟨rfl, below_drewN HB.out q⟩
end Go.Proofs.Yteeianandjokaaa.vk
/- Quotients, Clone. -/
namespace Go.Proofs.Yteeianandjokaaa.vq
theorem tdiv_cases (s n : Int) (hn : 1 ≤ n) : (s.tmod n < 0 ∧ s.tdiv n - 1 = s / n) ∨ (0 ≤ s.tmod n ∧ s.tdiv n = s / n) := by
  rw [Int.tdiv_eq_ediv, Int.tmod_eq_emod]
  have h0 := Int.emod_nonneg s (show n ≠ 0 by omega)
  have h1 := Int.emod_lt_of_pos s (show 0 < n by omega)
  have hs : n.sign = 1 := Int.sign_eq_one_of_pos (by omega)
  split
  · right; omega
  · left; rw [hs]; omega
theorem tdiv_bd {s n : Int} (hn : 1 ≤ n) (h1 : -1099511627776 ≤ s) (h2 : s ≤ 1099511627776) : -1099511627776 ≤ s.tdiv n ∧ s.tdiv n ≤ 1099511627776 := by
  rcases Int.le_total 0 s with h | h
  · have a := Int.tdiv_le_self (a := s) n h
    have b := Int.tdiv_nonneg h (show 0 ≤ n by omega)
    omega
  · have a := Int.tdiv_le_self (a := -s) n (by omega)
    have b := Int.tdiv_nonneg (show 0 ≤ -s by omega) (show 0 ≤ n by omega)
    rw [Int.neg_tdiv] at a b
    omega
end Go.Proofs.Yteeianandjokaaa.vq

namespace Go.Proofs.Yteeianandjokaaa.vk

open Go.ChangeShapes Go.WideShapes Go.ChangeAt Go.RowKit

set_option linter.unusedVariables false
end Go.Proofs.Yteeianandjokaaa.vk
/- Mean. -/
namespace Go.Proofs.Yteeianandjokaaa.vq
def vadd (a b : List Int) : List Int := List.zipWith (· + ·) a b
def sums (m : List Int) (T : List (List Int)) : List Int := T.foldl vadd m
def mean (L : List (List Int)) : List Int := (sums (L.headD []) (L.drop 1)).map (· / (L.length : Int))
theorem vadd_length {a b : List Int} (h : a.length = b.length) : (vadd a b).length = a.length := by simp [vadd, h]
theorem vadd_at {a b : List Int} {i : Nat} {x y : Int} (h : a[i]? = some x) (h' : b[i]? = some y) : (vadd a b)[i]? = some (x + y) := by
  simp [vadd, List.getElem?_zipWith, h, h']
theorem sums_length {d : Nat} : ∀ (T : List (List Int)) (m : List Int), m.length = d → (∀ l ∈ T, l.length = d) → (sums m T).length = d
  | [], m, h, _ => h
  | l :: T, m, h, hT => by
    have h1 := hT l (by simp)
    exact sums_length T (vadd m l) (by rw [vadd_length (by omega)]; exact h) (fun x hx => hT x (by simp [hx]))
theorem sums_snoc (m : List Int) {T : List (List Int)} {k : Nat} {l : List Int} (h : T[k]? = some l) : sums m (T.take (k + 1)) = vadd (sums m (T.take k)) l := by
  rw [take_snoc h, sums, List.foldl_append]; rfl
theorem vadd_bd {a b : List Int} {c : Int} (ha : ∀ x ∈ a, -c ≤ x ∧ x ≤ c) (hb : ∀ x ∈ b, -1000 ≤ x ∧ x ≤ 1000) : ∀ x ∈ vadd a b, -(c + 1000) ≤ x ∧ x ≤ c + 1000 := by
  intro x hx
  obtain ⟨i, hi, rfl⟩ := List.mem_iff_getElem.1 hx
  have hi2 : i < a.length ∧ i < b.length := by simp [vadd] at hi; omega
  have h1 := ha _ (List.getElem_mem hi2.1)
  have h2 := hb _ (List.getElem_mem hi2.2)
  simp only [vadd, List.getElem_zipWith]
  omega
theorem sums_bd : ∀ (T : List (List Int)) (m : List Int) (c : Int), (∀ x ∈ m, -c ≤ x ∧ x ≤ c) → (∀ l ∈ T, ∀ x ∈ l, -1000 ≤ x ∧ x ≤ 1000) → ∀ x ∈ sums m T, -(c + 1000 * T.length) ≤ x ∧ x ≤ c + 1000 * T.length
  | [], m, c, h, _ => by intro x hx; have := h x hx; simp; omega
  | l :: T, m, c, h, hT => by
    have h1 := vadd_bd h (hT l (by simp))
    have h2 := sums_bd T (vadd m l) (c + 1000) h1 (fun x hx => hT x (by simp [hx]))
    intro x hx
    have := h2 x hx
    simp only [List.length_cons]
    omega
/-- partly done -/
def part (p q : List Int) (i : Nat) : List Int := p.take i ++ q.drop i
theorem part_zero (p q : List Int) : part p q 0 = q := by simp [part]
theorem part_end {p q : List Int} {i : Nat} (h1 : p.length = i) (h2 : q.length = i) : part p q i = p := by
  rw [part, List.take_of_length_le (by omega), List.drop_of_length_le (by omega), List.append_nil]
theorem part_at {p q : List Int} {i : Nat} {x : Int} (hp : i ≤ p.length) (h : q[i]? = some x) : (part p q i)[i]? = some x := by
  rw [part, List.getElem?_append_right (by rw [List.length_take]; omega), List.length_take, Nat.min_eq_left hp, Nat.sub_self, List.getElem?_drop, Nat.add_zero, h]
theorem part_set {p q : List Int} {i : Nat} {x y : Int} (hp : p[i]? = some x) (hq : q[i]? = some y) : (part p q i).set i x = part p q (i + 1) := by
  obtain ⟨hip, _⟩ := List.getElem?_eq_some_iff.1 hp
  obtain ⟨hiq, _⟩ := List.getElem?_eq_some_iff.1 hq
  rw [part, part, take_snoc hp, List.set_append_right _ _ (by rw [List.length_take]; omega), List.length_take, Nat.min_eq_left (by omega), Nat.sub_self, List.drop_eq_getElem_cons hiq, List.set_cons_zero]
  simp
theorem part_length {p q : List Int} {d i : Nat} (h1 : p.length = d) (h2 : q.length = d) (hi : i ≤ d) : (part p q i).length = d := by
  simp [part, h1, h2]; omega
theorem map_at {a : List Int} {n : Int} {i : Nat} {x : Int} (h : a[i]? = some x) : (a.map (· / n))[i]? = some (x / n) := by simp [h]
end Go.Proofs.Yteeianandjokaaa.vq

namespace Go.Proofs.Yteeianandjokaaa.vk

open Go.ChangeShapes Go.WideShapes Go.ChangeAt Go.RowKit

set_option linter.unusedVariables false
/-- a slice of slices of integers -/
def IsVV (w : World) (A : Option Addr) (n c : Nat) (L : List (List Int)) : Prop :=
  L.length = n ∧ n ≤ c ∧ c ≤ 9223372036854775807 ∧ ∀ k l, L[k]? = some l → ∃ b o A' n' c', A = some ⟨b, o, none⟩ ∧ b < w.heap.size ∧ w.cell? ⟨b, o + k, none⟩ = some (.slice A' n' c') ∧ wo.IsI w A' n' c' l
theorem isVV_below {w w' : World} {A : Option Addr} {n c : Nat} {L : List (List Int)} (h : IsVV w A n c L) (hb : Below w.heap.size w w') : IsVV w' A n c L :=
  ⟨h.1, h.2.1, h.2.2.1, fun k l hk => by
    obtain ⟨b, o, A', n', c', hA, hlt, hc, hI⟩ := h.2.2.2 k l hk
    exact ⟨b, o, A', n', c', hA, Nat.lt_of_lt_of_le hlt hb.size, (hb.cell (p := ⟨b, o + k, none⟩) hlt).trans hc, isI_below hI hb⟩⟩
theorem isVV_drewN {w : World} {A : Option Addr} {n c : Nat} {L : List (List Int)} (h : IsVV w A n c L) (q : Nat) : IsVV (w.drewN q) A n c L := h
theorem infoV : (Try.prog.info? 23).map (·.size) = some 1 := by kernel_rfl
/-- 'l[1:]' -/
theorem run_tail (w' : World) (A : Option Addr) (n c : Nat) (h1 : 1 ≤ n) (hc : n ≤ c) : (Instr.slice 22 (.slice A n c) (some (.int .i64 1)) none none).run Try.prog w' = .ok (.slice (if c = 1 then A else A.map (·.add 1)) (n - 1) (c - 1)) w' := by
  have ht : Try.prog.underlying 22 = some (.slice (Try.prog.elem 22)) := by simp [Program.elem, Try.underlying22]
  have he : Try.prog.elem 22 = 23 := by simp [Program.elem, Try.underlying22]
  rw [run_slice_l w' 22 A n c ht .i64 1 (by omega) (by omega), he, wk.run_sizeOf w' 23 1 infoV]
  simp only [Result.andThen, sliced]
  rfl
end Go.Proofs.Yteeianandjokaaa.vk
