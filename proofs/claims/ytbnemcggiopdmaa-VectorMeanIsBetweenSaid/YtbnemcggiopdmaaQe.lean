/- Norms grow; Dot, Norm, Key. -/
import Derived.Test.YtbnemcggiopdmaaQd

namespace Go.Proofs.Ytbnemcggiopdmaa.vk

open Go.ChangeShapes Go.WideShapes Go.ChangeAt Go.RowKit

set_option linter.unusedVariables false
set_option maxRecDepth 100000 in
theorem grow_calls (m n x : Int) (w : World) (h0 : 0 ≤ n) (hn : n ≤ 1099511627776) (h1 : -2000 ≤ x) (h2 : x ≤ 2000) :
    Calls Try.prog (gf m) #[.int .i64 n, .int .i64 x] w fun e w' => e = .returned (.int .i64 (vq.grow m n x)) ∧ w' = w := by
  have q1 := vq.sq_le2000 h1 h2
  have q2 := vq.sq_nonneg x
  unfold gf vq.grow
  by_cases e1 : m = 1
  · rw [if_pos e1, if_pos e1]
    clear e1
    go_enter Try.func58, Try.ntmps58
    go_wp2_with fail
    all_goals
      go_ret
      exact ⟨wp.ret_i64 (by omega), rfl⟩
  by_cases e2 : m = 2
  · rw [if_neg e1, if_pos e2, if_neg e1, if_pos e2]
    clear e1 e2
    go_enter Try.func59, Try.ntmps59
    go_wp2_with fail
    go_ret
    exact ⟨rfl, rfl⟩
  by_cases e3 : m = 3
  · rw [if_neg e1, if_neg e2, if_pos e3, if_neg e1, if_neg e2, if_pos e3]
    clear e1 e2 e3
    go_enter Try.func60, Try.ntmps60
    go_wp2_with fail
    all_goals
      go_ret
      exact ⟨wp.ret_i64 (by omega), rfl⟩
  · rw [if_neg e1, if_neg e2, if_neg e3, if_neg e1, if_neg e2, if_neg e3]
    clear e1 e2 e3
    go_enter Try.func61, Try.ntmps61
    go_wp2_with fail
    go_ret
    exact ⟨rfl, rfl⟩
set_option maxRecDepth 100000 in
set_option maxHeartbeats 2000000 in
theorem growth_calls (m : Int) (w : World) (h0 : -9223372036854775808 ≤ m) (h1 : m ≤ 9223372036854775807) :
    Calls Try.prog 46 #[.int .i64 m] w fun e w' => e = .returned (.func (.func (gf m)) #[] #[]) ∧ Below w.heap.size w w' := by
  have hmm := @run_makeMap Try.prog
  go_enter Try.func46, Try.ntmps46
  have hn0 := heap_alloc_new w (.map #[] 0)
  have hb0 := below_new w (.map #[] 0)
  go_wp2_with (refine ins_step rfl 61 (.tmp 6) (.const (.int .i64 1)) (.func 58) rfl w.heap.size #[] 0 rfl 3 51 Try.underlying61 Try.underlying3 1 rfl hn0 rfl ?_)
  intro w1 hw1 _ hb1
  have hw1' : w1.heap[w.heap.size]? = some (.map #[en 1 58 0] 1) := hw1
  clear hw1
  replace hb1 := hb0.trans (hb1 w.heap.size (Nat.le_refl _))
  go_wp2_with (refine ins_step rfl 61 (.tmp 6) (.const (.int .i64 2)) (.func 59) rfl w.heap.size #[en 1 58 0] 1 rfl 3 51 Try.underlying61 Try.underlying3 2 rfl hw1' rfl ?_)
  intro w2 hw2 _ hb2
  have hw2' : w2.heap[w.heap.size]? = some (.map #[en 1 58 0, en 2 59 1] 2) := hw2
  clear hw2
  replace hb2 := hb1.trans (hb2 w.heap.size (Nat.le_refl _))
  go_wp2_with (refine ins_step rfl 61 (.tmp 6) (.const (.int .i64 3)) (.func 60) rfl w.heap.size #[en 1 58 0, en 2 59 1] 2 rfl 3 51 Try.underlying61 Try.underlying3 3 rfl hw2' rfl ?_)
  intro w3 hw3 _ hb3
  have hw3' : w3.heap[w.heap.size]? = some (.map #[en 1 58 0, en 2 59 1, en 3 60 2] 3) := hw3
  clear hw3
  replace hb3 := hb2.trans (hb3 w.heap.size (Nat.le_refl _))
  have hl := run_look (P := Try.prog) (w := w3) 61 w.heap.size _ 3 3 51 Try.underlying61 Try.underlying3 m hw3' .nilFunc (zeroF w3) _ (find3 m 58 59 60)
  have HB3 := Lib.hid hb3
  clear hb0 hb1 hb2 hb3 hn0 hw1' hw2' hw3' hmm
  by_cases e1 : m = 1
  · rw [if_pos e1] at hl
    simp only [lookRes] at hl
    have hG : gf m = 58 := by unfold gf; rw [if_pos e1]
    have HG := Lib.hid hG
    clear hG
    go_wp2_with (refine look_step rfl 61 (.tmp 7) (.tmp 8) rfl _ _ _ rfl rfl hl ?_)
    go_wp2_with fail
    go_ret
    rw [HG.out]
    exact ⟨rfl, HB3.out⟩
  by_cases e2 : m = 2
  · rw [if_neg e1, if_pos e2] at hl
    simp only [lookRes] at hl
    have hG : gf m = 59 := by unfold gf; rw [if_neg e1, if_pos e2]
    have HG := Lib.hid hG
    clear hG
    go_wp2_with (refine look_step rfl 61 (.tmp 7) (.tmp 8) rfl _ _ _ rfl rfl hl ?_)
    go_wp2_with fail
    go_ret
    rw [HG.out]
    exact ⟨rfl, HB3.out⟩
  by_cases e3 : m = 3
  · rw [if_neg e1, if_neg e2, if_pos e3] at hl
    simp only [lookRes] at hl
    have hG : gf m = 60 := by unfold gf; rw [if_neg e1, if_neg e2, if_pos e3]
    have HG := Lib.hid hG
    clear hG
    go_wp2_with (refine look_step rfl 61 (.tmp 7) (.tmp 8) rfl _ _ _ rfl rfl hl ?_)
    go_wp2_with fail
    go_ret
    rw [HG.out]
    exact ⟨rfl, HB3.out⟩
  · rw [if_neg e1, if_neg e2, if_neg e3] at hl
    simp only [lookRes] at hl
    have hG : gf m = 61 := by unfold gf; rw [if_neg e1, if_neg e2, if_neg e3]
    have HG := Lib.hid hG
    clear hG
    go_wp2_with (refine look_step rfl 61 (.tmp 7) (.tmp 8) rfl _ _ _ rfl rfl hl ?_)
    go_wp2_with fail
    go_ret
    rw [HG.out]
    exact ⟨rfl, HB3.out⟩
set_option maxRecDepth 100000 in
theorem dot1_calls (g g' : Nat) (A A' : Option Addr) (n n' c c' k : Nat) (a b : List Int) (s x y : Int) (w : World) (hg : Box w g (.slice A n c)) (hg' : Box w g' (.slice A' n' c')) (h : wo.IsI w A n c a) (h' : wo.IsI w A' n' c' b)
    (hx : a[k]? = some x) (hy : b[k]? = some y) (h1 : -2000 ≤ x) (h2 : x ≤ 2000) (h3 : -2000 ≤ y) (h4 : y ≤ 2000) (hs : -1099511627776 ≤ s) (hs' : s ≤ 1099511627776) :
    Calls Try.prog 45 #[.int .i64 s, .int .i64 k, .pointer (some ⟨g, 0, none⟩), .pointer (some ⟨g', 0, none⟩)] w fun e w' => e = .returned (.int .i64 (s + x * y)) ∧ ∃ q, w' = w.drewN q := by
  have hk : k < n := by
    rcases Nat.lt_or_ge k n with h'' | h''
    · exact h''
    · rw [List.getElem?_eq_none (by have := h.1; omega)] at hx; cases hx
  have hk' : k < n' := by
    rcases Nat.lt_or_ge k n' with h'' | h''
    · exact h''
    · rw [List.getElem?_eq_none (by have := h'.1; omega)] at hy; cases hy
  obtain ⟨b1, o1, x', rfl, hc1, hx', -, -⟩ := isI_at h hk
  obtain ⟨b2, o2, y', rfl, hc2, hy', -, -⟩ := isI_at h' hk'
  rw [hx] at hx'; rw [hy] at hy'
  cases hx'; cases hy'
  have hcb := hg.cell
  have hcb' := hg'.cell
  have hm := h.2.2.1
  have hm' := h'.2.2.1
  have hn := h.2.1
  have hn' := h'.2.1
  obtain ⟨q1, q2⟩ := vq.mul_le1000 h1 h2 h3 h4
  clear h h' hg hg' hx hy
  go_enter Try.func45, Try.ntmps45
  go_wp2_with fail
  go_quiet (fail)
  go_wp2_with fail
  go_ret
  exact ⟨rfl, _, rfl⟩

theorem isI_get {w : World} {A : Option Addr} {n c k : Nat} {l : List Int} {x : Int} (h : wo.IsI w A n c l) (hx : l[k]? = some x) : k < n ∧ ∃ b o, A = some ⟨b, o, none⟩ ∧ w.cell? ⟨b, o + k, none⟩ = some (.int .i64 x) := by
  have hk : k < n := by
    rcases Nat.lt_or_ge k n with h'' | h''
    · exact h''
    · rw [List.getElem?_eq_none (by have := h.1; omega)] at hx; cases hx
  obtain ⟨b, o, x', hA, hc, hx', -, -⟩ := isI_at h hk
  rw [hx] at hx'; cases hx'
  exact ⟨hk, b, o, hA, hc⟩
theorem gf_cases (m : Int) : gf m = 58 ∨ gf m = 59 ∨ gf m = 60 ∨ gf m = 61 := by
  unfold gf
  repeat' split
  all_goals simp
theorem gf_call (m : Int) : ∀ (args : Array Value) (w' : World), (callFunc (gf m) args).run Try.prog w' = .ok (.enter (gf m) args) w' := by
  intro args w'
  unfold gf
  split
  · kernel_rfl
  · split
    · kernel_rfl
    · split <;> kernel_rfl
set_option maxRecDepth 100000 in
set_option maxHeartbeats 2000000 in
theorem key1_calls (m : Int) (g0 g g' : Nat) (A A' : Option Addr) (n n' c c' k : Nat) (a b : List Int) (s x y : Int) (w : World) (hf : Box w g0 (.func (.func (gf m)) #[] #[])) (hg : Box w g (.slice A n c)) (hg' : Box w g' (.slice A' n' c')) (h : wo.IsI w A n c a) (h' : wo.IsI w A' n' c' b)
    (hx : a[k]? = some x) (hy : b[k]? = some y) (h1 : -2000 ≤ x - y) (h2 : x - y ≤ 2000) (hs : 0 ≤ s) (hs' : s ≤ 1099511627776) :
    Calls Try.prog 47 #[.int .i64 s, .int .i64 k, .pointer (some ⟨g0, 0, none⟩), .pointer (some ⟨g, 0, none⟩), .pointer (some ⟨g', 0, none⟩)] w fun e w' => e = .returned (.int .i64 (vq.grow m s (x - y))) ∧ ∃ q, w' = w.drewN q := by
  obtain ⟨hk, b1, o1, rfl, hc1⟩ := isI_get h hx
  obtain ⟨hk', b2, o2, rfl, hc2⟩ := isI_get h' hy
  have hcb := hg.cell
  have hcb' := hg'.cell
  have hcf := hf.cell
  have hm := h.2.2.1
  have hm' := h'.2.2.1
  have hn := h.2.1
  have hn' := h'.2.1
  have hG := fun (w' : World) => grow_calls m s (x - y) w' hs hs' h1 h2
  clear h h' hg hg' hx hy hf
  rcases gf_cases m with e | e | e | e
  all_goals
    rw [e] at hcf hG
    have HG := Lib.hid hG
    clear hG e
    go_enter Try.func47, Try.ntmps47
    go_wp2_with fail
    go_quiet (exact Calls.quiet_of_same (HG.out _))
    go_wp2_with fail
    go_ret
    exact ⟨rfl, _, rfl⟩
set_option maxRecDepth 100000 in
set_option maxHeartbeats 2000000 in
theorem norm1_calls (m : Int) (g0 g : Nat) (A : Option Addr) (n c k : Nat) (a : List Int) (s x : Int) (w : World) (hf : Box w g0 (.func (.func (gf m)) #[] #[])) (hg : Box w g (.slice A n c)) (h : wo.IsI w A n c a)
    (hx : a[k]? = some x) (h1 : -2000 ≤ x) (h2 : x ≤ 2000) (hs : 0 ≤ s) (hs' : s ≤ 1099511627776) :
    Calls Try.prog 48 #[.int .i64 s, .int .i64 k, .pointer (some ⟨g0, 0, none⟩), .pointer (some ⟨g, 0, none⟩)] w fun e w' => e = .returned (.int .i64 (vq.grow m s x)) ∧ ∃ q, w' = w.drewN q := by
  obtain ⟨hk, b1, o1, rfl, hc1⟩ := isI_get h hx
  have hcb := hg.cell
  have hcf := hf.cell
  have hm := h.2.2.1
  have hn := h.2.1
  have hG := fun (w' : World) => grow_calls m s x w' hs hs' h1 h2
  clear h hg hx hf
  rcases gf_cases m with e | e | e | e
  all_goals
    rw [e] at hcf hG
    have HG := Lib.hid hG
    clear hG e
    go_enter Try.func48, Try.ntmps48
    go_wp2_with fail
    go_quiet (exact Calls.quiet_of_same (HG.out _))
    go_wp2_with fail
    go_ret
    exact ⟨rfl, _, rfl⟩
end Go.Proofs.Ytbnemcggiopdmaa.vk
