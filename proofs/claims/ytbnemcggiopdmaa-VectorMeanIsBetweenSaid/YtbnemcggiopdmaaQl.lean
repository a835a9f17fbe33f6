/- Quotients, Clone. -/
import Derived.Test.YtbnemcggiopdmaaQk

import Derived.Lib.SliceRun

namespace Go.Proofs.Ytbnemcggiopdmaa.vq
theorem tdiv_cases (s n : Int) (hn : 1 ≤ n) : (s.tmod n < 0 ∧ s.tdiv n - 1 = s / n) ∨ (0 ≤ s.tmod n ∧ s.tdiv n = s / n) := by
  rw [Int.tdiv_eq_ediv, Int.tmod_eq_emod]
  have h0 := Int.emod_nonneg s (show n ≠ 0 by omega)
  have h1 := Int.emod_lt_of_pos s (show 0 < n by omega)
  have hs : n.sign = 1 := Int.sign_eq_one_of_pos (by omega)
  split
  · right; omega
  · left; rw [hs]; omega
theorem tdiv_bd {s n : Int} (hn : 1 ≤ n) (h1 : -1099511627776 ≤ s) (h2 : s ≤ 1099511627776) : -1099511627776 ≤ s.tdiv n ∧ s.tdiv n ≤ 1099511627776 := by
  rcases Int.le_total 0 s with h | h
  · have a := Int.tdiv_le_self (a := s) n h
    have b := Int.tdiv_nonneg h (show 0 ≤ n by omega)
    omega
  · have a := Int.tdiv_le_self (a := -s) n (by omega)
    have b := Int.tdiv_nonneg (show 0 ≤ -s by omega) (show 0 ≤ n by omega)
    rw [Int.neg_tdiv] at a b
    omega
end Go.Proofs.Ytbnemcggiopdmaa.vq

namespace Go.Proofs.Ytbnemcggiopdmaa.vk

open Go.ChangeShapes Go.WideShapes Go.ChangeAt Go.RowKit

set_option linter.unusedVariables false
set_option maxRecDepth 100000 in
theorem quotient_calls (s : Int) (n : Nat) (w : World) (hn : 1 ≤ n) (hn2 : n ≤ 1099511627776) (h1 : -1099511627776 ≤ s) (h2 : s ≤ 1099511627776) :
    Calls Try.prog 51 #[.int .i64 s, .int .i64 n] w fun e w' => e = .returned (.int .i64 (s / n)) ∧ w' = w := by
  have hb := vq.tdiv_bd (s := s) (n := n) (by omega) h1 h2
  have hc := vq.tdiv_cases s n (by omega)
  by_cases h : 0 ≤ s
  · have HC := Lib.hid hc
    have hd : s.tdiv n = s / n := by rw [Int.tdiv_eq_ediv_of_nonneg h]
    have hm : s.tmod n = s % n := by rw [Int.tmod_eq_emod_of_nonneg h]
    have hm0 := Int.emod_nonneg s (show (n : Int) ≠ 0 by omega)
    rw [hd] at hb
    clear hc hd hm
    go_enter Try.func51, Try.ntmps51
    go_wp2_with fail
    go_ret
    exact ⟨rfl, rfl⟩
  · rcases hc with ⟨hm, hd⟩ | ⟨hm, hd⟩
    · have HD := Lib.hid hd
      clear hd
      go_enter Try.func51, Try.ntmps51
      go_wp2_with fail
      go_ret
      exact ⟨by rw [← HD.out]; rfl, rfl⟩
    · have HD := Lib.hid hd
      clear hd
      go_enter Try.func51, Try.ntmps51
      go_wp2_with fail
      go_ret
      exact ⟨by rw [← HD.out]; rfl, rfl⟩
set_option maxRecDepth 100000 in
theorem floor_calls (s : Int) (n : Nat) (w : World) (hn : 1 ≤ n) (hn2 : n ≤ 1099511627776) (h1 : -1099511627776 ≤ s) (h2 : s ≤ 1099511627776) :
    Calls Try.prog 52 #[.int .i64 s, .int .i64 n] w fun e w' => e = .returned (.int .i64 (s / n)) ∧ w' = w := by
  have hb := vq.tdiv_bd (s := s) (n := n) (by omega) h1 h2
  have hc := vq.tdiv_cases s n (by omega)
  by_cases h : 0 ≤ s
  · have HC := Lib.hid hc
    have hd : s.tdiv n = s / n := by rw [Int.tdiv_eq_ediv_of_nonneg h]
    have hm0 := Int.emod_nonneg s (show (n : Int) ≠ 0 by omega)
    rw [hd] at hb
    clear hc hd
    go_enter Try.func52, Try.ntmps52
    go_wp2_with fail
    go_ret
    exact ⟨rfl, rfl⟩
  · rcases hc with ⟨hm, hd⟩ | ⟨hm, hd⟩
    · have HD := Lib.hid hd
      clear hd
      go_enter Try.func52, Try.ntmps52
      go_wp2_with fail
      go_ret
      exact ⟨by rw [← HD.out]; rfl, rfl⟩
    · have HD := Lib.hid hd
      clear hd
      go_enter Try.func52, Try.ntmps52
      go_wp2_with fail
      go_ret
      exact ⟨by rw [← HD.out]; rfl, rfl⟩
set_option maxRecDepth 100000 in
theorem clone_calls (A : Option Addr) (n c : Nat) (l : List Int) (w : World) (h : wo.IsI w A n c l) (h1 : 1 ≤ n) (hn : n ≤ 1000) :
    Calls Try.prog 50 #[.slice A n c] w fun e w' => ∃ v, e = .returned v ∧ w'.ownsRow w.heap.size 3 1 v n (iv l) ∧ Below w.heap.size w w' := by
  obtain ⟨i0, hi, hz0, hz1, hz2⟩ := info_parts wi.infoI
  have hl := h.1
  have hm := h.2.2.1
  have hnc := h.2.1
  obtain ⟨b, o, rfl, hb, hcell⟩ := h.2.2.2.1 (by simp; omega)
  have HC : Hid (∀ j u, (iv l)[j]? = some u → (w.alloc (.cells #[] 3)).cell? ((⟨b, o, none⟩ : Addr).add j) = some u) := fun j u hu => by
    rw [wk.add_at, (below_new w (.cells #[] 3)).cell (p := ⟨b, o + j, none⟩) hb]
    exact hcell j u hu
  have HO : Hid ((w.alloc (.cells #[] 3)).ownsRow w.heap.size 3 1 (.slice (some ⟨w.heap.size, 0, none⟩) 0 0) 0 []) := World.ownsRow_lit (base := w.heap.size) w #[] 0 (Nat.le_refl _) (by unfold maxLen; omega) rfl
  have hnil := fun w' => Go.Lib.run_eql_slice_nil (P := Try.prog) w' 22 3 (some ⟨b, o, none⟩) n c 0 0 Try.underlying22
  clear h hcell
  go_enter Try.func50, Try.ntmps50
  go_wp2_with (at_builtin; refine wpList_append_own _ rfl _ _ 22 rfl w.heap.size 3 i0 (.int .i64 0) 1 8 Try.underlying22 hi hz0 hz1 hz2 rfl (by decide) _ _ _ rfl HO.out ⟨b, o, none⟩ n c (iv l) rfl ?c0 HC.out ?c2 ?c3 ?c4 ?c5 ?_)
  case c0 => simp [iv, hl]
  case c2 => intro u hu; simp [iv] at hu; obtain ⟨y, _, rfl⟩ := hu; rfl
  case c3 => unfold maxLen; omega
  case c4 => omega
  case c5 => rw [size_new]; omega
  intro v' w2 hown' hgrow _
  have hB : Below w.heap.size w w2 := (below_new w (.cells #[] 3)).grown hgrow (by rw [size_new]; omega) (fun g hg => (HO.out.lt g hg).1)
  have HB := Lib.hid hB
  have HOW := Lib.hid hown'
  clear hB hown' hgrow
  go_wp2_with fail
  go_ret
  refine ⟨v', rfl, ?_, HB.out⟩
  exact HOW.out
end Go.Proofs.Ytbnemcggiopdmaa.vk
