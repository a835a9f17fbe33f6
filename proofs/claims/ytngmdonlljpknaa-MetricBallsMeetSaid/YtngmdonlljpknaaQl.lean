/- Quotients, Clone. -/
import Derived.Test.YtngmdonlljpknaaQk

import Derived.Lib.SliceRun

namespace Go.Proofs.Ytngmdonlljpknaa.vq
theorem tdiv_cases (s n : Int) (hn : 1 ≤ n) : (s.tmod n < 0 ∧ s.tdiv n - 1 = s / n) ∨ (0 ≤ s.tmod n ∧ s.tdiv n = s / n) := by
  rw [Int.tdiv_eq_ediv, Int.tmod_eq_emod]
  have h0 := Int.emod_nonneg s (show n ≠ 0 by omega)
  have h1 := Int.emod_lt_of_pos s (show 0 < n by omega)
  have hs : n.sign = 1 := Int.sign_eq_one_of_pos (by omega)
  split
  · right; omega
  · left; rw [hs]; omega
theorem tdiv_bd {s n : Int} (hn : 1 ≤ n) (h1 : -1099511627776 ≤ s) (h2 : s ≤ 1099511627776) : -1099511627776 ≤ s.tdiv n ∧ s.tdiv n ≤ 1099511627776 := by
  rcases Int.le_total 0 s with h | h
  · have a := Int.tdiv_le_self (a := s) n h
    have b := Int.tdiv_nonneg h (show 0 ≤ n by omega)
    omega
  · have a := Int.tdiv_le_self (a := -s) n (by omega)
    have b := Int.tdiv_nonneg (show 0 ≤ -s by omega) (show 0 ≤ n by omega)
    rw [Int.neg_tdiv] at a b
    omega
end Go.Proofs.Ytngmdonlljpknaa.vq

namespace Go.Proofs.Ytngmdonlljpknaa.vk

open Go.ChangeShapes Go.WideShapes Go.ChangeAt Go.RowKit

set_option linter.unusedVariables false
end Go.Proofs.Ytngmdonlljpknaa.vk
