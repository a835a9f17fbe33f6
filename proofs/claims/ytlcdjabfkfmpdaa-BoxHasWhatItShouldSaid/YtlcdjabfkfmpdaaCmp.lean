
import Derived.Test.YtlcdjabfkfmpdaaKit2

import Derived.Test.YtlcdjabfkfmpdaaDecD

import Derived.Deep.QuietTactic

import Derived.BigQuiet

namespace Go.Proofs.Ytlcdjabfkfmpdaa.wi

open Go.ChangeShapes Go.WideShapes Go.ChangeAt Go.RowKit

set_option linter.unusedVariables false
/-- cells that one-cell reading gives -/
theorem RC_at {w : World} {A : Option Addr} {xs : List Value} (h : wp.RC w A xs) {k : Nat} {u : Value} (hk : xs[k]? = some u) : ∃ b o, A = some ⟨b, o, none⟩ ∧ w.cell? ⟨b, o + k, none⟩ = some u := by
  have hl : k < xs.length := by
    rcases Nat.lt_or_ge k xs.length with h' | h'
    · exact h'
    · rw [List.getElem?_eq_none h'] at hk; cases hk
  obtain ⟨b, o, hA, _, hc⟩ := h (by omega)
  exact ⟨b, o, hA, hc k u hk⟩

end Go.Proofs.Ytlcdjabfkfmpdaa.wi
