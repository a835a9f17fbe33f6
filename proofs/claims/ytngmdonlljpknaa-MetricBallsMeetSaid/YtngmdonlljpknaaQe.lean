/- Norms grow; Dot, Norm, Key. -/
import Derived.Test.YtngmdonlljpknaaQd

namespace Go.Proofs.Ytngmdonlljpknaa.vk

open Go.ChangeShapes Go.WideShapes Go.ChangeAt Go.RowKit

set_option linter.unusedVariables false
theorem isI_get {w : World} {A : Option Addr} {n c k : Nat} {l : List Int} {x : Int} (h : wo.IsI w A n c l) (hx : l[k]? = some x) : k < n ∧ ∃ b o, A = some ⟨b, o, none⟩ ∧ w.cell? ⟨b, o + k, none⟩ = some (.int .i64 x) := by
  have hk : k < n := by
    rcases Nat.lt_or_ge k n with h'' | h''
    · exact h''
    · rw [List.getElem?_eq_none (by have := h.1; omega)] at hx; cases hx
  obtain ⟨b, o, x', hA, hc, hx', -, -⟩ := isI_at h hk
  rw [hx] at hx'; cases hx'
  exact ⟨hk, b, o, hA, hc⟩
end Go.Proofs.Ytngmdonlljpknaa.vk
