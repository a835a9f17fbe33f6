/- Alike, Encode, Decode: the program's. -/
import Derived.Test.YtngmdonlljpknaaQh

import Derived.Test.YtngmdonlljpknaaEnc

namespace Go.Proofs.Ytngmdonlljpknaa.vq

open Go.Proofs.Ytngmdonlljpknaa
theorem getN_bd (l : List UInt8) : ∀ (g : Nat) (acc : List Int) (u : Int), (∀ x ∈ acc, -9223372036854775808 ≤ x ∧ x ≤ 9223372036854775807) → ∀ x ∈ (wp.getN wp.getI l g acc u).1, -9223372036854775808 ≤ x ∧ x ≤ 9223372036854775807
  | 0, acc, u, h => by rw [wp.getN]; exact h
  | g + 1, acc, u, h => by
    rw [wp.getN]
    split
    · intro x hx; cases hx
    · refine getN_bd l g _ _ fun x hx => ?_
      rw [List.mem_append, List.mem_singleton] at hx
      rcases hx with hx | rfl
      · exact h x hx
      · have := wp.getI_facts (l.drop u.toNat)
        exact ⟨this.1, this.2.1⟩
theorem getL_bd (l : List UInt8) : ∀ x ∈ (wp.getL wp.getI 1 l).1, -9223372036854775808 ≤ x ∧ x ≤ 9223372036854775807 := by
  unfold wp.getL
  split
  · intro x hx; cases hx
  · exact getN_bd l _ _ _ (by intro x hx; cases hx)
theorem encIs_length (l : List Int) (h : ∀ x ∈ l, -9223372036854775808 ≤ x ∧ x ≤ 9223372036854775807) (hl : l.length ≤ 1099511627776) : (wp.encIs l).length ≤ 10 + 10 * l.length := by
  have h1 : ∀ l : List Int, (∀ x ∈ l, -9223372036854775808 ≤ x ∧ x ≤ 9223372036854775807) → (l.flatMap wp.encI).length ≤ 10 * l.length := by
    intro l
    induction l with
    | nil => simp
    | cons x l ih =>
      intro h
      have := wp.encI_length (h x (by simp)).1 (h x (by simp)).2
      have := ih fun y hy => h y (by simp [hy])
      simp only [List.flatMap_cons, List.length_append, List.length_cons]
      omega
  have := h1 l h
  have := wp.encI_length (n := (l.length : Int)) (by omega) (by omega)
  unfold wp.encIs
  rw [List.length_append]
  omega
/-- Decode -/
def dec (l : List UInt8) : List Int × Int :=
  if (wp.getL wp.getI 1 l).2.2 ≠ 0 then ([], (wp.getL wp.getI 1 l).2.2) else if (wp.getL wp.getI 1 l).2.1 < (l.length : Int) then ([], 11) else if valid (wp.getL wp.getI 1 l).1 then ((wp.getL wp.getI 1 l).1, 0) else ([], 40)
theorem dec_eq (l : List UInt8) : dec l =
  if (wp.getL wp.getI 1 l).2.2 ≠ 0 then ([], (wp.getL wp.getI 1 l).2.2) else if (wp.getL wp.getI 1 l).2.1 < (l.length : Int) then ([], 11) else if valid (wp.getL wp.getI 1 l).1 then ((wp.getL wp.getI 1 l).1, 0) else ([], 40) := rfl
end Go.Proofs.Ytngmdonlljpknaa.vq

namespace Go.Proofs.Ytngmdonlljpknaa.vk

open Go.ChangeShapes Go.WideShapes Go.ChangeAt Go.RowKit

set_option linter.unusedVariables false
theorem isB_of_out {l : List UInt8} {w w' : World} {e : Ending} (h : wi.OutB l w e w') : ∃ A c, e = .returned (.slice A l.length c) ∧ wo.IsB w' A l.length c l ∧ Below w.heap.size w w' := by
  obtain ⟨v, rfl, hown, hb⟩ := h
  obtain ⟨A, c, rfl, h1, h2, hR⟩ := wp.RC.of_own hown
  exact ⟨A, c, rfl, ⟨rfl, h1, by unfold maxLen at h2; omega, hR.rb⟩, hb⟩
theorem isI_nil (w : World) : wo.IsI w none 0 0 [] := ⟨rfl, Nat.le_refl _, by omega, fun h => absurd h (by simp), fun x hx => by cases hx⟩
end Go.Proofs.Ytngmdonlljpknaa.vk
