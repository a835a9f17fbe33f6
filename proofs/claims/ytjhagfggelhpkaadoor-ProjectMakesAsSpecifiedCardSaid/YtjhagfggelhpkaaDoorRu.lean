
import Derived.Test.YtjhagfggelhpkaaDoorRt

import Derived.Deep.RegionLaw

namespace Go.Proofs.YtjhagfggelhpkaaDoor.hi

open Go.ChangeShapes Go.WideShapes Go.ChangeAt Go.RowKit

set_option linter.unusedVariables false
theorem hex2_at (c : UInt8) : ∃ x y : UInt8, hx.hex2 c = [x, y] ∧ hx.digs[c.toNat / 16]? = some x ∧ hx.digs[c.toNat % 16]? = some y := by
  have h1 : c.toNat / 16 < 16 := by have := c.toNat_lt; omega
  have h2 : c.toNat % 16 < 16 := Nat.mod_lt _ (by decide)
  have hl : hx.digs.length = 16 := rfl
  refine ⟨hx.digs.getD (c.toNat / 16) 0, hx.digs.getD (c.toNat % 16) 0, rfl, ?_, ?_⟩
  · rw [List.getD_eq_getElem?_getD, List.getElem?_eq_getElem (by omega)]; rfl
  · rw [List.getD_eq_getElem?_getD, List.getElem?_eq_getElem (by omega)]; rfl
theorem digs_idx (w : World) {i : Nat} {x : UInt8} (h : hx.digs[i]? = some x) : (Instr.index 9 (.string ⟨#[48, 49, 50, 51, 52, 53, 54, 55, 56, 57, 97, 98, 99, 100, 101, 102]⟩) (.int .u8 (i : Int))).run Tryd.prog w = .ok (.int .u8 (x.toNat : Int)) w := by
  have hi : i < 16 := (List.getElem?_eq_some_iff.1 h).1
  have : i = 0 ∨ i = 1 ∨ i = 2 ∨ i = 3 ∨ i = 4 ∨ i = 5 ∨ i = 6 ∨ i = 7 ∨ i = 8 ∨ i = 9 ∨ i = 10 ∨ i = 11 ∨ i = 12 ∨ i = 13 ∨ i = 14 ∨ i = 15 := by omega
  rcases this with rfl | rfl | rfl | rfl | rfl | rfl | rfl | rfl | rfl | rfl | rfl | rfl | rfl | rfl | rfl | rfl <;> (rw [← Option.some.inj h, run_index_string w 9 _ .u8 _ Tryd.underlying9, dif_pos (by decide)]; rfl)
theorem hex_length : ∀ l : List UInt8, (hx.hex l).length = 2 * l.length
  | [] => rfl
  | c :: r => by show (hx.hex2 c ++ hx.hex r).length = _; rw [List.length_append, hex_length r, List.length_cons]; show 2 + _ = _; omega

end Go.Proofs.YtjhagfggelhpkaaDoor.hi
