/- Compare, Alike. -/
import Derived.Test.YtngmdonlljpknaaQg

import Derived.Test.YtngmdonlljpknaaMem

namespace Go.Proofs.Ytngmdonlljpknaa.vk

open Go.ChangeShapes Go.WideShapes Go.ChangeAt Go.RowKit

set_option linter.unusedVariables false
def orI : List Int → Int
  | [] => 0
  | x :: l => if x = 0 then orI l else x
theorem drop_at {l : List Int} {k : Nat} {x : Int} (h : l[k]? = some x) : l.drop k = x :: l.drop (k + 1) := by
  obtain ⟨hk, rfl⟩ := List.getElem?_eq_some_iff.1 h
  exact List.drop_eq_getElem_cons hk
theorem isI_new {w : World} {g : Nat} (hg : w.heap.size = g) (l : List Int) {cs : Array Value} (hcs : cs = (iv l).toArray) (n : Nat) (hn : l.length = n) (h40 : n ≤ 1099511627776) (hb : ∀ x ∈ l, -9223372036854775808 ≤ x ∧ x ≤ 9223372036854775807) (t : TypeId) : wo.IsI (w.alloc (.cells cs t)) (some ⟨g, 0, none⟩) n n l :=
  ⟨hn, Nat.le_refl _, by omega, wi.RC_new hg _ _ hcs, hb⟩
theorem cmpI_bd (x y : Int) : -1 ≤ vq.cmpI x y ∧ vq.cmpI x y ≤ 1 := by
  unfold vq.cmpI
  split
  · omega
  · split <;> omega
theorem lex_bd (a b : List Int) : -1 ≤ vq.lex a b ∧ vq.lex a b ≤ 1 := by have := vq.lex_range a b; omega
theorem or_cmp (a b : List Int) : orI [vq.cmpI a.length b.length, vq.lex a b] = vq.cmp a b := by
  have := vq.lex_range a b
  unfold orI orI orI vq.cmpI vq.cmp
  repeat' split
  all_goals omega
end Go.Proofs.Ytngmdonlljpknaa.vk
