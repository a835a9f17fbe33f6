/- Valid, Alike, common, Dot, Sub: the program's. -/
import Derived.Test.YtlcdjabfkfmpdaaQb

import Derived.Test.YtlcdjabfkfmpdaaOpen

namespace Go.Proofs.Ytlcdjabfkfmpdaa.vk

open Go.ChangeShapes Go.WideShapes Go.ChangeAt Go.RowKit

set_option linter.unusedVariables false
theorem isI_below {w w' : World} {A : Option Addr} {n c : Nat} {l : List Int} (h : wo.IsI w A n c l) (hb : Below w.heap.size w w') : wo.IsI w' A n c l := ⟨h.1, h.2.1, h.2.2.1, h.2.2.2.1.below hb, h.2.2.2.2⟩
theorem isI_at {w : World} {A : Option Addr} {n c k : Nat} {l : List Int} (h : wo.IsI w A n c l) (hk : k < n) : ∃ b o x, A = some ⟨b, o, none⟩ ∧ w.cell? ⟨b, o + k, none⟩ = some (.int .i64 x) ∧ l[k]? = some x ∧ -9223372036854775808 ≤ x ∧ x ≤ 9223372036854775807 := by
  have hl : k < l.length := by have := h.1; omega
  have hx : l[k]? = some l[k] := List.getElem?_eq_getElem hl
  obtain ⟨b, o, hA, hc⟩ := wi.RC_at h.2.2.2.1 (k := k) (u := .int .i64 l[k]) (by simp [hx])
  exact ⟨b, o, l[k], hA, hc, hx, h.2.2.2.2 _ (List.getElem_mem hl)⟩
/-- a boxed variable -/
def Box (w : World) (g : Nat) (v : Value) : Prop := ∃ t, w.heap[g]? = some (.cells #[v] t (0, 0))
theorem Box.lt {w : World} {g : Nat} {v : Value} (h : Box w g v) : g < w.heap.size := by
  obtain ⟨t, h⟩ := h
  rcases Nat.lt_or_ge g w.heap.size with h' | h'
  · exact h'
  · rw [Array.getElem?_eq_none h'] at h; cases h
theorem Box.below {w w' : World} {g : Nat} {v : Value} (h : Box w g v) (hb : Below w.heap.size w w') : Box w' g v := by
  have hl := h.lt
  obtain ⟨t, h⟩ := h
  exact ⟨t, by rw [hb.block g hl]; exact h⟩
theorem Box.cell {w : World} {g : Nat} {v : Value} (h : Box w g v) : w.cell? ⟨g, 0, none⟩ = some v := by
  obtain ⟨t, h⟩ := h
  rw [cell_of_row _ _ _ _ _ _ h]; rfl
theorem Box.new (w : World) (v : Value) (t : TypeId) : Box (w.alloc (.cells #[v] t)) w.heap.size v := ⟨t, heap_alloc_new w _⟩
theorem below_new (w : World) (o : Obj) : Below w.heap.size w (w.alloc o) := (Below.refl _ w).alloc (Nat.le_refl _) _
theorem size_new (w : World) (o : Obj) : (w.alloc o).heap.size = w.heap.size + 1 := Array.size_push ..
theorem Below.andThen {w w1 w2 : World} (h : Below w.heap.size w w1) (h' : Below w1.heap.size w1 w2) : Below w.heap.size w w2 := h.trans (h'.mono h.size)
theorem all_snoc {l : List Int} {k : Nat} {x : Int} (h : l[k]? = some x) : (l.take (k + 1)).all vq.okc = ((l.take k).all vq.okc && vq.okc x) := by
  rw [vq.take_snoc h, List.all_append]; simp
end Go.Proofs.Ytlcdjabfkfmpdaa.vk
