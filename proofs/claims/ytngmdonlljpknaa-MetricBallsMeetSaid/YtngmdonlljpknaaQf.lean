/- Dot, Norm, Key. -/
import Derived.Test.YtngmdonlljpknaaQe

import Derived.Great.BuildSlice

import Derived.Deep.Cut

import Derived.Deep.CutRange

namespace Go.Proofs.Ytngmdonlljpknaa.vk

open Go.ChangeShapes Go.WideShapes Go.ChangeAt Go.RowKit

set_option linter.unusedVariables false
theorem Box.drewN {w : World} {g : Nat} {v : Value} (h : Box w g v) (q : Nat) : Box (w.drewN q) g v := h
theorem isI_drewN {w : World} {A : Option Addr} {n c : Nat} {l : List Int} (h : wo.IsI w A n c l) (q : Nat) : wo.IsI (w.drewN q) A n c l := h
theorem drewN_add (w : World) (a b : Nat) : (w.drewN a).drewN b = w.drewN (a + b) := World.drewN_drewN ..
theorem below_drewN {B : Nat} {a w : World} (h : Below B a w) (q : Nat) : Below B a (w.drewN q) := ⟨h.os, h.tape, h.output, h.size, h.block⟩
theorem box2 (w : World) (v1 v2 : Value) (t1 t2 : TypeId) : Box ((w.alloc (.cells #[v1] t1)).alloc (.cells #[v2] t2)) w.heap.size v1 ∧ Box ((w.alloc (.cells #[v1] t1)).alloc (.cells #[v2] t2)) (w.heap.size + 1) v2 ∧ Below w.heap.size w ((w.alloc (.cells #[v1] t1)).alloc (.cells #[v2] t2)) := by
  refine ⟨(Box.new w v1 t1).below (below_new _ _), ?_, Below.andThen (below_new _ _) (below_new _ _)⟩
  have := Box.new (w.alloc (.cells #[v1] t1)) v2 t2
  rw [size_new] at this
  exact this
/-- lists that are not greater than differences -/
def Few (l : List Int) : Prop := ∀ x ∈ l, -2000 ≤ x ∧ x ≤ 2000
theorem few_of {l : List Int} (h : vq.Vec l) : Few l := fun x hx => by have := h.lo x hx; have := h.hi x hx; omega
theorem Few.at {l : List Int} (h : Few l) {k : Nat} {x : Int} (hx : l[k]? = some x) : -2000 ≤ x ∧ x ≤ 2000 := h x (List.mem_of_getElem? hx)
theorem len_of {l : List Int} {k : Nat} (h : k < l.length) : l[k]? = some l[k] := List.getElem?_eq_getElem h
theorem norm_take_bound (m : Int) {v : List Int} (h : Few v) (k : Nat) : 0 ≤ vq.norm m (v.take k) ∧ vq.norm m (v.take k) ≤ 4000000 * k := by
  refine ⟨vq.norm_nonneg m _, ?_⟩
  have := vq.norm_bound (m := m) (v := v.take k) fun x hx => h x (List.mem_of_mem_take hx)
  rw [List.length_take] at this
  omega
theorem infoG : (Try.prog.info? 37).map (·.size) = some 1 := by kernel_rfl
theorem subk_take (a b : List Int) (k : Nat) : vq.subk a b k = (vq.sub a b).take k := rfl
end Go.Proofs.Ytngmdonlljpknaa.vk
