/- The laws of pivot: a cell that lasts, a row's beginning. -/
import Derived.Test.YteeianandjokaaaWz

namespace Go.Proofs.Yteeianandjokaaa.pk

open Go.ChangeShapes Go.WideShapes Go.ChangeAt Go.RowKit

open Go.Proofs.Yteeianandjokaaa.pq Go.Proofs.Yteeianandjokaaa.cq Go.Proofs.Yteeianandjokaaa.vk Go.Proofs.Yteeianandjokaaa.bk Go.Proofs.Yteeianandjokaaa.wk Go.Proofs.Yteeianandjokaaa.uk

set_option linter.unusedVariables false
structure Cl (w : World) (b o : Nat) (v : Value) : Prop where
  lt : b < w.heap.size
  c : w.cell? ⟨b, o, none⟩ = some v
theorem Cl.below {w w' : World} {b o : Nat} {v : Value} (h : Cl w b o v) (hb : Below w.heap.size w w') : Cl w' b o v := ⟨Nat.lt_of_lt_of_le h.lt hb.size, (hb.cell (p := ⟨b, o, none⟩) h.lt).trans h.c⟩
theorem run_preI (w' : World) (b o n c k : Nat) (hk : k ≤ n) (hc : n ≤ c) : (Instr.slice 23 (.slice (some ⟨b, o, none⟩) n c) none (some (.int .i64 (k : Int))) none).run Try.prog w' = .ok (.slice (some ⟨b, o, none⟩) k c) w' := by
  have ht : Try.prog.underlying 23 = some (.slice (Try.prog.elem 23)) := by simp [Program.elem, Try.underlying23]
  have he : Try.prog.elem 23 = 3 := by simp [Program.elem, Try.underlying23]
  rw [run_slice_h w' 23 (some ⟨b, o, none⟩) n c ht .i64 (k : Int) (by omega) (by omega), he, wk.run_sizeOf w' 3 1 infoI1]
  simp only [Result.andThen, sliced, Int.toNat_natCast, Option.map_some, wk.add_at, Nat.mul_one, Nat.sub_zero, Nat.add_zero, ite_self]
theorem isI_take {w : World} {A : Option Addr} {n c k : Nat} {l : List Int} (h : wo.IsI w A n c l) (hk : k ≤ n) : wo.IsI w A k c (l.take k) := by
  refine ⟨by rw [List.length_take]; have := h.1; omega, by have := h.2.1; omega, h.2.2.1, fun hp => ?_, fun x hx => h.2.2.2.2 x (List.mem_of_mem_take hx)⟩
  obtain ⟨b, o, h1, h2, h3⟩ := h.2.2.2.1 (by simp at hp ⊢; omega)
  refine ⟨b, o, h1, h2, fun j u hu => h3 j u ?_⟩
  rw [List.getElem?_map] at hu ⊢
  rw [List.getElem?_take] at hu
  split at hu
  · exact hu
  · cases hu
end Go.Proofs.Yteeianandjokaaa.pk
