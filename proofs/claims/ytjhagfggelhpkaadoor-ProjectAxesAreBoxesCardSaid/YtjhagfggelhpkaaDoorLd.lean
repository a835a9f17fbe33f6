/- What the listed table gives the walks. -/
import Derived.Test.YtjhagfggelhpkaaDoorG7

import Derived.Test.YtjhagfggelhpkaaDoorTie

import Derived.LaidMore

import Derived.OpenShut

import Derived.Stop.Joined

namespace Go.Proofs.YtjhagfggelhpkaaDoor.hl

open Go.ChangeShapes Go.WideShapes Go.ChangeAt Go.WideMaps Go.WideElems Go.RowKit

set_option linter.unusedVariables false

def laid1 : List (String × DataW Unit) := [("antiquary/hash.rounds", Rows.laid_antiquary_hash_rounds)]
theorem own : ownKnob Tryd.prog.godebug = none := by kernel_rfl
theorem gRounds : Tryd.prog.globalNamed "antiquary/hash.rounds" = some 0 := by kernel_rfl
theorem tRounds : (Tryd.prog.globals[0]?).map (·.type) = some 100 := by kernel_rfl
theorem rounds_eq : (Rows.laid_antiquary_hash_rounds : DataW Unit) = .agg (hs.KK.map fun n : Nat => DataW.lit (.int .u32 (n : Int))) := rfl

/-- the door's own heap meets the condition -/
theorem door_met (os : Os) (args : Array Value) : laidMetH Tryd.prog laid1 ((World.doorLaid Tryd.prog 400 os).forCall (fun _ _ => 0) ⟨#[], args, []⟩).memory :=
  laidMetH_of_parts3 (fuel := 8) (laidMet_of_run' 8 (by kernel_rfl) (by kernel_rfl)) (by kernel_rfl) (by kernel_rfl)

theorem of_laid {W : World} (h : laidMetH Tryd.prog laid1 W) : hi.TabK W := by
  rw [MakeChecks.laidMetH_plain _ _ _ (by kernel_rfl)] at h
  obtain ⟨ps, ⟨g0, t0, cs0, f0, p0, q0, hg0, ht0, hv0, hd0, _, _⟩, _, _⟩ := h
  obtain rfl := Option.some.inj (gRounds.symm.trans hg0)
  obtain rfl := Option.some.inj (tRounds.symm.trans ht0)
  obtain ⟨xs, m1, rfl, hx1, hlen, hn3, hel⟩ := DataW.trod_array Tryd.underlying100 hd0
  rw [rounds_eq] at hx1
  simp only [Prod.mk.injEq, DataW.agg.injEq] at hx1
  have cU : Tryd.prog.cellsOf 78 = 1 := by kernel_rfl
  have key : ∀ j, j < 64 → W.cell? ⟨0, j, none⟩ = some (.int .u32 ((hs.KK.getD j 0 : Nat) : Int)) := by
    intro j hj
    have h0 := hel j hj
    have hxj : xs[j]? = some (xs[j]'(by omega)) := List.getElem?_eq_getElem (by omega)
    rw [hxj] at h0
    obtain ⟨k, e1, e2, _⟩ := DataW.trod_int Tryd.underlying78 h0
    have hk : (xs.map (·.1))[j]? = some (.lit (.int .u32 k)) := by rw [List.getElem?_map, hxj, Option.map_some, e2]
    rw [← hx1.1, List.getElem?_map] at hk
    have hkk : hs.KK[j]? = some (hs.KK[j]'(by exact hj)) := List.getElem?_eq_getElem _
    rw [hkk] at hk
    simp only [Option.map_some, Option.some.injEq, DataW.lit.injEq, Lit.int.injEq, true_and] at hk
    rw [List.getD_eq_getElem?_getD, hkk, Option.getD_some, hk]
    have hc := World.var?_cell hg0 hv0 j
    rw [cU, Nat.mul_one] at e1
    have e3 : cs0.toList[j]? = some (.int .u32 k) := by
      have : ((cs0.toList.drop j).take 1)[0]? = some (.int .u32 k) := by rw [e1]; rfl
      simpa using this
    rw [hc]
    simpa using e3
  refine ⟨?_, key⟩
  have := block_lt_of_cell (key 0 (by decide))
  exact this
end Go.Proofs.YtjhagfggelhpkaaDoor.hl
