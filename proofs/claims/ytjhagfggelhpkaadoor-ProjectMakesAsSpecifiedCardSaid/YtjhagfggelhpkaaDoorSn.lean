
import Derived.Test.YtjhagfggelhpkaaDoorRu

import Derived.Test.YtjhagfggelhpkaaDoorHt

import Derived.Lib.SlBytesConst

namespace Go.Proofs.YtjhagfggelhpkaaDoor.hi

open Go.ChangeShapes Go.WideShapes Go.ChangeAt Go.RowKit

set_option linter.unusedVariables false

theorem run_eq_arr_same (t e : TypeId) (n : Nat) (ht : Tryd.prog.underlying t = some (.array n e)) (he : Tryd.prog.underlying e = some (.int .u8)) (hs : (Tryd.prog.info? e).map (·.size) = some 1) (xs : List UInt8)
    (hx : xs.length = n) (w : World) : (binOp .eql t (.agg (wp.bc xs).toArray) (.agg (wp.bc xs).toArray)).run Tryd.prog w = .ok (.bool true) w := by
  rw [run_eql_struct, wk.run_eq_arr w 9998 t e n ht he hs xs xs hx hx]
  simp [Result.andThen]
theorem RB_mark {w : World} {g : Nat} (hg : w.heap.size = g) (l : List UInt8) {cs : Array Value} (t : TypeId) (fr : Nat × Nat) (hcs : cs = (wp.bc l).toArray) : wp.RB (w.alloc (.cells cs t fr)) (some ⟨g, 0, none⟩) l := fun hl => by
  subst hg hcs
  refine ⟨w.heap.size, 0, rfl, by simp, fun j u hu => ?_⟩
  rw [cell_of_row _ _ _ _ _ _ (heap_alloc_new w _), List.getElem?_toArray, Nat.zero_add]
  simp [wp.bc, hu]
theorem c254 : hp.crc [254] = 75628790 := by decide +kernel
theorem cff : hp.crc [255, 255] = 65535 := by decide +kernel
theorem call : hp.crc ([1099511627774].flatMap hp.five) = 1099435999222 := by decide +kernel
theorem j1 : joinV 255 255 1 = 65535 := by decide +kernel
theorem j2 : joinV 255 0 1 = 65280 := by decide +kernel
theorem j3 : joinV 7 9 0 = 14 := by decide +kernel
theorem j4 : joinV 1 1 (-1) = 0 := by decide +kernel
theorem hexabc : hx.hex (hs.sha [97, 98, 99]) = [98, 97, 55, 56, 49, 54, 98, 102, 56, 102, 48, 49, 99, 102, 101, 97, 52, 49, 52, 49, 52, 48, 100, 101, 53, 100, 97, 101, 50, 50, 50, 51, 98, 48, 48, 51, 54, 49, 97, 51, 57, 54, 49, 55, 55, 97, 57, 99, 98, 52, 49, 48, 102, 102, 54, 49, 102, 50, 48, 48, 49, 53, 97, 100] := by rw [hs.abc]; decide +kernel
theorem hexone : hx.hex ((hs.sha [1]).take 16) = [52, 98, 102, 53, 49, 50, 50, 102, 51, 52, 52, 53, 53, 52, 99, 53, 51, 98, 100, 101, 50, 101, 98, 98, 56, 99, 100, 50, 98, 55, 101, 51] := by decide +kernel

end Go.Proofs.YtjhagfggelhpkaaDoor.hi
