
import Derived.Test.YtgcnkdpfdmgpoaaDoorSn

namespace Go.Proofs.YtgcnkdpfdmgpoaaDoor.vc

open Go.ChangeShapes Go.WideShapes Go.ChangeAt Go.RowKit

set_option linter.unusedVariables false
/-- a message so far: its cells -/
def cs (m : List UInt8) : List Value := [.int .u64 ((hp.reg hp.FULL m : Nat) : Int)]
theorem cs_length (m : List UInt8) : (cs m).length = 1 := rfl
theorem cs_size (m : List UInt8) : (Tryd.prog.info? 30).map (·.size) = some (cs m).length := by rw [cs_length]; exact hi.crc_size
theorem cs_sizeA (m : List UInt8) : (Tryd.prog.info? 30).map (·.size) = some (cs m).toArray.size := by rw [List.size_toArray]; exact cs_size m
theorem cs_ones (m : List UInt8) : wk.Ones (cs m) := wk.ones_one _ _
theorem begins (w : World) : Calls Tryd.prog 19 #[] w fun e w' => e = .returned (.agg (cs []).toArray) ∧ Below w.heap.size w w' := hi.begin_crc w
theorem adds (m : List UInt8) (x : ByteArray) (w : World) (hT : hi.TabK w) (h : m.length + x.size ≤ 1000000) :
    Calls Tryd.prog 20 #[.agg (cs m).toArray, .string x] w fun e w' => e = .returned (.agg (cs (m ++ x.data.toList)).toArray) ∧ Below w.heap.size w w' := by
  have := hi.crc_add (hp.reg hp.FULL m) x w (hp.reg_lt (by decide) m) (by omega)
  rw [← hp.reg_append] at this
  exact this
theorem fins (m : List UInt8) (w : World) (hT : hi.TabK w) (h : m.length ≤ 1000000) :
    Calls Tryd.prog 22 #[.agg (cs m).toArray] w fun e w' => e = .returned (.int .i64 ((hp.crc m : Nat) : Int)) ∧ Below w.heap.size w w' := hi.crc_value (hp.reg hp.FULL m) w (hp.reg_lt (by decide) m)
theorem wholes (A : Option Addr) (n c : Nat) (l : List UInt8) (w : World) (hT : hi.TabK w) (hn : l.length = n) (hnc : n ≤ c) (hc : c ≤ 9223372036854775807) (hl : wp.RB w A l) (h : n ≤ 1000000) :
    Calls Tryd.prog 16 #[.slice A n c] w fun e w' => e = .returned (.int .i64 ((hp.crc l : Nat) : Int)) ∧ Below w.heap.size w w' := hi.crc40 A n c l w hn hnc hc hl
theorem eqs (m : List UInt8) (w : World) : (binOp .eql 3 (.int .i64 ((hp.crc m : Nat) : Int)) (.int .i64 ((hp.crc m : Nat) : Int))).run Tryd.prog w = .ok (.bool true) w := by
  go_simp
end Go.Proofs.YtgcnkdpfdmgpoaaDoor.vc
