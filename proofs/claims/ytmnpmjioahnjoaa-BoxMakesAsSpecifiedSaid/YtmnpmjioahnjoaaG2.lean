/- Joined: Int Get Dec DecL Enc EncD. -/
import Derived.Test.YtmnpmjioahnjoaaG1

import Derived.Test.YtmnpmjioahnjoaaRows

namespace Go.Proofs.Ytmnpmjioahnjoaa.wi

open Go.ChangeShapes Go.WideShapes Go.ChangeAt Go.RowKit

theorem ret_u64 {a b : Int} (h : a = b) : Ending.returned (.int .u64 a) = .returned (.int .u64 b) := by rw [h]

theorem info5 : (Try.prog.info? 5).map (fun i => (i.zero, i.size, i.bytes)) = some (some (.int .u8 0), 1, 1) := by kernel_rfl

end Go.Proofs.Ytmnpmjioahnjoaa.wi

namespace Go.Proofs.Ytmnpmjioahnjoaa.wi

open Go.ChangeShapes Go.WideShapes Go.ChangeAt Go.RowKit
end Go.Proofs.Ytmnpmjioahnjoaa.wi

namespace Go.Proofs.Ytmnpmjioahnjoaa.wi

open Go.ChangeShapes Go.WideShapes Go.ChangeAt Go.RowKit

theorem size5 : (Try.prog.info? 5).map (·.size) = some 1 := by kernel_rfl

end Go.Proofs.Ytmnpmjioahnjoaa.wi

namespace Go.Proofs.Ytmnpmjioahnjoaa.wi

open Go.ChangeShapes Go.WideShapes Go.ChangeAt Go.RowKit

theorem infoI : (Try.prog.info? 3).map (fun i => (i.zero, i.size, i.bytes)) = some (some (.int .i64 0), 1, 8) := by kernel_rfl
theorem infoS : (Try.prog.info? 9).map (fun i => (i.zero, i.size, i.bytes)) = some (some (.string ByteArray.empty), 1, 16) := by kernel_rfl

end Go.Proofs.Ytmnpmjioahnjoaa.wi

namespace Go.Proofs.Ytmnpmjioahnjoaa.wi

open Go.ChangeShapes Go.WideShapes Go.ChangeAt Go.RowKit
/-- a fresh row of bytes is handed back -/
def OutB (l : List UInt8) (w : World) (e : Ending) (w' : World) : Prop :=
  ∃ v, e = .returned v ∧ w'.ownsRow w.heap.size 5 1 v l.length (wp.bc l) ∧ Below w.heap.size w w'

end Go.Proofs.Ytmnpmjioahnjoaa.wi

namespace Go.Proofs.Ytmnpmjioahnjoaa.wi

open Go.ChangeShapes Go.WideShapes Go.ChangeAt Go.RowKit
/-- the value of a digest -/
def dg (d : List UInt8) : Value := .agg (wp.bc d).toArray

end Go.Proofs.Ytmnpmjioahnjoaa.wi
