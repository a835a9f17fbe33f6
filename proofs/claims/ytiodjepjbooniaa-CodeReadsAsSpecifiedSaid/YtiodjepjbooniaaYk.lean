/- field -/
import Derived.Test.YtiodjepjbooniaaYi

namespace Go.Proofs.Ytiodjepjbooniaa.uk

open Go.ChangeShapes Go.WideShapes Go.ChangeAt Go.RowKit
theorem vfield_run (y e : Value) (w : World) : (Instr.field 34 (.agg #[y, e]) 0).run Try.prog w = .ok y w := by
  have h1 := Try.underlying34
  have h2 := Try.underlying22
  simp [Instr.field, run_underlying h1, run_underlying h2, part, isAgg, asAgg]
end Go.Proofs.Ytiodjepjbooniaa.uk
