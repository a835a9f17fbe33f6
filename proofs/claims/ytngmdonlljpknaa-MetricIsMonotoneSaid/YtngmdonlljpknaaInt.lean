
import Derived.Test.YtngmdonlljpknaaRows

import Derived.Test.YtngmdonlljpknaaPlain

namespace Go.Proofs.Ytngmdonlljpknaa.wi

open Go.ChangeShapes Go.WideShapes Go.ChangeAt Go.RowKit

theorem ret_u64 {a b : Int} (h : a = b) : Ending.returned (.int .u64 a) = .returned (.int .u64 b) := by rw [h]

theorem info5 : (Try.prog.info? 5).map (fun i => (i.zero, i.size, i.bytes)) = some (some (.int .u8 0), 1, 1) := by kernel_rfl

end Go.Proofs.Ytngmdonlljpknaa.wi
