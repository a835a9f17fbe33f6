
import Derived.Test.YtlcdjabfkfmpdaaRows

import Derived.Test.YtlcdjabfkfmpdaaPlain

namespace Go.Proofs.Ytlcdjabfkfmpdaa.wi

open Go.ChangeShapes Go.WideShapes Go.ChangeAt Go.RowKit

theorem ret_u64 {a b : Int} (h : a = b) : Ending.returned (.int .u64 a) = .returned (.int .u64 b) := by rw [h]

theorem info5 : (Try.prog.info? 5).map (fun i => (i.zero, i.size, i.bytes)) = some (some (.int .u8 0), 1, 1) := by kernel_rfl

end Go.Proofs.Ytlcdjabfkfmpdaa.wi
