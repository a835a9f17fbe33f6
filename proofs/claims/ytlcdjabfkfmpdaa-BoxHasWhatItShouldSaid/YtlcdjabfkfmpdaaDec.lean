
import Derived.Test.YtlcdjabfkfmpdaaGet

import Derived.Test.YtlcdjabfkfmpdaaKit

namespace Go.Proofs.Ytlcdjabfkfmpdaa.wi

open Go.ChangeShapes Go.WideShapes Go.ChangeAt Go.RowKit

theorem size5 : (Try.prog.info? 5).map (·.size) = some 1 := by kernel_rfl

end Go.Proofs.Ytlcdjabfkfmpdaa.wi
