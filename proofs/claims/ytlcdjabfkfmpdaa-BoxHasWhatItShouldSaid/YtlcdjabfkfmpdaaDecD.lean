
import Derived.Test.YtlcdjabfkfmpdaaDecL

import Derived.Test.YtlcdjabfkfmpdaaEncD

namespace Go.Proofs.Ytlcdjabfkfmpdaa.wi

open Go.ChangeShapes Go.WideShapes Go.ChangeAt Go.RowKit

set_option linter.unusedVariables false
def zeroD : Value := .agg (Array.replicate 16 (.int .u8 0))
end Go.Proofs.Ytlcdjabfkfmpdaa.wi
