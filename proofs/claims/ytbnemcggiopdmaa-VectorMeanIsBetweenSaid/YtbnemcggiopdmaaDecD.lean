
import Derived.Test.YtbnemcggiopdmaaDecL

import Derived.Test.YtbnemcggiopdmaaEncD

namespace Go.Proofs.Ytbnemcggiopdmaa.wi

open Go.ChangeShapes Go.WideShapes Go.ChangeAt Go.RowKit

set_option linter.unusedVariables false
def zeroD : Value := .agg (Array.replicate 16 (.int .u8 0))
end Go.Proofs.Ytbnemcggiopdmaa.wi
