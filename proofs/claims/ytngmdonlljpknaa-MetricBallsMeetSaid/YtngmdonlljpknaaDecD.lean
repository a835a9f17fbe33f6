
import Derived.Test.YtngmdonlljpknaaDecL

import Derived.Test.YtngmdonlljpknaaEncD

namespace Go.Proofs.Ytngmdonlljpknaa.wi

open Go.ChangeShapes Go.WideShapes Go.ChangeAt Go.RowKit

set_option linter.unusedVariables false
def zeroD : Value := .agg (Array.replicate 16 (.int .u8 0))
end Go.Proofs.Ytngmdonlljpknaa.wi
