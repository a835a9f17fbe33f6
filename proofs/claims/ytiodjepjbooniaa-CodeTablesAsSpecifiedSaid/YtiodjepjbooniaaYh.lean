/- CodeTablesAsSpecified: its walk. -/
import Derived.Test.YtiodjepjbooniaaU7

import Derived.Test.YtiodjepjbooniaaYg

namespace Go.Proofs.Ytiodjepjbooniaa.codeTablesAsSpecified

open Go.ChangeShapes Go.WideShapes Go.ChangeAt Go.RowKit

open Go.Proofs.Ytiodjepjbooniaa.cq Go.Proofs.Ytiodjepjbooniaa.vk Go.Proofs.Ytiodjepjbooniaa.bk Go.Proofs.Ytiodjepjbooniaa.wk Go.Proofs.Ytiodjepjbooniaa.uk

set_option linter.unusedVariables false
end Go.Proofs.Ytiodjepjbooniaa.codeTablesAsSpecified
