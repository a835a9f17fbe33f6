
import Derived.Test.YtlmbacacjcbdjaaDoorHj

import Derived.Test.YtlmbacacjcbdjaaDoorHpx

import Derived.Test.YtlmbacacjcbdjaaDoorEnc

namespace Go.Proofs.YtlmbacacjcbdjaaDoor.hi

open Go.ChangeShapes Go.WideShapes Go.ChangeAt Go.RowKit

set_option linter.unusedVariables false
end Go.Proofs.YtlmbacacjcbdjaaDoor.hi
