
import Derived.Test.YtjhagfggelhpkaaDoorRc

import Derived.Deep.DeepCutAuto

namespace Go.Proofs.YtjhagfggelhpkaaDoor.hi

open Go.ChangeShapes Go.WideShapes Go.ChangeAt Go.RowKit

set_option linter.unusedVariables false
end Go.Proofs.YtjhagfggelhpkaaDoor.hi
