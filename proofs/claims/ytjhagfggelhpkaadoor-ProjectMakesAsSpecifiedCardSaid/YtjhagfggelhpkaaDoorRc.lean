
import Derived.Test.YtjhagfggelhpkaaDoorG7

import Derived.Test.YtjhagfggelhpkaaDoorHpx

import Derived.Test.YtjhagfggelhpkaaDoorG2

namespace Go.Proofs.YtjhagfggelhpkaaDoor.hi

open Go.ChangeShapes Go.WideShapes Go.ChangeAt Go.RowKit

set_option linter.unusedVariables false
end Go.Proofs.YtjhagfggelhpkaaDoor.hi
