/- The generic fold: by an invariant of the closure. -/
import Derived.Test.YtngmdonlljpknaaCmp

import Derived.Test.YtngmdonlljpknaaQa

namespace Go.Proofs.Ytngmdonlljpknaa.vk

open Go.ChangeShapes Go.WideShapes Go.ChangeAt Go.RowKit

set_option linter.unusedVariables false
end Go.Proofs.Ytngmdonlljpknaa.vk
