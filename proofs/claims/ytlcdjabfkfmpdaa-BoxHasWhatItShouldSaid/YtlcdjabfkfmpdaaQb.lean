/- The generic fold: by an invariant of the closure. -/
import Derived.Test.YtlcdjabfkfmpdaaCmp

import Derived.Test.YtlcdjabfkfmpdaaQa

namespace Go.Proofs.Ytlcdjabfkfmpdaa.vk

open Go.ChangeShapes Go.WideShapes Go.ChangeAt Go.RowKit

set_option linter.unusedVariables false
end Go.Proofs.Ytlcdjabfkfmpdaa.vk
