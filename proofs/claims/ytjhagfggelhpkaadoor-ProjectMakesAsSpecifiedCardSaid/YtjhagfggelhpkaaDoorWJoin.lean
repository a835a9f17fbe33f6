
import Derived.Test.YtjhagfggelhpkaaDoorSn

import Derived.Test.YtjhagfggelhpkaaDoorG2

namespace Go.Proofs.YtjhagfggelhpkaaDoor.hashJoinMatchesSpec

open Go.ChangeShapes Go.WideShapes Go.ChangeAt Go.RowKit

set_option linter.unusedVariables false

theorem int_wf {n : Int} (h : (Lit.int .i64 n).wf = true) : -9223372036854775808 ≤ n ∧ n ≤ 9223372036854775807 := by simpa [Lit.wf, IntKind.min, IntKind.max, IntKind.signed, IntKind.bits] using h

end Go.Proofs.YtjhagfggelhpkaaDoor.hashJoinMatchesSpec
