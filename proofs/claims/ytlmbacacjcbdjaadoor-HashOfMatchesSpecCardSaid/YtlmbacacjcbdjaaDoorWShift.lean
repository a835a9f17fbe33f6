
import Derived.Test.YtlmbacacjcbdjaaDoorSn

import Derived.Test.YtlmbacacjcbdjaaDoorBit2

import Derived.Test.YtlmbacacjcbdjaaDoorWJoin

namespace Go.Proofs.YtlmbacacjcbdjaaDoor.hashShifts

open Go.ChangeShapes Go.WideShapes Go.ChangeAt Go.RowKit

set_option linter.unusedVariables false

theorem joinV_nat (a b : Int) (n : Nat) : hi.joinV a b n = hp.Tn (8 * n) (hi.low a) ^^^ hi.low b := by
  unfold hi.joinV
  rw [if_neg (by omega)]
  rfl

end Go.Proofs.YtlmbacacjcbdjaaDoor.hashShifts
