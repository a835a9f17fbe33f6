
import Derived.Test.YtjhagfggelhpkaaDoorSn

import Derived.Test.YtjhagfggelhpkaaDoorBit2

import Derived.Test.YtjhagfggelhpkaaDoorWJoin

namespace Go.Proofs.YtjhagfggelhpkaaDoor.hashShifts

open Go.ChangeShapes Go.WideShapes Go.ChangeAt Go.RowKit

set_option linter.unusedVariables false

theorem joinV_nat (a b : Int) (n : Nat) : hi.joinV a b n = hp.Tn (8 * n) (hi.low a) ^^^ hi.low b := by
  unfold hi.joinV
  rw [if_neg (by omega)]
  rfl

end Go.Proofs.YtjhagfggelhpkaaDoor.hashShifts
