/- CodeTablesAsSpecified: for every input that the row admits the call returns true and leaves what it was given as it was. -/
import Derived.Test.YtiodjepjbooniaaYh

import Derived.Test.YtiodjepjbooniaaG12

import Derived.Test.YtiodjepjbooniaaG6

import Derived.Test.YtiodjepjbooniaaG2

import Derived.OpenShut

import Derived.ShutString

import Derived.ChangeOld

import Derived.Below

namespace Go.Proofs.Ytiodjepjbooniaa.codeTablesAsSpecified

open Go Go.ChangeShapes Go.WideShapes Go.ChangeAt Go.RowKit

open Go.ChangeMaps (open_string shut_string)

set_option linter.unusedVariables false

theorem own : ownKnob Try.prog.godebug = none := by kernel_rfl
theorem laidOut : laidOutB Try.prog = true := by kernel_rfl

end Go.Proofs.Ytiodjepjbooniaa.codeTablesAsSpecified
