
import Derived.Test.YtbnemcggiopdmaaEnc

import Derived.Test.YtbnemcggiopdmaaKit

namespace Go.Proofs.Ytbnemcggiopdmaa.wi

open Go.ChangeShapes Go.WideShapes Go.ChangeAt Go.RowKit
/-- the value of a digest -/
def dg (d : List UInt8) : Value := .agg (wp.bc d).toArray

end Go.Proofs.Ytbnemcggiopdmaa.wi
