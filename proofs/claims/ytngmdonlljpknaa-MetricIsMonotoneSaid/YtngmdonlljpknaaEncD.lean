
import Derived.Test.YtngmdonlljpknaaEnc

import Derived.Test.YtngmdonlljpknaaKit

namespace Go.Proofs.Ytngmdonlljpknaa.wi

open Go.ChangeShapes Go.WideShapes Go.ChangeAt Go.RowKit
/-- the value of a digest -/
def dg (d : List UInt8) : Value := .agg (wp.bc d).toArray

end Go.Proofs.Ytngmdonlljpknaa.wi
