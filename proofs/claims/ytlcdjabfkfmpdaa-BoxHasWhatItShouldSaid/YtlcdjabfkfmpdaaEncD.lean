
import Derived.Test.YtlcdjabfkfmpdaaEnc

import Derived.Test.YtlcdjabfkfmpdaaKit

namespace Go.Proofs.Ytlcdjabfkfmpdaa.wi

open Go.ChangeShapes Go.WideShapes Go.ChangeAt Go.RowKit
/-- the value of a digest -/
def dg (d : List UInt8) : Value := .agg (wp.bc d).toArray

end Go.Proofs.Ytlcdjabfkfmpdaa.wi
