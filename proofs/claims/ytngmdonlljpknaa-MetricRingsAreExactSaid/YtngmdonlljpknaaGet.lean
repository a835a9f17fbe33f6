
import Derived.Test.YtngmdonlljpknaaInt

namespace Go.Proofs.Ytngmdonlljpknaa.wi

open Go.ChangeShapes Go.WideShapes Go.ChangeAt Go.RowKit
end Go.Proofs.Ytngmdonlljpknaa.wi
