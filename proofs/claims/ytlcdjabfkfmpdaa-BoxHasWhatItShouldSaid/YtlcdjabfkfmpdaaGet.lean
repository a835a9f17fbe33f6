
import Derived.Test.YtlcdjabfkfmpdaaInt

namespace Go.Proofs.Ytlcdjabfkfmpdaa.wi

open Go.ChangeShapes Go.WideShapes Go.ChangeAt Go.RowKit
end Go.Proofs.Ytlcdjabfkfmpdaa.wi
