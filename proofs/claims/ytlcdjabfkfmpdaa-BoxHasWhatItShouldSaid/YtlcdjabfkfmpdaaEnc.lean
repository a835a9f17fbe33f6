
import Derived.Test.YtlcdjabfkfmpdaaInt

namespace Go.Proofs.Ytlcdjabfkfmpdaa.wi

open Go.ChangeShapes Go.WideShapes Go.ChangeAt Go.RowKit
/-- a fresh row of bytes is handed back -/
def OutB (l : List UInt8) (w : World) (e : Ending) (w' : World) : Prop :=
  ∃ v, e = .returned v ∧ w'.ownsRow w.heap.size 5 1 v l.length (wp.bc l) ∧ Below w.heap.size w w'

end Go.Proofs.Ytlcdjabfkfmpdaa.wi
