
import Derived.Test.YtlcdjabfkfmpdaaKit2

namespace Go.Proofs.Ytlcdjabfkfmpdaa.wi

open Go.ChangeShapes Go.WideShapes Go.ChangeAt Go.RowKit

theorem RB_new {w : World} {g : Nat} (hg : w.heap.size = g) (l : List UInt8) {cs : Array Value} (t : TypeId) (hcs : cs = (wp.bc l).toArray) : wp.RB (w.alloc (.cells cs t)) (some ⟨g, 0, none⟩) l := fun hl => by
  subst hg hcs
  exact ⟨w.heap.size, 0, rfl, by simp, fun j u hu => by
    have := wk.cells_new w (wp.bc l) t j (.int .u8 (u.toNat : Int)) (by simp [wp.bc, hu])
    rw [wk.add_at] at this
    exact this⟩
theorem RC_new {w : World} {g : Nat} (hg : w.heap.size = g) (xs : List Value) {cs : Array Value} (t : TypeId) (hcs : cs = xs.toArray) : wp.RC (w.alloc (.cells cs t)) (some ⟨g, 0, none⟩) xs := fun hl => by
  subst hg hcs
  exact ⟨w.heap.size, 0, rfl, by simp, fun j u hu => by
    have := wk.cells_new w xs t j u hu
    rw [wk.add_at] at this
    exact this⟩

end Go.Proofs.Ytlcdjabfkfmpdaa.wi
