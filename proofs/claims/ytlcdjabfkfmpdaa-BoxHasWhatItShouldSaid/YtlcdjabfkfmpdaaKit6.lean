
import Derived.Test.YtlcdjabfkfmpdaaKit5

import Derived.Deep.MidRow

import Derived.Deep.RegionHeld3

namespace Go.Proofs.Ytlcdjabfkfmpdaa.wk

open Go.RowKit

section

variable {P : Program}
theorem results_cell_at {fn : Func} {p : Tmp} {ty : TypeId} (h : fn.results = #[.cell p ty]) (tmps : Array Value) (w : World) (ad : Addr) (cs : List Value) (d : TypeDesc)
    (hp : tmps.getD p undef = .pointer (some ad)) (hc : ∀ j x, cs[j]? = some x → w.cell? (ad.add j) = some x)
    (hu : P.underlying ty = some d) (hd : (match d with | .struct _ | .array _ _ => true | _ => false) = true) (hi : (P.info? ty).map (·.size) = some cs.length) :
    (results fn tmps).run P w = .ok (.agg cs.toArray) w := by
  have hp' : tmps[p]?.getD undef = .pointer (some ad) := by simpa using hp
  simp [results, h, hp', asAddr, run_load_agg w ad ty cs d hc hu hd hi]
theorem below_setCells {B g : Nat} {a : World} (hg : B ≤ g) : ∀ (vs : List Value) (o : Nat) (w : World), Below B a w → Below B a (w.setCells g o vs)
  | [], _, _, h => h
  | v :: vs, o, w, h => below_setCells hg vs (o + 1) (w.setCell ⟨g, o, none⟩ v) (h.setCell (p := ⟨g, o, none⟩) hg v)
theorem there_row {w : World} {g n : Nat} {cs : Array Value} {t : TypeId} (h : w.heap[g]? = some (.cells cs t (0, 0))) (hn : cs.size = n) : w.there g 0 n := fun j hj => by
  rw [cell_of_row _ _ _ _ _ _ h, frozen_of_row _ _ _ _ _ h]
  simp
  omega
theorem there_below {w w' : World} {g n B : Nat} (h : w.there g 0 n) (hg : g < B) (hb : Below B w w') : w'.there g 0 n := fun j hj => by
  rw [hb.cell (p := ⟨g, 0 + j, none⟩) hg, hb.frozen (p := ⟨g, 0 + j, none⟩) hg]
  exact h j hj
theorem setCells_at {w : World} {g : Nat} {cs : List Value} (h : w.there g 0 cs.length) : ∀ j x, cs[j]? = some x → (w.setCells g 0 cs).cell? ((⟨g, 0, none⟩ : Addr).add j) = some x := fun j x hx => by
  rw [add_at]
  exact World.rangeAt_setCells_same w g 0 cs h j x hx
end

end Go.Proofs.Ytlcdjabfkfmpdaa.wk
