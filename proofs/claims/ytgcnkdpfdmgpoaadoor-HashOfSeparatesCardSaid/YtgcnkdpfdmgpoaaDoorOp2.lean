/- A pair of bytes as an argument. -/
import Derived.Test.YtgcnkdpfdmgpoaaDoorOpen

import Derived.OpenShut

import Derived.Test.YtgcnkdpfdmgpoaaDoorPj

namespace Go.Proofs.YtgcnkdpfdmgpoaaDoor.hj

open Go Go.ChangeShapes Go.WideShapes Go.ChangeAt Go.RowKit

set_option linter.unusedVariables false
theorem open_pair {H : Type} {enc : TypeId × Value → H} {w : World} {base b0 : Nat} {sp : Nat → Bool} {held : Bool} {r : Reach} {v : Value} {d : DataW H} {ps : List MemPlace}
    (hval : Value.okWide Tryd.prog w r b0 62 v) (hd : DataW.Trod enc Tryd.prog w base sp held 62 v d ps) :
    ∃ x y, v = .agg #[.int .u8 x, .int .u8 y] ∧ (Lit.int .u8 x).wf = true ∧ (Lit.int .u8 y).wf = true := by
  have hv : ∃ cs : Array Value, v = .agg cs ∧ cs.size = 2 := by
    unfold Value.okWide at hval
    rw [Tryd.underlying62] at hval
    obtain ⟨cs, h1, h2, _⟩ := hval
    exact ⟨cs, h1, h2.trans (by kernel_rfl)⟩
  obtain ⟨⟨cs⟩, rfl, hcs⟩ := hv
  obtain ⟨fuel, hf⟩ := hd
  obtain ⟨xs, m, rfl, hx, hl, hn, hall⟩ := DataW.trod_array Tryd.underlying62 hf
  have hc1 : Tryd.prog.cellsOf 5 = 1 := by kernel_rfl
  match cs, hcs with
  | [c0, c1], _ =>
    match xs, hn with
    | [x0, x1], _ =>
      have h0 := hall 0 (by decide)
      have h1 := hall 1 (by decide)
      rw [hc1] at h0 h1
      have h0' : DataW.trod enc Tryd.prog w base sp held m 5 [c0] = some x0 := by simpa [Value.cells] using h0
      have h1' : DataW.trod enc Tryd.prog w base sp held m 5 [c1] = some x1 := by simpa [Value.cells] using h1
      obtain ⟨n0, e0, _, w0⟩ := DataW.trod_int Tryd.underlying5 h0'
      obtain ⟨n1, e1, _, w1⟩ := DataW.trod_int Tryd.underlying5 h1'
      obtain rfl : c0 = .int .u8 n0 := by simpa using e0
      obtain rfl : c1 = .int .u8 n1 := by simpa using e1
      exact ⟨n0, n1, rfl, w0, w1⟩
end Go.Proofs.YtgcnkdpfdmgpoaaDoor.hj
