
import Derived.Test.YtgcnkdpfdmgpoaaDoorSn

import Derived.Test.YtgcnkdpfdmgpoaaDoorOpen

import Derived.Test.YtgcnkdpfdmgpoaaDoorKit8

namespace Go.Proofs.YtgcnkdpfdmgpoaaDoor.hashCrcMatchesSpec

open Go.ChangeShapes Go.WideShapes Go.ChangeAt Go.RowKit

set_option linter.unusedVariables false

set_option maxRecDepth 100000 in
set_option maxHeartbeats 1000000 in
theorem walk (w : World) (hT : hi.TabK w) {A : Option Addr} {n c : Nat} {l : List UInt8} (w0 : wo.IsB w A n c l) :
    Calls Tryd.prog 3 #[.slice A n c] w fun e w' => e = .returned (.bool true) ∧ Below w.heap.size w w' := by
  obtain ⟨hl, hnc, hc, hr⟩ := w0
  have HS := Lib.hid (hi.sanity_true w hT)
  have HR := Lib.hid hr
  have HL := Lib.hid hl
  clear hT hr hl
  by_cases h6 : 600 < n
  · go_enter Tryd.func3, Tryd.ntmps3
    go_wp2_with fail
    refine HS.out.mono ?_
    rintro e w1 ⟨rfl, hb⟩
    go_wp2_with fail
    go_ret
    exact ⟨rfl, hb⟩
  · have HCL := Lib.hid (hp.crc_lt l)
    have hconv : ∀ w', Below w.heap.size w w' → (convert 22 9 (.slice A n c)).run Tryd.prog w' = .ok (.string ⟨l.toArray⟩) w' := fun w' hb =>
      wk.conv_str w' _ 5 _ Tryd.underlying22 Tryd.underlying5 Tryd.underlying9 A n c l HL.out (wk.RB.below HR.out hb)
    have HCO := Lib.hid hconv
    clear hconv
    have hsz : (⟨l.toArray⟩ : ByteArray).size = n := by rw [hi.str_size]; exact HL.out
    have HSZ := Lib.hid hsz
    clear hsz
    obtain ⟨str, hstr⟩ : ∃ str : ByteArray, (⟨l.toArray⟩ : ByteArray) = str := ⟨_, rfl⟩
    have hsl : str.data.toList = l := by rw [← hstr]
    have HSL := Lib.hid hsl
    rw [hstr] at HCO HSZ
    clear hstr hsl
    obtain ⟨q, hq⟩ : ∃ q : Int, ((hp.crc l : Nat) : Int) = q := ⟨_, rfl⟩
    have HQ := Lib.hid hq
    have hq0 : 0 ≤ q := by omega
    have hq1 : q < 1099511627776 := by have := HCL.out; omega
    clear hq
    go_enter Tryd.func3, Tryd.ntmps3
    go_wp2_with fail
    refine HS.out.mono ?_
    rintro e w1 ⟨rfl, hb⟩
    have HB1 := Lib.hid hb
    have hc1 := HCO.out w1 hb
    have HC := Lib.hid (hi.crc40 A n c l w1 HL.out hnc hc (wk.RB.below HR.out hb))
    rw [HQ.out] at HC
    clear hb
    go_wp2_with fail
    refine HC.out.mono ?_
    rintro e w2 ⟨rfl, hb2⟩
    have HB2 := Lib.hid (HB1.out.trans (hb2.mono HB1.out.size))
    clear hb2 hc1 HC
    obtain ⟨A3, c3, w3, hrun, hc31, hc32, hR3, hB3⟩ := wk.conv_bytes (P := Tryd.prog) w2 9 22 5 str Tryd.underlying9 Tryd.underlying22 Tryd.underlying5 (by rw [HSZ.out]; unfold maxLen; omega)
    rw [HSZ.out] at hrun hc31
    rw [HSL.out] at hR3
    have HC := Lib.hid (hi.rcrc_calls A3 n c3 l w3 HL.out hc31 hc32 hR3)
    rw [HQ.out] at HC
    have HB3 := Lib.hid (HB2.out.trans (hB3.mono HB2.out.size))
    have hc3 := HCO.out w3 HB3.out
    clear hR3 hB3 hc31 hc32
    go_wp2_with fail
    refine HC.out.mono ?_
    rintro e w4 ⟨rfl, rfl⟩
    clear hrun HC
    go_wp2_with fail
    go_ret
    exact ⟨rfl, HB3.out⟩
end Go.Proofs.YtgcnkdpfdmgpoaaDoor.hashCrcMatchesSpec
