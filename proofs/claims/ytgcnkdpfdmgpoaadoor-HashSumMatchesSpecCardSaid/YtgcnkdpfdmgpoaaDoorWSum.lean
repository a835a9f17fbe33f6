
import Derived.Test.YtgcnkdpfdmgpoaaDoorSn

import Derived.Test.YtgcnkdpfdmgpoaaDoorOpen

import Derived.Test.YtgcnkdpfdmgpoaaDoorKit8

import Derived.Test.YtgcnkdpfdmgpoaaDoorRq

import Derived.Test.YtgcnkdpfdmgpoaaDoorVs

import Derived.Deep.RegionHeldLaw

namespace Go.Proofs.YtgcnkdpfdmgpoaaDoor.hashSumMatchesSpec

open Go.ChangeShapes Go.WideShapes Go.ChangeAt Go.RowKit

set_option linter.unusedVariables false

set_option maxRecDepth 100000 in
set_option maxHeartbeats 4000000 in
theorem walk (w : World) (hTT : hi.TabK w ∧ hi.TabC w) {A : Option Addr} {n c : Nat} {l : List UInt8} (w0 : wo.IsB w A n c l) :
    Calls Tryd.prog 11 #[.slice A n c] w fun e w' => e = .returned (.bool true) ∧ Below w.heap.size w w' := by
  obtain ⟨hl, hnc, hc, hr⟩ := w0
  obtain ⟨hT, hTC⟩ := hTT
  have HS := Lib.hid (hi.sanity_true w hT)
  have HR := Lib.hid hr
  have HL := Lib.hid hl
  have HTK := Lib.hid hT
  have HTC := Lib.hid hTC
  clear hT hTC hr hl
  by_cases h6 : 600 < n
  · go_enter Tryd.func11, Tryd.ntmps11
    go_wp2_with fail
    refine HS.out.mono ?_
    rintro e w1 ⟨rfl, hb⟩
    go_wp2_with fail
    go_ret
    exact ⟨rfl, hb⟩
  · have hconv : ∀ w', Below w.heap.size w w' → (convert 22 9 (.slice A n c)).run Tryd.prog w' = .ok (.string ⟨l.toArray⟩) w' := fun w' hb =>
      wk.conv_str w' _ 5 _ Tryd.underlying22 Tryd.underlying5 Tryd.underlying9 A n c l HL.out (wk.RB.below HR.out hb)
    have HCO := Lib.hid hconv
    clear hconv
    have hsz : (⟨l.toArray⟩ : ByteArray).size = n := by rw [hi.str_size]; exact HL.out
    have HSZ := Lib.hid hsz
    clear hsz
    obtain ⟨str, hstr⟩ : ∃ str : ByteArray, (⟨l.toArray⟩ : ByteArray) = str := ⟨_, rfl⟩
    have hsl : str.data.toList = l := by rw [← hstr]
    have HSL := Lib.hid hsl
    rw [hstr] at HCO HSZ
    clear hstr hsl
    have hS1 := fun w' hb => hi.hsum_calls A n c l w' HL.out hnc hc (by omega) (wk.RB.below HR.out hb) (HTK.out.below HTK.out.1 hb)
    have hS2 := fun w' A' c' h1 h2 hr hb => hi.rsum_calls A' n c' l w' HL.out h1 h2 hr (by omega) (HTC.out.below HTC.out.1 hb)
    have hE : (hs.sha l).length = 32 := rfl
    generalize hs.sha l = S at *
    have HE := Lib.hid hE
    have H1 := Lib.hid hS1
    have H2 := Lib.hid hS2
    clear hS1 hS2 hE
    go_enter Tryd.func11, Tryd.ntmps11
    go_wp2_with fail
    refine HS.out.mono ?_
    rintro e w1 ⟨rfl, hb⟩
    have HB1 := Lib.hid hb
    have hc1 := HCO.out w1 hb
    have HX := Lib.hid (H1.out w1 hb)
    clear hb
    go_wp2_with fail
    refine HX.out.mono ?_
    rintro e w2 ⟨rfl, hb2⟩
    have HB2 := Lib.hid (HB1.out.trans (hb2.mono HB1.out.size))
    clear hb2 hc1 HX
    have hz := hi.size_to hi.size32 (by rw [wp.bc_length]; exact HE.out : (wp.bc S).length = _)
    have hz' : (#[.int .u8 0, .int .u8 0, .int .u8 0, .int .u8 0, .int .u8 0, .int .u8 0, .int .u8 0, .int .u8 0, .int .u8 0, .int .u8 0, .int .u8 0, .int .u8 0, .int .u8 0, .int .u8 0, .int .u8 0, .int .u8 0, .int .u8 0, .int .u8 0, .int .u8 0, .int .u8 0, .int .u8 0, .int .u8 0, .int .u8 0, .int .u8 0, .int .u8 0, .int .u8 0, .int .u8 0, .int .u8 0, .int .u8 0, .int .u8 0, .int .u8 0, .int .u8 0] : Array Value).size = (wp.bc S).length := by rw [wp.bc_length, HE.out]; rfl
    have ho := wk.ones_bc S
    go_upto_region 6 with (refine wk.store_new rfl 47 (.tmp 5) (.tmp 14) rfl 47 _ (wp.bc S) rfl rfl hz hz' ho ?_)
    have q : (w2.alloc (.cells (wp.bc S).toArray 47)).heap[w2.heap.size]? = some (.cells (wp.bc S).toArray 47 (0, 0)) := heap_alloc_new _ _
    have hB3 := HB2.out.alloc HB2.out.size (.cells (wp.bc S).toArray 47)
    generalize w2.alloc (.cells (wp.bc S).toArray 47) = w3 at *
    generalize w2.heap.size = G at *
    have Q := Lib.hid q
    have HB3 := Lib.hid hB3
    clear q hB3 hz hz' ho
    have hld : ∀ w' : World, w'.heap[G]? = some (.cells (wp.bc S).toArray 47 (0, 0)) → w'.rangeAt G 0 (wp.bc S) := fun w' hh j v hv => by
      rw [Nat.zero_add, cell_of_row _ _ _ _ _ _ hh, List.getElem?_toArray]; exact hv
    have HLD := Lib.hid hld
    clear hld
    have hun := Tryd.underlying47
    have hin := hi.size_to hi.size32 (by rw [wp.bc_length]; exact HE.out : (wp.bc S).length = _)
    obtain ⟨A3, c3, w4, hrun, hc31, hc32, hR3, hB4⟩ := wk.conv_bytes (P := Tryd.prog) w3.drew 9 22 5 str Tryd.underlying9 Tryd.underlying22 Tryd.underlying5 (by rw [HSZ.out]; unfold maxLen; omega)
    rw [HSZ.out] at hrun hc31
    rw [HSL.out] at hR3
    have Q3 : Hid (w3.drew.heap[G]? = some (.cells (wp.bc S).toArray 47 (0, 0))) := Q.out
    have Q4 := Lib.hid (wk.row_below Q3.out hB4)
    have HB3' : Hid (Below w.heap.size w w3.drew) := HB3.out.drew
    have HB4 := Lib.hid (HB3'.out.trans (hB4.mono HB3'.out.size))
    have HC := Lib.hid (H2.out w4 A3 c3 hc31 hc32 hR3 HB4.out)
    have hst3 := HCO.out _ HB3'.out
    have hst4 := HCO.out _ HB4.out
    have hl3 := HLD.out _ Q3.out
    have hl4 := HLD.out _ Q4.out
    have heq := fun w' => wk.run_eq_arr w' 9998 47 5 32 Tryd.underlying47 Tryd.underlying5 hi.size_u8 S S HE.out HE.out
    have hbs : (S == S) = true := by simp
    rw [hbs] at heq
    clear hbs hR3 hB4 hc31 hc32
    go_region_held_law (fun w' => w'.rangeAt G 0 (wp.bc S) ∧ (convert 22 9 (.slice A n c)).run Tryd.prog w' = .ok (.string str) w') (first | exact ⟨hl5, hst5⟩ | exact ⟨hl4, hst4⟩ | exact ⟨hl3, hst3⟩) (first | (go_at_call 30; refine HC.out.mono ?_; rintro e w5 ⟨rfl, hb5⟩; have Q5 := wk.row_below Q4.out hb5; have B5 := HB4.out.trans (hb5.mono HB4.out.size); have hl5 := HLD.out _ Q5; have hst5 := HCO.out _ B5))
    go_wp2_with fail
    go_ret
    exact ⟨rfl, B5⟩
end Go.Proofs.YtgcnkdpfdmgpoaaDoor.hashSumMatchesSpec
