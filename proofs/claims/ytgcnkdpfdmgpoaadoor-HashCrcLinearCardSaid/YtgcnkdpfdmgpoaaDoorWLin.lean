
import Derived.Test.YtgcnkdpfdmgpoaaDoorSn

import Derived.Test.YtgcnkdpfdmgpoaaDoorOpen

import Derived.Test.YtgcnkdpfdmgpoaaDoorBit2

import Derived.Test.YtgcnkdpfdmgpoaaDoorHx

import Derived.Laws.OwnMore

namespace Go.Proofs.YtgcnkdpfdmgpoaaDoor.hashCrcLinear

open Go.ChangeShapes Go.WideShapes Go.ChangeAt Go.RowKit

set_option linter.unusedVariables false

set_option maxRecDepth 100000 in
set_option maxHeartbeats 2000000 in
theorem walk (w : World) (hT : hi.TabK w) {A1 : Option Addr} {n1 c1 : Nat} {l1 : List UInt8} (w0 : wo.IsB w A1 n1 c1 l1) {A2 : Option Addr} {n2 c2 : Nat} {l2 : List UInt8} (w1 : wo.IsB w A2 n2 c2 l2) {A3 : Option Addr} {n3 c3 : Nat} {l3 : List UInt8} (w2 : wo.IsB w A3 n3 c3 l3) :
    Calls Tryd.prog 9 #[.slice A1 n1 c1, .slice A2 n2 c2, .slice A3 n3 c3] w fun e w' => e = .returned (.bool true) ∧ Below w.heap.size w w' := by
  obtain ⟨hl1, hnc1, hc1, hr1⟩ := w0
  obtain ⟨hl2, hnc2, hc2, hr2⟩ := w1
  obtain ⟨hl3, hnc3, hc3, hr3⟩ := w2
  have HS := Lib.hid (hi.sanity_true w hT)
  have HR1 := Lib.hid hr1
  have HL1 := Lib.hid hl1
  have HR2 := Lib.hid hr2
  have HL2 := Lib.hid hl2
  have HR3 := Lib.hid hr3
  have HL3 := Lib.hid hl3
  clear hT hr1 hl1 hr2 hl2 hr3 hl3
  by_cases g1 : 400 < n1
  · go_enter Tryd.func9, Tryd.ntmps9
    go_wp2_with fail
    refine HS.out.mono ?_
    rintro e w1 ⟨rfl, hb⟩
    go_wp2_with fail
    go_ret
    exact ⟨rfl, hb⟩
  · go_enter Tryd.func9, Tryd.ntmps9
    go_wp2_with fail
    refine HS.out.mono ?_
    rintro e w1 ⟨rfl, hb⟩
    have HB1 := Lib.hid hb
    have K1 := Lib.hid (wk.RB.below HR1.out hb)
    have K2 := Lib.hid (wk.RB.below HR2.out hb)
    have K3 := Lib.hid (wk.RB.below HR3.out hb)
    clear hb
    obtain ⟨i0, hi0, hz0, hz1, hz2⟩ := info_parts wi.info5
    obtain ⟨w2, hmk, hown, hgr⟩ := run_makeSlice_full (P := Tryd.prog) w1 w1.heap.size 22 5 i0 (.int .u8 0) 1 Tryd.underlying22 hi0 hz0 hz1 .i64 .i64 n1 (by omega) (by rw [hz2]; omega) (by unfold maxLen; omega) (Nat.le_refl _)
    have hcells : (madeCells (Value.int IntKind.u8 0).cells (n1 * 1)).toList = wp.bc (List.replicate n1 0) := by
      rw [Nat.mul_one, show (Value.int IntKind.u8 0).cells = #[Value.int IntKind.u8 0] from rfl, toList_madeCells_one]
      simp [wp.bc]
    rw [hcells] at hown
    have hb2 : Below w1.heap.size w1 w2 := (Below.refl _ _).grown hgr (Nat.le_refl _) (fun k hk => by cases hk)
    obtain ⟨AN, cN, eN, hN1, hN2, hRN⟩ := wp.RC.of_own hown
    simp only [Value.slice.injEq, true_and] at eN
    obtain ⟨rfl, rfl⟩ := eN
    have KN := Lib.hid hRN.rb
    have K1 := Lib.hid (wk.RB.below K1.out hb2)
    have K2 := Lib.hid (wk.RB.below K2.out hb2)
    have K3 := Lib.hid (wk.RB.below K3.out hb2)
    have HB2 := Lib.hid (HB1.out.trans (hb2.mono HB1.out.size))
    have hmk2 := hmk
    clear hmk hown hgr hb2 hRN hcells hi0 hz0 hz1 hz2
    have HX2 := Lib.hid (hi.xor_calls (some ⟨w1.heap.size, 0, none⟩) A2 n1 n1 n2 c2 (List.replicate n1 0) l2 w2 (by simp) (Nat.le_refl _) (by omega) KN.out HL2.out hnc2 hc2 K2.out (by omega))
    have hf2 : hx.xorL (List.replicate n1 0) l2 = hx.fit n1 l2 := rfl
    have hf3 : hx.xorL (List.replicate n1 0) l3 = hx.fit n1 l3 := rfl
    have F2 := Lib.hid (hx.fit_length n1 l2)
    have F3 := Lib.hid (hx.fit_length n1 l3)
    rw [hf2] at HX2
    have HF3 := Lib.hid hf3
    have HXX := Lib.hid (hx.crc_xor3 (a := l1) (b := hx.fit n1 l2) (c := hx.fit n1 l3) (by rw [HL1.out, F2.out]) (by rw [HL1.out, F3.out]))
    have HLX := Lib.hid (hx.xorL_length l1 (hx.fit n1 l2))
    have HLX2 := Lib.hid (hx.xorL_length (hx.xorL l1 (hx.fit n1 l2)) (hx.fit n1 l3))
    clear hf2 hf3
    generalize hx.fit n1 l2 = y at *
    generalize hx.fit n1 l3 = z at *
    go_wp2_with fail
    refine HX2.out.mono ?_
    rintro e w3 ⟨v3, rfl, hown3, hb3⟩
    obtain ⟨AY, cY, rfl, hY1, hY2, hRY⟩ := wp.RC.of_own hown3
    rw [F2.out] at hY1
    have KY := Lib.hid hRY.rb
    have KN := Lib.hid (wk.RB.below KN.out hb3)
    have K1 := Lib.hid (wk.RB.below K1.out hb3)
    have K3 := Lib.hid (wk.RB.below K3.out hb3)
    have HB3 := Lib.hid (HB2.out.trans (hb3.mono HB2.out.size))
    clear hown3 hb3 hRY HX2
    have HX3 := Lib.hid (hi.xor_calls (some ⟨w1.heap.size, 0, none⟩) A3 n1 n1 n3 c3 (List.replicate n1 0) l3 w3 (by simp) (Nat.le_refl _) (by omega) KN.out HL3.out hnc3 hc3 K3.out (by omega))
    rw [HF3.out] at HX3
    rw [F2.out]
    go_wp2_with fail
    refine HX3.out.mono ?_
    rintro e w4 ⟨v4, rfl, hown4, hb4⟩
    obtain ⟨AZ, cZ, rfl, hZ1, hZ2, hRZ⟩ := wp.RC.of_own hown4
    rw [F3.out] at hZ1
    have KZ := Lib.hid hRZ.rb
    have KY := Lib.hid (wk.RB.below KY.out hb4)
    have K1 := Lib.hid (wk.RB.below K1.out hb4)
    have HB4 := Lib.hid (HB3.out.trans (hb4.mono HB3.out.size))
    clear hown4 hb4 hRZ HX3
    have HX4 := Lib.hid (hi.xor_calls A1 AY n1 c1 n1 cY l1 y w4 HL1.out hnc1 hc1 K1.out F2.out hY1 (by unfold maxLen at hY2; omega) KY.out (by omega))
    rw [F3.out]
    go_wp2_with fail
    refine HX4.out.mono ?_
    rintro e w5 ⟨v5, rfl, hown5, hb5⟩
    obtain ⟨AP, cP, rfl, hP1, hP2, hRP⟩ := wp.RC.of_own hown5
    rw [HLX.out, HL1.out] at hP1
    have KP := Lib.hid hRP.rb
    have KZ := Lib.hid (wk.RB.below KZ.out hb5)
    have KY := Lib.hid (wk.RB.below KY.out hb5)
    have K1 := Lib.hid (wk.RB.below K1.out hb5)
    have HB5 := Lib.hid (HB4.out.trans (hb5.mono HB4.out.size))
    clear hown5 hb5 hRP HX4
    have HX5 := Lib.hid (hi.xor_calls AP AZ n1 cP n1 cZ (hx.xorL l1 y) z w5 (by rw [HLX.out, HL1.out]) hP1 (by unfold maxLen at hP2; omega) KP.out F3.out hZ1 (by unfold maxLen at hZ2; omega) KZ.out (by omega))
    rw [HLX.out, HL1.out]
    go_wp2_with fail
    refine HX5.out.mono ?_
    rintro e w6 ⟨v6, rfl, hown6, hb6⟩
    obtain ⟨AW, cW, rfl, hW1, hW2, hRW⟩ := wp.RC.of_own hown6
    rw [HLX2.out, HLX.out, HL1.out] at hW1
    have KW := Lib.hid hRW.rb
    have KZ := Lib.hid (wk.RB.below KZ.out hb6)
    have KY := Lib.hid (wk.RB.below KY.out hb6)
    have K1 := Lib.hid (wk.RB.below K1.out hb6)
    have HB6 := Lib.hid (HB5.out.trans (hb6.mono HB5.out.size))
    clear hown6 hb6 hRW HX5
    have hlw : (hx.xorL (hx.xorL l1 y) z).length = n1 := by rw [HLX2.out, HLX.out, HL1.out]
    rw [hlw]
    have HC1 := Lib.hid (hi.crc40 AW n1 cW (hx.xorL (hx.xorL l1 y) z) w6 hlw hW1 (by unfold maxLen at hW2; omega) KW.out)
    rw [HXX.out] at HC1
    have E1 := Lib.hid (hb.xor40 (hp.crc_lt l1) (hp.crc_lt y))
    have E2 := Lib.hid (hb.xor40 (Nat.xor_lt_two_pow (n := 40) (hp.crc_lt l1) (hp.crc_lt y)) (hp.crc_lt z))
    clear hlw
    go_wp2_with fail
    refine HC1.out.mono ?_
    rintro e w7 ⟨rfl, hb7⟩
    have KZ := Lib.hid (wk.RB.below KZ.out hb7)
    have KY := Lib.hid (wk.RB.below KY.out hb7)
    have K1 := Lib.hid (wk.RB.below K1.out hb7)
    have HB7 := Lib.hid (HB6.out.trans (hb7.mono HB6.out.size))
    clear hb7 HC1
    have HC2 := Lib.hid (hi.crc40 A1 n1 c1 l1 w7 HL1.out hnc1 hc1 K1.out)
    go_wp2_with fail
    refine HC2.out.mono ?_
    rintro e w8 ⟨rfl, hb8⟩
    have KZ := Lib.hid (wk.RB.below KZ.out hb8)
    have KY := Lib.hid (wk.RB.below KY.out hb8)
    have HB8 := Lib.hid (HB7.out.trans (hb8.mono HB7.out.size))
    clear hb8 HC2
    have HC3 := Lib.hid (hi.crc40 AY n1 cY y w8 F2.out hY1 (by unfold maxLen at hY2; omega) KY.out)
    go_wp2_with fail
    refine HC3.out.mono ?_
    rintro e w9 ⟨rfl, hb9⟩
    have KZ := Lib.hid (wk.RB.below KZ.out hb9)
    have HB9 := Lib.hid (HB8.out.trans (hb9.mono HB8.out.size))
    clear hb9 HC3
    have HC4 := Lib.hid (hi.crc40 AZ n1 cZ z w9 F3.out hZ1 (by unfold maxLen at hZ2; omega) KZ.out)
    have e1 := E1.out
    go_wp2_with fail
    refine HC4.out.mono ?_
    rintro e w10 ⟨rfl, hb10⟩
    have HB10 := Lib.hid (HB9.out.trans (hb10.mono HB9.out.size))
    clear hb10 HC4
    have e2 := E2.out
    go_wp2_with fail
    go_ret
    exact ⟨rfl, HB10.out⟩
end Go.Proofs.YtgcnkdpfdmgpoaaDoor.hashCrcLinear
