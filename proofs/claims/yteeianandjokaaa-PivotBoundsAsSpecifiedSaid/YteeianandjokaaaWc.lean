/- PivotBoundsAsSpecified: its walk. -/
import Derived.Test.YteeianandjokaaaG13

namespace Go.Proofs.Yteeianandjokaaa.pivotBoundsAsSpecified

open Go.ChangeShapes Go.WideShapes Go.ChangeAt Go.RowKit

open Go.Proofs.Yteeianandjokaaa.pq Go.Proofs.Yteeianandjokaaa.cq Go.Proofs.Yteeianandjokaaa.vk Go.Proofs.Yteeianandjokaaa.bk Go.Proofs.Yteeianandjokaaa.wk Go.Proofs.Yteeianandjokaaa.uk Go.Proofs.Yteeianandjokaaa.pk

set_option linter.unusedVariables false
set_option maxRecDepth 100000 in
set_option maxHeartbeats 8000000 in
theorem walk (w : World) {m : Int} {A1 A2 A3 A4 A5 : Option Addr} {n1 c1 n2 c2 n3 c3 n4 c4 n5 c5 : Nat} {P L : VV} {a b : List Sh} {v : List Int} (w0 : (Lit.int .i64 m).wf = true) (w1 : IsVV w A1 n1 c1 P) (w2 : IsVV w A2 n2 c2 L) (w3 : IsS w A3 n3 c3 a) (w4 : IsS w A4 n4 c4 b) (w5 : wo.IsI w A5 n5 c5 v) :
    Calls Try.prog 4 #[.int .i64 m, .slice A1 n1 c1, .slice A2 n2 c2, .slice A3 n3 c3, .slice A4 n4 c4, .slice A5 n5 c5] w fun e w' => e = .returned (.bool true) ∧ Below w.heap.size w w' := by
  have hnc1 := w1.2.1
  have hnm1 := w1.2.2.1
  have hnc2 := w2.2.1
  have hnm2 := w2.2.2.1
  have hnc3 := w3.2.1
  have hnm3 := w3.2.2.1
  have hnc4 := w4.2.1
  have hnm4 := w4.2.2.1
  have hnc5 := w5.2.1
  have hnm5 := w5.2.2.1
  have HP := Lib.hid (W2.mk w1)
  have HL := Lib.hid (W2.mk w2)
  have HA := Lib.hid (W3.mk w3)
  have HC := Lib.hid (W3.mk w4)
  have HV := Lib.hid (W1.mk w5)
  have HB := Lib.hid (Below.refl w.heap.size w)
  clear w1 w2 w3 w4 w5
  go_enter Try.func4, Try.ntmps4
  go_wp2_with fail
  refine (rfew_calls (q := 10) _ HP.out.is).mono ?_
  rintro e w' ⟨rfl, rfl⟩
  cases few 10 P
  ·
    go_wp2_with fail
    refine (san9_calls _).mono ?_
    rintro e w' ⟨rfl, hb⟩
    have HBZ := Lib.hid (Below.andThen HB.out hb)
    clear hb
    go_wp2_with fail
    go_ret
    exact ⟨rfl, HBZ.out⟩
  go_wp2_with fail
  refine (rfew_calls (q := 30) _ HL.out.is).mono ?_
  rintro e w' ⟨rfl, rfl⟩
  cases few 30 L
  ·
    go_wp2_with fail
    refine (san9_calls _).mono ?_
    rintro e w' ⟨rfl, hb⟩
    have HBZ := Lib.hid (Below.andThen HB.out hb)
    clear hb
    go_wp2_with fail
    go_ret
    exact ⟨rfl, HBZ.out⟩
  by_cases h3 : n3 > 10
  ·
    go_wp2_with fail
    refine (san9_calls _).mono ?_
    rintro e w' ⟨rfl, hb⟩
    have HBZ := Lib.hid (Below.andThen HB.out hb)
    clear hb
    go_wp2_with fail
    go_ret
    exact ⟨rfl, HBZ.out⟩
  by_cases h4 : n4 > 10
  ·
    go_wp2_with fail
    refine (san9_calls _).mono ?_
    rintro e w' ⟨rfl, hb⟩
    have HBZ := Lib.hid (Below.andThen HB.out hb)
    clear hb
    go_wp2_with fail
    go_ret
    exact ⟨rfl, HBZ.out⟩
  by_cases h5 : n5 > 12
  ·
    go_wp2_with fail
    refine (san9_calls _).mono ?_
    rintro e w' ⟨rfl, hb⟩
    have HBZ := Lib.hid (Below.andThen HB.out hb)
    clear hb
    go_wp2_with fail
    go_ret
    exact ⟨rfl, HBZ.out⟩
  go_wp2_with fail
  refine (shells_c (m := m) _ HP.out.is HL.out.is).mono ?_
  rintro e w3 ⟨A6, n6, c6, rfl, hi, hb⟩
  replace HP := Lib.hid (HP.out.below hb)
  replace HL := Lib.hid (HL.out.below hb)
  replace HA := Lib.hid (HA.out.below hb)
  replace HC := Lib.hid (HC.out.below hb)
  replace HV := Lib.hid (HV.out.below hb)
  replace HB := Lib.hid (Below.andThen HB.out hb)
  have hHSnc := hi.2.1
  have hHSnm := hi.2.2.1
  have HS := Lib.hid (W3.mk hi)
  clear hi
  clear hb
  go_wp2_with fail
  refine (join_c _ HA.out.is HC.out.is).mono ?_
  rintro e w4 ⟨A7, n7, c7, rfl, hi, hb⟩
  replace HP := Lib.hid (HP.out.below hb)
  replace HL := Lib.hid (HL.out.below hb)
  replace HA := Lib.hid (HA.out.below hb)
  replace HC := Lib.hid (HC.out.below hb)
  replace HV := Lib.hid (HV.out.below hb)
  replace HS := Lib.hid (HS.out.below hb)
  replace HB := Lib.hid (Below.andThen HB.out hb)
  have hHJnc := hi.2.1
  have hHJnm := hi.2.2.1
  have HJ := Lib.hid (W3.mk hi)
  clear hi
  clear hb
  go_wp2_with fail
  refine (low_c (m := m) _ HA.out.is HV.out.is).mono ?_
  rintro e w5 ⟨rfl, hb⟩
  replace HP := Lib.hid (HP.out.below hb)
  replace HL := Lib.hid (HL.out.below hb)
  replace HA := Lib.hid (HA.out.below hb)
  replace HC := Lib.hid (HC.out.below hb)
  replace HV := Lib.hid (HV.out.below hb)
  replace HS := Lib.hid (HS.out.below hb)
  replace HJ := Lib.hid (HJ.out.below hb)
  replace HB := Lib.hid (Below.andThen HB.out hb)
  clear hb
  go_wp2_with fail
  refine (high_c (m := m) _ HA.out.is HV.out.is).mono ?_
  rintro e w6 ⟨rfl, hb⟩
  replace HP := Lib.hid (HP.out.below hb)
  replace HL := Lib.hid (HL.out.below hb)
  replace HA := Lib.hid (HA.out.below hb)
  replace HC := Lib.hid (HC.out.below hb)
  replace HV := Lib.hid (HV.out.below hb)
  replace HS := Lib.hid (HS.out.below hb)
  replace HJ := Lib.hid (HJ.out.below hb)
  replace HB := Lib.hid (Below.andThen HB.out hb)
  clear hb
  go_wp2_with fail
  refine (rshells_c (m := m) _ HP.out.is HL.out.is).mono ?_
  rintro e w7 ⟨A8, n8, c8, rfl, hi, hb⟩
  replace HP := Lib.hid (HP.out.below hb)
  replace HL := Lib.hid (HL.out.below hb)
  replace HA := Lib.hid (HA.out.below hb)
  replace HC := Lib.hid (HC.out.below hb)
  replace HV := Lib.hid (HV.out.below hb)
  replace HS := Lib.hid (HS.out.below hb)
  replace HJ := Lib.hid (HJ.out.below hb)
  replace HB := Lib.hid (Below.andThen HB.out hb)
  have hHRSnc := hi.2.1
  have hHRSnm := hi.2.2.1
  have HRS := Lib.hid (W3.mk hi)
  clear hi
  clear hb
  have HX1 := Lib.hid (Rw.new w7 54 #[.slice A8 n8 c8, .int .i64 (eI (haveK m P L))])
  replace HP := Lib.hid (HP.out.below (below_new _ (.cells #[.slice A8 n8 c8, .int .i64 (eI (haveK m P L))] 54)))
  replace HL := Lib.hid (HL.out.below (below_new _ (.cells #[.slice A8 n8 c8, .int .i64 (eI (haveK m P L))] 54)))
  replace HA := Lib.hid (HA.out.below (below_new _ (.cells #[.slice A8 n8 c8, .int .i64 (eI (haveK m P L))] 54)))
  replace HC := Lib.hid (HC.out.below (below_new _ (.cells #[.slice A8 n8 c8, .int .i64 (eI (haveK m P L))] 54)))
  replace HV := Lib.hid (HV.out.below (below_new _ (.cells #[.slice A8 n8 c8, .int .i64 (eI (haveK m P L))] 54)))
  replace HS := Lib.hid (HS.out.below (below_new _ (.cells #[.slice A8 n8 c8, .int .i64 (eI (haveK m P L))] 54)))
  replace HJ := Lib.hid (HJ.out.below (below_new _ (.cells #[.slice A8 n8 c8, .int .i64 (eI (haveK m P L))] 54)))
  replace HRS := Lib.hid (HRS.out.below (below_new _ (.cells #[.slice A8 n8 c8, .int .i64 (eI (haveK m P L))] 54)))
  replace HB := Lib.hid (Below.andThen HB.out (below_new _ (.cells #[.slice A8 n8 c8, .int .i64 (eI (haveK m P L))] 54)))
  have hc0HX1 := HX1.out.c (j := 0) rfl
  have hc1HX1 := HX1.out.c (j := 1) rfl
  go_wp2_with fail
  clear hc0HX1 hc1HX1
  refine (rjoin_c _ HA.out.is HC.out.is).mono ?_
  rintro e w8 ⟨A9, n9, c9, rfl, hi, hb⟩
  replace HP := Lib.hid (HP.out.below hb)
  replace HL := Lib.hid (HL.out.below hb)
  replace HA := Lib.hid (HA.out.below hb)
  replace HC := Lib.hid (HC.out.below hb)
  replace HV := Lib.hid (HV.out.below hb)
  replace HS := Lib.hid (HS.out.below hb)
  replace HJ := Lib.hid (HJ.out.below hb)
  replace HRS := Lib.hid (HRS.out.below hb)
  replace HX1 := Lib.hid (HX1.out.below hb)
  replace HB := Lib.hid (Below.andThen HB.out hb)
  have hHRJnc := hi.2.1
  have hHRJnm := hi.2.2.1
  have HRJ := Lib.hid (W3.mk hi)
  clear hi
  clear hb
  have hc0HX1 := HX1.out.c (j := 0) rfl
  have hc1HX1 := HX1.out.c (j := 1) rfl
  clear hc0HX1 hc1HX1
  have HX2 := Lib.hid (Rw.new w8 54 #[.slice A9 n9 c9, .int .i64 (eI (jok a b))])
  replace HP := Lib.hid (HP.out.below (below_new _ (.cells #[.slice A9 n9 c9, .int .i64 (eI (jok a b))] 54)))
  replace HL := Lib.hid (HL.out.below (below_new _ (.cells #[.slice A9 n9 c9, .int .i64 (eI (jok a b))] 54)))
  replace HA := Lib.hid (HA.out.below (below_new _ (.cells #[.slice A9 n9 c9, .int .i64 (eI (jok a b))] 54)))
  replace HC := Lib.hid (HC.out.below (below_new _ (.cells #[.slice A9 n9 c9, .int .i64 (eI (jok a b))] 54)))
  replace HV := Lib.hid (HV.out.below (below_new _ (.cells #[.slice A9 n9 c9, .int .i64 (eI (jok a b))] 54)))
  replace HS := Lib.hid (HS.out.below (below_new _ (.cells #[.slice A9 n9 c9, .int .i64 (eI (jok a b))] 54)))
  replace HJ := Lib.hid (HJ.out.below (below_new _ (.cells #[.slice A9 n9 c9, .int .i64 (eI (jok a b))] 54)))
  replace HRS := Lib.hid (HRS.out.below (below_new _ (.cells #[.slice A9 n9 c9, .int .i64 (eI (jok a b))] 54)))
  replace HX1 := Lib.hid (HX1.out.below (below_new _ (.cells #[.slice A9 n9 c9, .int .i64 (eI (jok a b))] 54)))
  replace HRJ := Lib.hid (HRJ.out.below (below_new _ (.cells #[.slice A9 n9 c9, .int .i64 (eI (jok a b))] 54)))
  replace HB := Lib.hid (Below.andThen HB.out (below_new _ (.cells #[.slice A9 n9 c9, .int .i64 (eI (jok a b))] 54)))
  have hc0HX1 := HX1.out.c (j := 0) rfl
  have hc1HX1 := HX1.out.c (j := 1) rfl
  have hc0HX2 := HX2.out.c (j := 0) rfl
  have hc1HX2 := HX2.out.c (j := 1) rfl
  go_wp2_with fail
  clear hc0HX1 hc1HX1 hc0HX2 hc1HX2
  refine (rlow_c (m := m) _ HA.out.is HV.out.is).mono ?_
  rintro e w9 ⟨rfl, hb⟩
  replace HP := Lib.hid (HP.out.below hb)
  replace HL := Lib.hid (HL.out.below hb)
  replace HA := Lib.hid (HA.out.below hb)
  replace HC := Lib.hid (HC.out.below hb)
  replace HV := Lib.hid (HV.out.below hb)
  replace HS := Lib.hid (HS.out.below hb)
  replace HJ := Lib.hid (HJ.out.below hb)
  replace HRS := Lib.hid (HRS.out.below hb)
  replace HX1 := Lib.hid (HX1.out.below hb)
  replace HRJ := Lib.hid (HRJ.out.below hb)
  replace HX2 := Lib.hid (HX2.out.below hb)
  replace HB := Lib.hid (Below.andThen HB.out hb)
  clear hb
  have hc0HX1 := HX1.out.c (j := 0) rfl
  have hc1HX1 := HX1.out.c (j := 1) rfl
  have hc0HX2 := HX2.out.c (j := 0) rfl
  have hc1HX2 := HX2.out.c (j := 1) rfl
  clear hc0HX1 hc1HX1 hc0HX2 hc1HX2
  have HX3 := Lib.hid (Rw.new w9 39 #[.int .i64 0, .int .i64 (loI m a v), .int .i64 (eI (asked m a v))])
  replace HP := Lib.hid (HP.out.below (below_new _ (.cells #[.int .i64 0, .int .i64 (loI m a v), .int .i64 (eI (asked m a v))] 39)))
  replace HL := Lib.hid (HL.out.below (below_new _ (.cells #[.int .i64 0, .int .i64 (loI m a v), .int .i64 (eI (asked m a v))] 39)))
  replace HA := Lib.hid (HA.out.below (below_new _ (.cells #[.int .i64 0, .int .i64 (loI m a v), .int .i64 (eI (asked m a v))] 39)))
  replace HC := Lib.hid (HC.out.below (below_new _ (.cells #[.int .i64 0, .int .i64 (loI m a v), .int .i64 (eI (asked m a v))] 39)))
  replace HV := Lib.hid (HV.out.below (below_new _ (.cells #[.int .i64 0, .int .i64 (loI m a v), .int .i64 (eI (asked m a v))] 39)))
  replace HS := Lib.hid (HS.out.below (below_new _ (.cells #[.int .i64 0, .int .i64 (loI m a v), .int .i64 (eI (asked m a v))] 39)))
  replace HJ := Lib.hid (HJ.out.below (below_new _ (.cells #[.int .i64 0, .int .i64 (loI m a v), .int .i64 (eI (asked m a v))] 39)))
  replace HRS := Lib.hid (HRS.out.below (below_new _ (.cells #[.int .i64 0, .int .i64 (loI m a v), .int .i64 (eI (asked m a v))] 39)))
  replace HX1 := Lib.hid (HX1.out.below (below_new _ (.cells #[.int .i64 0, .int .i64 (loI m a v), .int .i64 (eI (asked m a v))] 39)))
  replace HRJ := Lib.hid (HRJ.out.below (below_new _ (.cells #[.int .i64 0, .int .i64 (loI m a v), .int .i64 (eI (asked m a v))] 39)))
  replace HX2 := Lib.hid (HX2.out.below (below_new _ (.cells #[.int .i64 0, .int .i64 (loI m a v), .int .i64 (eI (asked m a v))] 39)))
  replace HB := Lib.hid (Below.andThen HB.out (below_new _ (.cells #[.int .i64 0, .int .i64 (loI m a v), .int .i64 (eI (asked m a v))] 39)))
  have hc0HX1 := HX1.out.c (j := 0) rfl
  have hc1HX1 := HX1.out.c (j := 1) rfl
  have hc0HX2 := HX2.out.c (j := 0) rfl
  have hc1HX2 := HX2.out.c (j := 1) rfl
  have hc0HX3 := HX3.out.c (j := 0) rfl
  have hc1HX3 := HX3.out.c (j := 1) rfl
  have hc2HX3 := HX3.out.c (j := 2) rfl
  go_wp2_with fail
  clear hc0HX1 hc1HX1 hc0HX2 hc1HX2 hc0HX3 hc1HX3 hc2HX3
  refine (rhigh_c (m := m) _ HA.out.is HV.out.is).mono ?_
  rintro e w10 ⟨rfl, hb⟩
  replace HP := Lib.hid (HP.out.below hb)
  replace HL := Lib.hid (HL.out.below hb)
  replace HA := Lib.hid (HA.out.below hb)
  replace HC := Lib.hid (HC.out.below hb)
  replace HV := Lib.hid (HV.out.below hb)
  replace HS := Lib.hid (HS.out.below hb)
  replace HJ := Lib.hid (HJ.out.below hb)
  replace HRS := Lib.hid (HRS.out.below hb)
  replace HX1 := Lib.hid (HX1.out.below hb)
  replace HRJ := Lib.hid (HRJ.out.below hb)
  replace HX2 := Lib.hid (HX2.out.below hb)
  replace HX3 := Lib.hid (HX3.out.below hb)
  replace HB := Lib.hid (Below.andThen HB.out hb)
  clear hb
  have hc0HX1 := HX1.out.c (j := 0) rfl
  have hc1HX1 := HX1.out.c (j := 1) rfl
  have hc0HX2 := HX2.out.c (j := 0) rfl
  have hc1HX2 := HX2.out.c (j := 1) rfl
  have hc0HX3 := HX3.out.c (j := 0) rfl
  have hc1HX3 := HX3.out.c (j := 1) rfl
  have hc2HX3 := HX3.out.c (j := 2) rfl
  clear hc0HX1 hc1HX1 hc0HX2 hc1HX2 hc0HX3 hc1HX3 hc2HX3
  have HX4 := Lib.hid (Rw.new w10 39 #[.int .i64 0, .int .i64 (hiI m a v), .int .i64 (eI (asked m a v))])
  replace HP := Lib.hid (HP.out.below (below_new _ (.cells #[.int .i64 0, .int .i64 (hiI m a v), .int .i64 (eI (asked m a v))] 39)))
  replace HL := Lib.hid (HL.out.below (below_new _ (.cells #[.int .i64 0, .int .i64 (hiI m a v), .int .i64 (eI (asked m a v))] 39)))
  replace HA := Lib.hid (HA.out.below (below_new _ (.cells #[.int .i64 0, .int .i64 (hiI m a v), .int .i64 (eI (asked m a v))] 39)))
  replace HC := Lib.hid (HC.out.below (below_new _ (.cells #[.int .i64 0, .int .i64 (hiI m a v), .int .i64 (eI (asked m a v))] 39)))
  replace HV := Lib.hid (HV.out.below (below_new _ (.cells #[.int .i64 0, .int .i64 (hiI m a v), .int .i64 (eI (asked m a v))] 39)))
  replace HS := Lib.hid (HS.out.below (below_new _ (.cells #[.int .i64 0, .int .i64 (hiI m a v), .int .i64 (eI (asked m a v))] 39)))
  replace HJ := Lib.hid (HJ.out.below (below_new _ (.cells #[.int .i64 0, .int .i64 (hiI m a v), .int .i64 (eI (asked m a v))] 39)))
  replace HRS := Lib.hid (HRS.out.below (below_new _ (.cells #[.int .i64 0, .int .i64 (hiI m a v), .int .i64 (eI (asked m a v))] 39)))
  replace HX1 := Lib.hid (HX1.out.below (below_new _ (.cells #[.int .i64 0, .int .i64 (hiI m a v), .int .i64 (eI (asked m a v))] 39)))
  replace HRJ := Lib.hid (HRJ.out.below (below_new _ (.cells #[.int .i64 0, .int .i64 (hiI m a v), .int .i64 (eI (asked m a v))] 39)))
  replace HX2 := Lib.hid (HX2.out.below (below_new _ (.cells #[.int .i64 0, .int .i64 (hiI m a v), .int .i64 (eI (asked m a v))] 39)))
  replace HX3 := Lib.hid (HX3.out.below (below_new _ (.cells #[.int .i64 0, .int .i64 (hiI m a v), .int .i64 (eI (asked m a v))] 39)))
  replace HB := Lib.hid (Below.andThen HB.out (below_new _ (.cells #[.int .i64 0, .int .i64 (hiI m a v), .int .i64 (eI (asked m a v))] 39)))
  have hc0HX1 := HX1.out.c (j := 0) rfl
  have hc1HX1 := HX1.out.c (j := 1) rfl
  have hc0HX2 := HX2.out.c (j := 0) rfl
  have hc1HX2 := HX2.out.c (j := 1) rfl
  have hc0HX3 := HX3.out.c (j := 0) rfl
  have hc1HX3 := HX3.out.c (j := 1) rfl
  have hc2HX3 := HX3.out.c (j := 2) rfl
  have hc0HX4 := HX4.out.c (j := 0) rfl
  have hc1HX4 := HX4.out.c (j := 1) rfl
  have hc2HX4 := HX4.out.c (j := 2) rfl
  go_wp2_with fail
  clear hc0HX1 hc1HX1 hc0HX2 hc1HX2 hc0HX3 hc1HX3 hc2HX3 hc0HX4 hc1HX4 hc2HX4
  refine (rsameSh_t _ HS.out.is HRS.out.is).mono ?_
  rintro e w11 ⟨rfl, hb⟩
  replace HP := Lib.hid (HP.out.below hb)
  replace HL := Lib.hid (HL.out.below hb)
  replace HA := Lib.hid (HA.out.below hb)
  replace HC := Lib.hid (HC.out.below hb)
  replace HV := Lib.hid (HV.out.below hb)
  replace HS := Lib.hid (HS.out.below hb)
  replace HJ := Lib.hid (HJ.out.below hb)
  replace HRS := Lib.hid (HRS.out.below hb)
  replace HX1 := Lib.hid (HX1.out.below hb)
  replace HRJ := Lib.hid (HRJ.out.below hb)
  replace HX2 := Lib.hid (HX2.out.below hb)
  replace HX3 := Lib.hid (HX3.out.below hb)
  replace HX4 := Lib.hid (HX4.out.below hb)
  replace HB := Lib.hid (Below.andThen HB.out hb)
  clear hb
  have hc0HX1 := HX1.out.c (j := 0) rfl
  have hc1HX1 := HX1.out.c (j := 1) rfl
  have hc0HX2 := HX2.out.c (j := 0) rfl
  have hc1HX2 := HX2.out.c (j := 1) rfl
  have hc0HX3 := HX3.out.c (j := 0) rfl
  have hc1HX3 := HX3.out.c (j := 1) rfl
  have hc2HX3 := HX3.out.c (j := 2) rfl
  have hc0HX4 := HX4.out.c (j := 0) rfl
  have hc1HX4 := HX4.out.c (j := 1) rfl
  have hc2HX4 := HX4.out.c (j := 2) rfl
  go_wp2_with fail
  clear hc0HX1 hc1HX1 hc0HX2 hc1HX2 hc0HX3 hc1HX3 hc2HX3 hc0HX4 hc1HX4 hc2HX4
  refine (rsameSh_t _ HJ.out.is HRJ.out.is).mono ?_
  rintro e w12 ⟨rfl, hb⟩
  replace HP := Lib.hid (HP.out.below hb)
  replace HL := Lib.hid (HL.out.below hb)
  replace HA := Lib.hid (HA.out.below hb)
  replace HC := Lib.hid (HC.out.below hb)
  replace HV := Lib.hid (HV.out.below hb)
  replace HS := Lib.hid (HS.out.below hb)
  replace HJ := Lib.hid (HJ.out.below hb)
  replace HRS := Lib.hid (HRS.out.below hb)
  replace HX1 := Lib.hid (HX1.out.below hb)
  replace HRJ := Lib.hid (HRJ.out.below hb)
  replace HX2 := Lib.hid (HX2.out.below hb)
  replace HX3 := Lib.hid (HX3.out.below hb)
  replace HX4 := Lib.hid (HX4.out.below hb)
  replace HB := Lib.hid (Below.andThen HB.out hb)
  clear hb
  have hc0HX1 := HX1.out.c (j := 0) rfl
  have hc1HX1 := HX1.out.c (j := 1) rfl
  have hc0HX2 := HX2.out.c (j := 0) rfl
  have hc1HX2 := HX2.out.c (j := 1) rfl
  have hc0HX3 := HX3.out.c (j := 0) rfl
  have hc1HX3 := HX3.out.c (j := 1) rfl
  have hc2HX3 := HX3.out.c (j := 2) rfl
  have hc0HX4 := HX4.out.c (j := 0) rfl
  have hc1HX4 := HX4.out.c (j := 1) rfl
  have hc2HX4 := HX4.out.c (j := 2) rfl
  go_wp2_with fail
  clear hc0HX1 hc1HX1 hc0HX2 hc1HX2 hc0HX3 hc1HX3 hc2HX3 hc0HX4 hc1HX4 hc2HX4
  refine (san9_calls _).mono ?_
  rintro e w13 ⟨rfl, hb⟩
  replace HP := Lib.hid (HP.out.below hb)
  replace HL := Lib.hid (HL.out.below hb)
  replace HA := Lib.hid (HA.out.below hb)
  replace HC := Lib.hid (HC.out.below hb)
  replace HV := Lib.hid (HV.out.below hb)
  replace HS := Lib.hid (HS.out.below hb)
  replace HJ := Lib.hid (HJ.out.below hb)
  replace HRS := Lib.hid (HRS.out.below hb)
  replace HX1 := Lib.hid (HX1.out.below hb)
  replace HRJ := Lib.hid (HRJ.out.below hb)
  replace HX2 := Lib.hid (HX2.out.below hb)
  replace HX3 := Lib.hid (HX3.out.below hb)
  replace HX4 := Lib.hid (HX4.out.below hb)
  replace HB := Lib.hid (Below.andThen HB.out hb)
  clear hb
  have hc0HX1 := HX1.out.c (j := 0) rfl
  have hc1HX1 := HX1.out.c (j := 1) rfl
  have hc0HX2 := HX2.out.c (j := 0) rfl
  have hc1HX2 := HX2.out.c (j := 1) rfl
  have hc0HX3 := HX3.out.c (j := 0) rfl
  have hc1HX3 := HX3.out.c (j := 1) rfl
  have hc2HX3 := HX3.out.c (j := 2) rfl
  have hc0HX4 := HX4.out.c (j := 0) rfl
  have hc1HX4 := HX4.out.c (j := 1) rfl
  have hc2HX4 := HX4.out.c (j := 2) rfl
  go_wp2_with fail
  clear hc0HX1 hc1HX1 hc0HX2 hc1HX2 hc0HX3 hc1HX3 hc2HX3 hc0HX4 hc1HX4 hc2HX4
  refine (svalid_calls _ HA.out.is).mono ?_
  rintro e w14 ⟨rfl, hb⟩
  replace HP := Lib.hid (HP.out.below hb)
  replace HL := Lib.hid (HL.out.below hb)
  replace HA := Lib.hid (HA.out.below hb)
  replace HC := Lib.hid (HC.out.below hb)
  replace HV := Lib.hid (HV.out.below hb)
  replace HS := Lib.hid (HS.out.below hb)
  replace HJ := Lib.hid (HJ.out.below hb)
  replace HRS := Lib.hid (HRS.out.below hb)
  replace HX1 := Lib.hid (HX1.out.below hb)
  replace HRJ := Lib.hid (HRJ.out.below hb)
  replace HX2 := Lib.hid (HX2.out.below hb)
  replace HX3 := Lib.hid (HX3.out.below hb)
  replace HX4 := Lib.hid (HX4.out.below hb)
  replace HB := Lib.hid (Below.andThen HB.out hb)
  clear hb
  have hc0HX1 := HX1.out.c (j := 0) rfl
  have hc1HX1 := HX1.out.c (j := 1) rfl
  have hc0HX2 := HX2.out.c (j := 0) rfl
  have hc1HX2 := HX2.out.c (j := 1) rfl
  have hc0HX3 := HX3.out.c (j := 0) rfl
  have hc1HX3 := HX3.out.c (j := 1) rfl
  have hc2HX3 := HX3.out.c (j := 2) rfl
  have hc0HX4 := HX4.out.c (j := 0) rfl
  have hc1HX4 := HX4.out.c (j := 1) rfl
  have hc2HX4 := HX4.out.c (j := 2) rfl
  go_wp2_with fail
  clear hc0HX1 hc1HX1 hc0HX2 hc1HX2 hc0HX3 hc1HX3 hc2HX3 hc0HX4 hc1HX4 hc2HX4
  refine (rsvalid_calls _ HA.out.is).mono ?_
  rintro e w15 ⟨rfl, hb⟩
  replace HP := Lib.hid (HP.out.below hb)
  replace HL := Lib.hid (HL.out.below hb)
  replace HA := Lib.hid (HA.out.below hb)
  replace HC := Lib.hid (HC.out.below hb)
  replace HV := Lib.hid (HV.out.below hb)
  replace HS := Lib.hid (HS.out.below hb)
  replace HJ := Lib.hid (HJ.out.below hb)
  replace HRS := Lib.hid (HRS.out.below hb)
  replace HX1 := Lib.hid (HX1.out.below hb)
  replace HRJ := Lib.hid (HRJ.out.below hb)
  replace HX2 := Lib.hid (HX2.out.below hb)
  replace HX3 := Lib.hid (HX3.out.below hb)
  replace HX4 := Lib.hid (HX4.out.below hb)
  replace HB := Lib.hid (Below.andThen HB.out hb)
  generalize svalid a = sv at *
  clear hb
  have hc0HX1 := HX1.out.c (j := 0) rfl
  have hc1HX1 := HX1.out.c (j := 1) rfl
  have hc0HX2 := HX2.out.c (j := 0) rfl
  have hc1HX2 := HX2.out.c (j := 1) rfl
  have hc0HX3 := HX3.out.c (j := 0) rfl
  have hc1HX3 := HX3.out.c (j := 1) rfl
  have hc2HX3 := HX3.out.c (j := 2) rfl
  have hc0HX4 := HX4.out.c (j := 0) rfl
  have hc1HX4 := HX4.out.c (j := 1) rfl
  have hc2HX4 := HX4.out.c (j := 2) rfl
  go_wp2_with fail
  clear hc0HX1 hc1HX1 hc0HX2 hc1HX2 hc0HX3 hc1HX3 hc2HX3 hc0HX4 hc1HX4 hc2HX4
  refine (in_calls _ HA.out.is HV.out.is).mono ?_
  rintro e w16 ⟨rfl, hb⟩
  replace HP := Lib.hid (HP.out.below hb)
  replace HL := Lib.hid (HL.out.below hb)
  replace HA := Lib.hid (HA.out.below hb)
  replace HC := Lib.hid (HC.out.below hb)
  replace HV := Lib.hid (HV.out.below hb)
  replace HS := Lib.hid (HS.out.below hb)
  replace HJ := Lib.hid (HJ.out.below hb)
  replace HRS := Lib.hid (HRS.out.below hb)
  replace HX1 := Lib.hid (HX1.out.below hb)
  replace HRJ := Lib.hid (HRJ.out.below hb)
  replace HX2 := Lib.hid (HX2.out.below hb)
  replace HX3 := Lib.hid (HX3.out.below hb)
  replace HX4 := Lib.hid (HX4.out.below hb)
  replace HB := Lib.hid (Below.andThen HB.out hb)
  clear hb
  have hc0HX1 := HX1.out.c (j := 0) rfl
  have hc1HX1 := HX1.out.c (j := 1) rfl
  have hc0HX2 := HX2.out.c (j := 0) rfl
  have hc1HX2 := HX2.out.c (j := 1) rfl
  have hc0HX3 := HX3.out.c (j := 0) rfl
  have hc1HX3 := HX3.out.c (j := 1) rfl
  have hc2HX3 := HX3.out.c (j := 2) rfl
  have hc0HX4 := HX4.out.c (j := 0) rfl
  have hc1HX4 := HX4.out.c (j := 1) rfl
  have hc2HX4 := HX4.out.c (j := 2) rfl
  go_wp2_with fail
  clear hc0HX1 hc1HX1 hc0HX2 hc1HX2 hc0HX3 hc1HX3 hc2HX3 hc0HX4 hc1HX4 hc2HX4
  refine (rin_calls _ HA.out.is HV.out.is).mono ?_
  rintro e w17 ⟨rfl, hb⟩
  replace HP := Lib.hid (HP.out.below hb)
  replace HL := Lib.hid (HL.out.below hb)
  replace HA := Lib.hid (HA.out.below hb)
  replace HC := Lib.hid (HC.out.below hb)
  replace HV := Lib.hid (HV.out.below hb)
  replace HS := Lib.hid (HS.out.below hb)
  replace HJ := Lib.hid (HJ.out.below hb)
  replace HRS := Lib.hid (HRS.out.below hb)
  replace HX1 := Lib.hid (HX1.out.below hb)
  replace HRJ := Lib.hid (HRJ.out.below hb)
  replace HX2 := Lib.hid (HX2.out.below hb)
  replace HX3 := Lib.hid (HX3.out.below hb)
  replace HX4 := Lib.hid (HX4.out.below hb)
  replace HB := Lib.hid (Below.andThen HB.out hb)
  generalize inn a v = iv at *
  clear hb
  have hc0HX1 := HX1.out.c (j := 0) rfl
  have hc1HX1 := HX1.out.c (j := 1) rfl
  have hc0HX2 := HX2.out.c (j := 0) rfl
  have hc1HX2 := HX2.out.c (j := 1) rfl
  have hc0HX3 := HX3.out.c (j := 0) rfl
  have hc1HX3 := HX3.out.c (j := 1) rfl
  have hc2HX3 := HX3.out.c (j := 2) rfl
  have hc0HX4 := HX4.out.c (j := 0) rfl
  have hc1HX4 := HX4.out.c (j := 1) rfl
  have hc2HX4 := HX4.out.c (j := 2) rfl
  go_wp2_with fail
  go_ret
  exact ⟨rfl, HB.out⟩
end Go.Proofs.Yteeianandjokaaa.pivotBoundsAsSpecified
