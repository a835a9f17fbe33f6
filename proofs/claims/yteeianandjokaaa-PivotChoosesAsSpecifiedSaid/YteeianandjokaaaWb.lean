/- PivotChoosesAsSpecified: its walk. -/
import Derived.Test.YteeianandjokaaaG13

namespace Go.Proofs.Yteeianandjokaaa.pivotChoosesAsSpecified

open Go.ChangeShapes Go.WideShapes Go.ChangeAt Go.RowKit

open Go.Proofs.Yteeianandjokaaa.pq Go.Proofs.Yteeianandjokaaa.cq Go.Proofs.Yteeianandjokaaa.vk Go.Proofs.Yteeianandjokaaa.bk Go.Proofs.Yteeianandjokaaa.wk Go.Proofs.Yteeianandjokaaa.uk Go.Proofs.Yteeianandjokaaa.pk

set_option linter.unusedVariables false
set_option maxRecDepth 100000 in
set_option maxHeartbeats 8000000 in
theorem walk (w : World) {m most : Int} {A1 A2 A3 : Option Addr} {n1 c1 n2 c2 n3 c3 : Nat} {P L : VV} {v : List Int} (w0 : (Lit.int .i64 m).wf = true) (w1 : IsVV w A1 n1 c1 P) (w2 : IsVV w A2 n2 c2 L) (w3 : wo.IsI w A3 n3 c3 v) (w4 : (Lit.int .i64 most).wf = true) :
    Calls Try.prog 3 #[.int .i64 m, .slice A1 n1 c1, .slice A2 n2 c2, .slice A3 n3 c3, .int .i64 most] w fun e w' => e = .returned (.bool true) ∧ Below w.heap.size w w' := by
  have hnc1 := w1.2.1
  have hnm1 := w1.2.2.1
  have hnc2 := w2.2.1
  have hnm2 := w2.2.2.1
  have hnc3 := w3.2.1
  have hnm3 := w3.2.2.1
  have HP := Lib.hid (W2.mk w1)
  have HL := Lib.hid (W2.mk w2)
  have HV := Lib.hid (W1.mk w3)
  have HB := Lib.hid (Below.refl w.heap.size w)
  clear w1 w2 w3
  go_enter Try.func3, Try.ntmps3
  go_wp2_with fail
  refine (rfew_calls (q := 10) _ HP.out.is).mono ?_
  rintro e w' ⟨rfl, rfl⟩
  cases few 10 P
  ·
    go_wp2_with fail
    refine (san9_calls _).mono ?_
    rintro e w' ⟨rfl, hb⟩
    have HBZ := Lib.hid (Below.andThen HB.out hb)
    clear hb
    go_wp2_with fail
    go_ret
    exact ⟨rfl, HBZ.out⟩
  go_wp2_with fail
  refine (rfew_calls (q := 30) _ HL.out.is).mono ?_
  rintro e w' ⟨rfl, rfl⟩
  cases few 30 L
  ·
    go_wp2_with fail
    refine (san9_calls _).mono ?_
    rintro e w' ⟨rfl, hb⟩
    have HBZ := Lib.hid (Below.andThen HB.out hb)
    clear hb
    go_wp2_with fail
    go_ret
    exact ⟨rfl, HBZ.out⟩
  by_cases h40 : n3 > 40
  ·
    go_wp2_with fail
    refine (san9_calls _).mono ?_
    rintro e w' ⟨rfl, hb⟩
    have HBZ := Lib.hid (Below.andThen HB.out hb)
    clear hb
    go_wp2_with fail
    go_ret
    exact ⟨rfl, HBZ.out⟩
  go_wp2_with fail
  refine (choose_c (m := m) (most := most) _ HL.out.is).mono ?_
  rintro e w3 ⟨A4, n4, c4, rfl, hi, hb⟩
  replace HP := Lib.hid (HP.out.below hb)
  replace HL := Lib.hid (HL.out.below hb)
  replace HV := Lib.hid (HV.out.below hb)
  replace HB := Lib.hid (Below.andThen HB.out hb)
  have hHAnc := hi.2.1
  have hHAnm := hi.2.2.1
  have HA := Lib.hid (W1.mk hi)
  clear hi
  clear hb
  go_wp2_with fail
  refine (nearest_c (m := m) _ HP.out.is HV.out.is).mono ?_
  rintro e w4 ⟨rfl, hb⟩
  replace HP := Lib.hid (HP.out.below hb)
  replace HL := Lib.hid (HL.out.below hb)
  replace HV := Lib.hid (HV.out.below hb)
  replace HA := Lib.hid (HA.out.below hb)
  replace HB := Lib.hid (Below.andThen HB.out hb)
  clear hb
  go_wp2_with fail
  refine (cover_c (m := m) _ HP.out.is HL.out.is).mono ?_
  rintro e w5 ⟨rfl, hb⟩
  replace HP := Lib.hid (HP.out.below hb)
  replace HL := Lib.hid (HL.out.below hb)
  replace HV := Lib.hid (HV.out.below hb)
  replace HA := Lib.hid (HA.out.below hb)
  replace HB := Lib.hid (Below.andThen HB.out hb)
  clear hb
  go_wp2_with fail
  refine (table_c (m := m) _ HP.out.is HL.out.is).mono ?_
  rintro e w6 ⟨A5, n5, c5, rfl, hi, hb⟩
  replace HP := Lib.hid (HP.out.below hb)
  replace HL := Lib.hid (HL.out.below hb)
  replace HV := Lib.hid (HV.out.below hb)
  replace HA := Lib.hid (HA.out.below hb)
  replace HB := Lib.hid (Below.andThen HB.out hb)
  have hHTnc := hi.2.1
  have hHTnm := hi.2.2.1
  have HT := Lib.hid (W2.mk hi)
  clear hi
  clear hb
  go_wp2_with fail
  refine (rchoose_c (m := m) (most := most) _ HL.out.is).mono ?_
  rintro e w7 ⟨A6, n6, c6, rfl, hi, hb⟩
  replace HP := Lib.hid (HP.out.below hb)
  replace HL := Lib.hid (HL.out.below hb)
  replace HV := Lib.hid (HV.out.below hb)
  replace HA := Lib.hid (HA.out.below hb)
  replace HT := Lib.hid (HT.out.below hb)
  replace HB := Lib.hid (Below.andThen HB.out hb)
  have hHRAnc := hi.2.1
  have hHRAnm := hi.2.2.1
  have HRA := Lib.hid (W1.mk hi)
  clear hi
  clear hb
  have HX1 := Lib.hid (Rw.new w7 36 #[.slice A6 n6 c6, .int .i64 (eI (cok' m L most))])
  replace HP := Lib.hid (HP.out.below (below_new _ (.cells #[.slice A6 n6 c6, .int .i64 (eI (cok' m L most))] 36)))
  replace HL := Lib.hid (HL.out.below (below_new _ (.cells #[.slice A6 n6 c6, .int .i64 (eI (cok' m L most))] 36)))
  replace HV := Lib.hid (HV.out.below (below_new _ (.cells #[.slice A6 n6 c6, .int .i64 (eI (cok' m L most))] 36)))
  replace HA := Lib.hid (HA.out.below (below_new _ (.cells #[.slice A6 n6 c6, .int .i64 (eI (cok' m L most))] 36)))
  replace HT := Lib.hid (HT.out.below (below_new _ (.cells #[.slice A6 n6 c6, .int .i64 (eI (cok' m L most))] 36)))
  replace HRA := Lib.hid (HRA.out.below (below_new _ (.cells #[.slice A6 n6 c6, .int .i64 (eI (cok' m L most))] 36)))
  replace HB := Lib.hid (Below.andThen HB.out (below_new _ (.cells #[.slice A6 n6 c6, .int .i64 (eI (cok' m L most))] 36)))
  have hc0HX1 := HX1.out.c (j := 0) rfl
  have hc1HX1 := HX1.out.c (j := 1) rfl
  go_wp2_with fail
  clear hc0HX1 hc1HX1
  refine (rnearest_c (m := m) _ HP.out.is HV.out.is).mono ?_
  rintro e w8 ⟨rfl, hb⟩
  replace HP := Lib.hid (HP.out.below hb)
  replace HL := Lib.hid (HL.out.below hb)
  replace HV := Lib.hid (HV.out.below hb)
  replace HA := Lib.hid (HA.out.below hb)
  replace HT := Lib.hid (HT.out.below hb)
  replace HRA := Lib.hid (HRA.out.below hb)
  replace HX1 := Lib.hid (HX1.out.below hb)
  replace HB := Lib.hid (Below.andThen HB.out hb)
  clear hb
  have hc0HX1 := HX1.out.c (j := 0) rfl
  have hc1HX1 := HX1.out.c (j := 1) rfl
  clear hc0HX1 hc1HX1
  have HX2 := Lib.hid (Rw.new w8 39 #[.int .i64 (nrI m P v), .int .i64 (nyI m P v), .int .i64 (eI (haveK m P [v]))])
  replace HP := Lib.hid (HP.out.below (below_new _ (.cells #[.int .i64 (nrI m P v), .int .i64 (nyI m P v), .int .i64 (eI (haveK m P [v]))] 39)))
  replace HL := Lib.hid (HL.out.below (below_new _ (.cells #[.int .i64 (nrI m P v), .int .i64 (nyI m P v), .int .i64 (eI (haveK m P [v]))] 39)))
  replace HV := Lib.hid (HV.out.below (below_new _ (.cells #[.int .i64 (nrI m P v), .int .i64 (nyI m P v), .int .i64 (eI (haveK m P [v]))] 39)))
  replace HA := Lib.hid (HA.out.below (below_new _ (.cells #[.int .i64 (nrI m P v), .int .i64 (nyI m P v), .int .i64 (eI (haveK m P [v]))] 39)))
  replace HT := Lib.hid (HT.out.below (below_new _ (.cells #[.int .i64 (nrI m P v), .int .i64 (nyI m P v), .int .i64 (eI (haveK m P [v]))] 39)))
  replace HRA := Lib.hid (HRA.out.below (below_new _ (.cells #[.int .i64 (nrI m P v), .int .i64 (nyI m P v), .int .i64 (eI (haveK m P [v]))] 39)))
  replace HX1 := Lib.hid (HX1.out.below (below_new _ (.cells #[.int .i64 (nrI m P v), .int .i64 (nyI m P v), .int .i64 (eI (haveK m P [v]))] 39)))
  replace HB := Lib.hid (Below.andThen HB.out (below_new _ (.cells #[.int .i64 (nrI m P v), .int .i64 (nyI m P v), .int .i64 (eI (haveK m P [v]))] 39)))
  have hc0HX1 := HX1.out.c (j := 0) rfl
  have hc1HX1 := HX1.out.c (j := 1) rfl
  have hc0HX2 := HX2.out.c (j := 0) rfl
  have hc1HX2 := HX2.out.c (j := 1) rfl
  have hc2HX2 := HX2.out.c (j := 2) rfl
  go_wp2_with fail
  clear hc0HX1 hc1HX1 hc0HX2 hc1HX2 hc2HX2
  refine (rcover_c (m := m) _ HP.out.is HL.out.is).mono ?_
  rintro e w9 ⟨rfl, hb⟩
  replace HP := Lib.hid (HP.out.below hb)
  replace HL := Lib.hid (HL.out.below hb)
  replace HV := Lib.hid (HV.out.below hb)
  replace HA := Lib.hid (HA.out.below hb)
  replace HT := Lib.hid (HT.out.below hb)
  replace HRA := Lib.hid (HRA.out.below hb)
  replace HX1 := Lib.hid (HX1.out.below hb)
  replace HX2 := Lib.hid (HX2.out.below hb)
  replace HB := Lib.hid (Below.andThen HB.out hb)
  clear hb
  have hc0HX1 := HX1.out.c (j := 0) rfl
  have hc1HX1 := HX1.out.c (j := 1) rfl
  have hc0HX2 := HX2.out.c (j := 0) rfl
  have hc1HX2 := HX2.out.c (j := 1) rfl
  have hc2HX2 := HX2.out.c (j := 2) rfl
  clear hc0HX1 hc1HX1 hc0HX2 hc1HX2 hc2HX2
  have HX3 := Lib.hid (Rw.new w9 39 #[.int .i64 0, .int .i64 (cvI m P L), .int .i64 (eI (haveK m P L))])
  replace HP := Lib.hid (HP.out.below (below_new _ (.cells #[.int .i64 0, .int .i64 (cvI m P L), .int .i64 (eI (haveK m P L))] 39)))
  replace HL := Lib.hid (HL.out.below (below_new _ (.cells #[.int .i64 0, .int .i64 (cvI m P L), .int .i64 (eI (haveK m P L))] 39)))
  replace HV := Lib.hid (HV.out.below (below_new _ (.cells #[.int .i64 0, .int .i64 (cvI m P L), .int .i64 (eI (haveK m P L))] 39)))
  replace HA := Lib.hid (HA.out.below (below_new _ (.cells #[.int .i64 0, .int .i64 (cvI m P L), .int .i64 (eI (haveK m P L))] 39)))
  replace HT := Lib.hid (HT.out.below (below_new _ (.cells #[.int .i64 0, .int .i64 (cvI m P L), .int .i64 (eI (haveK m P L))] 39)))
  replace HRA := Lib.hid (HRA.out.below (below_new _ (.cells #[.int .i64 0, .int .i64 (cvI m P L), .int .i64 (eI (haveK m P L))] 39)))
  replace HX1 := Lib.hid (HX1.out.below (below_new _ (.cells #[.int .i64 0, .int .i64 (cvI m P L), .int .i64 (eI (haveK m P L))] 39)))
  replace HX2 := Lib.hid (HX2.out.below (below_new _ (.cells #[.int .i64 0, .int .i64 (cvI m P L), .int .i64 (eI (haveK m P L))] 39)))
  replace HB := Lib.hid (Below.andThen HB.out (below_new _ (.cells #[.int .i64 0, .int .i64 (cvI m P L), .int .i64 (eI (haveK m P L))] 39)))
  have hc0HX1 := HX1.out.c (j := 0) rfl
  have hc1HX1 := HX1.out.c (j := 1) rfl
  have hc0HX2 := HX2.out.c (j := 0) rfl
  have hc1HX2 := HX2.out.c (j := 1) rfl
  have hc2HX2 := HX2.out.c (j := 2) rfl
  have hc0HX3 := HX3.out.c (j := 0) rfl
  have hc1HX3 := HX3.out.c (j := 1) rfl
  have hc2HX3 := HX3.out.c (j := 2) rfl
  go_wp2_with fail
  clear hc0HX1 hc1HX1 hc0HX2 hc1HX2 hc2HX2 hc0HX3 hc1HX3 hc2HX3
  refine (rtable_c (m := m) _ HP.out.is HL.out.is).mono ?_
  rintro e w10 ⟨A7, n7, c7, rfl, hi, hb⟩
  replace HP := Lib.hid (HP.out.below hb)
  replace HL := Lib.hid (HL.out.below hb)
  replace HV := Lib.hid (HV.out.below hb)
  replace HA := Lib.hid (HA.out.below hb)
  replace HT := Lib.hid (HT.out.below hb)
  replace HRA := Lib.hid (HRA.out.below hb)
  replace HX1 := Lib.hid (HX1.out.below hb)
  replace HX2 := Lib.hid (HX2.out.below hb)
  replace HX3 := Lib.hid (HX3.out.below hb)
  replace HB := Lib.hid (Below.andThen HB.out hb)
  have hHRTnc := hi.2.1
  have hHRTnm := hi.2.2.1
  have HRT := Lib.hid (W2.mk hi)
  clear hi
  clear hb
  have hc0HX1 := HX1.out.c (j := 0) rfl
  have hc1HX1 := HX1.out.c (j := 1) rfl
  have hc0HX2 := HX2.out.c (j := 0) rfl
  have hc1HX2 := HX2.out.c (j := 1) rfl
  have hc2HX2 := HX2.out.c (j := 2) rfl
  have hc0HX3 := HX3.out.c (j := 0) rfl
  have hc1HX3 := HX3.out.c (j := 1) rfl
  have hc2HX3 := HX3.out.c (j := 2) rfl
  clear hc0HX1 hc1HX1 hc0HX2 hc1HX2 hc2HX2 hc0HX3 hc1HX3 hc2HX3
  have HX4 := Lib.hid (Rw.new w10 43 #[.slice A7 n7 c7, .int .i64 (eI (haveK m P L))])
  replace HP := Lib.hid (HP.out.below (below_new _ (.cells #[.slice A7 n7 c7, .int .i64 (eI (haveK m P L))] 43)))
  replace HL := Lib.hid (HL.out.below (below_new _ (.cells #[.slice A7 n7 c7, .int .i64 (eI (haveK m P L))] 43)))
  replace HV := Lib.hid (HV.out.below (below_new _ (.cells #[.slice A7 n7 c7, .int .i64 (eI (haveK m P L))] 43)))
  replace HA := Lib.hid (HA.out.below (below_new _ (.cells #[.slice A7 n7 c7, .int .i64 (eI (haveK m P L))] 43)))
  replace HT := Lib.hid (HT.out.below (below_new _ (.cells #[.slice A7 n7 c7, .int .i64 (eI (haveK m P L))] 43)))
  replace HRA := Lib.hid (HRA.out.below (below_new _ (.cells #[.slice A7 n7 c7, .int .i64 (eI (haveK m P L))] 43)))
  replace HX1 := Lib.hid (HX1.out.below (below_new _ (.cells #[.slice A7 n7 c7, .int .i64 (eI (haveK m P L))] 43)))
  replace HX2 := Lib.hid (HX2.out.below (below_new _ (.cells #[.slice A7 n7 c7, .int .i64 (eI (haveK m P L))] 43)))
  replace HX3 := Lib.hid (HX3.out.below (below_new _ (.cells #[.slice A7 n7 c7, .int .i64 (eI (haveK m P L))] 43)))
  replace HRT := Lib.hid (HRT.out.below (below_new _ (.cells #[.slice A7 n7 c7, .int .i64 (eI (haveK m P L))] 43)))
  replace HB := Lib.hid (Below.andThen HB.out (below_new _ (.cells #[.slice A7 n7 c7, .int .i64 (eI (haveK m P L))] 43)))
  have hc0HX1 := HX1.out.c (j := 0) rfl
  have hc1HX1 := HX1.out.c (j := 1) rfl
  have hc0HX2 := HX2.out.c (j := 0) rfl
  have hc1HX2 := HX2.out.c (j := 1) rfl
  have hc2HX2 := HX2.out.c (j := 2) rfl
  have hc0HX3 := HX3.out.c (j := 0) rfl
  have hc1HX3 := HX3.out.c (j := 1) rfl
  have hc2HX3 := HX3.out.c (j := 2) rfl
  have hc0HX4 := HX4.out.c (j := 0) rfl
  have hc1HX4 := HX4.out.c (j := 1) rfl
  go_wp2_with fail
  clear hc0HX1 hc1HX1 hc0HX2 hc1HX2 hc2HX2 hc0HX3 hc1HX3 hc2HX3 hc0HX4 hc1HX4
  refine (san9_calls _).mono ?_
  rintro e w11 ⟨rfl, hb⟩
  replace HP := Lib.hid (HP.out.below hb)
  replace HL := Lib.hid (HL.out.below hb)
  replace HV := Lib.hid (HV.out.below hb)
  replace HA := Lib.hid (HA.out.below hb)
  replace HT := Lib.hid (HT.out.below hb)
  replace HRA := Lib.hid (HRA.out.below hb)
  replace HX1 := Lib.hid (HX1.out.below hb)
  replace HX2 := Lib.hid (HX2.out.below hb)
  replace HX3 := Lib.hid (HX3.out.below hb)
  replace HRT := Lib.hid (HRT.out.below hb)
  replace HX4 := Lib.hid (HX4.out.below hb)
  replace HB := Lib.hid (Below.andThen HB.out hb)
  clear hb
  have hc0HX1 := HX1.out.c (j := 0) rfl
  have hc1HX1 := HX1.out.c (j := 1) rfl
  have hc0HX2 := HX2.out.c (j := 0) rfl
  have hc1HX2 := HX2.out.c (j := 1) rfl
  have hc2HX2 := HX2.out.c (j := 2) rfl
  have hc0HX3 := HX3.out.c (j := 0) rfl
  have hc1HX3 := HX3.out.c (j := 1) rfl
  have hc2HX3 := HX3.out.c (j := 2) rfl
  have hc0HX4 := HX4.out.c (j := 0) rfl
  have hc1HX4 := HX4.out.c (j := 1) rfl
  go_wp2_with fail
  clear hc0HX1 hc1HX1 hc0HX2 hc1HX2 hc2HX2 hc0HX3 hc1HX3 hc2HX3 hc0HX4 hc1HX4
  refine (rsame_t _ HA.out.is HRA.out.is).mono ?_
  rintro e w12 ⟨rfl, hb⟩
  replace HP := Lib.hid (HP.out.below hb)
  replace HL := Lib.hid (HL.out.below hb)
  replace HV := Lib.hid (HV.out.below hb)
  replace HA := Lib.hid (HA.out.below hb)
  replace HT := Lib.hid (HT.out.below hb)
  replace HRA := Lib.hid (HRA.out.below hb)
  replace HX1 := Lib.hid (HX1.out.below hb)
  replace HX2 := Lib.hid (HX2.out.below hb)
  replace HX3 := Lib.hid (HX3.out.below hb)
  replace HRT := Lib.hid (HRT.out.below hb)
  replace HX4 := Lib.hid (HX4.out.below hb)
  replace HB := Lib.hid (Below.andThen HB.out hb)
  clear hb
  have hc0HX1 := HX1.out.c (j := 0) rfl
  have hc1HX1 := HX1.out.c (j := 1) rfl
  have hc0HX2 := HX2.out.c (j := 0) rfl
  have hc1HX2 := HX2.out.c (j := 1) rfl
  have hc2HX2 := HX2.out.c (j := 2) rfl
  have hc0HX3 := HX3.out.c (j := 0) rfl
  have hc1HX3 := HX3.out.c (j := 1) rfl
  have hc2HX3 := HX3.out.c (j := 2) rfl
  have hc0HX4 := HX4.out.c (j := 0) rfl
  have hc1HX4 := HX4.out.c (j := 1) rfl
  go_wp2_with fail
  clear hc0HX1 hc1HX1 hc0HX2 hc1HX2 hc2HX2 hc0HX3 hc1HX3 hc2HX3 hc0HX4 hc1HX4
  refine (rsameRows_t _ HT.out.is HRT.out.is).mono ?_
  rintro e w13 ⟨rfl, hb⟩
  replace HP := Lib.hid (HP.out.below hb)
  replace HL := Lib.hid (HL.out.below hb)
  replace HV := Lib.hid (HV.out.below hb)
  replace HA := Lib.hid (HA.out.below hb)
  replace HT := Lib.hid (HT.out.below hb)
  replace HRA := Lib.hid (HRA.out.below hb)
  replace HX1 := Lib.hid (HX1.out.below hb)
  replace HX2 := Lib.hid (HX2.out.below hb)
  replace HX3 := Lib.hid (HX3.out.below hb)
  replace HRT := Lib.hid (HRT.out.below hb)
  replace HX4 := Lib.hid (HX4.out.below hb)
  replace HB := Lib.hid (Below.andThen HB.out hb)
  clear hb
  have hc0HX1 := HX1.out.c (j := 0) rfl
  have hc1HX1 := HX1.out.c (j := 1) rfl
  have hc0HX2 := HX2.out.c (j := 0) rfl
  have hc1HX2 := HX2.out.c (j := 1) rfl
  have hc2HX2 := HX2.out.c (j := 2) rfl
  have hc0HX3 := HX3.out.c (j := 0) rfl
  have hc1HX3 := HX3.out.c (j := 1) rfl
  have hc2HX3 := HX3.out.c (j := 2) rfl
  have hc0HX4 := HX4.out.c (j := 0) rfl
  have hc1HX4 := HX4.out.c (j := 1) rfl
  go_wp2_with fail
  go_ret
  exact ⟨rfl, HB.out⟩
end Go.Proofs.Yteeianandjokaaa.pivotChoosesAsSpecified
