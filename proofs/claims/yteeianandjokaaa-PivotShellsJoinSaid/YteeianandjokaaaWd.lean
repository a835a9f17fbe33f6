/- PivotShellsJoin: its walk. -/
import Derived.Test.YteeianandjokaaaWx

import Derived.Test.YteeianandjokaaaG13

namespace Go.Proofs.Yteeianandjokaaa.pivotShellsJoin

open Go.ChangeShapes Go.WideShapes Go.ChangeAt Go.RowKit

open Go.Proofs.Yteeianandjokaaa.pq Go.Proofs.Yteeianandjokaaa.cq Go.Proofs.Yteeianandjokaaa.vk Go.Proofs.Yteeianandjokaaa.bk Go.Proofs.Yteeianandjokaaa.wk Go.Proofs.Yteeianandjokaaa.uk Go.Proofs.Yteeianandjokaaa.pk

set_option linter.unusedVariables false
set_option maxRecDepth 100000 in
set_option maxHeartbeats 8000000 in
theorem walk (w : World) {m : Int} {A1 A2 A3 A4 : Option Addr} {n1 c1 n2 c2 n3 c3 n4 c4 : Nat} {a b : List Sh} {ks v : List Int} (w0 : (Lit.int .i64 m).wf = true) (w1 : IsS w A1 n1 c1 a) (w2 : IsS w A2 n2 c2 b) (w3 : wo.IsI w A3 n3 c3 ks) (w4 : wo.IsI w A4 n4 c4 v) :
    Calls Try.prog 8 #[.int .i64 m, .slice A1 n1 c1, .slice A2 n2 c2, .slice A3 n3 c3, .slice A4 n4 c4] w fun e w' => e = .returned (.bool true) ∧ Below w.heap.size w w' := by
  have hnc1 := w1.2.1
  have hnm1 := w1.2.2.1
  have hnc2 := w2.2.1
  have hnm2 := w2.2.2.1
  have hnc3 := w3.2.1
  have hnm3 := w3.2.2.1
  have hnc4 := w4.2.1
  have hnm4 := w4.2.2.1
  have HN1 := Lib.hid w1.1
  have HN2 := Lib.hid w2.1
  have HA := Lib.hid (W3.mk w1)
  have HC := Lib.hid (W3.mk w2)
  have HK := Lib.hid (W1.mk w3)
  have HV := Lib.hid (W1.mk w4)
  have HB := Lib.hid (Below.refl w.heap.size w)
  clear w1 w2 w3 w4
  go_enter Try.func8, Try.ntmps8
  go_wp2_with fail
  refine (rmetric_calls m _).mono ?_
  rintro e w' ⟨rfl, rfl⟩
  cases hm : isM m
  ·
    clear hm
    go_wp2_with fail
    refine (san9_calls _).mono ?_
    rintro e w' ⟨rfl, hb⟩
    have HBZ := Lib.hid (Below.andThen HB.out hb)
    clear hb
    go_wp2_with fail
    go_ret
    exact ⟨rfl, HBZ.out⟩
  clear hm
  go_wp2_with fail
  refine (rsvalid_calls _ HA.out.is).mono ?_
  rintro e w2 ⟨rfl, hb⟩
  replace HA := Lib.hid (HA.out.below hb)
  replace HC := Lib.hid (HC.out.below hb)
  replace HK := Lib.hid (HK.out.below hb)
  replace HV := Lib.hid (HV.out.below hb)
  replace HB := Lib.hid (Below.andThen HB.out hb)
  clear hb
  cases ha : svalid a
  ·
    clear ha
    go_wp2_with fail
    refine (san9_calls _).mono ?_
    rintro e w' ⟨rfl, hb⟩
    have HBZ := Lib.hid (Below.andThen HB.out hb)
    clear hb
    go_wp2_with fail
    go_ret
    exact ⟨rfl, HBZ.out⟩
  have HVA := Lib.hid ha
  clear ha
  go_wp2_with fail
  refine (rsvalid_calls _ HC.out.is).mono ?_
  rintro e w3 ⟨rfl, hb⟩
  replace HA := Lib.hid (HA.out.below hb)
  replace HC := Lib.hid (HC.out.below hb)
  replace HK := Lib.hid (HK.out.below hb)
  replace HV := Lib.hid (HV.out.below hb)
  replace HB := Lib.hid (Below.andThen HB.out hb)
  clear hb
  cases hb1 : svalid b
  ·
    clear hb1
    go_wp2_with fail
    refine (san9_calls _).mono ?_
    rintro e w' ⟨rfl, hb⟩
    have HBZ := Lib.hid (Below.andThen HB.out hb)
    clear hb
    go_wp2_with fail
    go_ret
    exact ⟨rfl, HBZ.out⟩
  have HVB := Lib.hid hb1
  clear hb1
  by_cases hnn : n1 = n2
  rotate_left
  ·
    go_wp2_with fail
    refine (san9_calls _).mono ?_
    rintro e w' ⟨rfl, hb⟩
    have HBZ := Lib.hid (Below.andThen HB.out hb)
    clear hb
    go_wp2_with fail
    go_ret
    exact ⟨rfl, HBZ.out⟩
  subst hnn
  by_cases h3 : n3 > 12
  ·
    go_wp2_with fail
    refine (san9_calls _).mono ?_
    rintro e w' ⟨rfl, hb⟩
    have HBZ := Lib.hid (Below.andThen HB.out hb)
    clear hb
    go_wp2_with fail
    go_ret
    exact ⟨rfl, HBZ.out⟩
  by_cases h4 : n4 > 12
  ·
    go_wp2_with fail
    refine (san9_calls _).mono ?_
    rintro e w' ⟨rfl, hb⟩
    have HBZ := Lib.hid (Below.andThen HB.out hb)
    clear hb
    go_wp2_with fail
    go_ret
    exact ⟨rfl, HBZ.out⟩
  have HLN : Hid (a.length = b.length) := by show _ = _; rw [HN1.out, HN2.out]
  have HJK := Lib.hid (jok_of HLN.out HVA.out HVB.out)
  have HJK2 := Lib.hid (jok_of HLN.out.symm HVB.out HVA.out)
  have HSV := Lib.hid (svalid_joins HLN.out HVA.out HVB.out)
  go_wp2_with fail
  refine (join_c _ HA.out.is HC.out.is).mono ?_
  rintro e w4 ⟨A7, n7, c7, rfl, hi, hb⟩
  replace HA := Lib.hid (HA.out.below hb)
  replace HC := Lib.hid (HC.out.below hb)
  replace HK := Lib.hid (HK.out.below hb)
  replace HV := Lib.hid (HV.out.below hb)
  replace HB := Lib.hid (Below.andThen HB.out hb)
  unfold joI at hi
  rw [if_pos HJK.out] at hi
  rw [HJK.out, eI_t]
  have hHJnc := hi.2.1
  have hHJnm := hi.2.2.1
  have HJ := Lib.hid (W3.mk hi)
  clear hi
  clear hb
  go_wp2_with fail
  refine (join_c _ HC.out.is HA.out.is).mono ?_
  rintro e w5 ⟨A8, n8, c8, rfl, hi, hb⟩
  replace HA := Lib.hid (HA.out.below hb)
  replace HC := Lib.hid (HC.out.below hb)
  replace HK := Lib.hid (HK.out.below hb)
  replace HV := Lib.hid (HV.out.below hb)
  replace HJ := Lib.hid (HJ.out.below hb)
  replace HB := Lib.hid (Below.andThen HB.out hb)
  unfold joI at hi
  rw [if_pos HJK2.out, joins_comm] at hi
  rw [HJK2.out, eI_t]
  have hHJ2nc := hi.2.1
  have hHJ2nm := hi.2.2.1
  have HJ2 := Lib.hid (W3.mk hi)
  clear hi
  clear hb
  go_wp2_with fail
  refine (rsameSh_t _ HJ.out.is HJ2.out.is).mono ?_
  rintro e w6 ⟨rfl, hb⟩
  replace HA := Lib.hid (HA.out.below hb)
  replace HC := Lib.hid (HC.out.below hb)
  replace HK := Lib.hid (HK.out.below hb)
  replace HV := Lib.hid (HV.out.below hb)
  replace HJ := Lib.hid (HJ.out.below hb)
  replace HJ2 := Lib.hid (HJ2.out.below hb)
  replace HB := Lib.hid (Below.andThen HB.out hb)
  clear hb
  go_wp2_with fail
  refine (svalid_calls _ HJ.out.is).mono ?_
  rintro e w7 ⟨rfl, hb⟩
  replace HA := Lib.hid (HA.out.below hb)
  replace HC := Lib.hid (HC.out.below hb)
  replace HK := Lib.hid (HK.out.below hb)
  replace HV := Lib.hid (HV.out.below hb)
  replace HJ := Lib.hid (HJ.out.below hb)
  replace HJ2 := Lib.hid (HJ2.out.below hb)
  replace HB := Lib.hid (Below.andThen HB.out hb)
  rw [HSV.out]
  clear hb
  go_wp2_with fail
  refine (in_calls _ HA.out.is HV.out.is).mono ?_
  rintro e w8 ⟨rfl, hb⟩
  replace HA := Lib.hid (HA.out.below hb)
  replace HC := Lib.hid (HC.out.below hb)
  replace HK := Lib.hid (HK.out.below hb)
  replace HV := Lib.hid (HV.out.below hb)
  replace HJ := Lib.hid (HJ.out.below hb)
  replace HJ2 := Lib.hid (HJ2.out.below hb)
  replace HB := Lib.hid (Below.andThen HB.out hb)
  clear hb
  cases hia : inn a v
  ·
    clear hia
    go_wp2_with fail
    refine (in_calls _ HC.out.is HV.out.is).mono ?_
    rintro e w9 ⟨rfl, hb⟩
    replace HA := Lib.hid (HA.out.below hb)
    replace HC := Lib.hid (HC.out.below hb)
    replace HK := Lib.hid (HK.out.below hb)
    replace HV := Lib.hid (HV.out.below hb)
    replace HJ := Lib.hid (HJ.out.below hb)
    replace HJ2 := Lib.hid (HJ2.out.below hb)
    replace HB := Lib.hid (Below.andThen HB.out hb)
    clear hb
    cases hib : inn b v
    ·
      clear hib
      go_wp2_with fail
      refine (low_c (m := m) _ HJ.out.is HK.out.is).mono ?_
      rintro e w10 ⟨rfl, hb⟩
      replace HA := Lib.hid (HA.out.below hb)
      replace HC := Lib.hid (HC.out.below hb)
      replace HK := Lib.hid (HK.out.below hb)
      replace HV := Lib.hid (HV.out.below hb)
      replace HJ := Lib.hid (HJ.out.below hb)
      replace HJ2 := Lib.hid (HJ2.out.below hb)
      replace HB := Lib.hid (Below.andThen HB.out hb)
      clear hb
      cases hq : asked m (joins a b) ks
      ·
        rw [eI_f]
        clear hq
        go_wp2_with fail
        refine (san9_calls _).mono ?_
        rintro e w' ⟨rfl, hb⟩
        have HBZ := Lib.hid (Below.andThen HB.out hb)
        clear hb
        go_wp2_with fail
        go_ret
        exact ⟨rfl, HBZ.out⟩
      rw [eI_t]
      obtain ⟨q1, q2, q3, q4⟩ := join_bounds HLN.out HVA.out HVB.out hq
      have HQA := Lib.hid q1
      have HQB := Lib.hid q2
      have HQJ := Lib.hid hq
      have HLO : Hid (loI m (joins a b) ks ≤ min (loI m a ks) (loI m b ks)) := by
        show _ ≤ _
        unfold loI
        rw [if_pos HQA.out, if_pos HQB.out, if_pos HQJ.out]; exact q3
      have HHI : Hid (max (hiI m a ks) (hiI m b ks) ≤ hiI m (joins a b) ks) := by
        show _ ≤ _
        unfold hiI
        rw [if_pos HQA.out, if_pos HQB.out, if_pos HQJ.out]; exact q4
      clear hq q1 q2 q3 q4
      go_wp2_with fail
      refine (low_c (m := m) _ HA.out.is HK.out.is).mono ?_
      rintro e w11 ⟨rfl, hb⟩
      replace HA := Lib.hid (HA.out.below hb)
      replace HC := Lib.hid (HC.out.below hb)
      replace HK := Lib.hid (HK.out.below hb)
      replace HV := Lib.hid (HV.out.below hb)
      replace HJ := Lib.hid (HJ.out.below hb)
      replace HJ2 := Lib.hid (HJ2.out.below hb)
      replace HB := Lib.hid (Below.andThen HB.out hb)
      rw [HQA.out, eI_t]
      clear hb
      go_wp2_with fail
      refine (low_c (m := m) _ HC.out.is HK.out.is).mono ?_
      rintro e w12 ⟨rfl, hb⟩
      replace HA := Lib.hid (HA.out.below hb)
      replace HC := Lib.hid (HC.out.below hb)
      replace HK := Lib.hid (HK.out.below hb)
      replace HV := Lib.hid (HV.out.below hb)
      replace HJ := Lib.hid (HJ.out.below hb)
      replace HJ2 := Lib.hid (HJ2.out.below hb)
      replace HB := Lib.hid (Below.andThen HB.out hb)
      rw [HQB.out, eI_t]
      clear hb
      go_wp2_with fail
      refine (high_c (m := m) _ HJ.out.is HK.out.is).mono ?_
      rintro e w13 ⟨rfl, hb⟩
      replace HA := Lib.hid (HA.out.below hb)
      replace HC := Lib.hid (HC.out.below hb)
      replace HK := Lib.hid (HK.out.below hb)
      replace HV := Lib.hid (HV.out.below hb)
      replace HJ := Lib.hid (HJ.out.below hb)
      replace HJ2 := Lib.hid (HJ2.out.below hb)
      replace HB := Lib.hid (Below.andThen HB.out hb)
      rw [HQJ.out, eI_t]
      clear hb
      go_wp2_with fail
      refine (high_c (m := m) _ HA.out.is HK.out.is).mono ?_
      rintro e w14 ⟨rfl, hb⟩
      replace HA := Lib.hid (HA.out.below hb)
      replace HC := Lib.hid (HC.out.below hb)
      replace HK := Lib.hid (HK.out.below hb)
      replace HV := Lib.hid (HV.out.below hb)
      replace HJ := Lib.hid (HJ.out.below hb)
      replace HJ2 := Lib.hid (HJ2.out.below hb)
      replace HB := Lib.hid (Below.andThen HB.out hb)
      rw [HQA.out, eI_t]
      clear hb
      go_wp2_with fail
      refine (high_c (m := m) _ HC.out.is HK.out.is).mono ?_
      rintro e w15 ⟨rfl, hb⟩
      replace HA := Lib.hid (HA.out.below hb)
      replace HC := Lib.hid (HC.out.below hb)
      replace HK := Lib.hid (HK.out.below hb)
      replace HV := Lib.hid (HV.out.below hb)
      replace HJ := Lib.hid (HJ.out.below hb)
      replace HJ2 := Lib.hid (HJ2.out.below hb)
      replace HB := Lib.hid (Below.andThen HB.out hb)
      rw [HQB.out, eI_t]
      clear hb
      go_wp2_with fail
      refine (san9_calls _).mono ?_
      rintro e w16 ⟨rfl, hb⟩
      replace HA := Lib.hid (HA.out.below hb)
      replace HC := Lib.hid (HC.out.below hb)
      replace HK := Lib.hid (HK.out.below hb)
      replace HV := Lib.hid (HV.out.below hb)
      replace HJ := Lib.hid (HJ.out.below hb)
      replace HJ2 := Lib.hid (HJ2.out.below hb)
      replace HB := Lib.hid (Below.andThen HB.out hb)
      have l1 := HLO.out
      have l2 := HHI.out
      generalize loI m (joins a b) ks = x1 at *
      generalize loI m a ks = x2 at *
      generalize loI m b ks = x3 at *
      generalize hiI m (joins a b) ks = y1 at *
      generalize hiI m a ks = y2 at *
      generalize hiI m b ks = y3 at *
      have l3 := l1
      have l4 := l2
      clear hb
      go_wp2_with fail
      go_ret
      exact ⟨rfl, HB.out⟩
    ·
      have HIN := Lib.hid (inn_joins' HLN.out HVA.out hib)
      clear hib
      go_wp2_with fail
      refine (in_calls _ HJ.out.is HV.out.is).mono ?_
      rintro e w10 ⟨rfl, hb⟩
      replace HA := Lib.hid (HA.out.below hb)
      replace HC := Lib.hid (HC.out.below hb)
      replace HK := Lib.hid (HK.out.below hb)
      replace HV := Lib.hid (HV.out.below hb)
      replace HJ := Lib.hid (HJ.out.below hb)
      replace HJ2 := Lib.hid (HJ2.out.below hb)
      replace HB := Lib.hid (Below.andThen HB.out hb)
      rw [HIN.out]
      clear hb
      go_wp2_with fail
      refine (low_c (m := m) _ HJ.out.is HK.out.is).mono ?_
      rintro e w11 ⟨rfl, hb⟩
      replace HA := Lib.hid (HA.out.below hb)
      replace HC := Lib.hid (HC.out.below hb)
      replace HK := Lib.hid (HK.out.below hb)
      replace HV := Lib.hid (HV.out.below hb)
      replace HJ := Lib.hid (HJ.out.below hb)
      replace HJ2 := Lib.hid (HJ2.out.below hb)
      replace HB := Lib.hid (Below.andThen HB.out hb)
      clear hb
      cases hq : asked m (joins a b) ks
      ·
        rw [eI_f]
        clear hq
        go_wp2_with fail
        refine (san9_calls _).mono ?_
        rintro e w' ⟨rfl, hb⟩
        have HBZ := Lib.hid (Below.andThen HB.out hb)
        clear hb
        go_wp2_with fail
        go_ret
        exact ⟨rfl, HBZ.out⟩
      rw [eI_t]
      obtain ⟨q1, q2, q3, q4⟩ := join_bounds HLN.out HVA.out HVB.out hq
      have HQA := Lib.hid q1
      have HQB := Lib.hid q2
      have HQJ := Lib.hid hq
      have HLO : Hid (loI m (joins a b) ks ≤ min (loI m a ks) (loI m b ks)) := by
        show _ ≤ _
        unfold loI
        rw [if_pos HQA.out, if_pos HQB.out, if_pos HQJ.out]; exact q3
      have HHI : Hid (max (hiI m a ks) (hiI m b ks) ≤ hiI m (joins a b) ks) := by
        show _ ≤ _
        unfold hiI
        rw [if_pos HQA.out, if_pos HQB.out, if_pos HQJ.out]; exact q4
      clear hq q1 q2 q3 q4
      go_wp2_with fail
      refine (low_c (m := m) _ HA.out.is HK.out.is).mono ?_
      rintro e w12 ⟨rfl, hb⟩
      replace HA := Lib.hid (HA.out.below hb)
      replace HC := Lib.hid (HC.out.below hb)
      replace HK := Lib.hid (HK.out.below hb)
      replace HV := Lib.hid (HV.out.below hb)
      replace HJ := Lib.hid (HJ.out.below hb)
      replace HJ2 := Lib.hid (HJ2.out.below hb)
      replace HB := Lib.hid (Below.andThen HB.out hb)
      rw [HQA.out, eI_t]
      clear hb
      go_wp2_with fail
      refine (low_c (m := m) _ HC.out.is HK.out.is).mono ?_
      rintro e w13 ⟨rfl, hb⟩
      replace HA := Lib.hid (HA.out.below hb)
      replace HC := Lib.hid (HC.out.below hb)
      replace HK := Lib.hid (HK.out.below hb)
      replace HV := Lib.hid (HV.out.below hb)
      replace HJ := Lib.hid (HJ.out.below hb)
      replace HJ2 := Lib.hid (HJ2.out.below hb)
      replace HB := Lib.hid (Below.andThen HB.out hb)
      rw [HQB.out, eI_t]
      clear hb
      go_wp2_with fail
      refine (high_c (m := m) _ HJ.out.is HK.out.is).mono ?_
      rintro e w14 ⟨rfl, hb⟩
      replace HA := Lib.hid (HA.out.below hb)
      replace HC := Lib.hid (HC.out.below hb)
      replace HK := Lib.hid (HK.out.below hb)
      replace HV := Lib.hid (HV.out.below hb)
      replace HJ := Lib.hid (HJ.out.below hb)
      replace HJ2 := Lib.hid (HJ2.out.below hb)
      replace HB := Lib.hid (Below.andThen HB.out hb)
      rw [HQJ.out, eI_t]
      clear hb
      go_wp2_with fail
      refine (high_c (m := m) _ HA.out.is HK.out.is).mono ?_
      rintro e w15 ⟨rfl, hb⟩
      replace HA := Lib.hid (HA.out.below hb)
      replace HC := Lib.hid (HC.out.below hb)
      replace HK := Lib.hid (HK.out.below hb)
      replace HV := Lib.hid (HV.out.below hb)
      replace HJ := Lib.hid (HJ.out.below hb)
      replace HJ2 := Lib.hid (HJ2.out.below hb)
      replace HB := Lib.hid (Below.andThen HB.out hb)
      rw [HQA.out, eI_t]
      clear hb
      go_wp2_with fail
      refine (high_c (m := m) _ HC.out.is HK.out.is).mono ?_
      rintro e w16 ⟨rfl, hb⟩
      replace HA := Lib.hid (HA.out.below hb)
      replace HC := Lib.hid (HC.out.below hb)
      replace HK := Lib.hid (HK.out.below hb)
      replace HV := Lib.hid (HV.out.below hb)
      replace HJ := Lib.hid (HJ.out.below hb)
      replace HJ2 := Lib.hid (HJ2.out.below hb)
      replace HB := Lib.hid (Below.andThen HB.out hb)
      rw [HQB.out, eI_t]
      clear hb
      go_wp2_with fail
      refine (san9_calls _).mono ?_
      rintro e w17 ⟨rfl, hb⟩
      replace HA := Lib.hid (HA.out.below hb)
      replace HC := Lib.hid (HC.out.below hb)
      replace HK := Lib.hid (HK.out.below hb)
      replace HV := Lib.hid (HV.out.below hb)
      replace HJ := Lib.hid (HJ.out.below hb)
      replace HJ2 := Lib.hid (HJ2.out.below hb)
      replace HB := Lib.hid (Below.andThen HB.out hb)
      have l1 := HLO.out
      have l2 := HHI.out
      generalize loI m (joins a b) ks = x1 at *
      generalize loI m a ks = x2 at *
      generalize loI m b ks = x3 at *
      generalize hiI m (joins a b) ks = y1 at *
      generalize hiI m a ks = y2 at *
      generalize hiI m b ks = y3 at *
      have l3 := l1
      have l4 := l2
      clear hb
      go_wp2_with fail
      go_ret
      exact ⟨rfl, HB.out⟩
  ·
    have HIN := Lib.hid (inn_joins HLN.out HVB.out hia)
    clear hia
    go_wp2_with fail
    refine (in_calls _ HJ.out.is HV.out.is).mono ?_
    rintro e w9 ⟨rfl, hb⟩
    replace HA := Lib.hid (HA.out.below hb)
    replace HC := Lib.hid (HC.out.below hb)
    replace HK := Lib.hid (HK.out.below hb)
    replace HV := Lib.hid (HV.out.below hb)
    replace HJ := Lib.hid (HJ.out.below hb)
    replace HJ2 := Lib.hid (HJ2.out.below hb)
    replace HB := Lib.hid (Below.andThen HB.out hb)
    rw [HIN.out]
    clear hb
    go_wp2_with fail
    refine (low_c (m := m) _ HJ.out.is HK.out.is).mono ?_
    rintro e w10 ⟨rfl, hb⟩
    replace HA := Lib.hid (HA.out.below hb)
    replace HC := Lib.hid (HC.out.below hb)
    replace HK := Lib.hid (HK.out.below hb)
    replace HV := Lib.hid (HV.out.below hb)
    replace HJ := Lib.hid (HJ.out.below hb)
    replace HJ2 := Lib.hid (HJ2.out.below hb)
    replace HB := Lib.hid (Below.andThen HB.out hb)
    clear hb
    cases hq : asked m (joins a b) ks
    ·
      rw [eI_f]
      clear hq
      go_wp2_with fail
      refine (san9_calls _).mono ?_
      rintro e w' ⟨rfl, hb⟩
      have HBZ := Lib.hid (Below.andThen HB.out hb)
      clear hb
      go_wp2_with fail
      go_ret
      exact ⟨rfl, HBZ.out⟩
    rw [eI_t]
    obtain ⟨q1, q2, q3, q4⟩ := join_bounds HLN.out HVA.out HVB.out hq
    have HQA := Lib.hid q1
    have HQB := Lib.hid q2
    have HQJ := Lib.hid hq
    have HLO : Hid (loI m (joins a b) ks ≤ min (loI m a ks) (loI m b ks)) := by
      show _ ≤ _
      unfold loI
      rw [if_pos HQA.out, if_pos HQB.out, if_pos HQJ.out]; exact q3
    have HHI : Hid (max (hiI m a ks) (hiI m b ks) ≤ hiI m (joins a b) ks) := by
      show _ ≤ _
      unfold hiI
      rw [if_pos HQA.out, if_pos HQB.out, if_pos HQJ.out]; exact q4
    clear hq q1 q2 q3 q4
    go_wp2_with fail
    refine (low_c (m := m) _ HA.out.is HK.out.is).mono ?_
    rintro e w11 ⟨rfl, hb⟩
    replace HA := Lib.hid (HA.out.below hb)
    replace HC := Lib.hid (HC.out.below hb)
    replace HK := Lib.hid (HK.out.below hb)
    replace HV := Lib.hid (HV.out.below hb)
    replace HJ := Lib.hid (HJ.out.below hb)
    replace HJ2 := Lib.hid (HJ2.out.below hb)
    replace HB := Lib.hid (Below.andThen HB.out hb)
    rw [HQA.out, eI_t]
    clear hb
    go_wp2_with fail
    refine (low_c (m := m) _ HC.out.is HK.out.is).mono ?_
    rintro e w12 ⟨rfl, hb⟩
    replace HA := Lib.hid (HA.out.below hb)
    replace HC := Lib.hid (HC.out.below hb)
    replace HK := Lib.hid (HK.out.below hb)
    replace HV := Lib.hid (HV.out.below hb)
    replace HJ := Lib.hid (HJ.out.below hb)
    replace HJ2 := Lib.hid (HJ2.out.below hb)
    replace HB := Lib.hid (Below.andThen HB.out hb)
    rw [HQB.out, eI_t]
    clear hb
    go_wp2_with fail
    refine (high_c (m := m) _ HJ.out.is HK.out.is).mono ?_
    rintro e w13 ⟨rfl, hb⟩
    replace HA := Lib.hid (HA.out.below hb)
    replace HC := Lib.hid (HC.out.below hb)
    replace HK := Lib.hid (HK.out.below hb)
    replace HV := Lib.hid (HV.out.below hb)
    replace HJ := Lib.hid (HJ.out.below hb)
    replace HJ2 := Lib.hid (HJ2.out.below hb)
    replace HB := Lib.hid (Below.andThen HB.out hb)
    rw [HQJ.out, eI_t]
    clear hb
    go_wp2_with fail
    refine (high_c (m := m) _ HA.out.is HK.out.is).mono ?_
    rintro e w14 ⟨rfl, hb⟩
    replace HA := Lib.hid (HA.out.below hb)
    replace HC := Lib.hid (HC.out.below hb)
    replace HK := Lib.hid (HK.out.below hb)
    replace HV := Lib.hid (HV.out.below hb)
    replace HJ := Lib.hid (HJ.out.below hb)
    replace HJ2 := Lib.hid (HJ2.out.below hb)
    replace HB := Lib.hid (Below.andThen HB.out hb)
    rw [HQA.out, eI_t]
    clear hb
    go_wp2_with fail
    refine (high_c (m := m) _ HC.out.is HK.out.is).mono ?_
    rintro e w15 ⟨rfl, hb⟩
    replace HA := Lib.hid (HA.out.below hb)
    replace HC := Lib.hid (HC.out.below hb)
    replace HK := Lib.hid (HK.out.below hb)
    replace HV := Lib.hid (HV.out.below hb)
    replace HJ := Lib.hid (HJ.out.below hb)
    replace HJ2 := Lib.hid (HJ2.out.below hb)
    replace HB := Lib.hid (Below.andThen HB.out hb)
    rw [HQB.out, eI_t]
    clear hb
    go_wp2_with fail
    refine (san9_calls _).mono ?_
    rintro e w16 ⟨rfl, hb⟩
    replace HA := Lib.hid (HA.out.below hb)
    replace HC := Lib.hid (HC.out.below hb)
    replace HK := Lib.hid (HK.out.below hb)
    replace HV := Lib.hid (HV.out.below hb)
    replace HJ := Lib.hid (HJ.out.below hb)
    replace HJ2 := Lib.hid (HJ2.out.below hb)
    replace HB := Lib.hid (Below.andThen HB.out hb)
    have l1 := HLO.out
    have l2 := HHI.out
    generalize loI m (joins a b) ks = x1 at *
    generalize loI m a ks = x2 at *
    generalize loI m b ks = x3 at *
    generalize hiI m (joins a b) ks = y1 at *
    generalize hiI m a ks = y2 at *
    generalize hiI m b ks = y3 at *
    have l3 := l1
    have l4 := l2
    clear hb
    go_wp2_with fail
    go_ret
    exact ⟨rfl, HB.out⟩
end Go.Proofs.Yteeianandjokaaa.pivotShellsJoin
