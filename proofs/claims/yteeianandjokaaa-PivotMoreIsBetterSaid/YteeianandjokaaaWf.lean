/- PivotMoreIsBetter: its walk. -/
import Derived.Test.YteeianandjokaaaWzb

import Derived.Test.YteeianandjokaaaWq

namespace Go.Proofs.Yteeianandjokaaa.pivotMoreIsBetter

open Go.ChangeShapes Go.WideShapes Go.ChangeAt Go.RowKit

open Go.Proofs.Yteeianandjokaaa.pq Go.Proofs.Yteeianandjokaaa.cq Go.Proofs.Yteeianandjokaaa.vk Go.Proofs.Yteeianandjokaaa.bk Go.Proofs.Yteeianandjokaaa.wk Go.Proofs.Yteeianandjokaaa.uk Go.Proofs.Yteeianandjokaaa.pk

set_option linter.unusedVariables false
set_option maxRecDepth 100000 in
set_option maxHeartbeats 8000000 in
theorem walk (w : World) {m : Int} {A1 A2 A3 A4 : Option Addr} {n1 c1 n2 c2 n3 c3 n4 c4 : Nat} {P L : VV} {v x : List Int} (w0 : (Lit.int .i64 m).wf = true) (w1 : IsVV w A1 n1 c1 P) (w2 : IsVV w A2 n2 c2 L) (w3 : wo.IsI w A3 n3 c3 v) (w4 : wo.IsI w A4 n4 c4 x) :
    Calls Try.prog 7 #[.int .i64 m, .slice A1 n1 c1, .slice A2 n2 c2, .slice A3 n3 c3, .slice A4 n4 c4] w fun e w' => e = .returned (.bool true) ∧ Below w.heap.size w w' := by
  have hnc1 := w1.2.1
  have hnm1 := w1.2.2.1
  have hnc2 := w2.2.1
  have hnm2 := w2.2.2.1
  have hnc3 := w3.2.1
  have hnm3 := w3.2.2.1
  have hnc4 := w4.2.1
  have hnm4 := w4.2.2.1
  have HN1 := Lib.hid w1.1
  have HN2 := Lib.hid w2.1
  have HP := Lib.hid (W2.mk w1)
  have HL := Lib.hid (W2.mk w2)
  have HV := Lib.hid (W1.mk w3)
  have HX := Lib.hid (W1.mk w4)
  have HB := Lib.hid (Below.refl w.heap.size w)
  clear w1 w2 w3 w4
  go_enter Try.func7, Try.ntmps7
  go_wp2_with fail
  refine (rfew_calls (q := 30) _ HL.out.is).mono ?_
  rintro e w' ⟨rfl, rfl⟩
  cases hf : few 30 L
  ·
    clear hf
    go_wp2_with fail
    refine (san9_calls _).mono ?_
    rintro e w' ⟨rfl, hb⟩
    have HBZ := Lib.hid (Below.andThen HB.out hb)
    clear hb
    go_wp2_with fail
    go_ret
    exact ⟨rfl, HBZ.out⟩
  clear hf
  go_wp2_with fail
  refine (rboth_calls (m := m) _ HP.out.is HL.out.is).mono ?_
  rintro e w2 ⟨rfl, hb⟩
  replace HP := Lib.hid (HP.out.below hb)
  replace HL := Lib.hid (HL.out.below hb)
  replace HV := Lib.hid (HV.out.below hb)
  replace HX := Lib.hid (HX.out.below hb)
  replace HB := Lib.hid (Below.andThen HB.out hb)
  clear hb
  cases hk : haveK m P L
  ·
    clear hk
    go_wp2_with fail
    refine (san9_calls _).mono ?_
    rintro e w' ⟨rfl, hb⟩
    have HBZ := Lib.hid (Below.andThen HB.out hb)
    clear hb
    go_wp2_with fail
    go_ret
    exact ⟨rfl, HBZ.out⟩
  have HH := Lib.hid hk
  have hh := have_of hk
  have hp1 : 1 ≤ n1 := by have := hh.p.n1; have := HN1.out; omega
  have HP1 := Lib.hid hh.p.n1
  clear hk hh
  by_cases h8 : n1 ≥ 8
  ·
    go_wp2_with fail
    refine (san9_calls _).mono ?_
    rintro e w' ⟨rfl, hb⟩
    have HBZ := Lib.hid (Below.andThen HB.out hb)
    clear hb
    go_wp2_with fail
    go_ret
    exact ⟨rfl, HBZ.out⟩
  obtain ⟨b0, o0, A0, n0, c0, p0, e0, hb0, hc0, hI0, hX0⟩ := isVV_get HP.out.is (k := 0) (by omega)
  cases e0
  rw [Nat.add_zero] at hc0
  have HP0 : Hid (p0 = P.headD []) := by
    show _ = _
    have := head_at HP1.out
    rw [hX0] at this
    injection this
  have HI0 := Lib.hid (W1.mk hI0)
  have HCL := Lib.hid (Cl.mk hb0 hc0)
  have hlt0 : (0 : Int) < (n1 : Int) := by omega
  clear hX0 hI0 hb0 hc0
  have hcHCL := HCL.out.c
  have hbHCL := HCL.out.lt
  go_wp2_with fail
  clear hcHCL hbHCL
  refine (alike_calls A0 A3 n0 n3 c0 c3 p0 v _ HI0.out.is HV.out.is).mono ?_
  rintro e w3 ⟨rfl, hb⟩
  replace HP := Lib.hid (HP.out.below hb)
  replace HL := Lib.hid (HL.out.below hb)
  replace HV := Lib.hid (HV.out.below hb)
  replace HX := Lib.hid (HX.out.below hb)
  replace HI0 := Lib.hid (HI0.out.below hb)
  replace HCL := Lib.hid (HCL.out.below hb)
  replace HB := Lib.hid (Below.andThen HB.out hb)
  clear hb
  have hcHCL := HCL.out.c
  have hbHCL := HCL.out.lt
  cases ha : vq.alike p0 v
  ·
    clear ha
    go_wp2_with fail
    clear hcHCL hbHCL
    refine (san9_calls _).mono ?_
    rintro e w' ⟨rfl, hb⟩
    have HBZ := Lib.hid (Below.andThen HB.out hb)
    clear hb
    have hcHCL := HCL.out.c
    have hbHCL := HCL.out.lt
    go_wp2_with fail
    go_ret
    exact ⟨rfl, HBZ.out⟩
  have HA1 : Hid (vq.alike (P.headD []) v = true) := by show _ = _; rw [← HP0.out]; exact ha
  clear ha
  go_wp2_with fail
  clear hcHCL hbHCL
  refine (alike_calls A0 A4 n0 n4 c0 c4 p0 x _ HI0.out.is HX.out.is).mono ?_
  rintro e w4 ⟨rfl, hb⟩
  replace HP := Lib.hid (HP.out.below hb)
  replace HL := Lib.hid (HL.out.below hb)
  replace HV := Lib.hid (HV.out.below hb)
  replace HX := Lib.hid (HX.out.below hb)
  replace HI0 := Lib.hid (HI0.out.below hb)
  replace HCL := Lib.hid (HCL.out.below hb)
  replace HB := Lib.hid (Below.andThen HB.out hb)
  clear hb
  have hcHCL := HCL.out.c
  have hbHCL := HCL.out.lt
  cases ha : vq.alike p0 x
  ·
    clear ha
    go_wp2_with fail
    clear hcHCL hbHCL
    refine (san9_calls _).mono ?_
    rintro e w' ⟨rfl, hb⟩
    have HBZ := Lib.hid (Below.andThen HB.out hb)
    clear hb
    have hcHCL := HCL.out.c
    have hbHCL := HCL.out.lt
    go_wp2_with fail
    go_ret
    exact ⟨rfl, HBZ.out⟩
  clear hcHCL hbHCL
  have HA2 : Hid (vq.alike (P.headD []) x = true) := by show _ = _; rw [← HP0.out]; exact ha
  have HM := Lib.hid (more_of HH.out (by have := HN1.out; omega) HA1.out HA2.out)
  clear ha HCL
  obtain ⟨bg, og, eg, vsg, vlg, svg, oneg, srcg⟩ := sv_of HP.out.is (by omega)
  cases eg
  have VLg := Lib.hid vlg
  have SVg := Lib.hid svg
  have ONEg := Lib.hid oneg
  have SRCg := Lib.hid srcg
  have HOg : Hid ((w4.alloc (.cells #[] 23)).ownsRow w4.heap.size 23 1 (.slice (some ⟨w4.heap.size, 0, none⟩) 0 0) 0 []) := World.ownsRow_lit (base := w4.heap.size) w4 #[] 0 (Nat.le_refl _) (by unfold maxLen; omega) rfl
  have BAg := Lib.hid (below_new w4 (.cells #[] 23))
  clear vlg svg oneg srcg
  obtain ⟨ig, hig, hz0g, hz1g, hz2g⟩ := info_parts infoSl9
  go_wp2_with (at_builtin; refine wpList_append_own _ rfl _ _ 22 rfl w4.heap.size 23 ig (.slice none 0 0) 1 24 Try.underlying22 hig hz0g hz1g hz2g rfl (by decide) _ _ _ rfl HOg.out _ n1 _ vsg rfl ?c0 (SRCg.out _ BAg.out) ONEg.out ?c3 ?c4 ?c5 ?_)
  case c0 => rw [VLg.out, Nat.mul_one]
  case c3 => unfold maxLen; omega
  case c4 => omega
  case c5 => simp only [size_new]; omega
  intro vag wag owng hgg _
  have bag : Below w4.heap.size w4 wag := BAg.out.grown hgg (by simp only [size_new]; omega) (fun g hg => (HOg.out.lt g hg).1)
  have OWNg := Lib.hid owng
  replace BAg := Lib.hid bag
  have BWg : Hid (w4.heap.size ≤ wag.heap.size) := bag.size
  clear owng hgg bag
  go_wp2_with (at_builtin; refine wpList_append_own _ rfl _ _ 22 rfl w4.heap.size 23 ig (.slice none 0 0) 1 24 Try.underlying22 hig hz0g hz1g hz2g rfl (by decide) _ _ _ rfl (OWNg.out.alloc _) ⟨wag.heap.size, 0, none⟩ 1 _ [.slice A4 n4 c4] rfl rfl (cells1 _ _ _) ?c2 ?c3 ?c4 ?c5 ?_)
  case c2 => simp [Value.oneCell']
  case c3 => unfold maxLen; omega
  case c4 => omega
  case c5 => have := BWg.out; simp only [size_new]; omega
  intro vbg wbg owng hgg _
  have bbg : Below w4.heap.size w4 wbg := (BAg.out.alloc BWg.out _).grown hgg (by have := BWg.out; simp only [size_new]; omega) (fun g hg => (OWNg.out.lt g hg).1)
  obtain ⟨Ag, cg, eg, ivg⟩ := isVV_own0 (C := P ++ [x]) owng (sv_push SVg.out (by rw [VLg.out, HP.out.is.1]) HX.out.is) bbg (by rw [List.length_append, HP.out.is.1]; simp)
  subst eg
  have HQ := Lib.hid (W2.mk ivg)
  have hHQnc := ivg.2.1
  have hHQnm := ivg.2.2.1
  have hb := bbg
  clear owng hgg bbg ivg BAg BWg OWNg HOg SRCg ONEg SVg VLg
  replace HP := Lib.hid (HP.out.below hb)
  replace HL := Lib.hid (HL.out.below hb)
  replace HV := Lib.hid (HV.out.below hb)
  replace HX := Lib.hid (HX.out.below hb)
  replace HI0 := Lib.hid (HI0.out.below hb)
  replace HB := Lib.hid (Below.andThen HB.out hb)
  clear hb
  go_wp2_with fail
  refine (cover_c (m := m) _ HP.out.is HL.out.is).mono ?_
  rintro e w5 ⟨rfl, hb⟩
  replace HP := Lib.hid (HP.out.below hb)
  replace HL := Lib.hid (HL.out.below hb)
  replace HV := Lib.hid (HV.out.below hb)
  replace HX := Lib.hid (HX.out.below hb)
  replace HI0 := Lib.hid (HI0.out.below hb)
  replace HQ := Lib.hid (HQ.out.below hb)
  replace HB := Lib.hid (Below.andThen HB.out hb)
  rw [HH.out, eI_t]
  clear hb
  go_wp2_with fail
  refine (cover_c (m := m) _ HQ.out.is HL.out.is).mono ?_
  rintro e w6 ⟨rfl, hb⟩
  replace HP := Lib.hid (HP.out.below hb)
  replace HL := Lib.hid (HL.out.below hb)
  replace HV := Lib.hid (HV.out.below hb)
  replace HX := Lib.hid (HX.out.below hb)
  replace HI0 := Lib.hid (HI0.out.below hb)
  replace HQ := Lib.hid (HQ.out.below hb)
  replace HB := Lib.hid (Below.andThen HB.out hb)
  rw [HM.out.hq, eI_t]
  clear hb
  go_wp2_with fail
  refine (shells_c (m := m) _ HP.out.is HL.out.is).mono ?_
  rintro e w7 ⟨A6, n6, c6, rfl, hi, hb⟩
  replace HP := Lib.hid (HP.out.below hb)
  replace HL := Lib.hid (HL.out.below hb)
  replace HV := Lib.hid (HV.out.below hb)
  replace HX := Lib.hid (HX.out.below hb)
  replace HI0 := Lib.hid (HI0.out.below hb)
  replace HQ := Lib.hid (HQ.out.below hb)
  replace HB := Lib.hid (Below.andThen HB.out hb)
  unfold shI at hi
  rw [if_pos HH.out] at hi
  rw [HH.out, eI_t]
  have hHSnc := hi.2.1
  have hHSnm := hi.2.2.1
  have HS := Lib.hid (W3.mk hi)
  clear hi
  clear hb
  go_wp2_with fail
  refine (shells_c (m := m) _ HQ.out.is HL.out.is).mono ?_
  rintro e w8 ⟨A7, n7, c7, rfl, hi, hb⟩
  replace HP := Lib.hid (HP.out.below hb)
  replace HL := Lib.hid (HL.out.below hb)
  replace HV := Lib.hid (HV.out.below hb)
  replace HX := Lib.hid (HX.out.below hb)
  replace HI0 := Lib.hid (HI0.out.below hb)
  replace HQ := Lib.hid (HQ.out.below hb)
  replace HS := Lib.hid (HS.out.below hb)
  replace HB := Lib.hid (Below.andThen HB.out hb)
  unfold shI at hi
  rw [if_pos HM.out.hq] at hi
  rw [HM.out.hq, eI_t]
  have hHTnc := hi.2.1
  have hHTnm := hi.2.2.1
  have HT := Lib.hid (W3.mk hi)
  clear hi
  clear hb
  go_wp2_with fail
  refine (table_c (m := m) _ (HQ.out.below (below_new _ _)).is (isVV_one _ HV.out.is)).mono ?_
  rintro e w9 ⟨A8, n8, c8, rfl, hi, hb⟩
  replace HP := Lib.hid ((HP.out.below (below_new _ _)).below hb)
  replace HL := Lib.hid ((HL.out.below (below_new _ _)).below hb)
  replace HV := Lib.hid ((HV.out.below (below_new _ _)).below hb)
  replace HX := Lib.hid ((HX.out.below (below_new _ _)).below hb)
  replace HI0 := Lib.hid ((HI0.out.below (below_new _ _)).below hb)
  replace HQ := Lib.hid ((HQ.out.below (below_new _ _)).below hb)
  replace HS := Lib.hid ((HS.out.below (below_new _ _)).below hb)
  replace HT := Lib.hid ((HT.out.below (below_new _ _)).below hb)
  replace HB := Lib.hid (Below.andThen (Below.andThen HB.out (below_new _ _)) hb)
  unfold tbI at hi
  rw [if_pos HM.out.hqv] at hi
  rw [HM.out.hqv, eI_t]
  obtain rfl : n8 = 1 := by have h1 := hi.1; rw [table_len] at h1; simp only [List.length_singleton] at h1; omega
  obtain ⟨b9, o9, A9, n9, c9, k9, e9, hb9, hc9, hI9, hX9⟩ := isVV_get hi (k := 0) (by omega)
  cases e9
  rw [Nat.add_zero] at hc9
  have hk9 : k9 = keys m (P ++ [x]) v := by
    rw [pq.table_at (v := v) rfl] at hX9
    injection hX9 with e
    exact e.symm
  subst hk9
  obtain rfl : n9 = n1 + 1 := by have h1 := hI9.1; rw [keys_len, List.length_append, List.length_singleton] at h1; have := HN1.out; omega
  have h9nc := hI9.2.1
  have h9nm := hI9.2.2.1
  obtain ⟨b8, o8, y8, e8, -, -, -, -⟩ := isI_at hI9 (k := 0) (by omega)
  subst e8
  have HKQ := Lib.hid (W1.mk hI9)
  have HKP : Hid (W1 w9 (some ⟨b8, o8, none⟩) n1 c9 (keys m P v)) := by
    refine ⟨?_⟩
    have h1 := isI_take (k := n1) hI9 (by omega)
    rw [keys_more, List.take_append_of_le_length (by rw [keys_len, HN1.out]; exact Nat.le_refl _), List.take_of_length_le (by rw [keys_len, HN1.out]; exact Nat.le_refl _)] at h1
    exact h1
  have HCK := Lib.hid (Cl.mk hb9 hc9)
  have hcut := fun w' => run_preI w' b8 o8 (n1 + 1) c9 n1 (by omega) h9nc
  have hlt1 : (0 : Int) < ((1 : Nat) : Int) := by omega
  clear hi hX9 hI9 hb9 hc9
  have hcv : cvI m (P ++ [x]) L ≤ cvI m P L := by
    unfold cvI
    rw [if_pos HM.out.hq, if_pos HH.out]
    exact cover_more m P L x
  generalize cvI m (P ++ [x]) L = d1 at *
  generalize cvI m P L = d2 at *
  have HAP := Lib.hid (asked_shells (haveK_iff.1 HH.out).1 HM.out.p HM.out.l HM.out.v)
  have HAQ := Lib.hid (asked_shells (haveK_iff.1 HH.out).1 HM.out.q HM.out.l HM.out.v)
  have HLO : Hid (loI m (shells m P L) (keys m P v) ≤ loI m (shells m (P ++ [x]) L) (keys m (P ++ [x]) v) ∧ hiI m (shells m (P ++ [x]) L) (keys m (P ++ [x]) v) ≤ hiI m (shells m P L) (keys m P v) ∧ loI m (shells m (P ++ [x]) L) (keys m (P ++ [x]) v) ≤ hiI m (shells m (P ++ [x]) L) (keys m (P ++ [x]) v)) := by
    unfold loI hiI
    rw [if_pos HAP.out, if_pos HAP.out, if_pos HAQ.out, if_pos HAQ.out]
    refine ⟨?_, ?_, low_high HM.out.m1 HM.out.m3 HM.out.q HM.out.l HM.out.v⟩
    · rw [keys_more, shells_more]; exact low_more (by rw [shells_len, keys_len])
    · rw [keys_more, shells_more]; exact high_more (by rw [shells_len, keys_len])
  have HNR : Hid (nyI m (P ++ [x]) v ≤ nyI m P v ∧ (nrI m (P ++ [x]) v = nrI m P v ∧ nyI m (P ++ [x]) v = nyI m P v ∨ nrI m (P ++ [x]) v = (n1 : Int) ∧ nyI m (P ++ [x]) v < nyI m P v)) := by
    unfold nyI nrI
    rw [if_pos HM.out.hpv, if_pos HM.out.hqv, if_pos HM.out.hpv, if_pos HM.out.hqv]
    obtain ⟨h1, h2⟩ := near_more m P x v
    refine ⟨h1, ?_⟩
    rcases h2 with ⟨h2, h3⟩ | ⟨h2, h3⟩
    · exact .inl ⟨by rw [h2], h3⟩
    · exact .inr ⟨by rw [h2, HN1.out], h3⟩
  clear hb
  have hcHCK := HCK.out.c
  have hbHCK := HCK.out.lt
  go_wp2_with fail
  clear hcHCK hbHCK
  refine (low_c (m := m) _ HS.out.is HKP.out.is).mono ?_
  rintro e w10 ⟨rfl, hb⟩
  replace HP := Lib.hid (HP.out.below hb)
  replace HL := Lib.hid (HL.out.below hb)
  replace HV := Lib.hid (HV.out.below hb)
  replace HX := Lib.hid (HX.out.below hb)
  replace HI0 := Lib.hid (HI0.out.below hb)
  replace HQ := Lib.hid (HQ.out.below hb)
  replace HS := Lib.hid (HS.out.below hb)
  replace HT := Lib.hid (HT.out.below hb)
  replace HKQ := Lib.hid (HKQ.out.below hb)
  replace HKP := Lib.hid (HKP.out.below hb)
  replace HCK := Lib.hid (HCK.out.below hb)
  replace HB := Lib.hid (Below.andThen HB.out hb)
  rw [HAP.out, eI_t]
  clear hb
  have hcHCK := HCK.out.c
  have hbHCK := HCK.out.lt
  go_wp2_with fail
  clear hcHCK hbHCK
  refine (low_c (m := m) _ HT.out.is HKQ.out.is).mono ?_
  rintro e w11 ⟨rfl, hb⟩
  replace HP := Lib.hid (HP.out.below hb)
  replace HL := Lib.hid (HL.out.below hb)
  replace HV := Lib.hid (HV.out.below hb)
  replace HX := Lib.hid (HX.out.below hb)
  replace HI0 := Lib.hid (HI0.out.below hb)
  replace HQ := Lib.hid (HQ.out.below hb)
  replace HS := Lib.hid (HS.out.below hb)
  replace HT := Lib.hid (HT.out.below hb)
  replace HKQ := Lib.hid (HKQ.out.below hb)
  replace HKP := Lib.hid (HKP.out.below hb)
  replace HCK := Lib.hid (HCK.out.below hb)
  replace HB := Lib.hid (Below.andThen HB.out hb)
  rw [HAQ.out, eI_t]
  clear hb
  have hcHCK := HCK.out.c
  have hbHCK := HCK.out.lt
  go_wp2_with fail
  clear hcHCK hbHCK
  refine (high_c (m := m) _ HS.out.is HKP.out.is).mono ?_
  rintro e w12 ⟨rfl, hb⟩
  replace HP := Lib.hid (HP.out.below hb)
  replace HL := Lib.hid (HL.out.below hb)
  replace HV := Lib.hid (HV.out.below hb)
  replace HX := Lib.hid (HX.out.below hb)
  replace HI0 := Lib.hid (HI0.out.below hb)
  replace HQ := Lib.hid (HQ.out.below hb)
  replace HS := Lib.hid (HS.out.below hb)
  replace HT := Lib.hid (HT.out.below hb)
  replace HKQ := Lib.hid (HKQ.out.below hb)
  replace HKP := Lib.hid (HKP.out.below hb)
  replace HCK := Lib.hid (HCK.out.below hb)
  replace HB := Lib.hid (Below.andThen HB.out hb)
  rw [HAP.out, eI_t]
  clear hb
  have hcHCK := HCK.out.c
  have hbHCK := HCK.out.lt
  go_wp2_with fail
  clear hcHCK hbHCK
  refine (high_c (m := m) _ HT.out.is HKQ.out.is).mono ?_
  rintro e w13 ⟨rfl, hb⟩
  replace HP := Lib.hid (HP.out.below hb)
  replace HL := Lib.hid (HL.out.below hb)
  replace HV := Lib.hid (HV.out.below hb)
  replace HX := Lib.hid (HX.out.below hb)
  replace HI0 := Lib.hid (HI0.out.below hb)
  replace HQ := Lib.hid (HQ.out.below hb)
  replace HS := Lib.hid (HS.out.below hb)
  replace HT := Lib.hid (HT.out.below hb)
  replace HKQ := Lib.hid (HKQ.out.below hb)
  replace HKP := Lib.hid (HKP.out.below hb)
  replace HCK := Lib.hid (HCK.out.below hb)
  replace HB := Lib.hid (Below.andThen HB.out hb)
  rw [HAQ.out, eI_t]
  clear hb
  have hcHCK := HCK.out.c
  have hbHCK := HCK.out.lt
  go_wp2_with fail
  clear hcHCK hbHCK
  refine (nearest_c (m := m) _ HP.out.is HV.out.is).mono ?_
  rintro e w14 ⟨rfl, hb⟩
  replace HP := Lib.hid (HP.out.below hb)
  replace HL := Lib.hid (HL.out.below hb)
  replace HV := Lib.hid (HV.out.below hb)
  replace HX := Lib.hid (HX.out.below hb)
  replace HI0 := Lib.hid (HI0.out.below hb)
  replace HQ := Lib.hid (HQ.out.below hb)
  replace HS := Lib.hid (HS.out.below hb)
  replace HT := Lib.hid (HT.out.below hb)
  replace HKQ := Lib.hid (HKQ.out.below hb)
  replace HKP := Lib.hid (HKP.out.below hb)
  replace HCK := Lib.hid (HCK.out.below hb)
  replace HB := Lib.hid (Below.andThen HB.out hb)
  rw [HM.out.hpv, eI_t]
  clear hb
  have hcHCK := HCK.out.c
  have hbHCK := HCK.out.lt
  go_wp2_with fail
  clear hcHCK hbHCK
  refine (nearest_c (m := m) _ HQ.out.is HV.out.is).mono ?_
  rintro e w15 ⟨rfl, hb⟩
  replace HP := Lib.hid (HP.out.below hb)
  replace HL := Lib.hid (HL.out.below hb)
  replace HV := Lib.hid (HV.out.below hb)
  replace HX := Lib.hid (HX.out.below hb)
  replace HI0 := Lib.hid (HI0.out.below hb)
  replace HQ := Lib.hid (HQ.out.below hb)
  replace HS := Lib.hid (HS.out.below hb)
  replace HT := Lib.hid (HT.out.below hb)
  replace HKQ := Lib.hid (HKQ.out.below hb)
  replace HKP := Lib.hid (HKP.out.below hb)
  replace HCK := Lib.hid (HCK.out.below hb)
  replace HB := Lib.hid (Below.andThen HB.out hb)
  rw [HM.out.hqv, eI_t]
  clear hb
  have hcHCK := HCK.out.c
  have hbHCK := HCK.out.lt
  go_wp2_with fail
  clear hcHCK hbHCK
  refine (san9_calls _).mono ?_
  rintro e w16 ⟨rfl, hb⟩
  replace HP := Lib.hid (HP.out.below hb)
  replace HL := Lib.hid (HL.out.below hb)
  replace HV := Lib.hid (HV.out.below hb)
  replace HX := Lib.hid (HX.out.below hb)
  replace HI0 := Lib.hid (HI0.out.below hb)
  replace HQ := Lib.hid (HQ.out.below hb)
  replace HS := Lib.hid (HS.out.below hb)
  replace HT := Lib.hid (HT.out.below hb)
  replace HKQ := Lib.hid (HKQ.out.below hb)
  replace HKP := Lib.hid (HKP.out.below hb)
  replace HCK := Lib.hid (HCK.out.below hb)
  replace HB := Lib.hid (Below.andThen HB.out hb)
  obtain ⟨g1, g2, g3⟩ := HLO.out
  obtain ⟨g4, g5⟩ := HNR.out
  generalize loI m (shells m P L) (keys m P v) = x1 at *
  generalize loI m (shells m (P ++ [x]) L) (keys m (P ++ [x]) v) = x2 at *
  generalize hiI m (shells m P L) (keys m P v) = x3 at *
  generalize hiI m (shells m (P ++ [x]) L) (keys m (P ++ [x]) v) = x4 at *
  generalize nyI m (P ++ [x]) v = y1 at *
  generalize nyI m P v = y2 at *
  generalize nrI m (P ++ [x]) v = z1 at *
  generalize nrI m P v = z2 at *
  clear hcut hlt1 HLO HNR
  clear hb
  have hcHCK := HCK.out.c
  have hbHCK := HCK.out.lt
  rcases g5 with ⟨g5, g6⟩ | ⟨g5, g6⟩
  · subst g5 g6
    go_wp2_with fail
    go_ret
    exact ⟨rfl, HB.out⟩
  · by_cases g7 : z1 = z2
    · have g8 : ¬ y1 = y2 := by omega
      go_wp2_with fail
      go_ret
      exact ⟨rfl, HB.out⟩
    · go_wp2_with fail
      go_ret
      exact ⟨rfl, HB.out⟩
end Go.Proofs.Yteeianandjokaaa.pivotMoreIsBetter
