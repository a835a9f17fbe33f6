/- PivotBoundsHold: its walk. -/
import Derived.Test.YteeianandjokaaaWz

namespace Go.Proofs.Yteeianandjokaaa.pivotBoundsHold

open Go.ChangeShapes Go.WideShapes Go.ChangeAt Go.RowKit

open Go.Proofs.Yteeianandjokaaa.pq Go.Proofs.Yteeianandjokaaa.cq Go.Proofs.Yteeianandjokaaa.vk Go.Proofs.Yteeianandjokaaa.bk Go.Proofs.Yteeianandjokaaa.wk Go.Proofs.Yteeianandjokaaa.uk Go.Proofs.Yteeianandjokaaa.pk

set_option linter.unusedVariables false
set_option maxRecDepth 100000 in
set_option maxHeartbeats 8000000 in
theorem walk (w : World) {m : Int} {A1 A2 A3 : Option Addr} {n1 c1 n2 c2 n3 c3 : Nat} {P L : VV} {v : List Int} (w0 : (Lit.int .i64 m).wf = true) (w1 : IsVV w A1 n1 c1 P) (w2 : IsVV w A2 n2 c2 L) (w3 : wo.IsI w A3 n3 c3 v) :
    Calls Try.prog 5 #[.int .i64 m, .slice A1 n1 c1, .slice A2 n2 c2, .slice A3 n3 c3] w fun e w' => e = .returned (.bool true) ∧ Below w.heap.size w w' := by
  have hnc1 := w1.2.1
  have hnm1 := w1.2.2.1
  have hnc2 := w2.2.1
  have hnm2 := w2.2.2.1
  have hnc3 := w3.2.1
  have hnm3 := w3.2.2.1
  have HN1 := Lib.hid w1.1
  have HN2 := Lib.hid w2.1
  have HP := Lib.hid (W2.mk w1)
  have HL := Lib.hid (W2.mk w2)
  have HV := Lib.hid (W1.mk w3)
  have HB := Lib.hid (Below.refl w.heap.size w)
  clear w1 w2 w3
  go_enter Try.func5, Try.ntmps5
  go_wp2_with fail
  refine (rfew_calls (q := 30) _ HL.out.is).mono ?_
  rintro e w' ⟨rfl, rfl⟩
  cases hf : few 30 L
  ·
    clear hf
    go_wp2_with fail
    refine (san9_calls _).mono ?_
    rintro e w' ⟨rfl, hb⟩
    have HBZ := Lib.hid (Below.andThen HB.out hb)
    clear hb
    go_wp2_with fail
    go_ret
    exact ⟨rfl, HBZ.out⟩
  have hn30 : n2 ≤ 30 := by have := few_len (q := 30) hf; have := HN2.out; omega
  clear hf
  go_wp2_with fail
  refine (rboth_calls (m := m) _ HP.out.is HL.out.is).mono ?_
  rintro e w2 ⟨rfl, hb⟩
  replace HP := Lib.hid (HP.out.below hb)
  replace HL := Lib.hid (HL.out.below hb)
  replace HV := Lib.hid (HV.out.below hb)
  replace HB := Lib.hid (Below.andThen HB.out hb)
  clear hb
  cases hk : haveK m P L
  ·
    clear hk
    go_wp2_with fail
    refine (san9_calls _).mono ?_
    rintro e w' ⟨rfl, hb⟩
    have HBZ := Lib.hid (Below.andThen HB.out hb)
    clear hb
    go_wp2_with fail
    go_ret
    exact ⟨rfl, HBZ.out⟩
  have HH := Lib.hid hk
  have hh := have_of hk
  have hp1 : 1 ≤ n1 := by have := hh.p.n1; have := HN1.out; omega
  have hl1 : 1 ≤ n2 := by have := hh.l.n1; have := HN2.out; omega
  have HM1 := Lib.hid hh.m1
  have HM3 := Lib.hid hh.m3
  have HFP := Lib.hid hh.p
  have HFL := Lib.hid hh.l
  clear hk hh
  obtain ⟨b0, o0, A0, n0, c0, p0, e0, hb0, hc0, hI0, hX0⟩ := isVV_get HP.out.is (k := 0) (by omega)
  cases e0
  rw [Nat.add_zero] at hc0
  have HP0 : Hid (p0 = P.headD []) := by
    show _ = _
    have := head_at HFP.out.n1
    rw [hX0] at this
    injection this
  have HI0 := Lib.hid (W1.mk hI0)
  have hlt0 : (0 : Int) < (n1 : Int) := by omega
  clear hX0 hI0
  go_wp2_with fail
  refine (alike_calls A0 A3 n0 n3 c0 c3 p0 v _ HI0.out.is HV.out.is).mono ?_
  rintro e w3 ⟨rfl, hb⟩
  replace HP := Lib.hid (HP.out.below hb)
  replace HL := Lib.hid (HL.out.below hb)
  replace HV := Lib.hid (HV.out.below hb)
  replace HI0 := Lib.hid (HI0.out.below hb)
  replace HB := Lib.hid (Below.andThen HB.out hb)
  clear hc0 hb0
  clear hb
  cases ha : vq.alike p0 v
  ·
    clear ha
    go_wp2_with fail
    refine (san9_calls _).mono ?_
    rintro e w' ⟨rfl, hb⟩
    have HBZ := Lib.hid (Below.andThen HB.out hb)
    clear hb
    go_wp2_with fail
    go_ret
    exact ⟨rfl, HBZ.out⟩
  have HAL : Hid (vq.alike (P.headD []) v = true) := by show _ = _; rw [← HP0.out]; exact ha
  have HVD : Hid (v.length = (P.headD []).length ∧ vq.Vec v) := ⟨(vq.alike_iff.1 HAL.out).1.symm, (vq.alike_iff.1 HAL.out).2.2⟩
  have HH2 := Lib.hid (haveK_snoc HH.out (by have := HN2.out; omega) HAL.out)
  have HSVA := Lib.hid (svalid_shells (m := m) HFP.out HFL.out)
  have HAS := Lib.hid (asked_shells (haveK_iff.1 HH.out).1 HFP.out HFL.out HVD.out)
  clear ha
  go_wp2_with fail
  refine (shells_c (m := m) _ HP.out.is HL.out.is).mono ?_
  rintro e w4 ⟨A6, n6, c6, rfl, hi, hb⟩
  replace HP := Lib.hid (HP.out.below hb)
  replace HL := Lib.hid (HL.out.below hb)
  replace HV := Lib.hid (HV.out.below hb)
  replace HI0 := Lib.hid (HI0.out.below hb)
  replace HB := Lib.hid (Below.andThen HB.out hb)
  unfold shI at hi
  rw [if_pos HH.out] at hi
  rw [HH.out, eI_t]
  obtain rfl : n1 = n6 := by have h1 := hi.1; rw [shells_len] at h1; have := HN1.out; omega
  have hHSnc := hi.2.1
  have hHSnm := hi.2.2.1
  have HS := Lib.hid (W3.mk hi)
  clear hi
  clear hb
  obtain ⟨bg, og, eg, vsg, vlg, svg, oneg, srcg⟩ := sv_of HL.out.is (by omega)
  cases eg
  have VLg := Lib.hid vlg
  have SVg := Lib.hid svg
  have ONEg := Lib.hid oneg
  have SRCg := Lib.hid srcg
  have HOg : Hid ((w4.alloc (.cells #[] 23)).ownsRow w4.heap.size 23 1 (.slice (some ⟨w4.heap.size, 0, none⟩) 0 0) 0 []) := World.ownsRow_lit (base := w4.heap.size) w4 #[] 0 (Nat.le_refl _) (by unfold maxLen; omega) rfl
  have BAg := Lib.hid (below_new w4 (.cells #[] 23))
  clear vlg svg oneg srcg
  obtain ⟨ig, hig, hz0g, hz1g, hz2g⟩ := info_parts infoSl9
  go_wp2_with (at_builtin; refine wpList_append_own _ rfl _ _ 22 rfl w4.heap.size 23 ig (.slice none 0 0) 1 24 Try.underlying22 hig hz0g hz1g hz2g rfl (by decide) _ _ _ rfl HOg.out ⟨bg, og, none⟩ n2 _ vsg rfl ?c0 (SRCg.out _ BAg.out) ONEg.out ?c3 ?c4 ?c5 ?_)
  case c0 => rw [VLg.out, Nat.mul_one]
  case c3 => unfold maxLen; omega
  case c4 => omega
  case c5 => simp only [size_new]; omega
  intro vag wag owng hgg _
  have bag : Below w4.heap.size w4 wag := BAg.out.grown hgg (by simp only [size_new]; omega) (fun g hg => (HOg.out.lt g hg).1)
  have OWNg := Lib.hid owng
  replace BAg := Lib.hid bag
  have BWg : Hid (w4.heap.size ≤ wag.heap.size) := bag.size
  clear owng hgg bag
  go_wp2_with (at_builtin; refine wpList_append_own _ rfl _ _ 22 rfl w4.heap.size 23 ig (.slice none 0 0) 1 24 Try.underlying22 hig hz0g hz1g hz2g rfl (by decide) _ _ _ rfl (OWNg.out.alloc _) ⟨wag.heap.size, 0, none⟩ 1 _ [.slice A3 n3 c3] rfl rfl (cells1 _ _ _) ?c2 ?c3 ?c4 ?c5 ?_)
  case c2 => simp [Value.oneCell']
  case c3 => unfold maxLen; omega
  case c4 => omega
  case c5 => have := BWg.out; simp only [size_new]; omega
  intro vbg wbg owng hgg _
  have bbg : Below w4.heap.size w4 wbg := (BAg.out.alloc BWg.out _).grown hgg (by have := BWg.out; simp only [size_new]; omega) (fun g hg => (OWNg.out.lt g hg).1)
  obtain ⟨Ag, cg, eg, ivg⟩ := isVV_own0 (C := L ++ [v]) owng (sv_push SVg.out (by rw [VLg.out, HL.out.is.1]) HV.out.is) bbg (by rw [List.length_append, HL.out.is.1]; simp)
  subst eg
  have HN := Lib.hid (W2.mk ivg)
  have hHNnc := ivg.2.1
  have hHNnm := ivg.2.2.1
  have hb := bbg
  clear owng hgg bbg ivg BAg BWg OWNg HOg SRCg ONEg SVg VLg
  replace HP := Lib.hid (HP.out.below hb)
  replace HL := Lib.hid (HL.out.below hb)
  replace HV := Lib.hid (HV.out.below hb)
  replace HI0 := Lib.hid (HI0.out.below hb)
  replace HS := Lib.hid (HS.out.below hb)
  replace HB := Lib.hid (Below.andThen HB.out hb)
  clear hb
  go_wp2_with fail
  refine (table_c (m := m) _ HP.out.is HN.out.is).mono ?_
  rintro e w5 ⟨A7, n7, c7, rfl, hi, hb⟩
  replace HP := Lib.hid (HP.out.below hb)
  replace HL := Lib.hid (HL.out.below hb)
  replace HV := Lib.hid (HV.out.below hb)
  replace HI0 := Lib.hid (HI0.out.below hb)
  replace HS := Lib.hid (HS.out.below hb)
  replace HN := Lib.hid (HN.out.below hb)
  replace HB := Lib.hid (Below.andThen HB.out hb)
  unfold tbI at hi
  rw [if_pos HH2.out, table_snoc] at hi
  rw [HH2.out, eI_t]
  obtain rfl : n7 = n2 + 1 := by have h1 := hi.1; rw [List.length_append, table_len] at h1; simp only [List.length_singleton] at h1; have := HN2.out; omega
  have hHTnc := hi.2.1
  have hHTnm := hi.2.2.1
  have HT := Lib.hid (W2.mk hi)
  clear hi
  clear hb
  go_wp2_with fail
  refine (svalid_calls _ HS.out.is).mono ?_
  rintro e w6 ⟨rfl, hb⟩
  replace HP := Lib.hid (HP.out.below hb)
  replace HL := Lib.hid (HL.out.below hb)
  replace HV := Lib.hid (HV.out.below hb)
  replace HI0 := Lib.hid (HI0.out.below hb)
  replace HS := Lib.hid (HS.out.below hb)
  replace HN := Lib.hid (HN.out.below hb)
  replace HT := Lib.hid (HT.out.below hb)
  replace HB := Lib.hid (Below.andThen HB.out hb)
  rw [HSVA.out]
  obtain ⟨b7, o7, A8, n8, c8, k8, e7, hb7, hc7, hI7, hX7⟩ := isVV_get HT.out.is (k := n2) (by omega)
  cases e7
  have hk8 : k8 = keys m P v := by
    rw [List.getElem?_append_right (by rw [table_len, HN2.out]; omega), table_len, HN2.out, Nat.sub_self] at hX7
    simpa using hX7.symm
  subst hk8
  have HKV := Lib.hid (W1.mk hI7)
  have hlt7 : (n2 : Int) < ((n2 + 1 : Nat) : Int) := by omega
  clear hX7 hI7
  clear hb
  go_wp2_with fail
  refine (low_c (m := m) _ HS.out.is HKV.out.is).mono ?_
  rintro e w7 ⟨rfl, hb⟩
  replace HP := Lib.hid (HP.out.below hb)
  replace HL := Lib.hid (HL.out.below hb)
  replace HV := Lib.hid (HV.out.below hb)
  replace HI0 := Lib.hid (HI0.out.below hb)
  replace HS := Lib.hid (HS.out.below hb)
  replace HN := Lib.hid (HN.out.below hb)
  replace HT := Lib.hid (HT.out.below hb)
  replace HKV := Lib.hid (HKV.out.below hb)
  replace HB := Lib.hid (Below.andThen HB.out hb)
  rw [HAS.out, eI_t]
  clear hc7 hb7 hlt7
  clear hb
  go_wp2_with fail
  refine (high_c (m := m) _ HS.out.is HKV.out.is).mono ?_
  rintro e w8 ⟨rfl, hb⟩
  replace HP := Lib.hid (HP.out.below hb)
  replace HL := Lib.hid (HL.out.below hb)
  replace HV := Lib.hid (HV.out.below hb)
  replace HI0 := Lib.hid (HI0.out.below hb)
  replace HS := Lib.hid (HS.out.below hb)
  replace HN := Lib.hid (HN.out.below hb)
  replace HT := Lib.hid (HT.out.below hb)
  replace HKV := Lib.hid (HKV.out.below hb)
  replace HB := Lib.hid (Below.andThen HB.out hb)
  rw [HAS.out, eI_t]
  clear hb
  have HLO : Hid (∀ x ∈ L, loI m (shells m P L) (keys m P v) ≤ vq.key m v x ∧ vq.key m v x ≤ hiI m (shells m P L) (keys m P v)) := fun x hx => by
    unfold loI hiI
    rw [if_pos HAS.out, if_pos HAS.out]
    exact low_holds HM1.out HM3.out HFP.out HFL.out HVD.out hx
  generalize loI m (shells m P L) (keys m P v) = lo at *
  generalize hiI m (shells m P L) (keys m P v) = hi at *
  have HBL : Hid (Bw w8 w8) := ⟨Below.refl _ _⟩
  go_wp2_with fail
  go_loopg [18] n2 (fun gk x wr => ∃ k : Nat, k + gk = n2 ∧ x = .int .i64 (k : Int) ∧ Below w8.heap.size w8 wr)
  case atStart => exact ⟨0, by omega, rfl, Below.refl _ _⟩
  case round =>
    obtain ⟨k, hk, rfl, hbel⟩ := hrel
    have HK := Lib.hid hk
    have hkn : k ≤ n2 := by omega
    clear hk
    replace HP := Lib.hid (HP.out.below hbel)
    replace HL := Lib.hid (HL.out.below hbel)
    replace HV := Lib.hid (HV.out.below hbel)
    replace HI0 := Lib.hid (HI0.out.below hbel)
    replace HS := Lib.hid (HS.out.below hbel)
    replace HN := Lib.hid (HN.out.below hbel)
    replace HT := Lib.hid (HT.out.below hbel)
    replace HKV := Lib.hid (HKV.out.below hbel)
    replace HB := Lib.hid (Below.andThen HB.out hbel)
    replace HBL := Lib.hid (HBL.out.below hbel)
    clear hbel
    by_cases hlt : k < n2
    ·
      obtain ⟨b2, o2, A2', n2', c2', xk, e2, hb2, hc2, hI2, hX2⟩ := isVV_get HL.out.is hlt
      cases e2
      have HXK := Lib.hid (W1.mk hI2)
      have HXM := Lib.hid (List.mem_of_getElem? hX2)
      obtain ⟨b7, o7, A8', n8', c8', k8', e7, hb7, hc7, hI7, hX7⟩ := isVV_get HT.out.is (k := k) (by omega)
      cases e7
      have hk8 : k8' = keys m P xk := by
        rw [List.getElem?_append_left (by rw [table_len, HN2.out]; exact hlt), pq.table_at hX2] at hX7
        injection hX7 with e
        exact e.symm
      subst hk8
      have HRK := Lib.hid (W1.mk hI7)
      have hlt0' : (k : Int) < (n2 : Int) := by omega
      have hlt1' : (k : Int) < ((n2 + 1 : Nat) : Int) := by omega
      clear hX2 hI2 hX7 hI7
      go_wp2_with fail
      refine (keyF _ HM1.out HM3.out HV.out.is HXK.out.is HVD.out (HFL.out.ok _ HXM.out)).mono ?_
      rintro e w9 ⟨rfl, hb⟩
      replace HP := Lib.hid (HP.out.below hb)
      replace HL := Lib.hid (HL.out.below hb)
      replace HV := Lib.hid (HV.out.below hb)
      replace HI0 := Lib.hid (HI0.out.below hb)
      replace HS := Lib.hid (HS.out.below hb)
      replace HN := Lib.hid (HN.out.below hb)
      replace HT := Lib.hid (HT.out.below hb)
      replace HKV := Lib.hid (HKV.out.below hb)
      replace HBL := Lib.hid (HBL.out.below hb)
      replace HXK := Lib.hid (HXK.out.below hb)
      replace HRK := Lib.hid (HRK.out.below hb)
      replace HB := Lib.hid (Below.andThen HB.out hb)
      replace hc7 := (hb.cell (p := ⟨b7, o7 + k, none⟩) hb7).trans hc7
      clear hc2 hb2
      clear hb
      go_wp2_with fail
      refine (in_calls _ HS.out.is HRK.out.is).mono ?_
      rintro e w10 ⟨rfl, hb⟩
      replace HP := Lib.hid (HP.out.below hb)
      replace HL := Lib.hid (HL.out.below hb)
      replace HV := Lib.hid (HV.out.below hb)
      replace HI0 := Lib.hid (HI0.out.below hb)
      replace HS := Lib.hid (HS.out.below hb)
      replace HN := Lib.hid (HN.out.below hb)
      replace HT := Lib.hid (HT.out.below hb)
      replace HKV := Lib.hid (HKV.out.below hb)
      replace HBL := Lib.hid (HBL.out.below hb)
      replace HXK := Lib.hid (HXK.out.below hb)
      replace HRK := Lib.hid (HRK.out.below hb)
      replace HB := Lib.hid (Below.andThen HB.out hb)
      rw [inn_shells HFP.out HFL.out HXM.out]
      have hy := HLO.out xk HXM.out
      generalize vq.key m v xk = y at *
      obtain ⟨hy1, hy2⟩ := hy
      clear hc7 hb7
      clear hb
      go_wp2_with fail
      go_roundg (gk - 1)
      case measure => have := HK.out; omega
      case rel => exact ⟨k + 1, by have := HK.out; omega, by go_num, HBL.out.is⟩
    ·
      obtain rfl : n2 = k := by omega
      clear hlt hkn HK
      go_wp2_with fail
      have HBM : Hid (Bw wr wr) := ⟨Below.refl _ _⟩
      go_loopg [20] n1 (fun gj x wq => ∃ j : Nat, j + gj = n1 ∧ x = .int .i64 (j : Int) ∧ Below wr.heap.size wr wq)
      case atStart => exact ⟨0, by omega, rfl, Below.refl _ _⟩
      case round =>
        rename World => wq
        obtain ⟨j, hj, rfl, hbel⟩ := hrel
        have HJ := Lib.hid hj
        have hjn : j ≤ n1 := by omega
        clear hj
        replace HP := Lib.hid (HP.out.below hbel)
        replace HL := Lib.hid (HL.out.below hbel)
        replace HV := Lib.hid (HV.out.below hbel)
        replace HI0 := Lib.hid (HI0.out.below hbel)
        replace HS := Lib.hid (HS.out.below hbel)
        replace HN := Lib.hid (HN.out.below hbel)
        replace HT := Lib.hid (HT.out.below hbel)
        replace HKV := Lib.hid (HKV.out.below hbel)
        replace HB := Lib.hid (Below.andThen HB.out hbel)
        replace HBM := Lib.hid (HBM.out.below hbel)
        clear hbel
        by_cases hjlt : j < n1
        ·
          obtain ⟨bs, os, s, es, hcs0, hcs1, hbs, hXs, -⟩ := isS_get HS.out.is hjlt
          cases es
          have HSJ := Lib.hid hXs
          obtain ⟨⟨i1, hi1, r1, hr1, hr1'⟩, i2, hi2, r2, hr2, hr2'⟩ := shell_met HFL.out.n1 hXs
          have HA1 := Lib.hid (anyL_all HN2.out hr1 hr1')
          have HA2 := Lib.hid (anyL_all HN2.out hr2 hr2')
          clear hXs hr1 hr1' hr2 hr2' hi1 hi2
          have hjlt' : (j : Int) < (n1 : Int) := by omega
          go_wp2_with fail
          have HBN : Hid (Bw wq wq) := ⟨Below.refl _ _⟩
          go_loopg [21, 22, 23] n2 (fun gi u1 u2 x wz => ∃ i : Nat, i + gi = n2 ∧ u1 = .bool (anyL m P L j s.1 i) ∧ u2 = .bool (anyL m P L j s.2 i) ∧ x = .int .i64 (i : Int) ∧ Below wq.heap.size wq wz)
          case atStart => exact ⟨0, by omega, rfl, rfl, rfl, Below.refl _ _⟩
          case round =>
            rename World => wz
            obtain ⟨i, hi3, rfl, rfl, rfl, hbel⟩ := hrel
            have HI := Lib.hid hi3
            have hin : i ≤ n2 := by omega
            clear hi3
            replace hcs0 := (hbel.cell (p := ⟨bs, os + j * 2, none⟩) hbs).trans hcs0
            replace hcs1 := (hbel.cell (p := ⟨bs, os + j * 2 + 1, none⟩) hbs).trans hcs1
            replace HP := Lib.hid (HP.out.below hbel)
            replace HL := Lib.hid (HL.out.below hbel)
            replace HV := Lib.hid (HV.out.below hbel)
            replace HI0 := Lib.hid (HI0.out.below hbel)
            replace HS := Lib.hid (HS.out.below hbel)
            replace HN := Lib.hid (HN.out.below hbel)
            replace HT := Lib.hid (HT.out.below hbel)
            replace HKV := Lib.hid (HKV.out.below hbel)
            replace HBM := Lib.hid (HBM.out.below hbel)
            replace HB := Lib.hid (Below.andThen HB.out hbel)
            replace HBN := Lib.hid (HBN.out.below hbel)
            clear hbel
            by_cases hilt : i < n2
            ·
              obtain ⟨b7, o7, A8', n8', c8', k8', e7, hb7, hc7, hI7, hX7⟩ := isVV_get HT.out.is (k := i) (by omega)
              cases e7
              rw [List.getElem?_append_left (by rw [table_len, HN2.out]; exact hilt)] at hX7
              have hn8 : n8' = n1 := by
                rw [← hI7.1]
                obtain ⟨xk, hxk⟩ := at_of_lt (l := L) (k := i) (by rw [HN2.out]; exact hilt)
                rw [pq.table_at hxk] at hX7
                injection hX7 with e
                rw [← e, keys_len, HN1.out]
              subst hn8
              obtain ⟨b8, o8, y, rfl, hcy, hxy, -, -⟩ := isI_at hI7 hjlt
              have hb8 := block_lt_of_cell hcy
              have hlti : (i : Int) < ((n2 + 1 : Nat) : Int) := by omega
              have hlti' : (i : Int) < (n2 : Int) := by omega
              have hnc8 := hI7.2.1
              have hnm8 := hI7.2.2.1
              have HQ1 := Lib.hid (anyL_succ (x := s.1) hX7 hxy)
              have HQ2 := Lib.hid (anyL_succ (x := s.2) hX7 hxy)
              clear hX7 hI7 hxy
              obtain ⟨s1, s2⟩ := s
              dsimp only at hcs0 hcs1
              generalize hg1 : anyL m P L j s1 i = g1 at *
              generalize hg2 : anyL m P L j s2 i = g2 at *
              clear hg1 hg2
              go_wp2_with fail
              cases g1
              ·
                go_quiet (fail)
                go_wp2_with fail
                cases g2
                ·
                  go_quiet (fail)
                  go_wp2_with fail
                  go_roundg (n2 - (i + 1))
                  case measure => have := HI.out; omega
                  case rel => exact ⟨i + 1, by have := HI.out; omega, by rw [HQ1.out]; simp, by rw [HQ2.out]; simp, by go_num, below_drewN HBN.out.is _⟩
                ·
                  go_quiet (fail)
                  go_wp2_with fail
                  go_roundg (n2 - (i + 1))
                  case measure => have := HI.out; omega
                  case rel => exact ⟨i + 1, by have := HI.out; omega, by rw [HQ1.out]; simp, by rw [HQ2.out]; simp, by go_num, below_drewN HBN.out.is _⟩
              ·
                go_quiet (fail)
                go_wp2_with fail
                cases g2
                ·
                  go_quiet (fail)
                  go_wp2_with fail
                  go_roundg (n2 - (i + 1))
                  case measure => have := HI.out; omega
                  case rel => exact ⟨i + 1, by have := HI.out; omega, by rw [HQ1.out]; simp, by rw [HQ2.out]; simp, by go_num, below_drewN HBN.out.is _⟩
                ·
                  go_quiet (fail)
                  go_wp2_with fail
                  go_roundg (n2 - (i + 1))
                  case measure => have := HI.out; omega
                  case rel => exact ⟨i + 1, by have := HI.out; omega, by rw [HQ1.out]; simp, by rw [HQ2.out]; simp, by go_num, below_drewN HBN.out.is _⟩
            ·
              obtain rfl : n2 = i := by omega
              rw [HA1.out, HA2.out]
              clear hilt hin HI
              go_wp2_with fail
              go_roundg (n1 - (j + 1))
              case measure => have := HJ.out; omega
              case rel => exact ⟨j + 1, by have := HJ.out; omega, by go_num, HBM.out.is⟩
        ·
          obtain rfl : n1 = j := by omega
          clear hjlt hjn HJ
          go_wp2_with fail
          refine (san9_calls _).mono ?_
          rintro e w' ⟨rfl, hb⟩
          have HBZ := Lib.hid (Below.andThen HB.out hb)
          clear hb
          go_wp2_with fail
          go_ret
          exact ⟨rfl, HBZ.out⟩
end Go.Proofs.Yteeianandjokaaa.pivotBoundsHold
