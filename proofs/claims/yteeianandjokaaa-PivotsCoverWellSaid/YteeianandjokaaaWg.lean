/- PivotsCoverWell: its walk. -/
import Derived.Test.YteeianandjokaaaWs

namespace Go.Proofs.Yteeianandjokaaa.pivotsCoverWell

open Go.ChangeShapes Go.WideShapes Go.ChangeAt Go.RowKit

open Go.Proofs.Yteeianandjokaaa.pq Go.Proofs.Yteeianandjokaaa.cq Go.Proofs.Yteeianandjokaaa.vk Go.Proofs.Yteeianandjokaaa.bk Go.Proofs.Yteeianandjokaaa.wk Go.Proofs.Yteeianandjokaaa.uk Go.Proofs.Yteeianandjokaaa.pk

set_option linter.unusedVariables false
set_option maxRecDepth 100000 in
set_option maxHeartbeats 8000000 in
theorem walk (w : World) {m z : Int} {A1 A3 : Option Addr} {n1 c1 n3 c3 : Nat} {L : VV} {bs : List UInt8} (w0 : (Lit.int .i64 m).wf = true) (w1 : IsVV w A1 n1 c1 L) (w2 : (Lit.int .u8 z).wf = true) (w3 : wo.IsB w A3 n3 c3 bs) :
    Calls Try.prog 6 #[.int .i64 m, .slice A1 n1 c1, .int .u8 z, .slice A3 n3 c3] w fun e w' => e = .returned (.bool true) ∧ Below w.heap.size w w' := by
  have hnc1 := w1.2.1
  have hnm1 := w1.2.2.1
  have hnc3 := w3.2.1
  have hnm3 := w3.2.2.1
  have HN1 := Lib.hid w1.1
  have HL := Lib.hid (W2.mk w1)
  have HV := Lib.hid (W4.mk w3)
  have HB := Lib.hid (Below.refl w.heap.size w)
  have hz : 0 ≤ z ∧ z ≤ 255 := by simpa [Lit.wf, IntKind.min, IntKind.max, IntKind.signed, IntKind.bits] using w2
  obtain ⟨r, hr⟩ : ∃ r : Nat, z % 8 = (r : Int) := ⟨(z % 8).toNat, by omega⟩
  have htm : Int.tmod z 8 = (r : Int) := by rw [Int.tmod_eq_emod_of_nonneg hz.1]; exact hr
  obtain ⟨n, hn⟩ : ∃ n : Nat, n = 1 + r := ⟨_, rfl⟩
  have hn8 : 1 ≤ n ∧ n ≤ 8 := by omega
  have hadd : (1 : Int) + (r : Int) = (n : Int) := by omega
  clear w1 w2 w3 hr hn
  go_enter Try.func6, Try.ntmps6
  go_wp2_with fail
  refine (rfew_calls (q := 30) _ HL.out.is).mono ?_
  rintro e w' ⟨rfl, rfl⟩
  cases hf : few 30 L
  ·
    clear hf
    go_wp2_with fail
    refine (san9_calls _).mono ?_
    rintro e w' ⟨rfl, hb⟩
    have HBZ := Lib.hid (Below.andThen HB.out hb)
    clear hb
    go_wp2_with fail
    go_ret
    exact ⟨rfl, HBZ.out⟩
  have hn30 : n1 ≤ 30 := by have := few_len (q := 30) hf; have := HN1.out; omega
  clear hf
  go_wp2_with fail
  refine (rmetric_calls m _).mono ?_
  rintro e w' ⟨rfl, rfl⟩
  cases hm : isM m
  ·
    clear hm
    go_wp2_with fail
    refine (san9_calls _).mono ?_
    rintro e w' ⟨rfl, hb⟩
    have HBZ := Lib.hid (Below.andThen HB.out hb)
    clear hb
    go_wp2_with fail
    go_ret
    exact ⟨rfl, HBZ.out⟩
  have HM := Lib.hid hm
  have HM13 : Hid (1 ≤ m ∧ m ≤ 3) := by have h := hm; simp only [isM, decide_eq_true_eq] at h; exact h
  clear hm
  go_wp2_with fail
  refine (rfit_calls _ HL.out.is).mono ?_
  rintro e w3 ⟨rfl, hb⟩
  replace HL := Lib.hid (HL.out.below hb)
  replace HV := Lib.hid (HV.out.below hb)
  replace HB := Lib.hid (Below.andThen HB.out hb)
  clear hb
  cases hf : fit 4096 L
  ·
    clear hf
    go_wp2_with fail
    refine (san9_calls _).mono ?_
    rintro e w' ⟨rfl, hb⟩
    have HBZ := Lib.hid (Below.andThen HB.out hb)
    clear hb
    go_wp2_with fail
    go_ret
    exact ⟨rfl, HBZ.out⟩
  have HF := Lib.hid (fit_of hf)
  have hl1 : 1 ≤ n1 := by have := (fit_of hf).n1; have := HN1.out; omega
  have HCK : Hid (cok' m L (n : Int) = true) := by
    show _ = _
    unfold cok'
    rw [HM.out, hf, decide_eq_true (show (1 : Int) ≤ (n : Int) ∧ (n : Int) ≤ 8 by omega)]
    rfl
  clear hf
  go_wp2_with fail
  refine (choose_c (m := m) (most := (n : Int)) _ HL.out.is).mono ?_
  rintro e w4 ⟨A4, n4, c4, rfl, hi, hb⟩
  replace HL := Lib.hid (HL.out.below hb)
  replace HV := Lib.hid (HV.out.below hb)
  replace HB := Lib.hid (Below.andThen HB.out hb)
  unfold chI at hi
  rw [if_pos HCK.out] at hi
  rw [HCK.out, eI_t]
  have HCH := Lib.hid (chosen_of (m := m) (L := L) (n := n) HF.out.n1 hn8.1)
  generalize pq.choose m L (n : Int) = pl at *
  have HPN : Hid (pl.length = n4) := by show _ = _; have := hi.1; unfold pz at this; rw [List.length_map] at this; exact this
  have hn4 : 1 ≤ n4 ∧ n4 ≤ n := by have h1 := HCH.out.n1; have h2 := HCH.out.nn; have := HPN.out; omega
  obtain ⟨b4, o4, x4, rfl, hc4, hx4, -, -⟩ := isI_at hi (k := 0) (by omega)
  rw [Nat.add_zero] at hc4
  have hx40 : x4 = 0 := by
    unfold pz at hx4
    rw [List.getElem?_map, HCH.out.z] at hx4
    injection hx4 with e
    exact e.symm
  subst hx40
  have hlt4 : (0 : Int) < (n4 : Int) := by omega
  have hle4 : ¬ (n : Int) < (n4 : Int) := by omega
  have hle5 : ¬ (n4 : Int) < 1 := by omega
  have hd1 : decide ((n4 : Int) < 1) = false := decide_eq_false hle5
  have hd2 : decide (n < n4) = false := decide_eq_false (by omega)
  have hd3 : decide ((n : Int) < (n4 : Int)) = false := decide_eq_false hle4
  obtain ⟨hn41, hn42⟩ := hn4
  have hHAnc := hi.2.1
  have hHAnm := hi.2.2.1
  have HA := Lib.hid (W1.mk hi)
  clear hi
  clear hb
  go_wp2_with fail
  clear hc4
  obtain ⟨i0, hi0, hz0, hz1, hz2⟩ := info_parts infoSl9
  go_loopg [12, 13] n4 (fun gk u x wr => ∃ (k : Nat) (v7 : Value) (vals : List Value), k + gk = n4 ∧ v7 = u ∧ x = .int .i64 (k : Int) ∧ wr.ownsRow w4.heap.size 23 1 v7 k vals ∧ SV w4 (cho L (pl.take k)) vals ∧ Below w4.heap.size w4 wr)
  case atStart => exact ⟨0, _, [], by omega, rfl, rfl, World.ownsRow_nil _ _ _ _, fun j p hj => by simp [cho] at hj, Below.refl _ _⟩
  case round =>
    obtain ⟨k, v7, vals, hk, hv7, rfl, hown, hsv, hbel⟩ := hrel
    subst hv7
    have HK := Lib.hid hk
    have HOWN := Lib.hid hown
    have HSV := Lib.hid hsv
    have HBEL := Lib.hid hbel
    have HBW : Hid (w4.heap.size ≤ wr.heap.size) := hbel.size
    have hkn : k ≤ n4 := by omega
    clear hk hown hsv
    by_cases hlt : k < n4
    ·
      obtain ⟨pk, hpk⟩ := at_of_lt (l := pl) (k := k) (by rw [HPN.out]; exact hlt)
      have hpn : pk < n1 := by rw [← HN1.out]; exact HCH.out.lt pk (List.mem_of_getElem? hpk)
      obtain ⟨b5, o5, x5, e5, hc5, hx5, -, -⟩ := isI_at (HA.out.below hbel).is hlt
      cases e5
      have hx50 : x5 = (pk : Int) := by
        unfold pz at hx5
        rw [List.getElem?_map, hpk] at hx5
        injection hx5 with e
        exact e.symm
      subst hx50
      have hb5 := block_lt_of_cell hc5
      obtain ⟨b2, o2, A9, n9, c9, l9, e2, hb2, hc2, hI2, hX2⟩ := isVV_get HL.out.is hpn
      cases e2
      replace hc2 := (hbel.cell (p := ⟨b2, o2 + pk, none⟩) hb2).trans hc2
      have HI2 := Lib.hid hI2
      have hlt0 : (k : Int) < (n4 : Int) := by omega
      have hlt1 : (pk : Int) < (n1 : Int) := by omega
      have HTK : Hid (cho L (pl.take (k + 1)) = cho L (pl.take k) ++ [l9]) := by
        show _ = _
        rw [List.take_add_one, hpk, Option.toList_some, cho_snoc _ hX2]
      have HKL : Hid ((cho L (pl.take k)).length = k) := by show _ = _; rw [cho_len, List.length_take, HPN.out]; omega
      clear hI2 hX2 hpk hbel hx5
      go_wp2_with (at_builtin; refine wpList_append_own _ rfl _ _ 22 rfl w4.heap.size 23 i0 (.slice none 0 0) 1 24 Try.underlying22 hi0 hz0 hz1 hz2 rfl (by decide) _ _ _ rfl (HOWN.out.alloc _) ⟨wr.heap.size, 0, none⟩ 1 _ [.slice A9 n9 c9] rfl rfl (cells1 _ _ _) ?c2 ?c3 ?c4 ?c5 ?_)
      case c2 => simp [Value.oneCell']
      case c3 => unfold maxLen; omega
      case c4 => omega
      case c5 => have := HBW.out; first | omega | (simp only [size_new]; omega)
      intro v9 w9 own9 hg9 _
      have b9 : Below w4.heap.size w4 w9 := (HBEL.out.alloc HBW.out _).grown hg9 (by have := HBW.out; first | omega | (simp only [size_new]; omega)) (fun g hg => (HOWN.out.lt g hg).1)
      have HO9 := Lib.hid own9
      have HB9 := Lib.hid b9
      have HSV9 := Lib.hid (sv_push HSV.out (by have := HOWN.out.1; have := HKL.out; omega) HI2.out)
      clear own9 hg9 b9
      go_wp2_with fail
      go_roundg (gk - 1)
      case measure => have := HK.out; omega
      case rel => exact ⟨k + 1, _, _, by have := HK.out; omega, rfl, by go_num, HO9.out, by rw [HTK.out]; exact HSV9.out, HB9.out⟩
    ·
      obtain rfl : n4 = k := by omega
      obtain ⟨AP, cP, e9, hi⟩ := isVV_own0 HOWN.out HSV.out hbel (by rw [cho_len, List.length_take, HPN.out]; omega)
      subst e9
      rw [List.take_of_length_le (by rw [HPN.out]; exact Nat.le_refl _)] at hi
      have hHPnc := hi.2.1
      have hHPnm := hi.2.2.1
      have HP := Lib.hid (W2.mk hi)
      clear hi
      replace HL := Lib.hid (HL.out.below hbel)
      replace HV := Lib.hid (HV.out.below hbel)
      replace HA := Lib.hid (HA.out.below hbel)
      replace HB := Lib.hid (Below.andThen HB.out hbel)
      clear hbel HOWN HSV hlt hkn HK HBW
      have HFP := Lib.hid (cho_fit HF.out (pl := pl) HCH.out.lt HCH.out.n1 (by have := HPN.out; omega))
      have HHP := Lib.hid (haveK_of HM13.out.1 HM13.out.2 HFP.out HF.out)
      go_wp2_with fail
      refine (cover_c (m := m) _ HP.out.is HL.out.is).mono ?_
      rintro e w5 ⟨rfl, hb⟩
      replace HL := Lib.hid (HL.out.below hb)
      replace HV := Lib.hid (HV.out.below hb)
      replace HA := Lib.hid (HA.out.below hb)
      replace HP := Lib.hid (HP.out.below hb)
      replace HB := Lib.hid (Below.andThen HB.out hb)
      rw [HHP.out, eI_t]
      have hcv : cvI m (cho L pl) L = (far m L pl).2 := by unfold cvI; rw [if_pos HHP.out]; exact far_cover m L pl
      rw [hcv]
      have HWELL : Hid (∀ S : VV, Fit 8 (L.headD []).length S → S.length = n → (far m L pl).2 ≤ me.high m (cvI m S L) (cvI m S L)) := fun S hS hl => by
        rw [← far_cover]
        unfold cvI
        rw [if_pos (haveK_of HM13.out.1 HM13.out.2 hS HF.out)]
        exact covers_well HM13.out.1 HM13.out.2 HF.out HCH.out hS hl
      have HSEP : Hid (∀ i j a b : Nat, j < i → pl[i]? = some a → pl[j]? = some b → 0 < vq.key m (L.getD a []) (L.getD b []) ∧ (far m L pl).2 ≤ vq.key m (L.getD a []) (L.getD b [])) := HCH.out.sep
      have HFUL : Hid (n4 < n → (far m L pl).2 = 0) := fun h => HCH.out.full (by rw [HPN.out]; exact h)
      clear hcv
      generalize (far m L pl).2 = cc at *
      clear hb
      by_cases hfull : n4 < n
      ·
        have hfull' : (n4 : Int) < (n : Int) := by omega
        obtain rfl : cc = 0 := HFUL.out hfull
        go_wp2_with fail
        go_loopg [16] n4 (fun gk x wr => ∃ i : Nat, i + gk = n4 ∧ x = .int .i64 (i : Int) ∧ Below w5.heap.size w5 wr)
        case atStart => exact ⟨0, by omega, rfl, Below.refl _ _⟩
        case round =>
          rename World => wq
          obtain ⟨i, hi3, rfl, hbel⟩ := hrel
          have HI := Lib.hid hi3
          have hin : i ≤ n4 := by omega
          clear hi3
          have HBM : Hid (Bw w5 wq) := ⟨hbel⟩
          replace HL := Lib.hid (HL.out.below hbel)
          replace HV := Lib.hid (HV.out.below hbel)
          replace HA := Lib.hid (HA.out.below hbel)
          replace HP := Lib.hid (HP.out.below hbel)
          replace HB := Lib.hid (Below.andThen HB.out hbel)
          clear hbel
          by_cases hilt : i < n4
          ·
            have hilt' : (i : Int) < (n4 : Int) := by omega
            go_wp2_with fail
            go_loopg [17] i (fun gk x wr => ∃ j : Nat, j + gk = i ∧ x = .int .i64 (j : Int) ∧ Below wq.heap.size wq wr)
            case atStart => exact ⟨0, by omega, rfl, Below.refl _ _⟩
            case round =>
              rename World => wz
              obtain ⟨j, hj3, rfl, hbel⟩ := hrel
              have HJ := Lib.hid hj3
              have hjn : j ≤ i := by omega
              clear hj3
              have HBN : Hid (Bw wq wz) := ⟨hbel⟩
              replace HL := Lib.hid (HL.out.below hbel)
              replace HV := Lib.hid (HV.out.below hbel)
              replace HA := Lib.hid (HA.out.below hbel)
              replace HP := Lib.hid (HP.out.below hbel)
              replace HBM := Lib.hid (HBM.out.below hbel)
              replace HB := Lib.hid (Below.andThen HB.out hbel)
              clear hbel
              by_cases hjlt : j < i
              ·
                obtain ⟨bp, op, Ai, ni, ci, li, ep, hbp, hci, hIi, hXi⟩ := isVV_get HP.out.is hilt
                cases ep
                obtain ⟨bp', op', Aj, nj, cj, lj, ep, hbp', hcj, hIj, hXj⟩ := isVV_get HP.out.is (show j < n4 by omega)
                cases ep
                obtain ⟨a, ha⟩ := at_of_lt (l := pl) (k := i) (by rw [HPN.out]; exact hilt)
                obtain ⟨b, hb⟩ := at_of_lt (l := pl) (k := j) (by rw [HPN.out]; omega)
                have hy := HSEP.out i j a b hjlt ha hb
                have e1 : li = L.getD a [] := by
                  unfold cho at hXi
                  rw [List.getElem?_map, ha] at hXi
                  injection hXi with e
                  exact e.symm
                have e2 : lj = L.getD b [] := by
                  unfold cho at hXj
                  rw [List.getElem?_map, hb] at hXj
                  injection hXj with e
                  exact e.symm
                rw [← e1, ← e2] at hy
                have vi := HFP.out.at hXi
                have vj := HFP.out.at hXj
                have HKF := Lib.hid (fun w' (hb : Below wz.heap.size wz w') => keyF w' HM13.out.1 HM13.out.2 (isI_below hIi hb) (isI_below hIj hb) vi vj)
                clear e1 e2 ha hb vi vj hXi hXj hIi hIj
                generalize vq.key m li lj = y at *
                obtain ⟨hy0, hyc⟩ := hy
                have hyne : (y == (0 : Int)) = false := by simp only [beq_eq_false_iff_ne, ne_eq]; omega
                have hync : decide (y < 0) = false := by simp only [decide_eq_false_iff_not]; omega
                have hjlt' : (j : Int) < (n4 : Int) := by omega
                have hji : (j : Int) < (i : Int) := by omega
                go_wp2_with fail
                refine wk.region_tailS 11 [.is (.int .i64 m), .is (.slice (some ⟨bp, op, none⟩) n4 cP), .is (.int .i64 (i : Int)), .is (.pointer (some ⟨bp, op + i, none⟩)), .is (.slice Ai ni ci), .is (.slice (some ⟨bp, op, none⟩) n4 cP), .is (.int .i64 (j : Int)), .is (.pointer (some ⟨bp, op + j, none⟩)), .is (.slice Aj nj cj), .is (.int .i64 y), .is (.int .i64 y)] [some 125, some 126, some 127, some 128, some 129, some 130, some 131, some 132, some 133, some 134, some 18] (by kernel_rfl) (by kernel_rfl) (by kernel_rfl) (by kernel_rfl) [] (by kernel_rfl) (by intro p hp; cases hp) (by kernel_rfl) (by kernel_rfl) ?hstep ?hdone
                case hstep =>
                  intro i o ho hi hns E w4 hb4 D
                  have hi2 : i = 0 ∨ i = 1 ∨ i = 2 ∨ i = 3 ∨ i = 4 ∨ i = 5 ∨ i = 6 ∨ i = 7 ∨ i = 8 ∨ i = 9 ∨ i = 10 := by omega
                  clear hi
                  rcases hi2 with rfl | rfl | rfl | rfl | rfl | rfl | rfl | rfl | rfl | rfl | rfl
                  ·
                    have ho2 := (Array.getElem?_eq_some_iff.1 ho).2
                    simp only [List.getElem_toArray, List.getElem_cons_zero] at ho2
                    subst ho2
                    clear ho
                    have e0 := D.old 0 (by kernel_rfl)
                    exact wk.does_move rfl (by rw [e0]; rfl)
                  ·
                    have ho2 := (Array.getElem?_eq_some_iff.1 ho).2
                    simp only [List.getElem_toArray, List.getElem_cons_succ, List.getElem_cons_zero] at ho2
                    subst ho2
                    clear ho
                    have e12 := D.old 12 (by kernel_rfl)
                    exact wk.does_move rfl (by rw [e12]; rfl)
                  ·
                    have ho2 := (Array.getElem?_eq_some_iff.1 ho).2
                    simp only [List.getElem_toArray, List.getElem_cons_succ, List.getElem_cons_zero] at ho2
                    subst ho2
                    clear ho
                    have e16 := D.old 16 (by kernel_rfl)
                    exact wk.does_move rfl (by rw [e16]; rfl)
                  ·
                    have ho2 := (Array.getElem?_eq_some_iff.1 ho).2
                    simp only [List.getElem_toArray, List.getElem_cons_succ, List.getElem_cons_zero] at ho2
                    subst ho2
                    clear ho
                    have e126 := D.is { on := 1, ground := .data } (by simp) rfl rfl 126 rfl
                    have e127 := D.is { on := 2, ground := .data } (by simp) rfl rfl 127 rfl
                    exact wk.does_run (by simp only [execOp]; rw [show E (.tmp 126) = _ from e126, show E (.tmp 127) = _ from e127]; go_simp) rfl
                  ·
                    have ho2 := (Array.getElem?_eq_some_iff.1 ho).2
                    simp only [List.getElem_toArray, List.getElem_cons_succ, List.getElem_cons_zero] at ho2
                    subst ho2
                    clear ho
                    have e128 := D.is { on := 3, ground := .data } (by simp) rfl rfl 128 rfl
                    exact wk.does_load1 rfl e128 ((((Below.refl _ _).drew.trans hb4).cell (p := ⟨bp, op + i, none⟩) hbp).trans hci) Try.underlying23 rfl rfl
                  ·
                    have ho2 := (Array.getElem?_eq_some_iff.1 ho).2
                    simp only [List.getElem_toArray, List.getElem_cons_succ, List.getElem_cons_zero] at ho2
                    subst ho2
                    clear ho
                    have e12 := D.old 12 (by kernel_rfl)
                    exact wk.does_move rfl (by rw [e12]; rfl)
                  ·
                    have ho2 := (Array.getElem?_eq_some_iff.1 ho).2
                    simp only [List.getElem_toArray, List.getElem_cons_succ, List.getElem_cons_zero] at ho2
                    subst ho2
                    clear ho
                    have e17 := D.old 17 (by kernel_rfl)
                    exact wk.does_move rfl (by rw [e17]; rfl)
                  ·
                    have ho2 := (Array.getElem?_eq_some_iff.1 ho).2
                    simp only [List.getElem_toArray, List.getElem_cons_succ, List.getElem_cons_zero] at ho2
                    subst ho2
                    clear ho
                    have e130 := D.is { on := 5, ground := .data } (by simp) rfl rfl 130 rfl
                    have e131 := D.is { on := 6, ground := .data } (by simp) rfl rfl 131 rfl
                    exact wk.does_run (by simp only [execOp]; rw [show E (.tmp 130) = _ from e130, show E (.tmp 131) = _ from e131]; go_simp) rfl
                  ·
                    have ho2 := (Array.getElem?_eq_some_iff.1 ho).2
                    simp only [List.getElem_toArray, List.getElem_cons_succ, List.getElem_cons_zero] at ho2
                    subst ho2
                    clear ho
                    have e132 := D.is { on := 7, ground := .data } (by simp) rfl rfl 132 rfl
                    exact wk.does_load1 rfl e132 ((((Below.refl _ _).drew.trans hb4).cell (p := ⟨bp, op + j, none⟩) hbp).trans hcj) Try.underlying23 rfl rfl
                  ·
                    have ho2 := (Array.getElem?_eq_some_iff.1 ho).2
                    simp only [List.getElem_toArray, List.getElem_cons_succ, List.getElem_cons_zero] at ho2
                    subst ho2
                    clear ho
                    have e125 := D.is { on := 0, ground := .data } (by simp) rfl rfl 125 rfl
                    have e129 := D.is { on := 4, ground := .data } (by simp) rfl rfl 129 rfl
                    have e133 := D.is { on := 8, ground := .data } (by simp) rfl rfl 133 rfl
                    refine wk.does_fn (f := 36) (vs := #[.int .i64 m, .slice Ai ni ci, .slice Aj nj cj]) rfl (D.fn _) (by simp [e125, e129, e133]) (by go_simp) ?_
                    refine (HKF.out w4 ((Below.refl _ _).drew.trans hb4)).mono ?_
                    rintro e w7 ⟨rfl, hb7⟩
                    exact ⟨_, rfl, hb7, rfl⟩
                  ·
                    have ho2 := (Array.getElem?_eq_some_iff.1 ho).2
                    simp only [List.getElem_toArray, List.getElem_cons_succ, List.getElem_cons_zero] at ho2
                    subst ho2
                    clear ho
                    have e134 := D.is { on := 9, ground := .data } (by simp) rfl rfl 134 rfl
                    exact wk.does_assign rfl e134
                case hdone =>
                  intro vals w4 hb4 hv
                  have h10 := hv 10 (by omega)
                  clear hv
                  replace h10 : vals 10 = (.int .i64 y) := h10
                  simp only [List.drop_succ_cons, List.drop_zero, wpList, wk.setL, List.setIfInBounds_toArray, List.set_cons_zero, List.set_cons_succ, Nat.zero_add, Nat.reduceAdd, h10]
                  generalize vals 0 = x0
                  generalize vals 1 = x1
                  generalize vals 2 = x2
                  generalize vals 3 = x3
                  generalize vals 4 = x4
                  generalize vals 5 = x5
                  generalize vals 6 = x6
                  generalize vals 7 = x7
                  generalize vals 8 = x8
                  generalize vals 9 = x9
                  have hb5 : Below wz.heap.size wz w4 := (Below.refl _ _).drew.trans hb4
                  have HBF := Lib.hid (HBN.out.below hb5)
                  clear hb4 hb5
                  go_wp2_with fail
                  go_roundg (i - (j + 1))
                  case measure => have := HJ.out; omega
                  case rel => exact ⟨j + 1, by have := HJ.out; omega, by go_num, HBF.out.is⟩
              ·
                obtain rfl : i = j := by omega
                go_wp2_with fail
                go_roundg (n4 - (i + 1))
                case measure => have := HI.out; omega
                case rel => exact ⟨i + 1, by have := HI.out; omega, by go_num, HBM.out.is⟩
          ·
            obtain rfl : n4 = i := by omega
            clear hilt hin HI HBM
            go_wp2_with fail
            refine (some_calls (n := n) _ HL.out.is HV.out.is hl1 hn8.2).mono ?_
            rintro e w6 ⟨A8, c8, S, rfl, hi, hin, hb⟩
            replace HL := Lib.hid (HL.out.below hb)
            replace HV := Lib.hid (HV.out.below hb)
            replace HA := Lib.hid (HA.out.below hb)
            replace HP := Lib.hid (HP.out.below hb)
            replace HB := Lib.hid (Below.andThen HB.out hb)
            have HSL := Lib.hid hi.1
            have HFS : Hid (Fit 8 (L.headD []).length S) := ⟨by rw [HSL.out]; exact hn8.1, by rw [HSL.out]; exact hn8.2, HF.out.d1, HF.out.d2, fun v hv => HF.out.ok v (hin v hv)⟩
            have HHS := Lib.hid (haveK_of HM13.out.1 HM13.out.2 HFS.out HF.out)
            clear hin
            have hHSnc := hi.2.1
            have hHSnm := hi.2.2.1
            have HS := Lib.hid (W2.mk hi)
            clear hi
            clear hb
            go_wp2_with fail
            refine (cover_c (m := m) _ HS.out.is HL.out.is).mono ?_
            rintro e w7 ⟨rfl, hb⟩
            replace HL := Lib.hid (HL.out.below hb)
            replace HV := Lib.hid (HV.out.below hb)
            replace HA := Lib.hid (HA.out.below hb)
            replace HP := Lib.hid (HP.out.below hb)
            replace HS := Lib.hid (HS.out.below hb)
            replace HB := Lib.hid (Below.andThen HB.out hb)
            rw [HHS.out, eI_t]
            have hwell := HWELL.out S HFS.out HSL.out
            have hob : 0 ≤ cvI m S L ∧ cvI m S L ≤ 134217728 := by unfold cvI; rw [if_pos HHS.out]; exact cover_bd HFS.out HF.out
            generalize cvI m S L = o at *
            clear hb
            go_wp2_with fail
            refine (san9_calls _).mono ?_
            rintro e w8 ⟨rfl, hb⟩
            replace HL := Lib.hid (HL.out.below hb)
            replace HV := Lib.hid (HV.out.below hb)
            replace HA := Lib.hid (HA.out.below hb)
            replace HP := Lib.hid (HP.out.below hb)
            replace HS := Lib.hid (HS.out.below hb)
            replace HB := Lib.hid (Below.andThen HB.out hb)
            clear hb
            go_wp2_with fail
            refine (me.high_calls m o o _ HM13.out.1 HM13.out.2 hob.1 hob.1 hob.2 hob.2).mono ?_
            rintro e w9 ⟨rfl, hb⟩
            replace HL := Lib.hid (HL.out.below hb)
            replace HV := Lib.hid (HV.out.below hb)
            replace HA := Lib.hid (HA.out.below hb)
            replace HP := Lib.hid (HP.out.below hb)
            replace HS := Lib.hid (HS.out.below hb)
            replace HB := Lib.hid (Below.andThen HB.out hb)
            generalize me.high m o o = hh at *
            clear hb
            go_wp2_with fail
            go_ret
            exact ⟨rfl, HB.out⟩
      ·
        have hfull' : ¬ (n4 : Int) < (n : Int) := by omega
        go_wp2_with fail
        go_loopg [16] n4 (fun gk x wr => ∃ i : Nat, i + gk = n4 ∧ x = .int .i64 (i : Int) ∧ Below w5.heap.size w5 wr)
        case atStart => exact ⟨0, by omega, rfl, Below.refl _ _⟩
        case round =>
          rename World => wq
          obtain ⟨i, hi3, rfl, hbel⟩ := hrel
          have HI := Lib.hid hi3
          have hin : i ≤ n4 := by omega
          clear hi3
          have HBM : Hid (Bw w5 wq) := ⟨hbel⟩
          replace HL := Lib.hid (HL.out.below hbel)
          replace HV := Lib.hid (HV.out.below hbel)
          replace HA := Lib.hid (HA.out.below hbel)
          replace HP := Lib.hid (HP.out.below hbel)
          replace HB := Lib.hid (Below.andThen HB.out hbel)
          clear hbel
          by_cases hilt : i < n4
          ·
            have hilt' : (i : Int) < (n4 : Int) := by omega
            go_wp2_with fail
            go_loopg [17] i (fun gk x wr => ∃ j : Nat, j + gk = i ∧ x = .int .i64 (j : Int) ∧ Below wq.heap.size wq wr)
            case atStart => exact ⟨0, by omega, rfl, Below.refl _ _⟩
            case round =>
              rename World => wz
              obtain ⟨j, hj3, rfl, hbel⟩ := hrel
              have HJ := Lib.hid hj3
              have hjn : j ≤ i := by omega
              clear hj3
              have HBN : Hid (Bw wq wz) := ⟨hbel⟩
              replace HL := Lib.hid (HL.out.below hbel)
              replace HV := Lib.hid (HV.out.below hbel)
              replace HA := Lib.hid (HA.out.below hbel)
              replace HP := Lib.hid (HP.out.below hbel)
              replace HBM := Lib.hid (HBM.out.below hbel)
              replace HB := Lib.hid (Below.andThen HB.out hbel)
              clear hbel
              by_cases hjlt : j < i
              ·
                obtain ⟨bp, op, Ai, ni, ci, li, ep, hbp, hci, hIi, hXi⟩ := isVV_get HP.out.is hilt
                cases ep
                obtain ⟨bp', op', Aj, nj, cj, lj, ep, hbp', hcj, hIj, hXj⟩ := isVV_get HP.out.is (show j < n4 by omega)
                cases ep
                obtain ⟨a, ha⟩ := at_of_lt (l := pl) (k := i) (by rw [HPN.out]; exact hilt)
                obtain ⟨b, hb⟩ := at_of_lt (l := pl) (k := j) (by rw [HPN.out]; omega)
                have hy := HSEP.out i j a b hjlt ha hb
                have e1 : li = L.getD a [] := by
                  unfold cho at hXi
                  rw [List.getElem?_map, ha] at hXi
                  injection hXi with e
                  exact e.symm
                have e2 : lj = L.getD b [] := by
                  unfold cho at hXj
                  rw [List.getElem?_map, hb] at hXj
                  injection hXj with e
                  exact e.symm
                rw [← e1, ← e2] at hy
                have vi := HFP.out.at hXi
                have vj := HFP.out.at hXj
                have HKF := Lib.hid (fun w' (hb : Below wz.heap.size wz w') => keyF w' HM13.out.1 HM13.out.2 (isI_below hIi hb) (isI_below hIj hb) vi vj)
                clear e1 e2 ha hb vi vj hXi hXj hIi hIj
                generalize vq.key m li lj = y at *
                obtain ⟨hy0, hyc⟩ := hy
                have hyne : (y == (0 : Int)) = false := by simp only [beq_eq_false_iff_ne, ne_eq]; omega
                have hync : decide (y < cc) = false := by simp only [decide_eq_false_iff_not]; omega
                have hjlt' : (j : Int) < (n4 : Int) := by omega
                have hji : (j : Int) < (i : Int) := by omega
                go_wp2_with fail
                refine wk.region_tailS 11 [.is (.int .i64 m), .is (.slice (some ⟨bp, op, none⟩) n4 cP), .is (.int .i64 (i : Int)), .is (.pointer (some ⟨bp, op + i, none⟩)), .is (.slice Ai ni ci), .is (.slice (some ⟨bp, op, none⟩) n4 cP), .is (.int .i64 (j : Int)), .is (.pointer (some ⟨bp, op + j, none⟩)), .is (.slice Aj nj cj), .is (.int .i64 y), .is (.int .i64 y)] [some 125, some 126, some 127, some 128, some 129, some 130, some 131, some 132, some 133, some 134, some 18] (by kernel_rfl) (by kernel_rfl) (by kernel_rfl) (by kernel_rfl) [] (by kernel_rfl) (by intro p hp; cases hp) (by kernel_rfl) (by kernel_rfl) ?hstep ?hdone
                case hstep =>
                  intro i o ho hi hns E w4 hb4 D
                  have hi2 : i = 0 ∨ i = 1 ∨ i = 2 ∨ i = 3 ∨ i = 4 ∨ i = 5 ∨ i = 6 ∨ i = 7 ∨ i = 8 ∨ i = 9 ∨ i = 10 := by omega
                  clear hi
                  rcases hi2 with rfl | rfl | rfl | rfl | rfl | rfl | rfl | rfl | rfl | rfl | rfl
                  ·
                    have ho2 := (Array.getElem?_eq_some_iff.1 ho).2
                    simp only [List.getElem_toArray, List.getElem_cons_zero] at ho2
                    subst ho2
                    clear ho
                    have e0 := D.old 0 (by kernel_rfl)
                    exact wk.does_move rfl (by rw [e0]; rfl)
                  ·
                    have ho2 := (Array.getElem?_eq_some_iff.1 ho).2
                    simp only [List.getElem_toArray, List.getElem_cons_succ, List.getElem_cons_zero] at ho2
                    subst ho2
                    clear ho
                    have e12 := D.old 12 (by kernel_rfl)
                    exact wk.does_move rfl (by rw [e12]; rfl)
                  ·
                    have ho2 := (Array.getElem?_eq_some_iff.1 ho).2
                    simp only [List.getElem_toArray, List.getElem_cons_succ, List.getElem_cons_zero] at ho2
                    subst ho2
                    clear ho
                    have e16 := D.old 16 (by kernel_rfl)
                    exact wk.does_move rfl (by rw [e16]; rfl)
                  ·
                    have ho2 := (Array.getElem?_eq_some_iff.1 ho).2
                    simp only [List.getElem_toArray, List.getElem_cons_succ, List.getElem_cons_zero] at ho2
                    subst ho2
                    clear ho
                    have e126 := D.is { on := 1, ground := .data } (by simp) rfl rfl 126 rfl
                    have e127 := D.is { on := 2, ground := .data } (by simp) rfl rfl 127 rfl
                    exact wk.does_run (by simp only [execOp]; rw [show E (.tmp 126) = _ from e126, show E (.tmp 127) = _ from e127]; go_simp) rfl
                  ·
                    have ho2 := (Array.getElem?_eq_some_iff.1 ho).2
                    simp only [List.getElem_toArray, List.getElem_cons_succ, List.getElem_cons_zero] at ho2
                    subst ho2
                    clear ho
                    have e128 := D.is { on := 3, ground := .data } (by simp) rfl rfl 128 rfl
                    exact wk.does_load1 rfl e128 ((((Below.refl _ _).drew.trans hb4).cell (p := ⟨bp, op + i, none⟩) hbp).trans hci) Try.underlying23 rfl rfl
                  ·
                    have ho2 := (Array.getElem?_eq_some_iff.1 ho).2
                    simp only [List.getElem_toArray, List.getElem_cons_succ, List.getElem_cons_zero] at ho2
                    subst ho2
                    clear ho
                    have e12 := D.old 12 (by kernel_rfl)
                    exact wk.does_move rfl (by rw [e12]; rfl)
                  ·
                    have ho2 := (Array.getElem?_eq_some_iff.1 ho).2
                    simp only [List.getElem_toArray, List.getElem_cons_succ, List.getElem_cons_zero] at ho2
                    subst ho2
                    clear ho
                    have e17 := D.old 17 (by kernel_rfl)
                    exact wk.does_move rfl (by rw [e17]; rfl)
                  ·
                    have ho2 := (Array.getElem?_eq_some_iff.1 ho).2
                    simp only [List.getElem_toArray, List.getElem_cons_succ, List.getElem_cons_zero] at ho2
                    subst ho2
                    clear ho
                    have e130 := D.is { on := 5, ground := .data } (by simp) rfl rfl 130 rfl
                    have e131 := D.is { on := 6, ground := .data } (by simp) rfl rfl 131 rfl
                    exact wk.does_run (by simp only [execOp]; rw [show E (.tmp 130) = _ from e130, show E (.tmp 131) = _ from e131]; go_simp) rfl
                  ·
                    have ho2 := (Array.getElem?_eq_some_iff.1 ho).2
                    simp only [List.getElem_toArray, List.getElem_cons_succ, List.getElem_cons_zero] at ho2
                    subst ho2
                    clear ho
                    have e132 := D.is { on := 7, ground := .data } (by simp) rfl rfl 132 rfl
                    exact wk.does_load1 rfl e132 ((((Below.refl _ _).drew.trans hb4).cell (p := ⟨bp, op + j, none⟩) hbp).trans hcj) Try.underlying23 rfl rfl
                  ·
                    have ho2 := (Array.getElem?_eq_some_iff.1 ho).2
                    simp only [List.getElem_toArray, List.getElem_cons_succ, List.getElem_cons_zero] at ho2
                    subst ho2
                    clear ho
                    have e125 := D.is { on := 0, ground := .data } (by simp) rfl rfl 125 rfl
                    have e129 := D.is { on := 4, ground := .data } (by simp) rfl rfl 129 rfl
                    have e133 := D.is { on := 8, ground := .data } (by simp) rfl rfl 133 rfl
                    refine wk.does_fn (f := 36) (vs := #[.int .i64 m, .slice Ai ni ci, .slice Aj nj cj]) rfl (D.fn _) (by simp [e125, e129, e133]) (by go_simp) ?_
                    refine (HKF.out w4 ((Below.refl _ _).drew.trans hb4)).mono ?_
                    rintro e w7 ⟨rfl, hb7⟩
                    exact ⟨_, rfl, hb7, rfl⟩
                  ·
                    have ho2 := (Array.getElem?_eq_some_iff.1 ho).2
                    simp only [List.getElem_toArray, List.getElem_cons_succ, List.getElem_cons_zero] at ho2
                    subst ho2
                    clear ho
                    have e134 := D.is { on := 9, ground := .data } (by simp) rfl rfl 134 rfl
                    exact wk.does_assign rfl e134
                case hdone =>
                  intro vals w4 hb4 hv
                  have h10 := hv 10 (by omega)
                  clear hv
                  replace h10 : vals 10 = (.int .i64 y) := h10
                  simp only [List.drop_succ_cons, List.drop_zero, wpList, wk.setL, List.setIfInBounds_toArray, List.set_cons_zero, List.set_cons_succ, Nat.zero_add, Nat.reduceAdd, h10]
                  generalize vals 0 = x0
                  generalize vals 1 = x1
                  generalize vals 2 = x2
                  generalize vals 3 = x3
                  generalize vals 4 = x4
                  generalize vals 5 = x5
                  generalize vals 6 = x6
                  generalize vals 7 = x7
                  generalize vals 8 = x8
                  generalize vals 9 = x9
                  have hb5 : Below wz.heap.size wz w4 := (Below.refl _ _).drew.trans hb4
                  have HBF := Lib.hid (HBN.out.below hb5)
                  clear hb4 hb5
                  go_wp2_with fail
                  go_roundg (i - (j + 1))
                  case measure => have := HJ.out; omega
                  case rel => exact ⟨j + 1, by have := HJ.out; omega, by go_num, HBF.out.is⟩
              ·
                obtain rfl : i = j := by omega
                go_wp2_with fail
                go_roundg (n4 - (i + 1))
                case measure => have := HI.out; omega
                case rel => exact ⟨i + 1, by have := HI.out; omega, by go_num, HBM.out.is⟩
          ·
            obtain rfl : n4 = i := by omega
            clear hilt hin HI HBM
            go_wp2_with fail
            refine (some_calls (n := n) _ HL.out.is HV.out.is hl1 hn8.2).mono ?_
            rintro e w6 ⟨A8, c8, S, rfl, hi, hin, hb⟩
            replace HL := Lib.hid (HL.out.below hb)
            replace HV := Lib.hid (HV.out.below hb)
            replace HA := Lib.hid (HA.out.below hb)
            replace HP := Lib.hid (HP.out.below hb)
            replace HB := Lib.hid (Below.andThen HB.out hb)
            have HSL := Lib.hid hi.1
            have HFS : Hid (Fit 8 (L.headD []).length S) := ⟨by rw [HSL.out]; exact hn8.1, by rw [HSL.out]; exact hn8.2, HF.out.d1, HF.out.d2, fun v hv => HF.out.ok v (hin v hv)⟩
            have HHS := Lib.hid (haveK_of HM13.out.1 HM13.out.2 HFS.out HF.out)
            clear hin
            have hHSnc := hi.2.1
            have hHSnm := hi.2.2.1
            have HS := Lib.hid (W2.mk hi)
            clear hi
            clear hb
            go_wp2_with fail
            refine (cover_c (m := m) _ HS.out.is HL.out.is).mono ?_
            rintro e w7 ⟨rfl, hb⟩
            replace HL := Lib.hid (HL.out.below hb)
            replace HV := Lib.hid (HV.out.below hb)
            replace HA := Lib.hid (HA.out.below hb)
            replace HP := Lib.hid (HP.out.below hb)
            replace HS := Lib.hid (HS.out.below hb)
            replace HB := Lib.hid (Below.andThen HB.out hb)
            rw [HHS.out, eI_t]
            have hwell := HWELL.out S HFS.out HSL.out
            have hob : 0 ≤ cvI m S L ∧ cvI m S L ≤ 134217728 := by unfold cvI; rw [if_pos HHS.out]; exact cover_bd HFS.out HF.out
            generalize cvI m S L = o at *
            clear hb
            go_wp2_with fail
            refine (san9_calls _).mono ?_
            rintro e w8 ⟨rfl, hb⟩
            replace HL := Lib.hid (HL.out.below hb)
            replace HV := Lib.hid (HV.out.below hb)
            replace HA := Lib.hid (HA.out.below hb)
            replace HP := Lib.hid (HP.out.below hb)
            replace HS := Lib.hid (HS.out.below hb)
            replace HB := Lib.hid (Below.andThen HB.out hb)
            clear hb
            go_wp2_with fail
            refine (me.high_calls m o o _ HM13.out.1 HM13.out.2 hob.1 hob.1 hob.2 hob.2).mono ?_
            rintro e w9 ⟨rfl, hb⟩
            replace HL := Lib.hid (HL.out.below hb)
            replace HV := Lib.hid (HV.out.below hb)
            replace HA := Lib.hid (HA.out.below hb)
            replace HP := Lib.hid (HP.out.below hb)
            replace HS := Lib.hid (HS.out.below hb)
            replace HB := Lib.hid (Below.andThen HB.out hb)
            generalize me.high m o o = hh at *
            clear hb
            go_wp2_with fail
            go_ret
            exact ⟨rfl, HB.out⟩
end Go.Proofs.Yteeianandjokaaa.pivotsCoverWell
