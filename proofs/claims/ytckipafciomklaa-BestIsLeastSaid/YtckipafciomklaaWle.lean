/- BestIsLeast. -/
import Derived.Test.YtckipafciomklaaG15

namespace Go.Proofs.Ytckipafciomklaa.bestIsLeast

open Go.ChangeShapes Go.WideShapes Go.ChangeAt Go.RowKit

open Go.Proofs.Ytckipafciomklaa.bk Go.Proofs.Ytckipafciomklaa.bq Go.Proofs.Ytckipafciomklaa.vk Go.Proofs.Ytckipafciomklaa.wk

set_option linter.unusedVariables false
attribute [local go_sem] Oper.semAt_some
theorem vld_of {l : List (Int × Int × Int)} {k : Int} (hr : l.all right = true) (hk : okK k = true) : vld (ofL l k.toNat) k = true := by
  have hk2 := hk
  unfold okK at hk2
  rw [decide_eq_true_eq] at hk2
  refine vld_iff.2 ⟨hk2, ?_, fun h hh => List.all_eq_true.1 hr h (ofL_mem hh), lst_ofL _ _⟩
  have := ofL_len l k.toNat
  omega
theorem least_id {l : List (Int × Int × Int)} {K : Nat} {h x : Int × Int × Int} (hl : h ∈ l) (hx : x ∈ ofL l K) (e : x.1 = h.1) : lt h x = false := by
  have h1 := (mem_ofL.1 hx).1
  exact (mem_bst.1 h1).2 h hl e.symm
theorem not_there {l : List (Int × Int × Int)} {K : Nat} {h : Int × Int × Int} (hl : h ∈ l) (hn : ∀ x ∈ ofL l K, x.1 ≠ h.1) : (ofL l K).length = K ∧ ∀ y ∈ ofL l K, lt h y = false := by
  obtain ⟨g, hg, hid, hle⟩ := rep hl
  have hgn : ¬ g ∈ ofL l K := fun hh => hn g hh hid
  have hc : K ≤ cnt l g := by
    rw [mem_ofL] at hgn
    refine Nat.le_of_not_lt fun hlt => hgn ⟨hg, hlt⟩
  refine ⟨?_, fun y hy => ?_⟩
  · have h1 : cnt l g ≤ (bst l).length := List.length_filter_le _ _
    unfold ofL
    rw [List.length_take]; omega
  · have hy2 := (mem_ofL.1 hy).2
    cases hh : lt h y with
    | false => rfl
    | true =>
      have h3 : g = y ∨ lt g y = true := .inr (le_trans hle hh)
      have := cnt_le (a := l) h3
      omega
set_option maxRecDepth 100000 in
set_option maxHeartbeats 16000000 in
theorem walk (w : World) {A1 : Option Addr} {n1 c1 : Nat} {l : List (Int × Int × Int)} {k : Int} (w0 : IsH w A1 n1 c1 l) (w1 : (Lit.int .i64 k).wf = true) :
    Calls Try.prog 6 #[.slice A1 n1 c1, .int .i64 k] w fun e w' => e = .returned (.bool true) ∧ Below w.heap.size w w' := by
  have hnc1 := w0.2.1
  have hnm1 := w0.2.2.1
  have HA := Lib.hid w0
  have HB : Hid (Below w.heap.size w w) := Below.refl _ _
  have HN1 := Lib.hid w0.1
  clear w0
  go_enter Try.func6, Try.ntmps6
  by_cases h40 : (40 : Int) < (n1 : Int)
  ·
    go_wp2_with fail
    refine (san10_calls _).mono ?_
    rintro e w9 ⟨rfl, hb⟩
    replace HB := Lib.hid (HB.out.trans (hb.mono HB.out.size))
    clear hb
    go_wp2_with fail
    go_ret
    exact ⟨rfl, HB.out⟩
  ·
    go_wp2_with fail
    refine (rall_calls _ HA.out).mono ?_
    rintro e w5 ⟨rfl, hb⟩
    replace HA := Lib.hid (HA.out.below hb)
    replace HB := Lib.hid (HB.out.trans (hb.mono HB.out.size))
    clear hb
    cases hall : l.all right with
    | false =>
      go_wp2_with fail
      refine (san10_calls _).mono ?_
      rintro e w9 ⟨rfl, hb⟩
      replace HB := Lib.hid (HB.out.trans (hb.mono HB.out.size))
      clear hb
      go_wp2_with fail
      go_ret
      exact ⟨rfl, HB.out⟩
    | true =>
      have HALL := Lib.hid hall
      go_wp2_with fail
      refine (rk_calls k _).mono ?_
      rintro e wx ⟨rfl, hwx⟩
      rw [hwx]
      clear hwx wx
      cases hok : okK k with
      | false =>
        go_wp2_with fail
        refine (san10_calls _).mono ?_
        rintro e w9 ⟨rfl, hb⟩
        replace HB := Lib.hid (HB.out.trans (hb.mono HB.out.size))
        clear hb
        go_wp2_with fail
        go_ret
        exact ⟨rfl, HB.out⟩
      | true =>
        have HV := Lib.hid (vld_of HALL.out hok)
        go_wp2_with fail
        refine (of_calls k _ HA.out (by omega)).mono ?_
        rintro e w7 ⟨A3, n3, c3, rfl, hh, hb⟩
        have HLID : Hid (∀ h ∈ l, ∀ x ∈ ofL l k.toNat, x.1 = h.1 → lt h x = false) := fun h hl x hx e => least_id hl hx e
        have HNT : Hid (∀ h ∈ l, (∀ x ∈ ofL l k.toNat, x.1 ≠ h.1) → (ofL l k.toNat).length = k.toNat ∧ ∀ y ∈ ofL l k.toNat, lt h y = false) := fun h hl hn => not_there hl hn
        have HSUB : Hid (∀ x ∈ ofL l k.toNat, x ∈ l) := fun x hx => ofL_mem hx
        have HKP : Hid (1 ≤ k ∧ k ≤ 64) := by unfold okK at hok; rw [decide_eq_true_eq] at hok; exact hok
        clear hok hall
        generalize ofL l k.toNat = O at *
        replace HA := Lib.hid (HA.out.below hb)
        replace HB := Lib.hid (HB.out.trans (hb.mono HB.out.size))
        clear hb
        have HX := Lib.hid hh
        have hn3 := hh.1
        have HN3 := Lib.hid hn3
        have hx2 := hh.2.1
        have hx3 := hh.2.2.1
        clear hh hn3
        have h3le : n3 ≤ 64 := by
          have := (vld_iff.1 HV.out).2.1
          have := HN3.out
          have := HKP.out
          omega
        go_wp2_with fail
        refine (valid_calls k _ HX.out (by omega)).mono ?_
        rintro e wB ⟨rfl, hb⟩
        rw [HV.out]
        replace HA := Lib.hid (HA.out.below hb)
        replace HX := Lib.hid (HX.out.below hb)
        replace HB := Lib.hid (HB.out.trans (hb.mono HB.out.size))
        clear hb
        go_wp2_with fail
        go_loopg [6, 39] n3 (fun g gv x wr => ∃ q : Nat, q + g = n3 ∧ gv = .int .i64 (q : Int) ∧ x = .int .i64 (q : Int) ∧ Below wB.heap.size wB wr)
        case atStart => exact ⟨0, by omega, rfl, rfl, Below.refl _ _⟩
        case round =>
          obtain ⟨q, hq, rfl, rfl, hbel⟩ := hrel
          have HK := Lib.hid hq
          have HBEL := Lib.hid hbel
          have hqn : q ≤ n3 := by omega
          clear hq hbel
          by_cases hlt : q < n3
          · obtain ⟨b3, o3, x, rfl, hx1, hx2, hx3, -, hX, -⟩ := isH_get (HX.out.below HBEL.out) hlt
            have hlt0 : (q : Int) < (n3 : Int) := by omega
            obtain ⟨i0, hi0, hi1⟩ : ∃ i : Nat, i < n1 ∧ l[i]? = some x := by
              obtain ⟨i, hi, e⟩ := List.mem_iff_getElem.1 (HSUB.out x (List.mem_of_getElem? hX))
              exact ⟨i, by rw [← HN1.out]; exact hi, by rw [List.getElem?_eq_getElem hi, e]⟩
            have HI0 := Lib.hid hi1
            have hbx := below_new wr (.cells #[.int .i64 x.1, .int .i64 x.2.1, .int .i64 x.2.2] 27)
            have HRX := Lib.hid (RowH.new wr x)
            have HBX := Lib.hid (HBEL.out.trans (hbx.mono HBEL.out.size))
            clear hX hi1 hbx HBEL
            go_wp2_with fail
            generalize wr.alloc (.cells #[.int .i64 x.1, .int .i64 x.2.1, .int .i64 x.2.2] 27) = wr2 at *
            generalize wr.heap.size = gx at *
            clear hx1 hx2 hx3
            go_loopg [6, 45] n1 (fun g gv xx wr => ∃ j : Nat, j + g = n1 ∧ gv = .int .i64 (q : Int) ∧ xx = .int .i64 (j : Int) ∧ Below wr2.heap.size wr2 wr ∧ j ≤ i0)
            case atStart => exact ⟨0, by omega, rfl, rfl, Below.refl _ _, by omega⟩
            case round =>
              obtain ⟨j, hj, rfl, rfl, hbel2, hji⟩ := hrel
              have HJ := Lib.hid hj
              have HBEL2 := Lib.hid hbel2
              have hjn : j < n1 := by omega
              clear hj hbel2
              have hBW := HBX.out.trans (HBEL2.out.mono HBX.out.size)
              obtain ⟨b1, o1, h, rfl, hh1, hh2, hh3, -, hH, -⟩ := isH_get (HA.out.below hBW) hjn
              have hlt1 : (j : Int) < (n1 : Int) := by omega
              have HH := Lib.hid hH
              have HB2 := Lib.hid (HBEL2.out.trans ((below_new wr (.cells #[.int .i64 h.1, .int .i64 h.2.1, .int .i64 h.2.2] 27)).mono HBEL2.out.size))
              have HRH := Lib.hid (RowH.new wr h)
              have hy0 := HRH.out.c0
              have hy1 := HRH.out.c1
              have hy2 := HRH.out.c2
              have hz := HRX.out.below HB2.out
              have hz0 := hz.c0
              have hz1 := hz.c1
              have hz2 := hz.c2
              have hee := fun w' => eq_hit w' h x
              clear hH hBW hz
              by_cases hxy : h = x
              · have hd : decide (h = x) = true := decide_eq_true hxy
                rw [hd] at hee
                clear hd hxy
                go_wp2_with fail
                go_roundg (n3 - (q + 1))
                case measure => have := HK.out; omega
                case rel => exact ⟨q + 1, by have := HK.out; omega, by go_num, by go_num, HBX.out.trans (HB2.out.mono HBX.out.size)⟩
              · have hd : decide (h = x) = false := decide_eq_false hxy
                rw [hd] at hee
                have HXY := Lib.hid hxy
                clear hd hxy
                go_wp2_with fail
                go_roundg (n1 - (j + 1))
                case measure => have := HJ.out; omega
                case rel =>
                  refine ⟨j + 1, by have := HJ.out; omega, rfl, by go_num, HB2.out, ?_⟩
                  refine Nat.lt_of_le_of_ne hji fun e => HXY.out ?_
                  subst e
                  have h8 := HH.out
                  rw [HI0.out] at h8
                  injection h8 with h8
                  exact h8.symm
          · obtain rfl : n3 = q := by omega
            replace HB := Lib.hid (HB.out.trans (HBEL.out.mono HB.out.size))
            have HBE := Lib.hid HBEL.out
            clear HBEL HSUB
            go_wp2_with fail
            go_loopg [58] n1 (fun g xx wi => ∃ j : Nat, j + g = n1 ∧ xx = .int .i64 (j : Int) ∧ Below wr.heap.size wr wi)
            case atStart => exact ⟨0, by omega, rfl, Below.refl _ _⟩
            case round =>
              obtain ⟨j, hj, rfl, hbel2⟩ := hrel
              have HJ := Lib.hid hj
              have HBEL2 := Lib.hid hbel2
              have hjn : j ≤ n1 := by omega
              clear hj hbel2
              have HBEU := Lib.hid (HBE.out.trans (HBEL2.out.mono HBE.out.size))
              by_cases hlt : j < n1
              · obtain ⟨b1, o1, h, rfl, hh1, hh2, hh3, -, hH, -⟩ := isH_get (HA.out.below HBEU.out) hlt
                have hlt1 : (j : Int) < (n1 : Int) := by omega
                have hhl := List.mem_of_getElem? hH
                have HL1 := Lib.hid (HLID.out h hhl)
                have HL2 := Lib.hid (HNT.out h hhl)
                have hbx := below_new wr (.cells #[.int .i64 h.1, .int .i64 h.2.1, .int .i64 h.2.2] 27)
                have HRH := Lib.hid (RowH.new wr h)
                have HB3 := Lib.hid (HBEL2.out.trans (hbx.mono HBEL2.out.size))
                have HBE3 := Lib.hid (HBEU.out.trans (hbx.mono HBEU.out.size))
                clear hH hhl hbx HBEL2 HBEU
                go_wp2_with fail
                generalize wr.alloc (.cells #[.int .i64 h.1, .int .i64 h.2.1, .int .i64 h.2.2] 27) = wr2 at *
                generalize wr.heap.size = gh at *
                clear hh1 hh2 hh3
                go_loopg [13, 64] n3 (fun g fv xx wi => ∃ m : Nat, m + g = n3 ∧ fv = .bool ((O.take m).any fun r => r.1 == h.1) ∧ xx = .int .i64 (m : Int) ∧ Below wr2.heap.size wr2 wi)
                case atStart => exact ⟨0, by omega, rfl, rfl, Below.refl _ _⟩
                case round =>
                  obtain ⟨m, hm, rfl, rfl, hbel3⟩ := hrel
                  have HM := Lib.hid hm
                  have HBW := Lib.hid hbel3
                  have hmn : m ≤ n3 := by omega
                  clear hm hbel3
                  have HBEW := Lib.hid (HBE3.out.trans (HBW.out.mono HBE3.out.size))
                  have HBEL3 := Lib.hid (HB3.out.trans (HBW.out.mono HB3.out.size))
                  by_cases hltm : m < n3
                  · obtain ⟨b3, o3, y, rfl, hy1, hy2, hy3, -, hY, -⟩ := isH_get (HX.out.below HBEW.out) hltm
                    have hlt3 : (m : Int) < (n3 : Int) := by omega
                    have HYL := Lib.hid (HL1.out y (List.mem_of_getElem? hY))
                    have HANY : Hid ((O.take (m + 1)).any (fun r => r.1 == h.1) = ((O.take m).any (fun r => r.1 == h.1) || y.1 == h.1)) := by
                      show _ = _
                      rw [take_succ' hY, List.any_append]; simp
                    have hby := below_new wr (.cells #[.int .i64 y.1, .int .i64 y.2.1, .int .i64 y.2.2] 27)
                    have HRY := Lib.hid (RowH.new wr y)
                    have HB4 := Lib.hid (HBW.out.trans (hby.mono HBW.out.size))
                    have hyy0 := HRY.out.c0
                    have hyy1 := HRY.out.c1
                    have hyy2 := HRY.out.c2
                    have hz := (HRH.out.below HBW.out).below hby
                    have hz0 := hz.c0
                    have hz1 := hz.c1
                    have hz2 := hz.c2
                    clear hY hby hz
                    generalize hfd : ((O.take m).any fun r => r.1 == h.1) = FD at *
                    clear hfd
                    by_cases hid : y.1 = h.1
                    · have hbe : (y.1 == h.1) = true := by rw [hid]; simp
                      have hll := HYL.out hid
                      have hde : decide (y.1 = h.1) = true := decide_eq_true hid
                      clear hid
                      rw [hbe] at HANY
                      cases FD with
                      | true =>
                        go_wp2_with fail
                        refine (less_calls h y _).mono ?_
                        rintro e w8 ⟨rfl, hb8⟩
                        rw [hll]
                        have HB8 := Lib.hid (HB4.out.trans (hb8.mono HB4.out.size))
                        clear hb8
                        go_wp2_with fail
                        go_roundg (n3 - (m + 1))
                        case measure => have := HM.out; omega
                        case rel => exact ⟨m + 1, by have := HM.out; omega, by rw [HANY.out]; rfl, by go_num, HB8.out⟩
                      | false =>
                        go_wp2_with fail
                        refine (less_calls h y _).mono ?_
                        rintro e w8 ⟨rfl, hb8⟩
                        rw [hll]
                        have HB8 := Lib.hid (HB4.out.trans (hb8.mono HB4.out.size))
                        clear hb8
                        go_wp2_with fail
                        go_roundg (n3 - (m + 1))
                        case measure => have := HM.out; omega
                        case rel => exact ⟨m + 1, by have := HM.out; omega, by rw [HANY.out]; rfl, by go_num, HB8.out⟩
                    · have hbe : (y.1 == h.1) = false := by simpa using hid
                      have hde : decide (y.1 = h.1) = false := decide_eq_false hid
                      clear hid
                      rw [hbe] at HANY
                      cases FD with
                      | true =>
                        go_wp2_with fail
                        go_roundg (n3 - (m + 1))
                        case measure => have := HM.out; omega
                        case rel => exact ⟨m + 1, by have := HM.out; omega, by rw [HANY.out]; rfl, by go_num, HB4.out⟩
                      | false =>
                        go_wp2_with fail
                        go_roundg (n3 - (m + 1))
                        case measure => have := HM.out; omega
                        case rel => exact ⟨m + 1, by have := HM.out; omega, by rw [HANY.out]; rfl, by go_num, HB4.out⟩
                  · obtain rfl : n3 = m := by omega
                    have HRH3 := Lib.hid (HRH.out.below HBW.out)
                    rw [show (O.take n3).any (fun r => r.1 == h.1) = O.any (fun r => r.1 == h.1) by rw [List.take_of_length_le (by rw [HN3.out]; omega)]]
                    cases hfd : O.any (fun r => r.1 == h.1) with
                    | true =>
                      go_wp2_with fail
                      refine wk.region_tailU 18 [.is (.bool true), .is (.bool false), .is (.bool false), .is undef, .is undef, .is undef, .is undef, .is undef, .is undef, .is undef, .is undef, .is undef, .is undef, .is undef, .is undef, .is undef, .is undef, .is (Value.bool false)] [some 87, some 88, some 89, some 90, some 91, some 92, some 93, some 94, some 95, some 96, some 97, some 98, some 99, some 100, some 101, some 102, some 103, some 104] (by kernel_rfl) (by kernel_rfl) (by kernel_rfl) (by kernel_rfl) [3, 4, 5, 6, 7, 8, 9, 10, 11, 12, 13, 14, 15, 16] (by kernel_rfl) (by intro p hp; simp only [List.mem_cons, List.not_mem_nil, or_false] at hp; rcases hp with rfl | rfl | rfl | rfl | rfl | rfl | rfl | rfl | rfl | rfl | rfl | rfl | rfl | rfl <;> rfl) (by kernel_rfl) (by kernel_rfl) ?hstep ?hdone
                      case hstep =>
                        intro i o ho hi hns E w4 hb4 D
                        have hi2 : i = 0 ∨ i = 1 ∨ i = 2 ∨ i = 3 ∨ i = 4 ∨ i = 5 ∨ i = 6 ∨ i = 7 ∨ i = 8 ∨ i = 9 ∨ i = 10 ∨ i = 11 ∨ i = 12 ∨ i = 13 ∨ i = 14 ∨ i = 15 ∨ i = 16 ∨ i = 17 := by omega
                        clear hi
                        rcases hi2 with rfl | rfl | rfl | rfl | rfl | rfl | rfl | rfl | rfl | rfl | rfl | rfl | rfl | rfl | rfl | rfl | rfl | rfl
                        ·
                          have ho2 := (Array.getElem?_eq_some_iff.1 ho).2
                          simp only [List.getElem_toArray, List.getElem_cons_zero] at ho2
                          subst ho2
                          clear ho
                          have e13 := D.old 13 (by kernel_rfl)
                          exact wk.does_move rfl (by rw [e13]; rfl)
                        ·
                          have ho2 := (Array.getElem?_eq_some_iff.1 ho).2
                          simp only [List.getElem_toArray, List.getElem_cons_succ, List.getElem_cons_zero] at ho2
                          subst ho2
                          clear ho
                          have e87 := D.is { on := 0, ground := .data } (by simp) rfl rfl 87 rfl
                          exact wk.does_un rfl (by rw [show E (.tmp 87) = _ from e87]; go_simp) rfl
                        ·
                          have ho2 := (Array.getElem?_eq_some_iff.1 ho).2
                          simp only [List.getElem_toArray, List.getElem_cons_succ, List.getElem_cons_zero] at ho2
                          subst ho2
                          clear ho
                          have e88 := D.is { on := 1, ground := .data } (by simp) rfl rfl 88 rfl
                          exact wk.does_move rfl e88
                        · cases (show false = true from hns.symm.trans (by kernel_rfl))
                        · cases (show false = true from hns.symm.trans (by kernel_rfl))
                        · cases (show false = true from hns.symm.trans (by kernel_rfl))
                        · cases (show false = true from hns.symm.trans (by kernel_rfl))
                        · cases (show false = true from hns.symm.trans (by kernel_rfl))
                        · cases (show false = true from hns.symm.trans (by kernel_rfl))
                        · cases (show false = true from hns.symm.trans (by kernel_rfl))
                        · cases (show false = true from hns.symm.trans (by kernel_rfl))
                        · cases (show false = true from hns.symm.trans (by kernel_rfl))
                        · cases (show false = true from hns.symm.trans (by kernel_rfl))
                        · cases (show false = true from hns.symm.trans (by kernel_rfl))
                        · cases (show false = true from hns.symm.trans (by kernel_rfl))
                        · cases (show false = true from hns.symm.trans (by kernel_rfl))
                        · cases (show false = true from hns.symm.trans (by kernel_rfl))
                        ·
                          have ho2 := (Array.getElem?_eq_some_iff.1 ho).2
                          simp only [List.getElem_toArray, List.getElem_cons_succ, List.getElem_cons_zero] at ho2
                          subst ho2
                          clear ho
                          have e89 := D.is { on := 2, ground := .data } (by simp) rfl rfl 89 rfl
                          have e103 := D.is { on := 16, ground := .data } (by simp) rfl rfl 103 rfl
                          exact wk.does_pick rfl e89 (D.con _)
                      case hdone =>
                        intro vals w4 hb4 hv
                        have h17 := hv 17 (by omega)
                        clear hv
                        replace h17 : vals 17 = (Value.bool false) := h17
                        simp only [List.drop_succ_cons, List.drop_zero, wpList, wk.setL, List.setIfInBounds_toArray, List.set_cons_zero, List.set_cons_succ, Nat.zero_add, Nat.reduceAdd, h17]
                        generalize vals 0 = x0
                        generalize vals 1 = x1
                        generalize vals 2 = x2
                        generalize vals 3 = x3
                        generalize vals 4 = x4
                        generalize vals 5 = x5
                        generalize vals 6 = x6
                        generalize vals 7 = x7
                        generalize vals 8 = x8
                        generalize vals 9 = x9
                        generalize vals 10 = x10
                        generalize vals 11 = x11
                        generalize vals 12 = x12
                        generalize vals 13 = x13
                        generalize vals 14 = x14
                        generalize vals 15 = x15
                        generalize vals 16 = x16
                        have hb5 := (Below.refl _ _).drew.trans hb4
                        have HB5 := Lib.hid (HBEL3.out.trans (hb5.mono HBEL3.out.size))
                        clear hb4 hb5
                        go_wp2_with fail
                        go_roundg (n1 - (j + 1))
                        case measure => have := HJ.out; omega
                        case rel => exact ⟨j + 1, by have := HJ.out; omega, by go_num, HB5.out⟩
                    | false =>
                      have hno : ∀ x ∈ O, x.1 ≠ h.1 := fun x hx e => by
                        have := List.any_eq_false.1 hfd x hx
                        simp [e] at this
                      obtain ⟨hln, hlast⟩ := HL2.out hno
                      have hkp := HKP.out
                      obtain rfl : k = (n3 : Int) := by have := HN3.out; omega
                      obtain ⟨m3, hm3⟩ : ∃ m3, n3 = m3 + 1 := ⟨n3 - 1, by omega⟩
                      obtain ⟨b3, o3, y, rfl, -, -, -, -, hY, -⟩ := isH_get (HX.out.below HBEW.out) (show m3 < n3 by omega)
                      have HY := Lib.hid hY
                      have HLT : Hid (lt h y = false) := hlast y (List.mem_of_getElem? hY)
                      have hmm : (m3 : Int) < (n3 : Int) := by omega
                      have hm1 : (n3 : Int) - 1 = (m3 : Int) := by omega
                      clear hno hln hlast hkp hY hfd
                      go_wp2_with fail
                      refine wk.region_tailU 18 [.is (.bool false), .is (.bool true), .is (.bool true), .is (.slice (some ⟨b3, o3, none⟩) n3 c3), .is (.int .i64 (n3 : Int)), .is (.int .i64 (n3 : Int)), .is (.bool false), .is (.bool false), .is (.agg #[.int .i64 h.1, .int .i64 h.2.1, .int .i64 h.2.2]), .is (.slice (some ⟨b3, o3, none⟩) n3 c3), .is (.slice (some ⟨b3, o3, none⟩) n3 c3), .is (.int .i64 (n3 : Int)), .is (.int .i64 (m3 : Int)), .is (.pointer (some ⟨b3, o3 + m3 * 3, none⟩)), .is (.agg #[.int .i64 y.1, .int .i64 y.2.1, .int .i64 y.2.2]), .is (.bool false), .is (.bool false), .is (.bool false)] [some 87, some 88, some 89, some 90, some 91, some 92, some 93, some 94, some 95, some 96, some 97, some 98, some 99, some 100, some 101, some 102, some 103, some 104] (by kernel_rfl) (by kernel_rfl) (by kernel_rfl) (by kernel_rfl) [] (by kernel_rfl) (by intro p hp; cases hp) (by kernel_rfl) (by kernel_rfl) ?hstep ?hdone
                      case hstep =>
                        intro i o ho hi hns E w4 hb4 D
                        have hi2 : i = 0 ∨ i = 1 ∨ i = 2 ∨ i = 3 ∨ i = 4 ∨ i = 5 ∨ i = 6 ∨ i = 7 ∨ i = 8 ∨ i = 9 ∨ i = 10 ∨ i = 11 ∨ i = 12 ∨ i = 13 ∨ i = 14 ∨ i = 15 ∨ i = 16 ∨ i = 17 := by omega
                        clear hi
                        rcases hi2 with rfl | rfl | rfl | rfl | rfl | rfl | rfl | rfl | rfl | rfl | rfl | rfl | rfl | rfl | rfl | rfl | rfl | rfl
                        ·
                          have ho2 := (Array.getElem?_eq_some_iff.1 ho).2
                          simp only [List.getElem_toArray, List.getElem_cons_zero] at ho2
                          subst ho2
                          clear ho
                          have e13 := D.old 13 (by kernel_rfl)
                          exact wk.does_move rfl (by rw [e13]; rfl)
                        ·
                          have ho2 := (Array.getElem?_eq_some_iff.1 ho).2
                          simp only [List.getElem_toArray, List.getElem_cons_succ, List.getElem_cons_zero] at ho2
                          subst ho2
                          clear ho
                          have e87 := D.is { on := 0, ground := .data } (by simp) rfl rfl 87 rfl
                          exact wk.does_un rfl (by rw [show E (.tmp 87) = _ from e87]; go_simp) rfl
                        ·
                          have ho2 := (Array.getElem?_eq_some_iff.1 ho).2
                          simp only [List.getElem_toArray, List.getElem_cons_succ, List.getElem_cons_zero] at ho2
                          subst ho2
                          clear ho
                          have e88 := D.is { on := 1, ground := .data } (by simp) rfl rfl 88 rfl
                          exact wk.does_move rfl e88
                        ·
                          have ho2 := (Array.getElem?_eq_some_iff.1 ho).2
                          simp only [List.getElem_toArray, List.getElem_cons_succ, List.getElem_cons_zero] at ho2
                          subst ho2
                          clear ho
                          have e5 := D.old 5 (by kernel_rfl)
                          exact wk.does_move rfl (by rw [e5]; rfl)
                        ·
                          have ho2 := (Array.getElem?_eq_some_iff.1 ho).2
                          simp only [List.getElem_toArray, List.getElem_cons_succ, List.getElem_cons_zero] at ho2
                          subst ho2
                          clear ho
                          have e90 := D.is { on := 3, ground := .data } (by simp) rfl rfl 90 rfl
                          exact wk.does_run (by simp only [execOp, resolve, invoke, builtin, Sem.run_bind, Sem.run_pure, Result.andThen_ok, List.map_toArray, List.map_cons, List.map_nil]; rw [show E (.tmp 90) = _ from e90]; go_simp) rfl
                        ·
                          have ho2 := (Array.getElem?_eq_some_iff.1 ho).2
                          simp only [List.getElem_toArray, List.getElem_cons_succ, List.getElem_cons_zero] at ho2
                          subst ho2
                          clear ho
                          have e1 := D.old 1 (by kernel_rfl)
                          exact wk.does_move rfl (by rw [e1]; rfl)
                        ·
                          have ho2 := (Array.getElem?_eq_some_iff.1 ho).2
                          simp only [List.getElem_toArray, List.getElem_cons_succ, List.getElem_cons_zero] at ho2
                          subst ho2
                          clear ho
                          have e91 := D.is { on := 4, ground := .data } (by simp) rfl rfl 91 rfl
                          have e92 := D.is { on := 5, ground := .data } (by simp) rfl rfl 92 rfl
                          exact wk.does_run (by simp only [execOp]; rw [show E (.tmp 91) = _ from e91, show E (.tmp 92) = _ from e92]; go_simp; try simp) rfl
                        ·
                          have ho2 := (Array.getElem?_eq_some_iff.1 ho).2
                          simp only [List.getElem_toArray, List.getElem_cons_succ, List.getElem_cons_zero] at ho2
                          subst ho2
                          clear ho
                          have e93 := D.is { on := 6, ground := .data } (by simp) rfl rfl 93 rfl
                          exact wk.does_move rfl e93
                        ·
                          have ho2 := (Array.getElem?_eq_some_iff.1 ho).2
                          simp only [List.getElem_toArray, List.getElem_cons_succ, List.getElem_cons_zero] at ho2
                          subst ho2
                          clear ho
                          have e12 := D.old 12 (by kernel_rfl)
                          exact wk.does_load_agg rfl (show E (.tmp 12) = .pointer (some ⟨gh, 0, none⟩) by rw [e12]; rfl) (cs := rv h) (RowH.cells (HRH3.out.below ((Below.refl _ _).drew.trans hb4))) Try.underlying27 rfl (by kernel_rfl) rfl
                        ·
                          have ho2 := (Array.getElem?_eq_some_iff.1 ho).2
                          simp only [List.getElem_toArray, List.getElem_cons_succ, List.getElem_cons_zero] at ho2
                          subst ho2
                          clear ho
                          have e5 := D.old 5 (by kernel_rfl)
                          exact wk.does_move rfl (by rw [e5]; rfl)
                        ·
                          have ho2 := (Array.getElem?_eq_some_iff.1 ho).2
                          simp only [List.getElem_toArray, List.getElem_cons_succ, List.getElem_cons_zero] at ho2
                          subst ho2
                          clear ho
                          have e5 := D.old 5 (by kernel_rfl)
                          exact wk.does_move rfl (by rw [e5]; rfl)
                        ·
                          have ho2 := (Array.getElem?_eq_some_iff.1 ho).2
                          simp only [List.getElem_toArray, List.getElem_cons_succ, List.getElem_cons_zero] at ho2
                          subst ho2
                          clear ho
                          have e97 := D.is { on := 10, ground := .data } (by simp) rfl rfl 97 rfl
                          exact wk.does_run (by simp only [execOp, resolve, invoke, builtin, Sem.run_bind, Sem.run_pure, Result.andThen_ok, List.map_toArray, List.map_cons, List.map_nil]; rw [show E (.tmp 97) = _ from e97]; go_simp) rfl
                        ·
                          have ho2 := (Array.getElem?_eq_some_iff.1 ho).2
                          simp only [List.getElem_toArray, List.getElem_cons_succ, List.getElem_cons_zero] at ho2
                          subst ho2
                          clear ho
                          have e98 := D.is { on := 11, ground := .data } (by simp) rfl rfl 98 rfl
                          exact wk.does_run (by simp only [execOp]; rw [show E (.tmp 98) = _ from e98, show E (.const (.int .i64 1)) = .int .i64 1 from D.con _]; go_simp; try (rw [IntKind.wrap_i64]; omega)) rfl
                        ·
                          have ho2 := (Array.getElem?_eq_some_iff.1 ho).2
                          simp only [List.getElem_toArray, List.getElem_cons_succ, List.getElem_cons_zero] at ho2
                          subst ho2
                          clear ho
                          have e96 := D.is { on := 9, ground := .data } (by simp) rfl rfl 96 rfl
                          have e99 := D.is { on := 12, ground := .data } (by simp) rfl rfl 99 rfl
                          exact wk.does_run (by simp only [execOp]; rw [show E (.tmp 96) = _ from e96, show E (.tmp 99) = _ from e99]; go_simp; try (intro h0; omega)) rfl
                        ·
                          have ho2 := (Array.getElem?_eq_some_iff.1 ho).2
                          simp only [List.getElem_toArray, List.getElem_cons_succ, List.getElem_cons_zero] at ho2
                          subst ho2
                          clear ho
                          have e100 := D.is { on := 13, ground := .data } (by simp) rfl rfl 100 rfl
                          exact wk.does_load_agg rfl e100 (cs := rv y) (isH_at (HX.out.below (HBEW.out.trans (((Below.refl _ _).drew.trans hb4).mono HBEW.out.size))) HY.out) Try.underlying27 rfl (by kernel_rfl) rfl
                        ·
                          have ho2 := (Array.getElem?_eq_some_iff.1 ho).2
                          simp only [List.getElem_toArray, List.getElem_cons_succ, List.getElem_cons_zero] at ho2
                          subst ho2
                          clear ho
                          have e95 := D.is { on := 8, ground := .data } (by simp) rfl rfl 95 rfl
                          have e101 := D.is { on := 14, ground := .data } (by simp) rfl rfl 101 rfl
                          refine wk.does_fn (f := 13) (vs := #[.agg #[.int .i64 h.1, .int .i64 h.2.1, .int .i64 h.2.2], .agg #[.int .i64 y.1, .int .i64 y.2.1, .int .i64 y.2.2]]) rfl (D.fn _) (by simp [e95, e101]) (by go_simp) ?_
                          refine (cLess _ HLT.out).mono ?_
                          rintro e w7 ⟨rfl, hb7⟩
                          exact ⟨_, rfl, hb7, rfl⟩
                        ·
                          have ho2 := (Array.getElem?_eq_some_iff.1 ho).2
                          simp only [List.getElem_toArray, List.getElem_cons_succ, List.getElem_cons_zero] at ho2
                          subst ho2
                          clear ho
                          have e94 := D.is { on := 7, ground := .data } (by simp) rfl rfl 94 rfl
                          have e102 := D.is { on := 15, ground := .data } (by simp) rfl rfl 102 rfl
                          exact wk.does_pick rfl e94 e102
                        ·
                          have ho2 := (Array.getElem?_eq_some_iff.1 ho).2
                          simp only [List.getElem_toArray, List.getElem_cons_succ, List.getElem_cons_zero] at ho2
                          subst ho2
                          clear ho
                          have e89 := D.is { on := 2, ground := .data } (by simp) rfl rfl 89 rfl
                          have e103 := D.is { on := 16, ground := .data } (by simp) rfl rfl 103 rfl
                          exact wk.does_pick rfl e89 e103
                      case hdone =>
                        intro vals w4 hb4 hv
                        have h17 := hv 17 (by omega)
                        clear hv
                        replace h17 : vals 17 = (.bool false) := h17
                        simp only [List.drop_succ_cons, List.drop_zero, wpList, wk.setL, List.setIfInBounds_toArray, List.set_cons_zero, List.set_cons_succ, Nat.zero_add, Nat.reduceAdd, h17]
                        generalize vals 0 = x0
                        generalize vals 1 = x1
                        generalize vals 2 = x2
                        generalize vals 3 = x3
                        generalize vals 4 = x4
                        generalize vals 5 = x5
                        generalize vals 6 = x6
                        generalize vals 7 = x7
                        generalize vals 8 = x8
                        generalize vals 9 = x9
                        generalize vals 10 = x10
                        generalize vals 11 = x11
                        generalize vals 12 = x12
                        generalize vals 13 = x13
                        generalize vals 14 = x14
                        generalize vals 15 = x15
                        generalize vals 16 = x16
                        have hb5 := (Below.refl _ _).drew.trans hb4
                        have HB5 := Lib.hid (HBEL3.out.trans (hb5.mono HBEL3.out.size))
                        clear hb4 hb5
                        go_wp2_with fail
                        go_roundg (n1 - (j + 1))
                        case measure => have := HJ.out; omega
                        case rel => exact ⟨j + 1, by have := HJ.out; omega, by go_num, HB5.out⟩
              · obtain rfl : n1 = j := by omega
                replace HB := Lib.hid (HB.out.trans (HBEL2.out.mono HB.out.size))
                go_wp2_with fail
                refine (san10_calls _).mono ?_
                rintro e w6 ⟨rfl, hb⟩
                replace HB := Lib.hid (HB.out.trans (hb.mono HB.out.size))
                clear hb
                go_wp2_with fail
                go_ret
                exact ⟨rfl, HB.out⟩

end Go.Proofs.Ytckipafciomklaa.bestIsLeast
