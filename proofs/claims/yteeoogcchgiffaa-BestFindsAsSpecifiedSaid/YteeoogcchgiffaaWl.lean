/- BestFindsAsSpecified. -/
import Derived.Test.YteeoogcchgiffaaIc

namespace Go.Proofs.Yteeoogcchgiffaa.bestFindsAsSpecified

open Go.ChangeShapes Go.WideShapes Go.ChangeAt Go.RowKit

open Go.Proofs.Yteeoogcchgiffaa.bk Go.Proofs.Yteeoogcchgiffaa.bq Go.Proofs.Yteeoogcchgiffaa.vk Go.Proofs.Yteeoogcchgiffaa.wk

set_option linter.unusedVariables false
attribute [local go_sem] Oper.semAt_some
set_option maxRecDepth 100000 in
set_option maxHeartbeats 16000000 in
theorem walk (w : World) {A : Option Addr} {n c : Nat} {l : List (Int × Int × Int)} {k : Int} (w0 : IsH w A n c l) (w1 : (Lit.int .i64 k).wf = true) :
    Calls Try.prog 3 #[.slice A n c, .int .i64 k] w fun e w' => e = .returned (.bool true) ∧ Below w.heap.size w w' := by
  have hnc := w0.2.1
  have hnm := w0.2.2.1
  have H0 := Lib.hid w0
  have HA := Lib.hid w0
  have HB : Hid (Below w.heap.size w w) := Below.refl _ _
  have HLN := Lib.hid w0.1
  clear w0
  go_enter Try.func3, Try.ntmps3
  by_cases h40 : (40 : Int) < (n : Int)
  ·
    go_wp2_with fail
    refine (san10_calls _).mono ?_
    rintro e w9 ⟨rfl, hb⟩
    replace HB := Lib.hid (HB.out.trans (hb.mono HB.out.size))
    clear hb
    go_wp2_with fail
    go_ret
    exact ⟨rfl, HB.out⟩
  ·
    go_wp2_with fail
    refine (valid_calls k _ HA.out (by omega)).mono ?_
    rintro e w3 ⟨rfl, hb⟩
    replace HA := Lib.hid (HA.out.below hb)
    replace HB := Lib.hid (HB.out.trans (hb.mono HB.out.size))
    clear hb
    go_wp2_with fail
    refine (rvalid_calls k _ HA.out).mono ?_
    rintro e w4 ⟨rfl, hb⟩
    replace HA := Lib.hid (HA.out.below hb)
    replace HB := Lib.hid (HB.out.trans (hb.mono HB.out.size))
    clear hb
    have hvv : (vld l k != vld l k) = false := bne_self_eq_false _
    go_wp2_with fail
    go_loopg [19] n (fun g xx wr => ∃ q : Nat, q + g = n ∧ xx = .int .i64 (q : Int) ∧ Below w.heap.size w wr)
    case atStart => exact ⟨0, by omega, rfl, HB.out⟩
    case round =>
      obtain ⟨q, hq, rfl, hbel⟩ := hrel
      have HK := Lib.hid hq
      have HBEL := Lib.hid hbel
      have hqn : q ≤ n := by omega
      clear hq hbel HA HB
      by_cases hlt : q < n
      · obtain ⟨b, o, x, rfl, -, -, -, hb1, hX, hwx⟩ := isH_get H0.out hlt
        have hlt0 : (q : Int) < (n : Int) := by omega
        have hpos0 : (0 : Int) < (n : Int) := by omega
        obtain ⟨y, hy⟩ : ∃ y, l[0]? = some y := ⟨l[0]'(by rw [HLN.out]; omega), List.getElem?_eq_getElem _⟩
        have HY := Lib.hid hy
        have HX := Lib.hid hX
        clear hX hwx hb1 hy
        go_wp2_with fail
        refine wk.region_tailS 17 [.is (.slice (some ⟨b, o, none⟩) n c), .is (.int .i64 (q : Int)), .is (.pointer (some ⟨b, o + q * 3, none⟩)), .is (.agg #[.int .i64 x.1, .int .i64 x.2.1, .int .i64 x.2.2]), .is (.slice (some ⟨b, o, none⟩) n c), .is (.pointer (some ⟨b, o, none⟩)), .is (.agg #[.int .i64 y.1, .int .i64 y.2.1, .int .i64 y.2.2]), .is (.bool (lt x y)), .is (.slice (some ⟨b, o, none⟩) n c), .is (.int .i64 (q : Int)), .is (.pointer (some ⟨b, o + q * 3, none⟩)), .is (.agg #[.int .i64 x.1, .int .i64 x.2.1, .int .i64 x.2.2]), .is (.slice (some ⟨b, o, none⟩) n c), .is (.pointer (some ⟨b, o, none⟩)), .is (.agg #[.int .i64 y.1, .int .i64 y.2.1, .int .i64 y.2.2]), .is (.bool (lt x y)), .is (.bool false)] [some 22, some 23, some 24, some 25, some 26, some 27, some 28, some 29, some 30, some 31, some 32, some 33, some 34, some 35, some 36, some 37, some 38] (by kernel_rfl) (by kernel_rfl) (by kernel_rfl) (by kernel_rfl) [] (by kernel_rfl) (by intro p hp; cases hp) (by kernel_rfl) (by kernel_rfl) ?hstep ?hdone
        case hstep =>
          intro i o ho hi hns E w4 hb4 D
          have hi2 : i = 0 ∨ i = 1 ∨ i = 2 ∨ i = 3 ∨ i = 4 ∨ i = 5 ∨ i = 6 ∨ i = 7 ∨ i = 8 ∨ i = 9 ∨ i = 10 ∨ i = 11 ∨ i = 12 ∨ i = 13 ∨ i = 14 ∨ i = 15 ∨ i = 16 := by omega
          clear hi
          rcases hi2 with rfl | rfl | rfl | rfl | rfl | rfl | rfl | rfl | rfl | rfl | rfl | rfl | rfl | rfl | rfl | rfl | rfl
          ·
            have ho2 := (Array.getElem?_eq_some_iff.1 ho).2
            simp only [List.getElem_toArray, List.getElem_cons_zero] at ho2
            subst ho2
            clear ho
            have e0 := D.old 0 (by kernel_rfl)
            exact wk.does_move rfl (by rw [e0]; rfl)
          ·
            have ho2 := (Array.getElem?_eq_some_iff.1 ho).2
            simp only [List.getElem_toArray, List.getElem_cons_succ, List.getElem_cons_zero] at ho2
            subst ho2
            clear ho
            have e5 := D.old 5 (by kernel_rfl)
            exact wk.does_move rfl (by rw [e5]; rfl)
          ·
            have ho2 := (Array.getElem?_eq_some_iff.1 ho).2
            simp only [List.getElem_toArray, List.getElem_cons_succ, List.getElem_cons_zero] at ho2
            subst ho2
            clear ho
            have e22 := D.is { on := 0, ground := .data } (by simp) rfl rfl 22 rfl
            have e23 := D.is { on := 1, ground := .data } (by simp) rfl rfl 23 rfl
            exact wk.does_run (by simp only [execOp]; rw [show E (.tmp 22) = _ from e22, show E (.tmp 23) = _ from e23]; go_simp; try (intro h0; omega)) rfl
          ·
            have ho2 := (Array.getElem?_eq_some_iff.1 ho).2
            simp only [List.getElem_toArray, List.getElem_cons_succ, List.getElem_cons_zero] at ho2
            subst ho2
            clear ho
            have e24 := D.is { on := 2, ground := .data } (by simp) rfl rfl 24 rfl
            exact wk.does_load_agg rfl e24 (cs := rv x) (isH_at (H0.out.below ((HBEL.out).trans (((Below.refl _ _).drew.trans hb4).mono HBEL.out.size))) HX.out) Try.underlying27 rfl (by kernel_rfl) rfl
          ·
            have ho2 := (Array.getElem?_eq_some_iff.1 ho).2
            simp only [List.getElem_toArray, List.getElem_cons_succ, List.getElem_cons_zero] at ho2
            subst ho2
            clear ho
            have e0 := D.old 0 (by kernel_rfl)
            exact wk.does_move rfl (by rw [e0]; rfl)
          ·
            have ho2 := (Array.getElem?_eq_some_iff.1 ho).2
            simp only [List.getElem_toArray, List.getElem_cons_succ, List.getElem_cons_zero] at ho2
            subst ho2
            clear ho
            have e26 := D.is { on := 4, ground := .data } (by simp) rfl rfl 26 rfl
            exact wk.does_run (by simp only [execOp]; rw [show E (.tmp 26) = _ from e26, show E (.const (.int .i64 0)) = .int .i64 0 from D.con _]; go_simp; try (intro h0; omega)) rfl
          ·
            have ho2 := (Array.getElem?_eq_some_iff.1 ho).2
            simp only [List.getElem_toArray, List.getElem_cons_succ, List.getElem_cons_zero] at ho2
            subst ho2
            clear ho
            have e27 := D.is { on := 5, ground := .data } (by simp) rfl rfl 27 rfl
            exact wk.does_load_agg rfl e27 (cs := rv y) (isH_head (H0.out.below ((HBEL.out).trans (((Below.refl _ _).drew.trans hb4).mono HBEL.out.size))) HY.out) Try.underlying27 rfl (by kernel_rfl) rfl
          ·
            have ho2 := (Array.getElem?_eq_some_iff.1 ho).2
            simp only [List.getElem_toArray, List.getElem_cons_succ, List.getElem_cons_zero] at ho2
            subst ho2
            clear ho
            have e25 := D.is { on := 3, ground := .data } (by simp) rfl rfl 25 rfl
            have e28 := D.is { on := 6, ground := .data } (by simp) rfl rfl 28 rfl
            refine wk.does_fn (f := 13) (vs := #[.agg #[.int .i64 x.1, .int .i64 x.2.1, .int .i64 x.2.2], .agg #[.int .i64 y.1, .int .i64 y.2.1, .int .i64 y.2.2]]) rfl (D.fn _) (by simp [e25, e28]) (by go_simp) ?_
            refine (less_calls x y _).mono ?_
            rintro e w7 ⟨rfl, hb7⟩
            exact ⟨_, rfl, hb7, rfl⟩
          ·
            have ho2 := (Array.getElem?_eq_some_iff.1 ho).2
            simp only [List.getElem_toArray, List.getElem_cons_succ, List.getElem_cons_zero] at ho2
            subst ho2
            clear ho
            have e0 := D.old 0 (by kernel_rfl)
            exact wk.does_move rfl (by rw [e0]; rfl)
          ·
            have ho2 := (Array.getElem?_eq_some_iff.1 ho).2
            simp only [List.getElem_toArray, List.getElem_cons_succ, List.getElem_cons_zero] at ho2
            subst ho2
            clear ho
            have e5 := D.old 5 (by kernel_rfl)
            exact wk.does_move rfl (by rw [e5]; rfl)
          ·
            have ho2 := (Array.getElem?_eq_some_iff.1 ho).2
            simp only [List.getElem_toArray, List.getElem_cons_succ, List.getElem_cons_zero] at ho2
            subst ho2
            clear ho
            have e30 := D.is { on := 8, ground := .data } (by simp) rfl rfl 30 rfl
            have e31 := D.is { on := 9, ground := .data } (by simp) rfl rfl 31 rfl
            exact wk.does_run (by simp only [execOp]; rw [show E (.tmp 30) = _ from e30, show E (.tmp 31) = _ from e31]; go_simp; try (intro h0; omega)) rfl
          ·
            have ho2 := (Array.getElem?_eq_some_iff.1 ho).2
            simp only [List.getElem_toArray, List.getElem_cons_succ, List.getElem_cons_zero] at ho2
            subst ho2
            clear ho
            have e32 := D.is { on := 10, ground := .data } (by simp) rfl rfl 32 rfl
            exact wk.does_load_agg rfl e32 (cs := rv x) (isH_at (H0.out.below ((HBEL.out).trans (((Below.refl _ _).drew.trans hb4).mono HBEL.out.size))) HX.out) Try.underlying27 rfl (by kernel_rfl) rfl
          ·
            have ho2 := (Array.getElem?_eq_some_iff.1 ho).2
            simp only [List.getElem_toArray, List.getElem_cons_succ, List.getElem_cons_zero] at ho2
            subst ho2
            clear ho
            have e0 := D.old 0 (by kernel_rfl)
            exact wk.does_move rfl (by rw [e0]; rfl)
          ·
            have ho2 := (Array.getElem?_eq_some_iff.1 ho).2
            simp only [List.getElem_toArray, List.getElem_cons_succ, List.getElem_cons_zero] at ho2
            subst ho2
            clear ho
            have e34 := D.is { on := 12, ground := .data } (by simp) rfl rfl 34 rfl
            exact wk.does_run (by simp only [execOp]; rw [show E (.tmp 34) = _ from e34, show E (.const (.int .i64 0)) = .int .i64 0 from D.con _]; go_simp; try (intro h0; omega)) rfl
          ·
            have ho2 := (Array.getElem?_eq_some_iff.1 ho).2
            simp only [List.getElem_toArray, List.getElem_cons_succ, List.getElem_cons_zero] at ho2
            subst ho2
            clear ho
            have e35 := D.is { on := 13, ground := .data } (by simp) rfl rfl 35 rfl
            exact wk.does_load_agg rfl e35 (cs := rv y) (isH_head (H0.out.below ((HBEL.out).trans (((Below.refl _ _).drew.trans hb4).mono HBEL.out.size))) HY.out) Try.underlying27 rfl (by kernel_rfl) rfl
          ·
            have ho2 := (Array.getElem?_eq_some_iff.1 ho).2
            simp only [List.getElem_toArray, List.getElem_cons_succ, List.getElem_cons_zero] at ho2
            subst ho2
            clear ho
            have e33 := D.is { on := 11, ground := .data } (by simp) rfl rfl 33 rfl
            have e36 := D.is { on := 14, ground := .data } (by simp) rfl rfl 36 rfl
            refine wk.does_fn (f := 14) (vs := #[.agg #[.int .i64 x.1, .int .i64 x.2.1, .int .i64 x.2.2], .agg #[.int .i64 y.1, .int .i64 y.2.1, .int .i64 y.2.2]]) rfl (D.fn _) (by simp [e33, e36]) (by go_simp) ?_
            refine (rless_calls x y _).mono ?_
            rintro e w7 ⟨rfl, hb7⟩
            exact ⟨_, rfl, hb7, rfl⟩
          ·
            have ho2 := (Array.getElem?_eq_some_iff.1 ho).2
            simp only [List.getElem_toArray, List.getElem_cons_succ, List.getElem_cons_zero] at ho2
            subst ho2
            clear ho
            have e29 := D.is { on := 7, ground := .data } (by simp) rfl rfl 29 rfl
            have e37 := D.is { on := 15, ground := .data } (by simp) rfl rfl 37 rfl
            exact wk.does_run (by simp only [execOp]; rw [show E (.tmp 29) = _ from e29, show E (.tmp 37) = _ from e37]; go_simp; try simp) rfl
        case hdone =>
          intro vals w4 hb4 hv
          have h16 := hv 16 (by omega)
          clear hv
          replace h16 : vals 16 = (.bool false) := h16
          simp only [List.drop_succ_cons, List.drop_zero, wpList, wk.setL, List.setIfInBounds_toArray, List.set_cons_zero, List.set_cons_succ, Nat.zero_add, Nat.reduceAdd, h16]
          generalize vals 0 = x0
          generalize vals 1 = x1
          generalize vals 2 = x2
          generalize vals 3 = x3
          generalize vals 4 = x4
          generalize vals 5 = x5
          generalize vals 6 = x6
          generalize vals 7 = x7
          generalize vals 8 = x8
          generalize vals 9 = x9
          generalize vals 10 = x10
          generalize vals 11 = x11
          generalize vals 12 = x12
          generalize vals 13 = x13
          generalize vals 14 = x14
          generalize vals 15 = x15
          have HB4 := Lib.hid (HBEL.out.trans (((Below.refl _ _).drew.trans hb4).mono HBEL.out.size))
          clear hb4
          go_wp2_with fail
          go_roundg (gk - 1)
          case measure => have := HK.out; omega
          case rel => exact ⟨q + 1, by have := HK.out; omega, by go_num, HB4.out⟩
      · obtain rfl : q = n := by omega
        have HA := Lib.hid (H0.out.below HBEL.out)
        have HB := Lib.hid HBEL.out
        clear HBEL
        go_wp2_with fail
        refine (rall_calls _ HA.out).mono ?_
        rintro e w5 ⟨rfl, hb⟩
        replace HA := Lib.hid (HA.out.below hb)
        replace HB := Lib.hid (HB.out.trans (hb.mono HB.out.size))
        clear hb
        cases hall : l.all right with
        | false =>
          go_wp2_with fail
          refine (san10_calls _).mono ?_
          rintro e w9 ⟨rfl, hb⟩
          replace HB := Lib.hid (HB.out.trans (hb.mono HB.out.size))
          clear hb
          go_wp2_with fail
          go_ret
          exact ⟨rfl, HB.out⟩
        | true =>
          go_wp2_with fail
          refine (rk_calls k _).mono ?_
          rintro e wx ⟨rfl, hwx⟩
          rw [hwx]
          clear hwx wx
          cases hok : okK k with
          | false =>
            go_wp2_with fail
            refine (san10_calls _).mono ?_
            rintro e w9 ⟨rfl, hb⟩
            replace HB := Lib.hid (HB.out.trans (hb.mono HB.out.size))
            clear hb
            go_wp2_with fail
            go_ret
            exact ⟨rfl, HB.out⟩
          | true =>
            have hk64 : k ≤ 1000000 := by
              unfold okK at hok
              rw [decide_eq_true_eq] at hok
              omega
            go_wp2_with fail
            refine (san10_calls _).mono ?_
            rintro e w6 ⟨rfl, hb⟩
            replace HA := Lib.hid (HA.out.below hb)
            replace HB := Lib.hid (HB.out.trans (hb.mono HB.out.size))
            clear hb
            go_wp2_with fail
            refine (of_calls k _ HA.out (by omega)).mono ?_
            rintro e w7 ⟨A2, n2, c2, rfl, hh, hb⟩
            have HM := Lib.hid hh
            clear hh
            replace HA := Lib.hid (HA.out.below hb)
            replace HB := Lib.hid (HB.out.trans (hb.mono HB.out.size))
            clear hb
            go_wp2_with fail
            refine (rof_calls k _ HA.out hk64).mono ?_
            rintro e w8 ⟨A3, n3, c3, rfl, hh, hb⟩
            replace HM := Lib.hid (HM.out.below hb)
            have HN := Lib.hid hh
            clear hh
            replace HA := Lib.hid (HA.out.below hb)
            replace HB := Lib.hid (HB.out.trans (hb.mono HB.out.size))
            clear hb
            go_wp2_with fail
            refine (same_calls _ HM.out HN.out rfl).mono ?_
            rintro e w10 ⟨rfl, hb⟩
            replace HB := Lib.hid (HB.out.trans (hb.mono HB.out.size))
            clear hb
            go_wp2_with fail
            go_ret
            exact ⟨rfl, HB.out⟩
end Go.Proofs.Yteeoogcchgiffaa.bestFindsAsSpecified
