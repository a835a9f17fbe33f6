/- Joined: Dc Ca Cb Cc. -/
import Derived.Test.YtmnpmjioahnjoaaG13
/- The reference's Of. -/
namespace Go.Proofs.Ytmnpmjioahnjoaa.bk

open Go.ChangeShapes Go.WideShapes Go.ChangeAt Go.RowKit

open Go.Proofs.Ytmnpmjioahnjoaa.bq Go.Proofs.Ytmnpmjioahnjoaa.vk Go.Proofs.Ytmnpmjioahnjoaa.wk

set_option linter.unusedVariables false
set_option maxRecDepth 100000 in
set_option maxHeartbeats 8000000 in
theorem refof_calls (A : Option Addr) (n c : Nat) (L : List (List Int)) (w : World) (h : IsVV w A n c L) :
    Calls Try.prog 11 #[.slice A n c] w fun e w' => ∃ x, e = .returned x ∧ IsF w.heap.size w' x (ofF L) ∧ Below w.heap.size w w' := by
  obtain ⟨i0, hi, hz0, hz1, hz2⟩ := info_parts wi.infoI
  have H := Lib.hid h
  have hm := h.2.2.1
  have hnc := h.2.1
  have HLL := Lib.hid h.1
  obtain ⟨R, hR⟩ : ∃ R, ofF L = R := ⟨_, rfl⟩
  rw [hR]
  have HR := Lib.hid hR
  have HF0 := Lib.hid (FourX.new w (.slice none 0 0) (.slice none 0 0) (.bool false) (.int .i64 0))
  have HB0 := Lib.hid (below_new w (.cells #[.slice none 0 0, .slice none 0 0, .bool false, .int .i64 0] 36))
  clear h hR
  go_enter Try.func11, Try.ntmps11
  go_wp2_with fail
  generalize hG : w.heap.size = G at *
  have HG := Lib.hid hG
  clear hG
  go_loopg [3] n (fun g x wr => ∃ k : Nat, k + g = n ∧ x = .int .i64 (k : Int) ∧ FourX wr G (.slice none 0 0) (.slice none 0 0) (.bool false) (.int .i64 0) ∧ Below G w wr ∧ (L.take k).all (okV (L.headD []).length) = true)
  case atStart => exact ⟨0, by omega, rfl, HF0.out, HB0.out, by simp⟩
  case round =>
    obtain ⟨k, hk, rfl, hF, hbel, hall⟩ := hrel
    have HK := Lib.hid hk
    have HF := Lib.hid hF
    have HBEL := Lib.hid hbel
    have HALL := Lib.hid hall
    have hkn : k ≤ n := by omega
    clear hk hF hall
    by_cases hlt : k < n
    · have hbb : Below w.heap.size w wr := by rw [HG.out]; exact hbel
      obtain ⟨b, o, A0, n0, c0, l0, rfl, hb0, hcl0, hI0, hL0⟩ := isVV_get (isVV_below H.out hbb) (k := 0) (by omega)
      obtain ⟨b', o', A1, n1, c1, l1, e1, hb1, hc1, hI1, hL1⟩ := isVV_get (isVV_below H.out hbb) hlt
      cases e1
      rw [Nat.add_zero] at hcl0
      have HL1 := Lib.hid hL1
      have hlt0 : (k : Int) < (n : Int) := by omega
      have hn0' : (0 : Int) < (n : Int) := by omega
      have hn0 : 0 < n := by omega
      have hhd : (L.headD []).length = n0 := by rw [headD_of hL0]; exact hI0.1
      have hl1 : l1.length = n1 := hI1.1
      have HV := Lib.hid (fun w' (hb : Below wr.heap.size wr w') => rvector_calls A1 n1 c1 l1 w' (isI_below hI1 hb))
      have hm1 := hI1.2.2.1
      have hm0 := hI0.2.2.1
      have hnc1 := hI1.2.1
      have hnc0 := hI0.2.1
      clear hI0 hI1 hL0 hL1 hbel hbb
      cases hval : vq.valid l1
      · have HOKV : Hid (okV (L.headD []).length l1 = false) := by show _ = _; unfold okV; rw [hval]; rfl
        rw [hval] at HV
        clear hhd hl1 hval
        go_wp2_with fail
        refine wk.region_tailS 18 [.is (.slice (some ⟨b, o, none⟩) n c), .is (.int .i64 (k : Int)), .is (.pointer (some ⟨b, o + k, none⟩)), .is (.slice A1 n1 c1), .is (.bool false), .is (.bool true), .is (.bool true), .is undef, .is undef, .is undef, .is undef, .is undef, .is undef, .is undef, .is undef, .is undef, .is undef, .is (Value.bool true)] [some 15, some 16, some 17, some 18, some 19, some 20, some 21, some 22, some 23, some 24, some 25, some 26, some 27, some 28, some 29, some 30, some 31, some 32] (by kernel_rfl) (by kernel_rfl) (by kernel_rfl) (by kernel_rfl) [7, 8, 9, 10, 11, 12, 13, 14, 15, 16] (by kernel_rfl) (by intro p hp; simp only [List.mem_cons, List.not_mem_nil, or_false] at hp; rcases hp with rfl | rfl | rfl | rfl | rfl | rfl | rfl | rfl | rfl | rfl <;> rfl) (by kernel_rfl) (by kernel_rfl) ?hstep ?hdone
        case hstep =>
          intro i o ho hi hns E w4 hb4 D
          have hi2 : i = 0 ∨ i = 1 ∨ i = 2 ∨ i = 3 ∨ i = 4 ∨ i = 5 ∨ i = 6 ∨ i = 7 ∨ i = 8 ∨ i = 9 ∨ i = 10 ∨ i = 11 ∨ i = 12 ∨ i = 13 ∨ i = 14 ∨ i = 15 ∨ i = 16 ∨ i = 17 := by omega
          clear hi
          rcases hi2 with rfl | rfl | rfl | rfl | rfl | rfl | rfl | rfl | rfl | rfl | rfl | rfl | rfl | rfl | rfl | rfl | rfl | rfl
          ·
            have ho2 := (Array.getElem?_eq_some_iff.1 ho).2
            simp only [List.getElem_toArray, List.getElem_cons_zero] at ho2
            subst ho2
            clear ho
            have e0 := D.old 0 (by kernel_rfl)
            exact wk.does_move rfl (by rw [e0]; rfl)
          ·
            have ho2 := (Array.getElem?_eq_some_iff.1 ho).2
            simp only [List.getElem_toArray, List.getElem_cons_succ, List.getElem_cons_zero] at ho2
            subst ho2
            clear ho
            have e3 := D.old 3 (by kernel_rfl)
            exact wk.does_move rfl (by rw [e3]; rfl)
          ·
            have ho2 := (Array.getElem?_eq_some_iff.1 ho).2
            simp only [List.getElem_toArray, List.getElem_cons_succ, List.getElem_cons_zero] at ho2
            subst ho2
            clear ho
            have e15 := D.is { on := 0, ground := .data } (by simp) rfl rfl 15 rfl
            have e16 := D.is { on := 1, ground := .data } (by simp) rfl rfl 16 rfl
            exact wk.does_run (by simp only [execOp]; rw [e15, e16]; go_simp) rfl
          ·
            have ho2 := (Array.getElem?_eq_some_iff.1 ho).2
            simp only [List.getElem_toArray, List.getElem_cons_succ, List.getElem_cons_zero] at ho2
            subst ho2
            clear ho
            have e17 := D.is { on := 2, ground := .data } (by simp) rfl rfl 17 rfl
            exact wk.does_load1 rfl e17 ((((Below.refl _ _).drew.trans hb4 : Below wr.heap.size wr w4).cell (p := ⟨_, _, none⟩) hb1).trans hc1) Try.underlying23 rfl rfl
          ·
            have ho2 := (Array.getElem?_eq_some_iff.1 ho).2
            simp only [List.getElem_toArray, List.getElem_cons_succ, List.getElem_cons_zero] at ho2
            subst ho2
            clear ho
            have e18 := D.is { on := 3, ground := .data } (by simp) rfl rfl 18 rfl
            refine wk.does_fn (f := 36) (vs := #[.slice A1 n1 c1]) rfl (D.fn _) (by simp [e18]) (by go_simp) ?_
            refine (HV.out w4 ((Below.refl _ _).drew.trans hb4)).mono ?_
            rintro e w7 ⟨rfl, rfl⟩
            exact ⟨_, rfl, Below.refl _ _, rfl⟩
          ·
            have ho2 := (Array.getElem?_eq_some_iff.1 ho).2
            simp only [List.getElem_toArray, List.getElem_cons_succ, List.getElem_cons_zero] at ho2
            subst ho2
            clear ho
            have e19 := D.is { on := 4, ground := .data } (by simp) rfl rfl 19 rfl
            exact wk.does_un rfl (by rw [e19]; go_simp) rfl
          ·
            have ho2 := (Array.getElem?_eq_some_iff.1 ho).2
            simp only [List.getElem_toArray, List.getElem_cons_succ, List.getElem_cons_zero] at ho2
            subst ho2
            clear ho
            have e20 := D.is { on := 5, ground := .data } (by simp) rfl rfl 20 rfl
            exact wk.does_move rfl e20
          · cases (show false = true from hns.symm.trans (by kernel_rfl))
          · cases (show false = true from hns.symm.trans (by kernel_rfl))
          · cases (show false = true from hns.symm.trans (by kernel_rfl))
          · cases (show false = true from hns.symm.trans (by kernel_rfl))
          · cases (show false = true from hns.symm.trans (by kernel_rfl))
          · cases (show false = true from hns.symm.trans (by kernel_rfl))
          · cases (show false = true from hns.symm.trans (by kernel_rfl))
          · cases (show false = true from hns.symm.trans (by kernel_rfl))
          · cases (show false = true from hns.symm.trans (by kernel_rfl))
          · cases (show false = true from hns.symm.trans (by kernel_rfl))
          ·
            have ho2 := (Array.getElem?_eq_some_iff.1 ho).2
            simp only [List.getElem_toArray, List.getElem_cons_succ, List.getElem_cons_zero] at ho2
            subst ho2
            clear ho
            have e21 := D.is { on := 6, ground := .data } (by simp) rfl rfl 21 rfl
            have e31 := D.is { on := 16, ground := .data } (by simp) rfl rfl 31 rfl
            exact wk.does_pick rfl e21 (D.con _)
        case hdone =>
          intro vals w4 hb4 hv
          have h17 := hv 17 (by omega)
          clear hv
          replace h17 : vals 17 = (Value.bool true) := h17
          simp only [List.drop_succ_cons, List.drop_zero, wpList, wk.setL, List.setIfInBounds_toArray, List.set_cons_zero, List.set_cons_succ, Nat.zero_add, Nat.reduceAdd, h17]
          generalize vals 0 = x0
          generalize vals 1 = x1
          generalize vals 2 = x2
          generalize vals 3 = x3
          generalize vals 4 = x4
          generalize vals 5 = x5
          generalize vals 6 = x6
          generalize vals 7 = x7
          generalize vals 8 = x8
          generalize vals 9 = x9
          generalize vals 10 = x10
          generalize vals 11 = x11
          generalize vals 12 = x12
          generalize vals 13 = x13
          generalize vals 14 = x14
          generalize vals 15 = x15
          generalize vals 16 = x16
          have hb5 := ((Below.refl _ _).drew.trans hb4 : Below wr.heap.size wr w4)
          obtain rfl : R = (([], []), false, 1) := by rw [← HR.out]; exact ofF_not (okL_bad HL1.out HOKV.out)
          have hF := (HF.out.below hb5)
          have hc0 := hF.c0
          have hc1 := hF.c1
          have hc2 := hF.c2
          have hc3 := hF.c3
          have hf0 := hF.f0 0
          have hf1 := hF.f0 1
          have hf2 := hF.f0 2
          have hf3 := hF.f0 3
          have HF2 := Lib.hid (hF.set (.slice none 0 0) (.slice none 0 0) (.bool false) (.int .i64 1))
          have HB2 := Lib.hid (below_set4 (HBEL.out.trans (hb5.mono (by have := HF.out.lt; omega))) (Nat.le_refl G) (.slice none 0 0) (.slice none 0 0) (.bool false) (.int .i64 1))
          clear hF hb4 hb5
          go_wp2_with fail
          exact bodyPost_ret (v := .agg #[.slice none 0 0, .slice none 0 0, .bool false, .int .i64 1]) (res_f (fn := Try.f11) rfl _ _ G _ _ _ _ rfl HF2.out) rfl ⟨_, rfl, isF_nil _ _ _ _, by rw [HG.out]; exact HB2.out⟩
      · rw [hval] at HV
        by_cases hne : n1 = n0
        · subst hne
          have HOKV : Hid (okV (L.headD []).length l1 = true) := by show _ = _; unfold okV; rw [hval, hhd, hl1]; simp
          clear hhd hl1 hval
          go_wp2_with fail
          refine wk.region_tailS 18 [.is (.slice (some ⟨b, o, none⟩) n c), .is (.int .i64 (k : Int)), .is (.pointer (some ⟨b, o + k, none⟩)), .is (.slice A1 n1 c1), .is (.bool true), .is (.bool false), .is (.bool false), .is (.slice (some ⟨b, o, none⟩) n c), .is (.int .i64 (k : Int)), .is (.pointer (some ⟨b, o + k, none⟩)), .is (.slice A1 n1 c1), .is (.int .i64 (n1 : Int)), .is (.slice (some ⟨b, o, none⟩) n c), .is (.pointer (some ⟨b, o, none⟩)), .is (.slice A0 n1 c0), .is (.int .i64 (n1 : Int)), .is (.bool false), .is (.bool false)] [some 15, some 16, some 17, some 18, some 19, some 20, some 21, some 22, some 23, some 24, some 25, some 26, some 27, some 28, some 29, some 30, some 31, some 32] (by kernel_rfl) (by kernel_rfl) (by kernel_rfl) (by kernel_rfl) [] (by kernel_rfl) (by intro p hp; cases hp) (by kernel_rfl) (by kernel_rfl) ?hstep ?hdone
          case hstep =>
            intro i o ho hi hns E w4 hb4 D
            have hi2 : i = 0 ∨ i = 1 ∨ i = 2 ∨ i = 3 ∨ i = 4 ∨ i = 5 ∨ i = 6 ∨ i = 7 ∨ i = 8 ∨ i = 9 ∨ i = 10 ∨ i = 11 ∨ i = 12 ∨ i = 13 ∨ i = 14 ∨ i = 15 ∨ i = 16 ∨ i = 17 := by omega
            clear hi
            rcases hi2 with rfl | rfl | rfl | rfl | rfl | rfl | rfl | rfl | rfl | rfl | rfl | rfl | rfl | rfl | rfl | rfl | rfl | rfl
            ·
              have ho2 := (Array.getElem?_eq_some_iff.1 ho).2
              simp only [List.getElem_toArray, List.getElem_cons_zero] at ho2
              subst ho2
              clear ho
              have e0 := D.old 0 (by kernel_rfl)
              exact wk.does_move rfl (by rw [e0]; rfl)
            ·
              have ho2 := (Array.getElem?_eq_some_iff.1 ho).2
              simp only [List.getElem_toArray, List.getElem_cons_succ, List.getElem_cons_zero] at ho2
              subst ho2
              clear ho
              have e3 := D.old 3 (by kernel_rfl)
              exact wk.does_move rfl (by rw [e3]; rfl)
            ·
              have ho2 := (Array.getElem?_eq_some_iff.1 ho).2
              simp only [List.getElem_toArray, List.getElem_cons_succ, List.getElem_cons_zero] at ho2
              subst ho2
              clear ho
              have e15 := D.is { on := 0, ground := .data } (by simp) rfl rfl 15 rfl
              have e16 := D.is { on := 1, ground := .data } (by simp) rfl rfl 16 rfl
              exact wk.does_run (by simp only [execOp]; rw [e15, e16]; go_simp) rfl
            ·
              have ho2 := (Array.getElem?_eq_some_iff.1 ho).2
              simp only [List.getElem_toArray, List.getElem_cons_succ, List.getElem_cons_zero] at ho2
              subst ho2
              clear ho
              have e17 := D.is { on := 2, ground := .data } (by simp) rfl rfl 17 rfl
              exact wk.does_load1 rfl e17 ((((Below.refl _ _).drew.trans hb4 : Below wr.heap.size wr w4).cell (p := ⟨_, _, none⟩) hb1).trans hc1) Try.underlying23 rfl rfl
            ·
              have ho2 := (Array.getElem?_eq_some_iff.1 ho).2
              simp only [List.getElem_toArray, List.getElem_cons_succ, List.getElem_cons_zero] at ho2
              subst ho2
              clear ho
              have e18 := D.is { on := 3, ground := .data } (by simp) rfl rfl 18 rfl
              refine wk.does_fn (f := 36) (vs := #[.slice A1 n1 c1]) rfl (D.fn _) (by simp [e18]) (by go_simp) ?_
              refine (HV.out w4 ((Below.refl _ _).drew.trans hb4)).mono ?_
              rintro e w7 ⟨rfl, rfl⟩
              exact ⟨_, rfl, Below.refl _ _, rfl⟩
            ·
              have ho2 := (Array.getElem?_eq_some_iff.1 ho).2
              simp only [List.getElem_toArray, List.getElem_cons_succ, List.getElem_cons_zero] at ho2
              subst ho2
              clear ho
              have e19 := D.is { on := 4, ground := .data } (by simp) rfl rfl 19 rfl
              exact wk.does_un rfl (by rw [e19]; go_simp) rfl
            ·
              have ho2 := (Array.getElem?_eq_some_iff.1 ho).2
              simp only [List.getElem_toArray, List.getElem_cons_succ, List.getElem_cons_zero] at ho2
              subst ho2
              clear ho
              have e20 := D.is { on := 5, ground := .data } (by simp) rfl rfl 20 rfl
              exact wk.does_move rfl e20
            ·
              have ho2 := (Array.getElem?_eq_some_iff.1 ho).2
              simp only [List.getElem_toArray, List.getElem_cons_succ, List.getElem_cons_zero] at ho2
              subst ho2
              clear ho
              have e0 := D.old 0 (by kernel_rfl)
              exact wk.does_move rfl (by rw [e0]; rfl)
            ·
              have ho2 := (Array.getElem?_eq_some_iff.1 ho).2
              simp only [List.getElem_toArray, List.getElem_cons_succ, List.getElem_cons_zero] at ho2
              subst ho2
              clear ho
              have e3 := D.old 3 (by kernel_rfl)
              exact wk.does_move rfl (by rw [e3]; rfl)
            ·
              have ho2 := (Array.getElem?_eq_some_iff.1 ho).2
              simp only [List.getElem_toArray, List.getElem_cons_succ, List.getElem_cons_zero] at ho2
              subst ho2
              clear ho
              have e22 := D.is { on := 7, ground := .data } (by simp) rfl rfl 22 rfl
              have e23 := D.is { on := 8, ground := .data } (by simp) rfl rfl 23 rfl
              exact wk.does_run (by simp only [execOp]; rw [e22, e23]; go_simp) rfl
            ·
              have ho2 := (Array.getElem?_eq_some_iff.1 ho).2
              simp only [List.getElem_toArray, List.getElem_cons_succ, List.getElem_cons_zero] at ho2
              subst ho2
              clear ho
              have e24 := D.is { on := 9, ground := .data } (by simp) rfl rfl 24 rfl
              exact wk.does_load1 rfl e24 ((((Below.refl _ _).drew.trans hb4 : Below wr.heap.size wr w4).cell (p := ⟨_, _, none⟩) hb1).trans hc1) Try.underlying23 rfl rfl
            ·
              have ho2 := (Array.getElem?_eq_some_iff.1 ho).2
              simp only [List.getElem_toArray, List.getElem_cons_succ, List.getElem_cons_zero] at ho2
              subst ho2
              clear ho
              have e25 := D.is { on := 10, ground := .data } (by simp) rfl rfl 25 rfl
              exact wk.does_run (by simp only [execOp, resolve, List.map_toArray, List.map_cons, List.map_nil]; rw [e25]; go_simp) rfl
            ·
              have ho2 := (Array.getElem?_eq_some_iff.1 ho).2
              simp only [List.getElem_toArray, List.getElem_cons_succ, List.getElem_cons_zero] at ho2
              subst ho2
              clear ho
              have e0 := D.old 0 (by kernel_rfl)
              exact wk.does_move rfl (by rw [e0]; rfl)
            ·
              have ho2 := (Array.getElem?_eq_some_iff.1 ho).2
              simp only [List.getElem_toArray, List.getElem_cons_succ, List.getElem_cons_zero] at ho2
              subst ho2
              clear ho
              have e27 := D.is { on := 12, ground := .data } (by simp) rfl rfl 27 rfl
              exact wk.does_run (by simp only [execOp]; rw [e27, D.con]; go_simp) rfl
            ·
              have ho2 := (Array.getElem?_eq_some_iff.1 ho).2
              simp only [List.getElem_toArray, List.getElem_cons_succ, List.getElem_cons_zero] at ho2
              subst ho2
              clear ho
              have e28 := D.is { on := 13, ground := .data } (by simp) rfl rfl 28 rfl
              exact wk.does_load1 rfl e28 ((((Below.refl _ _).drew.trans hb4 : Below wr.heap.size wr w4).cell (p := ⟨_, _, none⟩) hb0).trans hcl0) Try.underlying23 rfl rfl
            ·
              have ho2 := (Array.getElem?_eq_some_iff.1 ho).2
              simp only [List.getElem_toArray, List.getElem_cons_succ, List.getElem_cons_zero] at ho2
              subst ho2
              clear ho
              have e29 := D.is { on := 14, ground := .data } (by simp) rfl rfl 29 rfl
              exact wk.does_run (by simp only [execOp, resolve, List.map_toArray, List.map_cons, List.map_nil]; rw [e29]; go_simp) rfl
            ·
              have ho2 := (Array.getElem?_eq_some_iff.1 ho).2
              simp only [List.getElem_toArray, List.getElem_cons_succ, List.getElem_cons_zero] at ho2
              subst ho2
              clear ho
              have e26 := D.is { on := 11, ground := .data } (by simp) rfl rfl 26 rfl
              have e30 := D.is { on := 15, ground := .data } (by simp) rfl rfl 30 rfl
              exact wk.does_bin rfl (by rw [e26, e30]; go_simp) rfl
            ·
              have ho2 := (Array.getElem?_eq_some_iff.1 ho).2
              simp only [List.getElem_toArray, List.getElem_cons_succ, List.getElem_cons_zero] at ho2
              subst ho2
              clear ho
              have e21 := D.is { on := 6, ground := .data } (by simp) rfl rfl 21 rfl
              have e31 := D.is { on := 16, ground := .data } (by simp) rfl rfl 31 rfl
              exact wk.does_pick rfl e21 e31
          case hdone =>
            intro vals w4 hb4 hv
            have h17 := hv 17 (by omega)
            clear hv
            replace h17 : vals 17 = (.bool false) := h17
            simp only [List.drop_succ_cons, List.drop_zero, wpList, wk.setL, List.setIfInBounds_toArray, List.set_cons_zero, List.set_cons_succ, Nat.zero_add, Nat.reduceAdd, h17]
            generalize vals 0 = x0
            generalize vals 1 = x1
            generalize vals 2 = x2
            generalize vals 3 = x3
            generalize vals 4 = x4
            generalize vals 5 = x5
            generalize vals 6 = x6
            generalize vals 7 = x7
            generalize vals 8 = x8
            generalize vals 9 = x9
            generalize vals 10 = x10
            generalize vals 11 = x11
            generalize vals 12 = x12
            generalize vals 13 = x13
            generalize vals 14 = x14
            generalize vals 15 = x15
            generalize vals 16 = x16
            have hb5 := ((Below.refl _ _).drew.trans hb4 : Below wr.heap.size wr w4)
            have HF5 := Lib.hid (HF.out.below hb5)
            have HB5 := Lib.hid (HBEL.out.trans (hb5.mono (by have := HF.out.lt; omega)))
            clear hb4 hb5
            go_wp2_with fail
            go_roundg (gk - 1)
            case measure => have := HK.out; omega
            case rel =>
              refine ⟨k + 1, by have := HK.out; omega, by go_num, HF5.out, HB5.out, ?_⟩
              rw [List.take_add_one, HL1.out, Option.toList_some, List.all_append, HALL.out]
              show (true && (okV _ l1 && true)) = true
              rw [HOKV.out]
              rfl
        · have HOKV : Hid (okV (L.headD []).length l1 = false) := by show _ = _; unfold okV; rw [hval, hhd, hl1]; simpa using hne
          have hnne : ¬ ((n1 : Int) = (n0 : Int)) := by omega
          have hnneb : ((n1 : Int) == (n0 : Int)) = false := by simpa using hnne
          clear hhd hl1 hval
          go_wp2_with fail
          refine wk.region_tailS 18 [.is (.slice (some ⟨b, o, none⟩) n c), .is (.int .i64 (k : Int)), .is (.pointer (some ⟨b, o + k, none⟩)), .is (.slice A1 n1 c1), .is (.bool true), .is (.bool false), .is (.bool false), .is (.slice (some ⟨b, o, none⟩) n c), .is (.int .i64 (k : Int)), .is (.pointer (some ⟨b, o + k, none⟩)), .is (.slice A1 n1 c1), .is (.int .i64 (n1 : Int)), .is (.slice (some ⟨b, o, none⟩) n c), .is (.pointer (some ⟨b, o, none⟩)), .is (.slice A0 n0 c0), .is (.int .i64 (n0 : Int)), .is (.bool true), .is (.bool true)] [some 15, some 16, some 17, some 18, some 19, some 20, some 21, some 22, some 23, some 24, some 25, some 26, some 27, some 28, some 29, some 30, some 31, some 32] (by kernel_rfl) (by kernel_rfl) (by kernel_rfl) (by kernel_rfl) [] (by kernel_rfl) (by intro p hp; cases hp) (by kernel_rfl) (by kernel_rfl) ?hstep ?hdone
          case hstep =>
            intro i o ho hi hns E w4 hb4 D
            have hi2 : i = 0 ∨ i = 1 ∨ i = 2 ∨ i = 3 ∨ i = 4 ∨ i = 5 ∨ i = 6 ∨ i = 7 ∨ i = 8 ∨ i = 9 ∨ i = 10 ∨ i = 11 ∨ i = 12 ∨ i = 13 ∨ i = 14 ∨ i = 15 ∨ i = 16 ∨ i = 17 := by omega
            clear hi
            rcases hi2 with rfl | rfl | rfl | rfl | rfl | rfl | rfl | rfl | rfl | rfl | rfl | rfl | rfl | rfl | rfl | rfl | rfl | rfl
            ·
              have ho2 := (Array.getElem?_eq_some_iff.1 ho).2
              simp only [List.getElem_toArray, List.getElem_cons_zero] at ho2
              subst ho2
              clear ho
              have e0 := D.old 0 (by kernel_rfl)
              exact wk.does_move rfl (by rw [e0]; rfl)
            ·
              have ho2 := (Array.getElem?_eq_some_iff.1 ho).2
              simp only [List.getElem_toArray, List.getElem_cons_succ, List.getElem_cons_zero] at ho2
              subst ho2
              clear ho
              have e3 := D.old 3 (by kernel_rfl)
              exact wk.does_move rfl (by rw [e3]; rfl)
            ·
              have ho2 := (Array.getElem?_eq_some_iff.1 ho).2
              simp only [List.getElem_toArray, List.getElem_cons_succ, List.getElem_cons_zero] at ho2
              subst ho2
              clear ho
              have e15 := D.is { on := 0, ground := .data } (by simp) rfl rfl 15 rfl
              have e16 := D.is { on := 1, ground := .data } (by simp) rfl rfl 16 rfl
              exact wk.does_run (by simp only [execOp]; rw [e15, e16]; go_simp) rfl
            ·
              have ho2 := (Array.getElem?_eq_some_iff.1 ho).2
              simp only [List.getElem_toArray, List.getElem_cons_succ, List.getElem_cons_zero] at ho2
              subst ho2
              clear ho
              have e17 := D.is { on := 2, ground := .data } (by simp) rfl rfl 17 rfl
              exact wk.does_load1 rfl e17 ((((Below.refl _ _).drew.trans hb4 : Below wr.heap.size wr w4).cell (p := ⟨_, _, none⟩) hb1).trans hc1) Try.underlying23 rfl rfl
            ·
              have ho2 := (Array.getElem?_eq_some_iff.1 ho).2
              simp only [List.getElem_toArray, List.getElem_cons_succ, List.getElem_cons_zero] at ho2
              subst ho2
              clear ho
              have e18 := D.is { on := 3, ground := .data } (by simp) rfl rfl 18 rfl
              refine wk.does_fn (f := 36) (vs := #[.slice A1 n1 c1]) rfl (D.fn _) (by simp [e18]) (by go_simp) ?_
              refine (HV.out w4 ((Below.refl _ _).drew.trans hb4)).mono ?_
              rintro e w7 ⟨rfl, rfl⟩
              exact ⟨_, rfl, Below.refl _ _, rfl⟩
            ·
              have ho2 := (Array.getElem?_eq_some_iff.1 ho).2
              simp only [List.getElem_toArray, List.getElem_cons_succ, List.getElem_cons_zero] at ho2
              subst ho2
              clear ho
              have e19 := D.is { on := 4, ground := .data } (by simp) rfl rfl 19 rfl
              exact wk.does_un rfl (by rw [e19]; go_simp) rfl
            ·
              have ho2 := (Array.getElem?_eq_some_iff.1 ho).2
              simp only [List.getElem_toArray, List.getElem_cons_succ, List.getElem_cons_zero] at ho2
              subst ho2
              clear ho
              have e20 := D.is { on := 5, ground := .data } (by simp) rfl rfl 20 rfl
              exact wk.does_move rfl e20
            ·
              have ho2 := (Array.getElem?_eq_some_iff.1 ho).2
              simp only [List.getElem_toArray, List.getElem_cons_succ, List.getElem_cons_zero] at ho2
              subst ho2
              clear ho
              have e0 := D.old 0 (by kernel_rfl)
              exact wk.does_move rfl (by rw [e0]; rfl)
            ·
              have ho2 := (Array.getElem?_eq_some_iff.1 ho).2
              simp only [List.getElem_toArray, List.getElem_cons_succ, List.getElem_cons_zero] at ho2
              subst ho2
              clear ho
              have e3 := D.old 3 (by kernel_rfl)
              exact wk.does_move rfl (by rw [e3]; rfl)
            ·
              have ho2 := (Array.getElem?_eq_some_iff.1 ho).2
              simp only [List.getElem_toArray, List.getElem_cons_succ, List.getElem_cons_zero] at ho2
              subst ho2
              clear ho
              have e22 := D.is { on := 7, ground := .data } (by simp) rfl rfl 22 rfl
              have e23 := D.is { on := 8, ground := .data } (by simp) rfl rfl 23 rfl
              exact wk.does_run (by simp only [execOp]; rw [e22, e23]; go_simp) rfl
            ·
              have ho2 := (Array.getElem?_eq_some_iff.1 ho).2
              simp only [List.getElem_toArray, List.getElem_cons_succ, List.getElem_cons_zero] at ho2
              subst ho2
              clear ho
              have e24 := D.is { on := 9, ground := .data } (by simp) rfl rfl 24 rfl
              exact wk.does_load1 rfl e24 ((((Below.refl _ _).drew.trans hb4 : Below wr.heap.size wr w4).cell (p := ⟨_, _, none⟩) hb1).trans hc1) Try.underlying23 rfl rfl
            ·
              have ho2 := (Array.getElem?_eq_some_iff.1 ho).2
              simp only [List.getElem_toArray, List.getElem_cons_succ, List.getElem_cons_zero] at ho2
              subst ho2
              clear ho
              have e25 := D.is { on := 10, ground := .data } (by simp) rfl rfl 25 rfl
              exact wk.does_run (by simp only [execOp, resolve, List.map_toArray, List.map_cons, List.map_nil]; rw [e25]; go_simp) rfl
            ·
              have ho2 := (Array.getElem?_eq_some_iff.1 ho).2
              simp only [List.getElem_toArray, List.getElem_cons_succ, List.getElem_cons_zero] at ho2
              subst ho2
              clear ho
              have e0 := D.old 0 (by kernel_rfl)
              exact wk.does_move rfl (by rw [e0]; rfl)
            ·
              have ho2 := (Array.getElem?_eq_some_iff.1 ho).2
              simp only [List.getElem_toArray, List.getElem_cons_succ, List.getElem_cons_zero] at ho2
              subst ho2
              clear ho
              have e27 := D.is { on := 12, ground := .data } (by simp) rfl rfl 27 rfl
              exact wk.does_run (by simp only [execOp]; rw [e27, D.con]; go_simp) rfl
            ·
              have ho2 := (Array.getElem?_eq_some_iff.1 ho).2
              simp only [List.getElem_toArray, List.getElem_cons_succ, List.getElem_cons_zero] at ho2
              subst ho2
              clear ho
              have e28 := D.is { on := 13, ground := .data } (by simp) rfl rfl 28 rfl
              exact wk.does_load1 rfl e28 ((((Below.refl _ _).drew.trans hb4 : Below wr.heap.size wr w4).cell (p := ⟨_, _, none⟩) hb0).trans hcl0) Try.underlying23 rfl rfl
            ·
              have ho2 := (Array.getElem?_eq_some_iff.1 ho).2
              simp only [List.getElem_toArray, List.getElem_cons_succ, List.getElem_cons_zero] at ho2
              subst ho2
              clear ho
              have e29 := D.is { on := 14, ground := .data } (by simp) rfl rfl 29 rfl
              exact wk.does_run (by simp only [execOp, resolve, List.map_toArray, List.map_cons, List.map_nil]; rw [e29]; go_simp) rfl
            ·
              have ho2 := (Array.getElem?_eq_some_iff.1 ho).2
              simp only [List.getElem_toArray, List.getElem_cons_succ, List.getElem_cons_zero] at ho2
              subst ho2
              clear ho
              have e26 := D.is { on := 11, ground := .data } (by simp) rfl rfl 26 rfl
              have e30 := D.is { on := 15, ground := .data } (by simp) rfl rfl 30 rfl
              exact wk.does_bin rfl (by rw [e26, e30]; go_simp) rfl
            ·
              have ho2 := (Array.getElem?_eq_some_iff.1 ho).2
              simp only [List.getElem_toArray, List.getElem_cons_succ, List.getElem_cons_zero] at ho2
              subst ho2
              clear ho
              have e21 := D.is { on := 6, ground := .data } (by simp) rfl rfl 21 rfl
              have e31 := D.is { on := 16, ground := .data } (by simp) rfl rfl 31 rfl
              exact wk.does_pick rfl e21 e31
          case hdone =>
            intro vals w4 hb4 hv
            have h17 := hv 17 (by omega)
            clear hv
            replace h17 : vals 17 = (.bool true) := h17
            simp only [List.drop_succ_cons, List.drop_zero, wpList, wk.setL, List.setIfInBounds_toArray, List.set_cons_zero, List.set_cons_succ, Nat.zero_add, Nat.reduceAdd, h17]
            generalize vals 0 = x0
            generalize vals 1 = x1
            generalize vals 2 = x2
            generalize vals 3 = x3
            generalize vals 4 = x4
            generalize vals 5 = x5
            generalize vals 6 = x6
            generalize vals 7 = x7
            generalize vals 8 = x8
            generalize vals 9 = x9
            generalize vals 10 = x10
            generalize vals 11 = x11
            generalize vals 12 = x12
            generalize vals 13 = x13
            generalize vals 14 = x14
            generalize vals 15 = x15
            generalize vals 16 = x16
            have hb5 := ((Below.refl _ _).drew.trans hb4 : Below wr.heap.size wr w4)
            obtain rfl : R = (([], []), false, 1) := by rw [← HR.out]; exact ofF_not (okL_bad HL1.out HOKV.out)
            have hF := (HF.out.below hb5)
            have hc0 := hF.c0
            have hc1 := hF.c1
            have hc2 := hF.c2
            have hc3 := hF.c3
            have hf0 := hF.f0 0
            have hf1 := hF.f0 1
            have hf2 := hF.f0 2
            have hf3 := hF.f0 3
            have HF2 := Lib.hid (hF.set (.slice none 0 0) (.slice none 0 0) (.bool false) (.int .i64 1))
            have HB2 := Lib.hid (below_set4 (HBEL.out.trans (hb5.mono (by have := HF.out.lt; omega))) (Nat.le_refl G) (.slice none 0 0) (.slice none 0 0) (.bool false) (.int .i64 1))
            clear hF hb4 hb5
            go_wp2_with fail
            exact bodyPost_ret (v := .agg #[.slice none 0 0, .slice none 0 0, .bool false, .int .i64 1]) (res_f (fn := Try.f11) rfl _ _ G _ _ _ _ rfl HF2.out) rfl ⟨_, rfl, isF_nil _ _ _ _, by rw [HG.out]; exact HB2.out⟩
    · obtain rfl : k = n := by omega
      clear hlt hkn
      by_cases hn0 : k = 0
      · subst hn0
        obtain rfl : R = (([], []), false, 1) := by
          rw [← HR.out, List.eq_nil_of_length_eq_zero HLL.out]; rfl
        have hF := HF.out
        have hc0 := hF.c0
        have hc1 := hF.c1
        have hc2 := hF.c2
        have hc3 := hF.c3
        have hf0 := hF.f0 0
        have hf1 := hF.f0 1
        have hf2 := hF.f0 2
        have hf3 := hF.f0 3
        have HF2 := Lib.hid (hF.set (.slice none 0 0) (.slice none 0 0) (.bool false) (.int .i64 1))
        have HB2 := Lib.hid (below_set4 hbel (Nat.le_refl G) (.slice none 0 0) (.slice none 0 0) (.bool false) (.int .i64 1))
        clear hF hbel
        go_wp2_with fail
        exact bodyPost_ret (v := .agg #[.slice none 0 0, .slice none 0 0, .bool false, .int .i64 1]) (res_f (fn := Try.f11) rfl _ _ G _ _ _ _ rfl HF2.out) rfl ⟨_, rfl, isF_nil _ _ _ _, by rw [HG.out]; exact HB2.out⟩
      · obtain ⟨w1, hw1⟩ : ∃ u, u = wr := ⟨_, rfl⟩
        subst hw1
        have hk0 : 0 < k := by omega
        have hk0' : ¬ ((k : Int) = 0) := by omega
        have hk0b : ((k : Int) == 0) = false := by simpa using hk0'
        have hk00 : (0 : Int) < (k : Int) := by omega
        have hok := okL_all HLL.out hk0 HALL.out
        have HOK := Lib.hid hok
        obtain rfl : R = (boxL L, true, 0) := by rw [← HR.out]; exact ofF_ok hok
        have HBX := Lib.hid (boxL_box hok)
        have hbb : Below w.heap.size w w1 := by rw [HG.out]; exact hbel
        obtain ⟨b, o, A0, n0, c0, l0, rfl, hb0, hcl0, hI0, hL0⟩ := isVV_get (isVV_below H.out hbb) (k := 0) (by omega)
        rw [Nat.add_zero] at hcl0
        have hhd := headD_of hL0
        have HHD := Lib.hid hhd
        have HN0 : Hid (l0.length = n0) := hI0.1
        have HI0 := Lib.hid hI0
        have hm0 := hI0.2.2.1
        have hnc0 := hI0.2.1
        have hn32 : n0 ≤ 32 := by
          have := HBX.out.lo.le
          have h2 : (boxL L).1.length = n0 := by unfold boxL; rw [List.length_map, List.length_range, hhd, HN0.out]
          omega
        have HX1 : Hid ((boxL L).1 = (List.range n0).map (colLo L)) := by show _ = _; unfold boxL; rw [hhd, HN0.out]
        have HX2 : Hid ((boxL L).2 = (List.range n0).map (colHi L)) := by show _ = _; unfold boxL; rw [hhd, HN0.out]
        have HRW := Lib.hid (Rows.new w1)
        have HBN := Lib.hid (below_new w1 (.cells #[.slice none 0 0, .slice none 0 0] 25))
        have hGw := HF.out.lt
        have HB1 := Lib.hid (Below.trans hbel (HBN.out.mono (by omega)))
        have HF1 := Lib.hid (HF.out.below HBN.out)
        have HVV := Lib.hid (fun w' (hb : Below w1.heap.size w1 w') => isVV_below (isVV_below H.out hbb) hb)
        have HC0 := Lib.hid (fun w' (hb : Below w1.heap.size w1 w') => ((hb.cell (p := ⟨b, o, none⟩) hb0).trans hcl0 : w'.cell? ⟨b, o, none⟩ = some (.slice A0 n0 c0)))
        have HI1 := Lib.hid (fun w' (hb : Below w1.heap.size w1 w') => isI_below hI0 hb)
        clear hok hI0 hL0 hhd hbel hbb
        go_wp2_with fail
        clear hcl0
        generalize hS : w1.heap.size = S at *
        have HS := Lib.hid hS
        clear hS
        go_loopg [5] n0 (fun g x w2 => ∃ (m : Nat) (va vb : Value), m + g = n0 ∧ x = .int .i64 (m : Int) ∧ Rows w2 S va vb m m (iv ((boxL L).1.take m)) (iv ((boxL L).2.take m)) ∧ FourX w2 G (.slice none 0 0) (.slice none 0 0) (.bool false) (.int .i64 0) ∧ Below S w1 w2 ∧ Below G w w2)
        case atStart => exact ⟨0, _, _, by omega, rfl, HRW.out, HF1.out, HBN.out, HB1.out⟩
        case round =>
          obtain ⟨w2, hw2⟩ : ∃ u, u = wr := ⟨_, rfl⟩
          subst hw2
          obtain ⟨m, va, vb, hmk, rfl, hrw, hF, hbS, hbG⟩ := hrel
          obtain ⟨gm, hgm⟩ : ∃ u, u = gk := ⟨_, rfl⟩
          subst hgm
          have HMK := Lib.hid hmk
          have HRW := Lib.hid hrw
          have HF := Lib.hid hF
          have HBS := Lib.hid hbS
          have HBG := Lib.hid hbG
          have hc00 := HC0.out w2 hbS
          have hmn : m ≤ n0 := by omega
          clear hmk hrw hF hbG
          by_cases hlt : m < n0
          · obtain ⟨bb, oo, rfl, hd1, hbb1⟩ := isI_get (HI1.out w2 hbS) hlt
            have hlt0 : (m : Int) < (n0 : Int) := by omega
            have HS1 : Hid ((boxL L).1.take (m + 1) = (boxL L).1.take m ++ [colLo L m]) := by show _ = _; rw [HX1.out]; exact map_snoc' _ _ hlt
            have HS2 : Hid ((boxL L).2.take (m + 1) = (boxL L).2.take m ++ [colHi L m]) := by show _ = _; rw [HX2.out]; exact map_snoc' _ _ hlt
            have HCL : Hid (colLo L m = L.foldl (fun s l => min s (at' l m)) (at' l0 m)) := by show _ = _; unfold colLo; rw [HHD.out]
            have HCH : Hid (colHi L m = L.foldl (fun s l => max s (at' l m)) (at' l0 m)) := by show _ = _; unfold colHi; rw [HHD.out]
            have HVV2 := Lib.hid (HVV.out w2 hbS)
            clear hbS
            go_wp2_with fail
            go_loopg [6, 7, 8] k (fun g a b x w3 => ∃ j : Nat, j + g = k ∧ a = .int .i64 ((L.take j).foldl (fun s l => min s (at' l m)) (at' l0 m)) ∧ b = .int .i64 ((L.take j).foldl (fun s l => max s (at' l m)) (at' l0 m)) ∧ x = .int .i64 (j : Int) ∧ w3 = w2)
            case atStart => exact ⟨0, by omega, rfl, rfl, rfl, rfl⟩
            case round =>
              obtain ⟨j, hj, rfl, rfl, rfl, hw3⟩ := hrel
              subst hw3
              have HJ := Lib.hid hj
              have hjk : j ≤ k := by omega
              clear hj
              by_cases hjlt : j < k
              · obtain ⟨b', o', A1, n1, c1, l1, e1, hb1, hc1, hI1, hL1⟩ := isVV_get HVV2.out hjlt
                cases e1
                obtain rfl : n1 = n0 := by rw [← hI1.1, okL_row HOK.out hL1, HHD.out, HN0.out]
                obtain ⟨b2, o2, rfl, hd2, hb2⟩ := isI_get hI1 hlt
                have hjlt0 : (j : Int) < (k : Int) := by omega
                have HM1 := Lib.hid (colLo_snoc L m hL1 (at' l0 m))
                have HM2 := Lib.hid (colHi_snoc L m hL1 (at' l0 m))
                generalize (L.take j).foldl (fun s l => min s (at' l m)) (at' l0 m) = x1 at *
                generalize (L.take j).foldl (fun s l => max s (at' l m)) (at' l0 m) = x2 at *
                generalize at' l1 m = y at *
                have hm1' := hI1.2.2.1
                have hnc1 := hI1.2.1
                clear hI1 hL1
                go_wp2_with fail
                go_roundg (gk - 1)
                case measure => have := HJ.out; omega
                case rel => exact ⟨j + 1, by have := HJ.out; omega, by rw [HM1.out], by rw [HM2.out], by go_num, rfl⟩
              · obtain rfl : j = k := by omega
                rw [List.take_of_length_le (Nat.le_of_eq HLL.out), ← HCL.out, ← HCH.out]
                generalize hq1 : colLo L m = z1 at *
                generalize hq2 : colHi L m = z2 at *
                have hc0 := HRW.out.two.two.c0
                have hc1 := HRW.out.two.two.c1
                go_wp2_with (at_builtin; refine wpList_append_own_at _ rfl _ _ 23 rfl (S + 1) 3 i0 (.int .i64 0) 1 8 Try.underlying23 hi hz0 hz1 hz2 rfl (by decide) _ _ _ rfl (HRW.out.a.alloc _) ⟨_, 0, none⟩ 1 1 [.int .i64 z1] rfl rfl ?p51 ?p52 ?p53 ?p54 ?p55 ?_)
                try (case p51 => exact cell_one_new _ _ _)
                case p52 => simp [Value.oneCell']
                case p53 => unfold maxLen; omega
                case p54 => omega
                case p55 => have := (Array.getElem?_eq_some_iff.1 HRW.out.two).1; first | (simp only [size_new]; omega) | omega
                intro v5 w5 hown hgrow _ hat
                obtain ⟨AA5, nn5, cc5, rfl⟩ := own_slice hown
                obtain ⟨hT, hR, hb⟩ := HRW.out.grow0 _ hown hgrow hat
                clear hc0 hc1 hown hgrow hat
                have hc0 := hT.two.c0
                have hc1 := hT.two.c1
                have hf0 := hT.f0 0
                have hf1 := hT.f0 1
                have hd0 := hR.two.two.c0
                have hd1 := hR.two.two.c1
                have HRW5 := Lib.hid hR
                have HB5 := Lib.hid hb
                clear hT hR hb
                skip
                go_wp2_with (at_builtin; refine wpList_append_own_at _ rfl _ _ 23 rfl (S + 1) 3 i0 (.int .i64 0) 1 8 Try.underlying23 hi hz0 hz1 hz2 rfl (by decide) _ _ _ rfl (HRW5.out.b.alloc _) ⟨_, 0, none⟩ 1 1 [.int .i64 z2] rfl rfl ?p61 ?p62 ?p63 ?p64 ?p65 ?_)
                try (case p61 => exact fun j u hj => by have h := cell_one_new (w5.setCell ⟨S, 0, none⟩ (.slice AA5 nn5 cc5)) (.int .i64 z2) 3 j u hj; rw [set1_size] at h; exact h)
                case p62 => simp [Value.oneCell']
                case p63 => unfold maxLen; omega
                case p64 => omega
                case p65 => have := (Array.getElem?_eq_some_iff.1 HRW5.out.two).1; first | (simp only [size_new]; omega) | omega
                intro v6 w6 hown hgrow _ hat
                obtain ⟨AA6, nn6, cc6, rfl⟩ := own_slice hown
                obtain ⟨hT, hR, hb⟩ := HRW5.out.grow1 _ hown hgrow (by rw [set1_size]; exact hat)
                clear hc0 hc1 hown hgrow hat
                have hc0 := hT.two.c0
                have hc1 := hT.two.c1
                have hf0 := hT.f0 0
                have hf1 := hT.f0 1
                have hd0 := hR.two.two.c0
                have hd1 := hR.two.two.c1
                have HRW6 := Lib.hid hR
                have HB6 := Lib.hid hb
                clear hT hR hb
                go_wp2_with fail
                go_roundg (gm - 1)
                case measure => have := HMK.out; omega
                case rel =>
                  refine ⟨m + 1, .slice AA5 nn5 cc5, .slice AA6 nn6 cc6, by have := HMK.out; omega, by go_num, ?_, HF.out.belowB (HB5.out.trans HB6.out) hGw, HBS.out.trans (HB5.out.trans HB6.out), HBG.out.trans ((HB5.out.trans HB6.out).mono (by omega))⟩
                  rw [HS1.out, HS2.out]
                  unfold iv
                  rw [List.map_append, List.map_append, List.map_take, List.map_take]
                  have hh := HRW6.out
                  unfold iv at hh
                  exact hh
          · obtain rfl : m = n0 := by omega
            have hl1 : (boxL L).1.length = m := by rw [HX1.out]; simp
            have hl2 : (boxL L).2.length = m := by rw [HX2.out]; simp
            have hrw := HRW.out
            rw [List.take_of_length_le (Nat.le_of_eq hl1), List.take_of_length_le (Nat.le_of_eq hl2)] at hrw
            obtain ⟨Aa, ca, Ab, cb, rfl, rfl, hIF⟩ := Rows.isF (lo := G) (g := G) (p := boxL L) hrw (vec_bd HBX.out.lo) (vec_bd HBX.out.hi) (by omega) hGw
            have hc4 := hrw.two.two.c0
            have hc5 := hrw.two.two.c1
            have hF := HF.out
            have hc0 := hF.c0
            have hc1 := hF.c1
            have hc2 := hF.c2
            have hc3 := hF.c3
            have hf0 := hF.f0 0
            have hf1 := hF.f0 1
            have hf2 := hF.f0 2
            have hf3 := hF.f0 3
            have HF2 := Lib.hid (hF.set (.slice Aa m ca) (.slice Ab m cb) (.bool true) (.int .i64 0))
            have HB2 := Lib.hid (below_set4 HBG.out (Nat.le_refl G) (.slice Aa m ca) (.slice Ab m cb) (.bool true) (.int .i64 0))
            have HIF := Lib.hid (hIF (.slice Aa m ca) (.slice Ab m cb) (.bool true) (.int .i64 0))
            clear hF hrw hIF hbS hl1 hl2
            go_wp2_with fail
            exact bodyPost_ret (v := .agg #[.slice Aa m ca, .slice Ab m cb, .bool true, .int .i64 0]) (res_f (fn := Try.f11) rfl _ _ G _ _ _ _ rfl HF2.out) rfl ⟨_, rfl, by rw [HG.out]; exact HIF.out, by rw [HG.out]; exact HB2.out⟩
end Go.Proofs.Ytmnpmjioahnjoaa.bk
/- The reference's Valid, alike, asked. -/
namespace Go.Proofs.Ytmnpmjioahnjoaa.bk

open Go.ChangeShapes Go.WideShapes Go.ChangeAt Go.RowKit

open Go.Proofs.Ytmnpmjioahnjoaa.bq Go.Proofs.Ytmnpmjioahnjoaa.vk Go.Proofs.Ytmnpmjioahnjoaa.wk

set_option linter.unusedVariables false
set_option maxRecDepth 100000 in
set_option maxHeartbeats 4000000 in
theorem refvalid_calls (v : Value) (p : Pair) (w : World) (h : IsX w v p) :
    Calls Try.prog 16 #[v] w fun e w' => e = .returned (.bool (bvalid p)) ∧ Below w.heap.size w w' := by
  obtain ⟨A, n, c, A', n', c', rfl, hi, hi'⟩ := h
  have HB := Lib.hid (below_new w (.cells #[.slice A n c, .slice A' n' c'] 25))
  have HT := Lib.hid (TwoX.new w (.slice A n c) (.slice A' n' c'))
  have HI := Lib.hid (isI_below hi HB.out)
  have HI' := Lib.hid (isI_below hi' HB.out)
  have hm := hi.2.2.1
  have hm' := hi'.2.2.1
  have hnc := hi.2.1
  have hnc' := hi'.2.1
  have HL := Lib.hid hi.1
  have HL' := Lib.hid hi'.1
  obtain ⟨R, hR⟩ : ∃ R, bvalid p = R := ⟨_, rfl⟩
  rw [hR]
  have HR := Lib.hid hR
  have hc0 := HT.out.two.c0
  have hc1 := HT.out.two.c1
  clear hi hi' hR
  go_enter Try.func16, Try.ntmps16
  go_wp2_with fail
  refine (rvector_calls A n c p.1 _ HI.out).mono ?_
  rintro e w' ⟨rfl, rfl⟩
  cases hv1 : vq.valid p.1
  · have hf : R = false := by rw [← HR.out]; simp [bvalid, hv1]
    subst hf
    go_wp2_with fail
    go_ret
    exact ⟨rfl, HB.out⟩
  · go_wp2_with fail
    refine (rvector_calls A' n' c' p.2 _ HI'.out).mono ?_
    rintro e w' ⟨rfl, rfl⟩
    cases hv2 : vq.valid p.2
    · have hf : R = false := by rw [← HR.out]; simp [bvalid, hv2]
      subst hf
      go_wp2_with fail
      go_ret
      exact ⟨rfl, HB.out⟩
    · by_cases hnn : n ≠ n'
      · have hf : R = false := by
          rw [← HR.out]
          have : ¬ p.1.length = p.2.length := by rw [HL.out, HL'.out]; exact hnn
          simp [bvalid, this]
        subst hf
        have hnn' : ¬ ((n : Int) = (n' : Int)) := by omega
        go_wp2_with fail
        go_ret
        exact ⟨rfl, HB.out⟩
      · obtain rfl : n = n' := by omega
        have HE : Hid (R = le p.1 p.2) := by
          show _ = _
          rw [← HR.out]
          have : p.1.length = p.2.length := by rw [HL.out, HL'.out]
          simp [bvalid, hv1, hv2, this]
        clear hnn hv1 hv2 HR
        go_wp2_with fail
        go_loopg [3] n (fun g x wr => ∃ (k q : Nat), k + g = n ∧ x = .int .i64 (k : Int) ∧ wr = (w.alloc (.cells #[.slice A n c, .slice A' n c'] 25)).drewN q ∧ ∀ i, i < k → at' p.1 i ≤ at' p.2 i)
        case atStart => exact ⟨0, 0, by omega, rfl, rfl, fun i hi => by omega⟩
        case round =>
          obtain ⟨k, q, hk, rfl, rfl, hr⟩ := hrel
          have HK := Lib.hid hk
          have HRR := Lib.hid hr
          have hkn : k ≤ n := by omega
          clear hk hr
          by_cases hlt : k < n
          · obtain ⟨b1, o1, rfl, hd1, hb1⟩ := isI_get HI.out hlt
            obtain ⟨b2, o2, rfl, hd2, hb2⟩ := isI_get HI'.out hlt
            have hlt0 : (k : Int) < (n : Int) := by omega
            by_cases hle : at' p.1 k ≤ at' p.2 k
            · have HLE := Lib.hid hle
              have hgt : ¬ at' p.2 k < at' p.1 k := by omega
              generalize hx : at' p.1 k = x at *
              generalize hy : at' p.2 k = y at *
              have HX := Lib.hid hx
              have HY := Lib.hid hy
              clear hx hy
              go_wp2_with fail
              go_quiet (fail)
              go_wp2_with fail
              go_roundg (gk - 1)
              case measure => have := HK.out; omega
              case rel =>
                refine ⟨k + 1, _, by have := HK.out; omega, by go_num, by first | rfl | exact dr_add _ _ _, fun i hi => ?_⟩
                by_cases hik : i = k
                · subst hik; rw [HX.out, HY.out]; exact HLE.out
                · exact HRR.out i (by omega)
            · have hf : R = false := by rw [HE.out]; exact le_not (by rw [HL.out]; exact hlt) (by omega)
              subst hf
              have hgt : at' p.2 k < at' p.1 k := by omega
              generalize hx : at' p.1 k = x at *
              generalize hy : at' p.2 k = y at *
              clear hx hy
              go_wp2_with fail
              go_quiet (fail)
              go_wp2_with fail
              go_ret
              exact ⟨rfl, by first | exact below_dr HB.out _ | exact below_dr (below_dr HB.out _) _⟩
          · obtain rfl : k = n := by omega
            have ht : R = true := by rw [HE.out]; exact le_iff.2 fun i hi => HRR.out i (by rw [HL.out] at hi; exact hi)
            subst ht
            go_wp2_with fail
            go_ret
            exact ⟨rfl, by first | exact below_dr HB.out _ | exact below_dr (below_dr HB.out _) _⟩
set_option maxRecDepth 100000 in
set_option maxHeartbeats 4000000 in
theorem refalike_calls (v u : Value) (p q : Pair) (w : World) (h : IsX w v p) (h2 : IsX w u q) :
    Calls Try.prog 37 #[v, u] w fun e w' => e = .returned (.bool (balike p q)) ∧ Below w.heap.size w w' := by
  obtain ⟨A, n, c, A', n', c', rfl, hi, hi'⟩ := h
  obtain ⟨B, m, d, B', m', d', rfl, hj, hj'⟩ := h2
  have HB := Lib.hid (Below.andThen (below_new w (.cells #[.slice A n c, .slice A' n' c'] 25)) (below_new _ (.cells #[.slice B m d, .slice B' m' d'] 25)))
  have HT := Lib.hid ((TwoX.new w (.slice A n c) (.slice A' n' c')).below (below_new _ (.cells #[.slice B m d, .slice B' m' d'] 25)))
  have HT2 := Lib.hid (TwoX.new (w.alloc (.cells #[.slice A n c, .slice A' n' c'] 25)) (.slice B m d) (.slice B' m' d'))
  rw [size_new] at HT2
  have HX : Hid (IsX _ (.agg #[.slice A n c, .slice A' n' c']) p) := IsX.below ⟨_, _, _, _, _, _, rfl, hi, hi'⟩ HB.out
  have HY : Hid (IsX _ (.agg #[.slice B m d, .slice B' m' d']) q) := IsX.below ⟨_, _, _, _, _, _, rfl, hj, hj'⟩ HB.out
  have HL := Lib.hid hi.1
  have HL' := Lib.hid hj.1
  have hc0 := HT.out.two.c0
  have hc1 := HT.out.two.c1
  have hc2 := HT2.out.two.c0
  have hc3 := HT2.out.two.c1
  clear hi hi' hj hj'
  go_enter Try.func37, Try.ntmps37
  go_wp2_with fail
  clear hc0 hc1 hc2 hc3
  refine (refvalid_calls _ p _ HX.out).mono ?_
  rintro e w1 ⟨rfl, hb⟩
  replace HT := Lib.hid (HT.out.below hb)
  replace HT2 := Lib.hid (HT2.out.below hb)
  replace HY := Lib.hid (HY.out.below hb)
  replace HB := Lib.hid (Below.andThen HB.out hb)
  clear hb
  have hc0 := HT.out.two.c0
  have hc1 := HT.out.two.c1
  have hc2 := HT2.out.two.c0
  have hc3 := HT2.out.two.c1
  cases hv1 : bvalid p
  · have hf : balike p q = false := by simp [balike, hv1]
    go_wp2_with fail
    go_ret
    exact ⟨by rw [hf]; rfl, HB.out⟩
  · go_wp2_with fail
    clear hc0 hc1 hc2 hc3
    refine (refvalid_calls _ q _ HY.out).mono ?_
    rintro e w2 ⟨rfl, hb⟩
    replace HT := Lib.hid (HT.out.below hb)
    replace HT2 := Lib.hid (HT2.out.below hb)
    replace HB := Lib.hid (Below.andThen HB.out hb)
    clear hb
    have hc0 := HT.out.two.c0
    have hc1 := HT.out.two.c1
    have hc2 := HT2.out.two.c0
    have hc3 := HT2.out.two.c1
    cases hv2 : bvalid q
    · have hf : balike p q = false := by simp [balike, hv2]
      go_wp2_with fail
      go_ret
      exact ⟨by rw [hf]; rfl, HB.out⟩
    · by_cases hnm : n = m
      · subst hnm
        have hf : balike p q = true := by
          have : p.1.length = q.1.length := by rw [HL.out, HL'.out]
          simp [balike, hv1, hv2, this]
        go_wp2_with fail
        go_ret
        exact ⟨by rw [hf]; rfl, HB.out⟩
      · have hf : balike p q = false := by
          have : ¬ p.1.length = q.1.length := by rw [HL.out, HL'.out]; exact hnm
          simp [balike, this]
        have hnm' : ¬ ((n : Int) = (m : Int)) := by omega
        have hnmb : ((n : Int) == (m : Int)) = false := by simpa using hnm'
        go_wp2_with fail
        go_ret
        exact ⟨by rw [hf]; rfl, HB.out⟩
end Go.Proofs.Ytmnpmjioahnjoaa.bk
/- The reference's asked, Has, Inside. -/
namespace Go.Proofs.Ytmnpmjioahnjoaa.bk

open Go.ChangeShapes Go.WideShapes Go.ChangeAt Go.RowKit

open Go.Proofs.Ytmnpmjioahnjoaa.bq Go.Proofs.Ytmnpmjioahnjoaa.vk Go.Proofs.Ytmnpmjioahnjoaa.wk

set_option linter.unusedVariables false
theorem askedv (m : Int) (p : Pair) (l : List Int) : asked m p (l, l) = (metricB m && (bvalid p && (vq.valid l && decide (l.length = p.1.length)))) := by
  rw [Bool.eq_iff_iff, asked_iff]
  simp only [Bool.and_eq_true, decide_eq_true_eq, bvalid_iff, vq.valid_iff]
  have : metricB m = true ↔ m = 1 ∨ m = 2 ∨ m = 3 := metric_iff
  rw [this]
  exact ⟨fun ⟨a, b, c, d⟩ => ⟨a, c, d, b.symm⟩, fun ⟨a, c, d, b⟩ => ⟨a, b.symm, c, d⟩⟩
set_option maxRecDepth 100000 in
set_option maxHeartbeats 4000000 in
theorem refasked_calls (m : Int) (v : Value) (p : Pair) (A3 : Option Addr) (n3 c3 : Nat) (l : List Int) (w : World) (h : IsX w v p) (h2 : wo.IsI w A3 n3 c3 l) :
    Calls Try.prog 46 #[.int .i64 m, v, .slice A3 n3 c3] w fun e w' => e = .returned (.bool (asked m p (l, l))) ∧ Below w.heap.size w w' := by
  obtain ⟨A, n, c, A', n', c', rfl, hi, hi'⟩ := h
  have HB := Lib.hid (below_new w (.cells #[.slice A n c, .slice A' n' c'] 25))
  have HT := Lib.hid (TwoX.new w (.slice A n c) (.slice A' n' c'))
  have HX : Hid (IsX _ (.agg #[.slice A n c, .slice A' n' c']) p) := IsX.below ⟨_, _, _, _, _, _, rfl, hi, hi'⟩ HB.out
  have HI := Lib.hid (isI_below h2 HB.out)
  have HL := Lib.hid hi.1
  have HL3 := Lib.hid h2.1
  have hc0 := HT.out.two.c0
  have hc1 := HT.out.two.c1
  clear hi hi' h2
  go_enter Try.func46, Try.ntmps46
  go_wp2_with fail
  refine (rmetric_calls m _).mono ?_
  rintro e w' ⟨rfl, rfl⟩
  cases hm : metricB m
  · have hf : asked m p (l, l) = false := by rw [askedv, hm]; rfl
    go_wp2_with fail
    go_ret
    exact ⟨by rw [hf]; rfl, HB.out⟩
  · go_wp2_with fail
    clear hc0 hc1
    refine (refvalid_calls _ p _ HX.out).mono ?_
    rintro e w1 ⟨rfl, hb⟩
    replace HT := Lib.hid (HT.out.below hb)
    replace HI := Lib.hid (isI_below HI.out hb)
    replace HB := Lib.hid (Below.andThen HB.out hb)
    clear hb
    have hc0 := HT.out.two.c0
    have hc1 := HT.out.two.c1
    cases hv1 : bvalid p
    · have hf : asked m p (l, l) = false := by rw [askedv, hm, hv1]; rfl
      go_wp2_with fail
      go_ret
      exact ⟨by rw [hf]; rfl, HB.out⟩
    · go_wp2_with fail
      refine (rvector_calls A3 n3 c3 l _ HI.out).mono ?_
      rintro e w' ⟨rfl, rfl⟩
      cases hv2 : vq.valid l
      · have hf : asked m p (l, l) = false := by rw [askedv, hm, hv1, hv2]; rfl
        go_wp2_with fail
        go_ret
        exact ⟨by rw [hf]; rfl, HB.out⟩
      · by_cases hnm : n3 = n
        · subst hnm
          have hf : asked m p (l, l) = true := by
            rw [askedv, hm, hv1, hv2]
            simp [HL.out, HL3.out]
          go_wp2_with fail
          go_ret
          exact ⟨by rw [hf]; rfl, HB.out⟩
        · have hf : asked m p (l, l) = false := by
            rw [askedv, hm, hv1, hv2]
            simp [HL.out, HL3.out, hnm]
          have hnm' : ¬ ((n3 : Int) = (n : Int)) := by omega
          have hnmb : ((n3 : Int) == (n : Int)) = false := by simpa using hnm'
          go_wp2_with fail
          go_ret
          exact ⟨by rw [hf]; rfl, HB.out⟩
end Go.Proofs.Ytmnpmjioahnjoaa.bk
/- The reference's Has, Inside. -/
namespace Go.Proofs.Ytmnpmjioahnjoaa.bk

open Go.ChangeShapes Go.WideShapes Go.ChangeAt Go.RowKit

open Go.Proofs.Ytmnpmjioahnjoaa.bq Go.Proofs.Ytmnpmjioahnjoaa.vk Go.Proofs.Ytmnpmjioahnjoaa.wk

set_option linter.unusedVariables false
theorem has_valid {p : Pair} {l : List Int} (h : bvalid p = false) : has p l = false := by
  cases hh : has p l
  · rfl
  · simp only [has, inside, Bool.and_eq_true, balike_iff] at hh
    rw [bvalid_iff.2 hh.1.1.2.2] at h
    cases h
set_option maxRecDepth 100000 in
set_option maxHeartbeats 4000000 in
theorem refhas_calls (v : Value) (p : Pair) (A3 : Option Addr) (n3 c3 : Nat) (l : List Int) (w : World) (h : IsX w v p) (h2 : wo.IsI w A3 n3 c3 l) :
    Calls Try.prog 30 #[v, .slice A3 n3 c3] w fun e w' => e = .returned (.bool (has p l)) ∧ Below w.heap.size w w' := by
  obtain ⟨A, n, c, A', n', c', rfl, hi, hi'⟩ := h
  have HB := Lib.hid (below_new w (.cells #[.slice A n c, .slice A' n' c'] 25))
  have HT := Lib.hid (TwoX.new w (.slice A n c) (.slice A' n' c'))
  have HX : Hid (IsX _ (.agg #[.slice A n c, .slice A' n' c']) p) := IsX.below ⟨_, _, _, _, _, _, rfl, hi, hi'⟩ HB.out
  have HI := Lib.hid (isI_below h2 HB.out)
  have HI1 := Lib.hid (isI_below hi HB.out)
  have HI2 := Lib.hid (isI_below hi' HB.out)
  have HL := Lib.hid hi.1
  have HL' := Lib.hid hi'.1
  have HL3 := Lib.hid h2.1
  have hm := hi.2.2.1
  have hm' := hi'.2.2.1
  have hnc := hi.2.1
  have hnc' := hi'.2.1
  have hm3 := h2.2.2.1
  have hnc3 := h2.2.1
  have hc0 := HT.out.two.c0
  have hc1 := HT.out.two.c1
  clear hi hi' h2
  go_enter Try.func30, Try.ntmps30
  go_wp2_with fail
  clear hc0 hc1
  refine (refvalid_calls _ p _ HX.out).mono ?_
  rintro e w1 ⟨rfl, hb⟩
  replace HT := Lib.hid (HT.out.below hb)
  replace HI := Lib.hid (isI_below HI.out hb)
  replace HI1 := Lib.hid (isI_below HI1.out hb)
  replace HI2 := Lib.hid (isI_below HI2.out hb)
  replace HB := Lib.hid (Below.andThen HB.out hb)
  clear hb
  have hc0 := HT.out.two.c0
  have hc1 := HT.out.two.c1
  cases hv1 : bvalid p
  · have hf := has_valid (l := l) hv1
    go_wp2_with fail
    go_ret
    exact ⟨by rw [hf]; rfl, HB.out⟩
  · have HP := Lib.hid (bvalid_iff.1 hv1)
    by_cases hnm : n3 ≠ n
    · have hf : has p l = false := by
        cases hh : has p l
        · rfl
        · have := ((has_iff HP.out).1 hh).1
          rw [HL.out, HL3.out] at this
          exact absurd this hnm
      have hnm' : ¬ ((n3 : Int) = (n : Int)) := by omega
      have hnmb : ((n3 : Int) == (n : Int)) = false := by simpa using hnm'
      go_wp2_with fail
      go_ret
      exact ⟨by rw [hf]; rfl, HB.out⟩
    · obtain rfl : n3 = n := by omega
      obtain rfl : n3 = n' := by rw [← HL.out, ← HL'.out]; exact HP.out.len
      have HN : Hid (has p l = true ↔ ∀ i, i < n3 → at' p.1 i ≤ at' l i ∧ at' l i ≤ at' p.2 i) := by
        show _ ↔ _
        rw [has_iff HP.out, HL.out, HL3.out]
        exact ⟨fun h => h.2, fun h => ⟨rfl, h⟩⟩
      obtain ⟨R, hR⟩ : ∃ R, has p l = R := ⟨_, rfl⟩
      rw [hR] at HN
      have HR := Lib.hid hR
      clear hnm hv1 hR
      go_wp2_with fail
      go_loopg [5] n3 (fun g x wr => ∃ (k q : Nat), k + g = n3 ∧ x = .int .i64 (k : Int) ∧ wr = w1.drewN q ∧ ∀ i, i < k → at' p.1 i ≤ at' l i ∧ at' l i ≤ at' p.2 i)
      case atStart => exact ⟨0, 0, by omega, rfl, rfl, fun i hi => by omega⟩
      case round =>
        obtain ⟨k, q, hk, rfl, rfl, hr⟩ := hrel
        have HK := Lib.hid hk
        have HRR := Lib.hid hr
        have hkn : k ≤ n3 := by omega
        clear hk hr
        by_cases hlt : k < n3
        · obtain ⟨b1, o1, rfl, hd1, hb1⟩ := isI_get HI1.out hlt
          obtain ⟨b2, o2, rfl, hd2, hb2⟩ := isI_get HI2.out hlt
          obtain ⟨b3, o3, rfl, hd3, hb3⟩ := isI_get HI.out hlt
          have hlt0 : (k : Int) < (n3 : Int) := by omega
          have HC : Hid (R = true → at' p.1 k ≤ at' l k ∧ at' l k ≤ at' p.2 k) := fun e => HN.out.1 e k hlt
          by_cases hle : at' l k < at' p.1 k
          · have hf : R = false := by
              cases R
              · rfl
              · have := HC.out rfl; omega
            generalize hx : at' p.1 k = x at *
            generalize hy : at' l k = y at *
            clear hx hy HC
            go_wp2_with fail
            go_quiet (fail)
            go_wp2_with fail
            go_ret
            exact ⟨by rw [HR.out, hf]; rfl, by first | exact below_dr HB.out _ | exact below_dr (below_dr HB.out _) _⟩
          · by_cases hle2 : at' p.2 k < at' l k
            · have hf : R = false := by
                cases R
                · rfl
                · have := HC.out rfl; omega
              generalize hx : at' p.1 k = x at *
              generalize hy : at' l k = y at *
              generalize hz : at' p.2 k = z at *
              clear hx hy hz HC
              go_wp2_with fail
              go_quiet (fail)
              go_wp2_with fail
              go_ret
              exact ⟨by rw [HR.out, hf]; rfl, by first | exact below_dr HB.out _ | exact below_dr (below_dr HB.out _) _⟩
            · have HLE : Hid (at' p.1 k ≤ at' l k ∧ at' l k ≤ at' p.2 k) := by show _ ∧ _; omega
              generalize hx : at' p.1 k = x at *
              generalize hy : at' l k = y at *
              generalize hz : at' p.2 k = z at *
              have HXX := Lib.hid hx
              have HYY := Lib.hid hy
              have HZZ := Lib.hid hz
              clear hx hy hz HC
              go_wp2_with fail
              go_quiet (fail)
              go_wp2_with fail
              go_roundg (gk - 1)
              case measure => have := HK.out; omega
              case rel =>
                refine ⟨k + 1, _, by have := HK.out; omega, by go_num, by first | rfl | exact dr_add _ _ _, fun i hi => ?_⟩
                by_cases hik : i = k
                · subst hik; rw [HXX.out, HYY.out, HZZ.out]; exact HLE.out
                · exact HRR.out i (by omega)
        · obtain rfl : k = n3 := by omega
          have ht : R = true := HN.out.2 HRR.out
          go_wp2_with fail
          go_ret
          exact ⟨by rw [HR.out, ht]; rfl, by first | exact below_dr HB.out _ | exact below_dr (below_dr HB.out _) _⟩
end Go.Proofs.Ytmnpmjioahnjoaa.bk
