/- BestCodes. -/
import Derived.Test.YtckipafciomklaaG15

namespace Go.Proofs.Ytckipafciomklaa.bestCodes

open Go.ChangeShapes Go.WideShapes Go.ChangeAt Go.RowKit

open Go.Proofs.Ytckipafciomklaa.bk Go.Proofs.Ytckipafciomklaa.bq Go.Proofs.Ytckipafciomklaa.vk Go.Proofs.Ytckipafciomklaa.wk

set_option linter.unusedVariables false
attribute [local go_sem] Oper.semAt_some
theorem decc {b : List UInt8} {A : Option Addr} {n c : Nat} {D : List (Int × Int × Int)} {r : Int} (k : Int) (w : World) (h : wo.IsB w A n c b) (hn : n ≤ 1300) (e : decR b k = (D, r)) : Calls Try.prog 31 #[.slice A n c, .int .i64 k] w fun e w' => ∃ A' n' c', e = .returned (.tuple #[.slice A' n' c', .int .i64 r]) ∧ IsH w' A' n' c' D ∧ Below w.heap.size w w' := by
  have h2 := decode_calls k w h hn
  rw [e] at h2
  exact h2
theorem rdecc {b : List UInt8} {A : Option Addr} {n c : Nat} {D : List (Int × Int × Int)} {r : Int} (k : Int) (w : World) (h : wo.IsB w A n c b) (hn : n ≤ 1300) (e : decR b k = (D, r)) : Calls Try.prog 32 #[.slice A n c, .int .i64 k] w fun e w' => ∃ A' n' c', e = .returned (.agg #[.slice A' n' c', .int .i64 r]) ∧ IsH w' A' n' c' D ∧ Below w.heap.size w w' := by
  have h2 := rdecode_calls k w h hn
  rw [e] at h2
  exact h2
set_option maxRecDepth 100000 in
set_option maxHeartbeats 16000000 in
theorem walk (w : World) {A1 A2 : Option Addr} {n1 c1 n2 c2 : Nat} {l : List (Int × Int × Int)} {k : Int} {b : List UInt8} (w0 : IsH w A1 n1 c1 l) (w1 : (Lit.int .i64 k).wf = true) (w2 : wo.IsB w A2 n2 c2 b) :
    Calls Try.prog 9 #[.slice A1 n1 c1, .int .i64 k, .slice A2 n2 c2] w fun e w' => e = .returned (.bool true) ∧ Below w.heap.size w w' := by
  have hnc1 := w0.2.1
  have hnm1 := w0.2.2.1
  have hnc2 := w2.2.1
  have hnm2 := w2.2.2.1
  have HA := Lib.hid w0
  have HC := Lib.hid w2
  have HB : Hid (Below w.heap.size w w) := Below.refl _ _
  have HN1 := Lib.hid w0.1
  have HWD := Lib.hid w0.2.2.2.2.1
  clear w0 w2
  go_enter Try.func9, Try.ntmps9
  by_cases h40 : (40 : Int) < (n1 : Int)
  ·
    go_wp2_with fail
    refine (san10_calls _).mono ?_
    rintro e w9 ⟨rfl, hb⟩
    replace HB := Lib.hid (HB.out.trans (hb.mono HB.out.size))
    clear hb
    go_wp2_with fail
    go_ret
    exact ⟨rfl, HB.out⟩
  · by_cases h600 : (600 : Int) < (n2 : Int)
    ·
      go_wp2_with fail
      refine (san10_calls _).mono ?_
      rintro e w9 ⟨rfl, hb⟩
      replace HB := Lib.hid (HB.out.trans (hb.mono HB.out.size))
      clear hb
      go_wp2_with fail
      go_ret
      exact ⟨rfl, HB.out⟩
    ·
      have HN4 : Hid (n1 ≤ 1000) := by show _ ≤ _; omega
      have hle := vq.encIs_length (nums l) (nums_bd HWD.out) (by rw [nums_length, HN1.out]; omega)
      rw [nums_length, HN1.out] at hle
      have HLE : Hid ((wp.encIs (nums l)).length ≤ 1300) := by show _ ≤ _; omega
      have HDE := Lib.hid (decR_enc k HWD.out (by rw [HN1.out]; omega))
      clear hle
      obtain ⟨⟨D1, r1⟩, hD⟩ : ∃ D, decR b k = D := ⟨_, rfl⟩
      have HD := Lib.hid hD
      clear hD
      go_wp2_with fail
      refine (decc k _ HC.out (by omega) HD.out).mono ?_
      rintro e w3 ⟨A3, n3, c3, rfl, hh, hb⟩
      replace HA := Lib.hid (HA.out.below hb)
      replace HC := Lib.hid (vk.isB_below HC.out hb)
      replace HB := Lib.hid (HB.out.trans (hb.mono HB.out.size))
      clear hb
      have HX := Lib.hid hh
      clear hh
      go_wp2_with fail
      refine (rdecc k _ HC.out (by omega) HD.out).mono ?_
      rintro e wD ⟨A4, n4, c4, rfl, hh, hb⟩
      replace HA := Lib.hid (HA.out.below hb)
      replace HX := Lib.hid (HX.out.below hb)
      replace HC := Lib.hid (vk.isB_below HC.out hb)
      replace HB := Lib.hid (HB.out.trans (hb.mono HB.out.size))
      clear hb
      have HW := Lib.hid hh
      clear hh
      have hb := below_new wD (.cells #[.slice A4 n4 c4, .int .i64 r1] 47)
      have HRD : Hid (RdC (wD.alloc (.cells #[.slice A4 n4 c4, .int .i64 r1] 47)) wD.heap.size (.slice A4 n4 c4) (.int .i64 r1)) := heap_alloc_new wD _
      replace HA := Lib.hid (HA.out.below hb)
      replace HX := Lib.hid (HX.out.below hb)
      replace HW := Lib.hid (HW.out.below hb)
      replace HB := Lib.hid (HB.out.trans (hb.mono HB.out.size))
      clear hb
      go_wp2_with fail
      generalize wD.alloc (.cells #[.slice A4 n4 c4, .int .i64 r1] 47) = wE at *
      refine (encode_calls _ HA.out HN4.out).mono ?_
      rintro e w5 ⟨A5, c5, rfl, hh, hb⟩
      replace HA := Lib.hid (HA.out.below hb)
      replace HX := Lib.hid (HX.out.below hb)
      replace HW := Lib.hid (HW.out.below hb)
      replace HRD := Lib.hid (HRD.out.below hb)
      replace HB := Lib.hid (HB.out.trans (hb.mono HB.out.size))
      clear hb
      have HE := Lib.hid hh
      clear hh
      cases hvl : vld l k with
      | true =>
        have HD2 : Hid (decR (wp.encIs (nums l)) k = (l, 0)) := by show _ = _; rw [HDE.out, hvl]; rfl
        go_wp2_with fail
        refine (decc k _ HE.out HLE.out HD2.out).mono ?_
        rintro e w6 ⟨A6, n6, c6, rfl, hh, hb⟩
        replace HA := Lib.hid (HA.out.below hb)
        replace HX := Lib.hid (HX.out.below hb)
        replace HW := Lib.hid (HW.out.below hb)
        replace HRD := Lib.hid (HRD.out.below hb)
        replace HB := Lib.hid (HB.out.trans (hb.mono HB.out.size))
        clear hb
        have HY := Lib.hid hh
        clear hh
        go_wp2_with fail
        refine (same_calls _ HY.out HA.out rfl).mono ?_
        rintro e w7 ⟨rfl, hb⟩
        replace HA := Lib.hid (HA.out.below hb)
        replace HX := Lib.hid (HX.out.below hb)
        replace HW := Lib.hid (HW.out.below hb)
        replace HRD := Lib.hid (HRD.out.below hb)
        replace HB := Lib.hid (HB.out.trans (hb.mono HB.out.size))
        clear hb
        go_wp2_with fail
        refine (rvalid_calls k _ HA.out).mono ?_
        rintro e w8 ⟨rfl, hb⟩
        rw [hvl]
        replace HA := Lib.hid (HA.out.below hb)
        replace HX := Lib.hid (HX.out.below hb)
        replace HW := Lib.hid (HW.out.below hb)
        replace HRD := Lib.hid (HRD.out.below hb)
        replace HB := Lib.hid (HB.out.trans (hb.mono HB.out.size))
        clear hb
        go_wp2_with fail
        refine wk.region_tailS 26 [.is (.bool true), .is (.bool true), .is (.int .i64 r1), .is (.pointer (some ⟨wD.heap.size, 1, none⟩)), .is (.int .i64 r1), .is (.bool true), .is (.bool true), .is (.bool true), .is (.slice A3 n3 c3), .is (.pointer (some ⟨wD.heap.size, 0, none⟩)), .is (.slice A4 n4 c4), .is (.bool true), .is (.bool true), .is (.bool true), .is (.slice A1 n1 c1), .st (SB (wp.encIs (nums l))) (fun u u2 x h hb => h.below hb), .is (.string ⟨(wp.encIs (nums l)).toArray⟩), .is (.slice A1 n1 c1), .st (SB (wp.encIs (nums l))) (fun u u2 x h hb => h.below hb), .is (.string ⟨(wp.encIs (nums l)).toArray⟩), .is (.bool true), .is (.bool true), .is (.bool true), .is (.bool true), .is (.bool true), .is (.bool true)] [some 56, some 57, some 58, some 59, some 60, some 61, some 62, some 63, some 64, some 65, some 66, some 67, some 68, some 69, some 70, some 71, some 72, some 73, some 74, some 75, some 76, some 77, some 78, some 79, some 80, some 6] (by kernel_rfl) (by kernel_rfl) (by kernel_rfl) (by kernel_rfl) [] (by kernel_rfl) (by intro p hp; cases hp) (by kernel_rfl) (by kernel_rfl) ?hstep ?hdone
        case hstep =>
          intro i o ho hi hns E w4 hb4 D
          have hi2 : i = 0 ∨ i = 1 ∨ i = 2 ∨ i = 3 ∨ i = 4 ∨ i = 5 ∨ i = 6 ∨ i = 7 ∨ i = 8 ∨ i = 9 ∨ i = 10 ∨ i = 11 ∨ i = 12 ∨ i = 13 ∨ i = 14 ∨ i = 15 ∨ i = 16 ∨ i = 17 ∨ i = 18 ∨ i = 19 ∨ i = 20 ∨ i = 21 ∨ i = 22 ∨ i = 23 ∨ i = 24 ∨ i = 25 := by omega
          clear hi
          rcases hi2 with rfl | rfl | rfl | rfl | rfl | rfl | rfl | rfl | rfl | rfl | rfl | rfl | rfl | rfl | rfl | rfl | rfl | rfl | rfl | rfl | rfl | rfl | rfl | rfl | rfl | rfl
          ·
            have ho2 := (Array.getElem?_eq_some_iff.1 ho).2
            simp only [List.getElem_toArray, List.getElem_cons_zero] at ho2
            subst ho2
            clear ho
            refine wk.does_fn (f := 10) (vs := #[]) rfl (D.fn _) (by simp []) (by go_simp) ?_
            refine (san10_calls _).mono ?_
            rintro e w7 ⟨rfl, hb7⟩
            exact ⟨_, rfl, hb7, rfl⟩
          ·
            have ho2 := (Array.getElem?_eq_some_iff.1 ho).2
            simp only [List.getElem_toArray, List.getElem_cons_succ, List.getElem_cons_zero] at ho2
            subst ho2
            clear ho
            have e56 := D.is { on := 0, ground := .data } (by simp) rfl rfl 56 rfl
            exact wk.does_move rfl e56
          ·
            have ho2 := (Array.getElem?_eq_some_iff.1 ho).2
            simp only [List.getElem_toArray, List.getElem_cons_succ, List.getElem_cons_zero] at ho2
            subst ho2
            clear ho
            have e8 := D.old 8 (by kernel_rfl)
            exact wk.does_move rfl (by rw [e8]; rfl)
          ·
            have ho2 := (Array.getElem?_eq_some_iff.1 ho).2
            simp only [List.getElem_toArray, List.getElem_cons_succ, List.getElem_cons_zero] at ho2
            subst ho2
            clear ho
            have e9 := D.old 9 (by kernel_rfl)
            exact wk.does_run (by simp only [execOp]; rw [show E (.tmp 9) = .pointer (some ⟨wD.heap.size, 0, none⟩) by rw [e9]; rfl]; go_simp) rfl
          ·
            have ho2 := (Array.getElem?_eq_some_iff.1 ho).2
            simp only [List.getElem_toArray, List.getElem_cons_succ, List.getElem_cons_zero] at ho2
            subst ho2
            clear ho
            have e59 := D.is { on := 3, ground := .data } (by simp) rfl rfl 59 rfl
            exact wk.does_load1 rfl e59 ((HRD.out.below ((Below.refl _ _).drew.trans hb4)).c1) Try.underlying43 rfl rfl
          ·
            have ho2 := (Array.getElem?_eq_some_iff.1 ho).2
            simp only [List.getElem_toArray, List.getElem_cons_succ, List.getElem_cons_zero] at ho2
            subst ho2
            clear ho
            have e58 := D.is { on := 2, ground := .data } (by simp) rfl rfl 58 rfl
            have e60 := D.is { on := 4, ground := .data } (by simp) rfl rfl 60 rfl
            exact wk.does_run (by simp only [execOp]; rw [show E (.tmp 58) = _ from e58, show E (.tmp 60) = _ from e60]; go_simp; try simp) rfl
          ·
            have ho2 := (Array.getElem?_eq_some_iff.1 ho).2
            simp only [List.getElem_toArray, List.getElem_cons_succ, List.getElem_cons_zero] at ho2
            subst ho2
            clear ho
            have e57 := D.is { on := 1, ground := .data } (by simp) rfl rfl 57 rfl
            have e61 := D.is { on := 5, ground := .data } (by simp) rfl rfl 61 rfl
            exact wk.does_pick rfl e57 e61
          ·
            have ho2 := (Array.getElem?_eq_some_iff.1 ho).2
            simp only [List.getElem_toArray, List.getElem_cons_succ, List.getElem_cons_zero] at ho2
            subst ho2
            clear ho
            have e62 := D.is { on := 6, ground := .data } (by simp) rfl rfl 62 rfl
            exact wk.does_move rfl e62
          ·
            have ho2 := (Array.getElem?_eq_some_iff.1 ho).2
            simp only [List.getElem_toArray, List.getElem_cons_succ, List.getElem_cons_zero] at ho2
            subst ho2
            clear ho
            have e7 := D.old 7 (by kernel_rfl)
            exact wk.does_move rfl (by rw [e7]; rfl)
          ·
            have ho2 := (Array.getElem?_eq_some_iff.1 ho).2
            simp only [List.getElem_toArray, List.getElem_cons_succ, List.getElem_cons_zero] at ho2
            subst ho2
            clear ho
            have e9 := D.old 9 (by kernel_rfl)
            exact wk.does_run (by simp only [execOp]; rw [show E (.tmp 9) = .pointer (some ⟨wD.heap.size, 0, none⟩) by rw [e9]; rfl]; go_simp) rfl
          ·
            have ho2 := (Array.getElem?_eq_some_iff.1 ho).2
            simp only [List.getElem_toArray, List.getElem_cons_succ, List.getElem_cons_zero] at ho2
            subst ho2
            clear ho
            have e65 := D.is { on := 9, ground := .data } (by simp) rfl rfl 65 rfl
            exact wk.does_load1 rfl e65 ((HRD.out.below ((Below.refl _ _).drew.trans hb4)).c0) Try.underlying22 rfl rfl
          ·
            have ho2 := (Array.getElem?_eq_some_iff.1 ho).2
            simp only [List.getElem_toArray, List.getElem_cons_succ, List.getElem_cons_zero] at ho2
            subst ho2
            clear ho
            have e64 := D.is { on := 8, ground := .data } (by simp) rfl rfl 64 rfl
            have e66 := D.is { on := 10, ground := .data } (by simp) rfl rfl 66 rfl
            refine wk.does_fn (f := 17) (vs := #[.slice A3 n3 c3, .slice A4 n4 c4]) rfl (D.fn _) (by simp [e64, e66]) (by go_simp) ?_
            refine (same_calls _ (HX.out.below ((Below.refl _ _).drew.trans hb4)) (HW.out.below ((Below.refl _ _).drew.trans hb4)) rfl).mono ?_
            rintro e w7 ⟨rfl, hb7⟩
            exact ⟨_, rfl, hb7, rfl⟩
          ·
            have ho2 := (Array.getElem?_eq_some_iff.1 ho).2
            simp only [List.getElem_toArray, List.getElem_cons_succ, List.getElem_cons_zero] at ho2
            subst ho2
            clear ho
            have e63 := D.is { on := 7, ground := .data } (by simp) rfl rfl 63 rfl
            have e67 := D.is { on := 11, ground := .data } (by simp) rfl rfl 67 rfl
            exact wk.does_pick rfl e63 e67
          ·
            have ho2 := (Array.getElem?_eq_some_iff.1 ho).2
            simp only [List.getElem_toArray, List.getElem_cons_succ, List.getElem_cons_zero] at ho2
            subst ho2
            clear ho
            have e68 := D.is { on := 12, ground := .data } (by simp) rfl rfl 68 rfl
            exact wk.does_move rfl e68
          ·
            have ho2 := (Array.getElem?_eq_some_iff.1 ho).2
            simp only [List.getElem_toArray, List.getElem_cons_succ, List.getElem_cons_zero] at ho2
            subst ho2
            clear ho
            have e0 := D.old 0 (by kernel_rfl)
            exact wk.does_move rfl (by rw [e0]; rfl)
          ·
            have ho2 := (Array.getElem?_eq_some_iff.1 ho).2
            simp only [List.getElem_toArray, List.getElem_cons_succ, List.getElem_cons_zero] at ho2
            subst ho2
            clear ho
            have e70 := D.is { on := 14, ground := .data } (by simp) rfl rfl 70 rfl
            refine wk.does_fn (f := 33) (vs := #[.slice A1 n1 c1]) rfl (D.fn _) (by simp [e70]) (by go_simp) ?_
            refine (encode_calls _ (HA.out.below ((Below.refl _ _).drew.trans hb4)) HN4.out).mono ?_
            rintro e w7 ⟨A9, c9, rfl, hs, hb7⟩
            exact ⟨_, rfl, hb7, ⟨A9, _, c9, rfl, hs⟩⟩
          ·
            have ho2 := (Array.getElem?_eq_some_iff.1 ho).2
            simp only [List.getElem_toArray, List.getElem_cons_succ, List.getElem_cons_zero] at ho2
            subst ho2
            clear ho
            have s71 := D.st { on := 15, ground := .data } (by simp) rfl rfl 71 rfl
            obtain ⟨A9, n9, c9, e71, hI9⟩ := s71
            exact vk.does_conv rfl e71 (vk.conv_b hI9) rfl
          ·
            have ho2 := (Array.getElem?_eq_some_iff.1 ho).2
            simp only [List.getElem_toArray, List.getElem_cons_succ, List.getElem_cons_zero] at ho2
            subst ho2
            clear ho
            have e0 := D.old 0 (by kernel_rfl)
            exact wk.does_move rfl (by rw [e0]; rfl)
          ·
            have ho2 := (Array.getElem?_eq_some_iff.1 ho).2
            simp only [List.getElem_toArray, List.getElem_cons_succ, List.getElem_cons_zero] at ho2
            subst ho2
            clear ho
            have e73 := D.is { on := 17, ground := .data } (by simp) rfl rfl 73 rfl
            refine wk.does_fn (f := 34) (vs := #[.slice A1 n1 c1]) rfl (D.fn _) (by simp [e73]) (by go_simp) ?_
            refine (rencode_calls _ (HA.out.below ((Below.refl _ _).drew.trans hb4)) HN4.out).mono ?_
            rintro e w7 ⟨A9, c9, rfl, hs, hb7⟩
            exact ⟨_, rfl, hb7, ⟨A9, _, c9, rfl, hs⟩⟩
          ·
            have ho2 := (Array.getElem?_eq_some_iff.1 ho).2
            simp only [List.getElem_toArray, List.getElem_cons_succ, List.getElem_cons_zero] at ho2
            subst ho2
            clear ho
            have s74 := D.st { on := 18, ground := .data } (by simp) rfl rfl 74 rfl
            obtain ⟨A9, n9, c9, e74, hI9⟩ := s74
            exact vk.does_conv rfl e74 (vk.conv_b hI9) rfl
          ·
            have ho2 := (Array.getElem?_eq_some_iff.1 ho).2
            simp only [List.getElem_toArray, List.getElem_cons_succ, List.getElem_cons_zero] at ho2
            subst ho2
            clear ho
            have e72 := D.is { on := 16, ground := .data } (by simp) rfl rfl 72 rfl
            have e75 := D.is { on := 19, ground := .data } (by simp) rfl rfl 75 rfl
            exact wk.does_run (by simp only [execOp]; rw [show E (.tmp 72) = _ from e72, show E (.tmp 75) = _ from e75]; go_simp; try simp) rfl
          ·
            have ho2 := (Array.getElem?_eq_some_iff.1 ho).2
            simp only [List.getElem_toArray, List.getElem_cons_succ, List.getElem_cons_zero] at ho2
            subst ho2
            clear ho
            have e69 := D.is { on := 13, ground := .data } (by simp) rfl rfl 69 rfl
            have e76 := D.is { on := 20, ground := .data } (by simp) rfl rfl 76 rfl
            exact wk.does_pick rfl e69 e76
          ·
            have ho2 := (Array.getElem?_eq_some_iff.1 ho).2
            simp only [List.getElem_toArray, List.getElem_cons_succ, List.getElem_cons_zero] at ho2
            subst ho2
            clear ho
            have e77 := D.is { on := 21, ground := .data } (by simp) rfl rfl 77 rfl
            exact wk.does_move rfl e77
          ·
            have ho2 := (Array.getElem?_eq_some_iff.1 ho).2
            simp only [List.getElem_toArray, List.getElem_cons_succ, List.getElem_cons_zero] at ho2
            subst ho2
            clear ho
            have e12 := D.old 12 (by kernel_rfl)
            exact wk.does_move rfl (by rw [e12]; rfl)
          ·
            have ho2 := (Array.getElem?_eq_some_iff.1 ho).2
            simp only [List.getElem_toArray, List.getElem_cons_succ, List.getElem_cons_zero] at ho2
            subst ho2
            clear ho
            have e78 := D.is { on := 22, ground := .data } (by simp) rfl rfl 78 rfl
            have e79 := D.is { on := 23, ground := .data } (by simp) rfl rfl 79 rfl
            exact wk.does_pick rfl e78 e79
          ·
            have ho2 := (Array.getElem?_eq_some_iff.1 ho).2
            simp only [List.getElem_toArray, List.getElem_cons_succ, List.getElem_cons_zero] at ho2
            subst ho2
            clear ho
            have e80 := D.is { on := 24, ground := .data } (by simp) rfl rfl 80 rfl
            exact wk.does_assign rfl e80
        case hdone =>
          intro vals w4 hb4 hv
          have h25 := hv 25 (by omega)
          clear hv
          replace h25 : vals 25 = (.bool true) := h25
          simp only [List.drop_succ_cons, List.drop_zero, wpList, wk.setL, List.setIfInBounds_toArray, List.set_cons_zero, List.set_cons_succ, Nat.zero_add, Nat.reduceAdd, h25]
          generalize vals 0 = x0
          generalize vals 1 = x1
          generalize vals 2 = x2
          generalize vals 3 = x3
          generalize vals 4 = x4
          generalize vals 5 = x5
          generalize vals 6 = x6
          generalize vals 7 = x7
          generalize vals 8 = x8
          generalize vals 9 = x9
          generalize vals 10 = x10
          generalize vals 11 = x11
          generalize vals 12 = x12
          generalize vals 13 = x13
          generalize vals 14 = x14
          generalize vals 15 = x15
          generalize vals 16 = x16
          generalize vals 17 = x17
          generalize vals 18 = x18
          generalize vals 19 = x19
          generalize vals 20 = x20
          generalize vals 21 = x21
          generalize vals 22 = x22
          generalize vals 23 = x23
          generalize vals 24 = x24
          have HB4 := Lib.hid (HB.out.trans (((Below.refl _ _).drew.trans hb4).mono HB.out.size))
          clear hb4
          go_wp2_with fail
          go_ret
          exact ⟨rfl, HB4.out⟩
      | false =>
        have HD2 : Hid (decR (wp.encIs (nums l)) k = ([], 3)) := by show _ = _; rw [HDE.out, hvl]; rfl
        go_wp2_with fail
        refine (decc k _ HE.out HLE.out HD2.out).mono ?_
        rintro e w6 ⟨A6, n6, c6, rfl, hh, hb⟩
        obtain rfl : n6 = 0 := by have := hh.1; simpa using this.symm
        replace HA := Lib.hid (HA.out.below hb)
        replace HX := Lib.hid (HX.out.below hb)
        replace HW := Lib.hid (HW.out.below hb)
        replace HRD := Lib.hid (HRD.out.below hb)
        replace HB := Lib.hid (HB.out.trans (hb.mono HB.out.size))
        clear hb
        clear hh
        go_wp2_with fail
        refine (rvalid_calls k _ HA.out).mono ?_
        rintro e w8 ⟨rfl, hb⟩
        rw [hvl]
        replace HA := Lib.hid (HA.out.below hb)
        replace HX := Lib.hid (HX.out.below hb)
        replace HW := Lib.hid (HW.out.below hb)
        replace HRD := Lib.hid (HRD.out.below hb)
        replace HB := Lib.hid (HB.out.trans (hb.mono HB.out.size))
        clear hb
        go_wp2_with fail
        refine wk.region_tailS 26 [.is (.bool true), .is (.bool true), .is (.int .i64 r1), .is (.pointer (some ⟨wD.heap.size, 1, none⟩)), .is (.int .i64 r1), .is (.bool true), .is (.bool true), .is (.bool true), .is (.slice A3 n3 c3), .is (.pointer (some ⟨wD.heap.size, 0, none⟩)), .is (.slice A4 n4 c4), .is (.bool true), .is (.bool true), .is (.bool true), .is (.slice A1 n1 c1), .st (SB (wp.encIs (nums l))) (fun u u2 x h hb => h.below hb), .is (.string ⟨(wp.encIs (nums l)).toArray⟩), .is (.slice A1 n1 c1), .st (SB (wp.encIs (nums l))) (fun u u2 x h hb => h.below hb), .is (.string ⟨(wp.encIs (nums l)).toArray⟩), .is (.bool true), .is (.bool true), .is (.bool true), .is (.bool true), .is (.bool true), .is (.bool true)] [some 56, some 57, some 58, some 59, some 60, some 61, some 62, some 63, some 64, some 65, some 66, some 67, some 68, some 69, some 70, some 71, some 72, some 73, some 74, some 75, some 76, some 77, some 78, some 79, some 80, some 6] (by kernel_rfl) (by kernel_rfl) (by kernel_rfl) (by kernel_rfl) [] (by kernel_rfl) (by intro p hp; cases hp) (by kernel_rfl) (by kernel_rfl) ?hstep ?hdone
        case hstep =>
          intro i o ho hi hns E w4 hb4 D
          have hi2 : i = 0 ∨ i = 1 ∨ i = 2 ∨ i = 3 ∨ i = 4 ∨ i = 5 ∨ i = 6 ∨ i = 7 ∨ i = 8 ∨ i = 9 ∨ i = 10 ∨ i = 11 ∨ i = 12 ∨ i = 13 ∨ i = 14 ∨ i = 15 ∨ i = 16 ∨ i = 17 ∨ i = 18 ∨ i = 19 ∨ i = 20 ∨ i = 21 ∨ i = 22 ∨ i = 23 ∨ i = 24 ∨ i = 25 := by omega
          clear hi
          rcases hi2 with rfl | rfl | rfl | rfl | rfl | rfl | rfl | rfl | rfl | rfl | rfl | rfl | rfl | rfl | rfl | rfl | rfl | rfl | rfl | rfl | rfl | rfl | rfl | rfl | rfl | rfl
          ·
            have ho2 := (Array.getElem?_eq_some_iff.1 ho).2
            simp only [List.getElem_toArray, List.getElem_cons_zero] at ho2
            subst ho2
            clear ho
            refine wk.does_fn (f := 10) (vs := #[]) rfl (D.fn _) (by simp []) (by go_simp) ?_
            refine (san10_calls _).mono ?_
            rintro e w7 ⟨rfl, hb7⟩
            exact ⟨_, rfl, hb7, rfl⟩
          ·
            have ho2 := (Array.getElem?_eq_some_iff.1 ho).2
            simp only [List.getElem_toArray, List.getElem_cons_succ, List.getElem_cons_zero] at ho2
            subst ho2
            clear ho
            have e56 := D.is { on := 0, ground := .data } (by simp) rfl rfl 56 rfl
            exact wk.does_move rfl e56
          ·
            have ho2 := (Array.getElem?_eq_some_iff.1 ho).2
            simp only [List.getElem_toArray, List.getElem_cons_succ, List.getElem_cons_zero] at ho2
            subst ho2
            clear ho
            have e8 := D.old 8 (by kernel_rfl)
            exact wk.does_move rfl (by rw [e8]; rfl)
          ·
            have ho2 := (Array.getElem?_eq_some_iff.1 ho).2
            simp only [List.getElem_toArray, List.getElem_cons_succ, List.getElem_cons_zero] at ho2
            subst ho2
            clear ho
            have e9 := D.old 9 (by kernel_rfl)
            exact wk.does_run (by simp only [execOp]; rw [show E (.tmp 9) = .pointer (some ⟨wD.heap.size, 0, none⟩) by rw [e9]; rfl]; go_simp) rfl
          ·
            have ho2 := (Array.getElem?_eq_some_iff.1 ho).2
            simp only [List.getElem_toArray, List.getElem_cons_succ, List.getElem_cons_zero] at ho2
            subst ho2
            clear ho
            have e59 := D.is { on := 3, ground := .data } (by simp) rfl rfl 59 rfl
            exact wk.does_load1 rfl e59 ((HRD.out.below ((Below.refl _ _).drew.trans hb4)).c1) Try.underlying43 rfl rfl
          ·
            have ho2 := (Array.getElem?_eq_some_iff.1 ho).2
            simp only [List.getElem_toArray, List.getElem_cons_succ, List.getElem_cons_zero] at ho2
            subst ho2
            clear ho
            have e58 := D.is { on := 2, ground := .data } (by simp) rfl rfl 58 rfl
            have e60 := D.is { on := 4, ground := .data } (by simp) rfl rfl 60 rfl
            exact wk.does_run (by simp only [execOp]; rw [show E (.tmp 58) = _ from e58, show E (.tmp 60) = _ from e60]; go_simp; try simp) rfl
          ·
            have ho2 := (Array.getElem?_eq_some_iff.1 ho).2
            simp only [List.getElem_toArray, List.getElem_cons_succ, List.getElem_cons_zero] at ho2
            subst ho2
            clear ho
            have e57 := D.is { on := 1, ground := .data } (by simp) rfl rfl 57 rfl
            have e61 := D.is { on := 5, ground := .data } (by simp) rfl rfl 61 rfl
            exact wk.does_pick rfl e57 e61
          ·
            have ho2 := (Array.getElem?_eq_some_iff.1 ho).2
            simp only [List.getElem_toArray, List.getElem_cons_succ, List.getElem_cons_zero] at ho2
            subst ho2
            clear ho
            have e62 := D.is { on := 6, ground := .data } (by simp) rfl rfl 62 rfl
            exact wk.does_move rfl e62
          ·
            have ho2 := (Array.getElem?_eq_some_iff.1 ho).2
            simp only [List.getElem_toArray, List.getElem_cons_succ, List.getElem_cons_zero] at ho2
            subst ho2
            clear ho
            have e7 := D.old 7 (by kernel_rfl)
            exact wk.does_move rfl (by rw [e7]; rfl)
          ·
            have ho2 := (Array.getElem?_eq_some_iff.1 ho).2
            simp only [List.getElem_toArray, List.getElem_cons_succ, List.getElem_cons_zero] at ho2
            subst ho2
            clear ho
            have e9 := D.old 9 (by kernel_rfl)
            exact wk.does_run (by simp only [execOp]; rw [show E (.tmp 9) = .pointer (some ⟨wD.heap.size, 0, none⟩) by rw [e9]; rfl]; go_simp) rfl
          ·
            have ho2 := (Array.getElem?_eq_some_iff.1 ho).2
            simp only [List.getElem_toArray, List.getElem_cons_succ, List.getElem_cons_zero] at ho2
            subst ho2
            clear ho
            have e65 := D.is { on := 9, ground := .data } (by simp) rfl rfl 65 rfl
            exact wk.does_load1 rfl e65 ((HRD.out.below ((Below.refl _ _).drew.trans hb4)).c0) Try.underlying22 rfl rfl
          ·
            have ho2 := (Array.getElem?_eq_some_iff.1 ho).2
            simp only [List.getElem_toArray, List.getElem_cons_succ, List.getElem_cons_zero] at ho2
            subst ho2
            clear ho
            have e64 := D.is { on := 8, ground := .data } (by simp) rfl rfl 64 rfl
            have e66 := D.is { on := 10, ground := .data } (by simp) rfl rfl 66 rfl
            refine wk.does_fn (f := 17) (vs := #[.slice A3 n3 c3, .slice A4 n4 c4]) rfl (D.fn _) (by simp [e64, e66]) (by go_simp) ?_
            refine (same_calls _ (HX.out.below ((Below.refl _ _).drew.trans hb4)) (HW.out.below ((Below.refl _ _).drew.trans hb4)) rfl).mono ?_
            rintro e w7 ⟨rfl, hb7⟩
            exact ⟨_, rfl, hb7, rfl⟩
          ·
            have ho2 := (Array.getElem?_eq_some_iff.1 ho).2
            simp only [List.getElem_toArray, List.getElem_cons_succ, List.getElem_cons_zero] at ho2
            subst ho2
            clear ho
            have e63 := D.is { on := 7, ground := .data } (by simp) rfl rfl 63 rfl
            have e67 := D.is { on := 11, ground := .data } (by simp) rfl rfl 67 rfl
            exact wk.does_pick rfl e63 e67
          ·
            have ho2 := (Array.getElem?_eq_some_iff.1 ho).2
            simp only [List.getElem_toArray, List.getElem_cons_succ, List.getElem_cons_zero] at ho2
            subst ho2
            clear ho
            have e68 := D.is { on := 12, ground := .data } (by simp) rfl rfl 68 rfl
            exact wk.does_move rfl e68
          ·
            have ho2 := (Array.getElem?_eq_some_iff.1 ho).2
            simp only [List.getElem_toArray, List.getElem_cons_succ, List.getElem_cons_zero] at ho2
            subst ho2
            clear ho
            have e0 := D.old 0 (by kernel_rfl)
            exact wk.does_move rfl (by rw [e0]; rfl)
          ·
            have ho2 := (Array.getElem?_eq_some_iff.1 ho).2
            simp only [List.getElem_toArray, List.getElem_cons_succ, List.getElem_cons_zero] at ho2
            subst ho2
            clear ho
            have e70 := D.is { on := 14, ground := .data } (by simp) rfl rfl 70 rfl
            refine wk.does_fn (f := 33) (vs := #[.slice A1 n1 c1]) rfl (D.fn _) (by simp [e70]) (by go_simp) ?_
            refine (encode_calls _ (HA.out.below ((Below.refl _ _).drew.trans hb4)) HN4.out).mono ?_
            rintro e w7 ⟨A9, c9, rfl, hs, hb7⟩
            exact ⟨_, rfl, hb7, ⟨A9, _, c9, rfl, hs⟩⟩
          ·
            have ho2 := (Array.getElem?_eq_some_iff.1 ho).2
            simp only [List.getElem_toArray, List.getElem_cons_succ, List.getElem_cons_zero] at ho2
            subst ho2
            clear ho
            have s71 := D.st { on := 15, ground := .data } (by simp) rfl rfl 71 rfl
            obtain ⟨A9, n9, c9, e71, hI9⟩ := s71
            exact vk.does_conv rfl e71 (vk.conv_b hI9) rfl
          ·
            have ho2 := (Array.getElem?_eq_some_iff.1 ho).2
            simp only [List.getElem_toArray, List.getElem_cons_succ, List.getElem_cons_zero] at ho2
            subst ho2
            clear ho
            have e0 := D.old 0 (by kernel_rfl)
            exact wk.does_move rfl (by rw [e0]; rfl)
          ·
            have ho2 := (Array.getElem?_eq_some_iff.1 ho).2
            simp only [List.getElem_toArray, List.getElem_cons_succ, List.getElem_cons_zero] at ho2
            subst ho2
            clear ho
            have e73 := D.is { on := 17, ground := .data } (by simp) rfl rfl 73 rfl
            refine wk.does_fn (f := 34) (vs := #[.slice A1 n1 c1]) rfl (D.fn _) (by simp [e73]) (by go_simp) ?_
            refine (rencode_calls _ (HA.out.below ((Below.refl _ _).drew.trans hb4)) HN4.out).mono ?_
            rintro e w7 ⟨A9, c9, rfl, hs, hb7⟩
            exact ⟨_, rfl, hb7, ⟨A9, _, c9, rfl, hs⟩⟩
          ·
            have ho2 := (Array.getElem?_eq_some_iff.1 ho).2
            simp only [List.getElem_toArray, List.getElem_cons_succ, List.getElem_cons_zero] at ho2
            subst ho2
            clear ho
            have s74 := D.st { on := 18, ground := .data } (by simp) rfl rfl 74 rfl
            obtain ⟨A9, n9, c9, e74, hI9⟩ := s74
            exact vk.does_conv rfl e74 (vk.conv_b hI9) rfl
          ·
            have ho2 := (Array.getElem?_eq_some_iff.1 ho).2
            simp only [List.getElem_toArray, List.getElem_cons_succ, List.getElem_cons_zero] at ho2
            subst ho2
            clear ho
            have e72 := D.is { on := 16, ground := .data } (by simp) rfl rfl 72 rfl
            have e75 := D.is { on := 19, ground := .data } (by simp) rfl rfl 75 rfl
            exact wk.does_run (by simp only [execOp]; rw [show E (.tmp 72) = _ from e72, show E (.tmp 75) = _ from e75]; go_simp; try simp) rfl
          ·
            have ho2 := (Array.getElem?_eq_some_iff.1 ho).2
            simp only [List.getElem_toArray, List.getElem_cons_succ, List.getElem_cons_zero] at ho2
            subst ho2
            clear ho
            have e69 := D.is { on := 13, ground := .data } (by simp) rfl rfl 69 rfl
            have e76 := D.is { on := 20, ground := .data } (by simp) rfl rfl 76 rfl
            exact wk.does_pick rfl e69 e76
          ·
            have ho2 := (Array.getElem?_eq_some_iff.1 ho).2
            simp only [List.getElem_toArray, List.getElem_cons_succ, List.getElem_cons_zero] at ho2
            subst ho2
            clear ho
            have e77 := D.is { on := 21, ground := .data } (by simp) rfl rfl 77 rfl
            exact wk.does_move rfl e77
          ·
            have ho2 := (Array.getElem?_eq_some_iff.1 ho).2
            simp only [List.getElem_toArray, List.getElem_cons_succ, List.getElem_cons_zero] at ho2
            subst ho2
            clear ho
            have e12 := D.old 12 (by kernel_rfl)
            exact wk.does_move rfl (by rw [e12]; rfl)
          ·
            have ho2 := (Array.getElem?_eq_some_iff.1 ho).2
            simp only [List.getElem_toArray, List.getElem_cons_succ, List.getElem_cons_zero] at ho2
            subst ho2
            clear ho
            have e78 := D.is { on := 22, ground := .data } (by simp) rfl rfl 78 rfl
            have e79 := D.is { on := 23, ground := .data } (by simp) rfl rfl 79 rfl
            exact wk.does_pick rfl e78 e79
          ·
            have ho2 := (Array.getElem?_eq_some_iff.1 ho).2
            simp only [List.getElem_toArray, List.getElem_cons_succ, List.getElem_cons_zero] at ho2
            subst ho2
            clear ho
            have e80 := D.is { on := 24, ground := .data } (by simp) rfl rfl 80 rfl
            exact wk.does_assign rfl e80
        case hdone =>
          intro vals w4 hb4 hv
          have h25 := hv 25 (by omega)
          clear hv
          replace h25 : vals 25 = (.bool true) := h25
          simp only [List.drop_succ_cons, List.drop_zero, wpList, wk.setL, List.setIfInBounds_toArray, List.set_cons_zero, List.set_cons_succ, Nat.zero_add, Nat.reduceAdd, h25]
          generalize vals 0 = x0
          generalize vals 1 = x1
          generalize vals 2 = x2
          generalize vals 3 = x3
          generalize vals 4 = x4
          generalize vals 5 = x5
          generalize vals 6 = x6
          generalize vals 7 = x7
          generalize vals 8 = x8
          generalize vals 9 = x9
          generalize vals 10 = x10
          generalize vals 11 = x11
          generalize vals 12 = x12
          generalize vals 13 = x13
          generalize vals 14 = x14
          generalize vals 15 = x15
          generalize vals 16 = x16
          generalize vals 17 = x17
          generalize vals 18 = x18
          generalize vals 19 = x19
          generalize vals 20 = x20
          generalize vals 21 = x21
          generalize vals 22 = x22
          generalize vals 23 = x23
          generalize vals 24 = x24
          have HB4 := Lib.hid (HB.out.trans (((Below.refl _ _).drew.trans hb4).mono HB.out.size))
          clear hb4
          go_wp2_with fail
          go_ret
          exact ⟨rfl, HB4.out⟩
end Go.Proofs.Ytckipafciomklaa.bestCodes
