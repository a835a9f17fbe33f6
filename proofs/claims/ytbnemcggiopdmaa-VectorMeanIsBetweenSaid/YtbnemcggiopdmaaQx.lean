/- VectorCodesAsSpecified: its walk. -/
import Derived.Test.YtbnemcggiopdmaaQw

import Derived.Great.BuildSlice

namespace Go.Proofs.Ytbnemcggiopdmaa.vectorCodesAsSpecified

open Go.ChangeShapes Go.WideShapes Go.ChangeAt Go.RowKit

open Go.Proofs.Ytbnemcggiopdmaa.vk

set_option linter.unusedVariables false
theorem cell2_0 {w : World} {g : Nat} {a b : Value} {t : TypeId} (h : w.heap[g]? = some (.cells #[a, b] t (0, 0))) : w.cell? ⟨g, 0, none⟩ = some a := by
  rw [cell_of_row _ _ _ _ _ _ h]; rfl
theorem cell2_1 {w : World} {g : Nat} {a b : Value} {t : TypeId} (h : w.heap[g]? = some (.cells #[a, b] t (0, 0))) : w.cell? ⟨g, 1, none⟩ = some b := by
  rw [cell_of_row _ _ _ _ _ _ h]; rfl
set_option maxRecDepth 100000 in
set_option maxHeartbeats 4000000 in
theorem walk (w : World) {A1 A2 : Option Addr} {n1 n2 c1 c2 : Nat} {v : List Int} {b : List UInt8} (h1 : wo.IsI w A1 n1 c1 v) (h2 : wo.IsB w A2 n2 c2 b) :
    Calls Try.prog 8 #[.slice A1 n1 c1, .slice A2 n2 c2] w fun e w' => e = .returned (.bool true) ∧ Below w.heap.size w w' := by
  have HS := Lib.hid (fun w' => sanity_calls w')
  by_cases hbig : 40 < n1 ∨ 400 < n2
  · have : 40 < n1 ∨ (400 < n2 ∧ ¬ 40 < n1) := by omega
    clear h1 h2 hbig
    rcases this with h | ⟨h, h'⟩
    all_goals
      go_enter Try.func8, Try.ntmps8
      go_wp2_with fail
      refine (HS.out _).mono ?_
      rintro e w' ⟨rfl, hb⟩
      have HB := Lib.hid hb
      clear hb
      go_wp2_with fail
      go_ret
      exact ⟨rfl, HB.out⟩
  have q1 : n1 ≤ 40 := by omega
  have q2 : n2 ≤ 400 := by omega
  clear hbig
  have H1 := Lib.hid h1
  have H2 := Lib.hid h2
  have HD := Lib.hid (decode_calls A2 n2 c2 b w h2 (by omega))
  have HRD := Lib.hid (fun w' hb => rdecode_calls A2 n2 c2 b w' (isB_below H2.out hb) (by omega))
  have HE0 := Lib.hid (fun w' hb => encode_calls A1 n1 c1 v w' (isI_below H1.out hb) (by omega))
  have HR0 := Lib.hid (fun w' hb => rencode_calls A1 n1 c1 v w' (isI_below H1.out hb) (by omega))
  clear h1 h2
  generalize wp.encIs v = E at *
  generalize vq.dec b = D at *
  obtain ⟨y, f⟩ := D
  dsimp only at *
  go_enter Try.func8, Try.ntmps8
  go_wp2_with fail
  refine HD.out.mono ?_
  rintro e w3 ⟨A3, n3, c3, rfl, hI3, hb3⟩
  have HB3 := Lib.hid hb3
  have HI3 := Lib.hid hI3
  clear hI3 hb3 HD
  go_wp2_with fail
  refine (HRD.out w3 HB3.out).mono ?_
  rintro e w4 ⟨A4, n4, c4, rfl, hI4, hb4⟩
  have HB4 := Lib.hid (Below.andThen HB3.out hb4)
  have HI4 := Lib.hid hI4
  have HI34 := Lib.hid (isI_below HI3.out hb4)
  clear hI4 hb4 HRD HI3 HB3
  go_upto_region 5 with (refine wk.store_row rfl 43 (.tmp 7) (.tmp 23) rfl w4.heap.size [.slice A4 n4 c4, .int .i64 f] rfl rfl 43 _ (heap_alloc_new _ _) infoR rfl ones2 ?_)
  rw [wk.setRow_alloc]
  have hq := heap_alloc_new w4 (.cells #[.slice A4 n4 c4, .int .i64 f] 43)
  have hbn := below_new w4 (.cells #[.slice A4 n4 c4, .int .i64 f] 43)
  have Q5 := Lib.hid hq
  have HB5 := Lib.hid (Below.andThen HB4.out hbn)
  have HI35 := Lib.hid (isI_below HI34.out hbn)
  have HI45 := Lib.hid (isI_below HI4.out hbn)
  clear hq hbn HB4 HI34 HI4
  change Hid ((w4.alloc (.cells #[.slice A4 n4 c4, .int .i64 f] 43)).heap[w4.heap.size]? = some (.cells #[.slice A4 n4 c4, .int .i64 f] 43 (0, 0))) at Q5
  change Code.wp _ _ _ _ (w4.alloc (.cells #[.slice A4 n4 c4, .int .i64 f] 43))
  generalize w4.alloc (.cells #[.slice A4 n4 c4, .int .i64 f] 43) = w5 at *
  generalize w4.heap.size = G at *
  have HEN := Lib.hid (fun w' (hb : Below w5.heap.size w5 w') => HE0.out w' (Below.andThen HB5.out hb))
  have HREN := Lib.hid (fun w' (hb : Below w5.heap.size w5 w') => HR0.out w' (Below.andThen HB5.out hb))
  have HSM := Lib.hid (fun w' (hb : Below w5.heap.size w5 w') => same_calls A3 A4 n3 n4 c3 c4 y y w' (isI_below HI35.out hb) (isI_below HI45.out hb))
  clear HE0 HR0 HI35 HI45
  refine wk.region_tailS 23 [.is (.bool true), .is (.bool true), .is (.slice A1 n1 c1), .st (fun u x => ∃ A c, x = .slice A E.length c ∧ wo.IsB u A E.length c E) (fun u u2 x h hb => by obtain ⟨A, c, rfl, hi⟩ := h; exact ⟨A, c, rfl, isB_below hi hb⟩), .is (.string ⟨E.toArray⟩), .is (.slice A1 n1 c1), .st (fun u x => ∃ A c, x = .slice A E.length c ∧ wo.IsB u A E.length c E) (fun u u2 x h hb => by obtain ⟨A, c, rfl, hi⟩ := h; exact ⟨A, c, rfl, isB_below hi hb⟩), .is (.string ⟨E.toArray⟩), .is (.bool true), .is (.bool true), .is (.bool true), .is (.slice A3 n3 c3), .is (.pointer (some ⟨G, 0, none⟩)), .is (.slice A4 n4 c4), .is (.bool true), .is (.bool true), .is (.bool true), .is (.int .i64 f), .is (.pointer (some ⟨G, 1, none⟩)), .is (.int .i64 f), .is (.bool true), .is (.bool true), .is (.bool true)] [some 24, some 25, some 26, some 27, some 28, some 29, some 30, some 31, some 32, some 33, some 34, some 35, some 36, some 37, some 38, some 39, some 40, some 41, some 42, some 43, some 44, some 45, some 4] (by kernel_rfl) (by kernel_rfl) (by kernel_rfl) (by kernel_rfl) [] (by kernel_rfl) (by intro p hp; cases hp) (by kernel_rfl) (by kernel_rfl) ?hstep ?hdone
  case hstep =>
    intro i o ho hi hns E w6 hb4 D
    have hi2 : i = 0 ∨ i = 1 ∨ i = 2 ∨ i = 3 ∨ i = 4 ∨ i = 5 ∨ i = 6 ∨ i = 7 ∨ i = 8 ∨ i = 9 ∨ i = 10 ∨ i = 11 ∨ i = 12 ∨ i = 13 ∨ i = 14 ∨ i = 15 ∨ i = 16 ∨ i = 17 ∨ i = 18 ∨ i = 19 ∨ i = 20 ∨ i = 21 ∨ i = 22 := by omega
    clear hi
    rcases hi2 with rfl | rfl | rfl | rfl | rfl | rfl | rfl | rfl | rfl | rfl | rfl | rfl | rfl | rfl | rfl | rfl | rfl | rfl | rfl | rfl | rfl | rfl | rfl
    ·
      have ho2 := (Array.getElem?_eq_some_iff.1 ho).2
      simp only [List.getElem_toArray, List.getElem_cons_zero] at ho2
      subst ho2
      clear ho
      refine wk.does_fn (f := 11) (vs := #[]) rfl (D.fn _) (by simp) (by go_simp) ?_
      refine (HS.out w6).mono ?_
      rintro e w7 ⟨rfl, hb7⟩
      exact ⟨_, rfl, hb7, rfl⟩
    ·
      have ho2 := (Array.getElem?_eq_some_iff.1 ho).2
      simp only [List.getElem_toArray, List.getElem_cons_succ, List.getElem_cons_zero] at ho2
      subst ho2
      clear ho
      have e24 := D.is { on := 0, ground := .data } (by simp) rfl rfl 24 rfl
      exact wk.does_move rfl e24
    ·
      have ho2 := (Array.getElem?_eq_some_iff.1 ho).2
      simp only [List.getElem_toArray, List.getElem_cons_succ, List.getElem_cons_zero] at ho2
      subst ho2
      clear ho
      have e0 := D.old 0 (by kernel_rfl)
      exact wk.does_move rfl (by rw [e0]; rfl)
    ·
      have ho2 := (Array.getElem?_eq_some_iff.1 ho).2
      simp only [List.getElem_toArray, List.getElem_cons_succ, List.getElem_cons_zero] at ho2
      subst ho2
      clear ho
      have e26 := D.is { on := 2, ground := .data } (by simp) rfl rfl 26 rfl
      refine wk.does_fn (f := 34) (vs := #[.slice A1 n1 c1]) rfl (D.fn _) (by simp [e26]) (by go_simp) ?_
      refine (HEN.out w6 ((Below.refl _ _).drew.trans hb4)).mono ?_
      rintro e w7 ⟨A7, c7, rfl, hI7, hb7⟩
      exact ⟨_, rfl, hb7, A7, c7, rfl, hI7⟩
    ·
      have ho2 := (Array.getElem?_eq_some_iff.1 ho).2
      simp only [List.getElem_toArray, List.getElem_cons_succ, List.getElem_cons_zero] at ho2
      subst ho2
      clear ho
      have s27 := D.st { on := 3, ground := .data } (by simp) rfl rfl 27 rfl
      obtain ⟨A7, c7, e7, hI7⟩ := s27
      exact does_conv rfl e7 (conv_b hI7) rfl
    ·
      have ho2 := (Array.getElem?_eq_some_iff.1 ho).2
      simp only [List.getElem_toArray, List.getElem_cons_succ, List.getElem_cons_zero] at ho2
      subst ho2
      clear ho
      have e0 := D.old 0 (by kernel_rfl)
      exact wk.does_move rfl (by rw [e0]; rfl)
    ·
      have ho2 := (Array.getElem?_eq_some_iff.1 ho).2
      simp only [List.getElem_toArray, List.getElem_cons_succ, List.getElem_cons_zero] at ho2
      subst ho2
      clear ho
      have e29 := D.is { on := 5, ground := .data } (by simp) rfl rfl 29 rfl
      refine wk.does_fn (f := 35) (vs := #[.slice A1 n1 c1]) rfl (D.fn _) (by simp [e29]) (by go_simp) ?_
      refine (HREN.out w6 ((Below.refl _ _).drew.trans hb4)).mono ?_
      rintro e w7 ⟨A7, c7, rfl, hI7, hb7⟩
      exact ⟨_, rfl, hb7, A7, c7, rfl, hI7⟩
    ·
      have ho2 := (Array.getElem?_eq_some_iff.1 ho).2
      simp only [List.getElem_toArray, List.getElem_cons_succ, List.getElem_cons_zero] at ho2
      subst ho2
      clear ho
      have s30 := D.st { on := 6, ground := .data } (by simp) rfl rfl 30 rfl
      obtain ⟨A7, c7, e7, hI7⟩ := s30
      exact does_conv rfl e7 (conv_b hI7) rfl
    ·
      have ho2 := (Array.getElem?_eq_some_iff.1 ho).2
      simp only [List.getElem_toArray, List.getElem_cons_succ, List.getElem_cons_zero] at ho2
      subst ho2
      clear ho
      have e28 := D.is { on := 4, ground := .data } (by simp) rfl rfl 28 rfl
      have e31 := D.is { on := 7, ground := .data } (by simp) rfl rfl 31 rfl
      exact wk.does_bin rfl (by rw [e28, e31]; go_simp) rfl
    ·
      have ho2 := (Array.getElem?_eq_some_iff.1 ho).2
      simp only [List.getElem_toArray, List.getElem_cons_succ, List.getElem_cons_zero] at ho2
      subst ho2
      clear ho
      have e25 := D.is { on := 1, ground := .data } (by simp) rfl rfl 25 rfl
      have e32 := D.is { on := 8, ground := .data } (by simp) rfl rfl 32 rfl
      exact wk.does_pick rfl e25 e32
    ·
      have ho2 := (Array.getElem?_eq_some_iff.1 ho).2
      simp only [List.getElem_toArray, List.getElem_cons_succ, List.getElem_cons_zero] at ho2
      subst ho2
      clear ho
      have e33 := D.is { on := 9, ground := .data } (by simp) rfl rfl 33 rfl
      exact wk.does_move rfl e33
    ·
      have ho2 := (Array.getElem?_eq_some_iff.1 ho).2
      simp only [List.getElem_toArray, List.getElem_cons_succ, List.getElem_cons_zero] at ho2
      subst ho2
      clear ho
      have e5 := D.old 5 (by kernel_rfl)
      exact wk.does_move rfl (by rw [e5]; rfl)
    ·
      have ho2 := (Array.getElem?_eq_some_iff.1 ho).2
      simp only [List.getElem_toArray, List.getElem_cons_succ, List.getElem_cons_zero] at ho2
      subst ho2
      clear ho
      have e7 := D.old 7 (by kernel_rfl)
      exact wk.does_run (by simp only [execOp]; rw [show E (.tmp 7) = .pointer (some ⟨G, 0, none⟩) by rw [e7]; rfl]; go_simp) rfl
    ·
      have ho2 := (Array.getElem?_eq_some_iff.1 ho).2
      simp only [List.getElem_toArray, List.getElem_cons_succ, List.getElem_cons_zero] at ho2
      subst ho2
      clear ho
      have e36 := D.is { on := 12, ground := .data } (by simp) rfl rfl 36 rfl
      exact wk.does_load1 rfl e36 (cell2_0 (wk.row_below Q5.out ((Below.refl _ _).drew.trans hb4))) Try.underlying22 rfl rfl
    ·
      have ho2 := (Array.getElem?_eq_some_iff.1 ho).2
      simp only [List.getElem_toArray, List.getElem_cons_succ, List.getElem_cons_zero] at ho2
      subst ho2
      clear ho
      have e35 := D.is { on := 11, ground := .data } (by simp) rfl rfl 35 rfl
      have e37 := D.is { on := 13, ground := .data } (by simp) rfl rfl 37 rfl
      refine wk.does_fn (f := 19) (vs := #[.slice A3 n3 c3, .slice A4 n4 c4]) rfl (D.fn _) (by simp [e35, e37]) (by go_simp) ?_
      refine (HSM.out w6 ((Below.refl _ _).drew.trans hb4)).mono ?_
      rintro e w7 ⟨rfl, q7, rfl⟩
      exact ⟨_, rfl, below_drewN (Below.refl _ _) q7, by rw [beq_self_eq_true]; rfl⟩
    ·
      have ho2 := (Array.getElem?_eq_some_iff.1 ho).2
      simp only [List.getElem_toArray, List.getElem_cons_succ, List.getElem_cons_zero] at ho2
      subst ho2
      clear ho
      have e34 := D.is { on := 10, ground := .data } (by simp) rfl rfl 34 rfl
      have e38 := D.is { on := 14, ground := .data } (by simp) rfl rfl 38 rfl
      exact wk.does_pick rfl e34 e38
    ·
      have ho2 := (Array.getElem?_eq_some_iff.1 ho).2
      simp only [List.getElem_toArray, List.getElem_cons_succ, List.getElem_cons_zero] at ho2
      subst ho2
      clear ho
      have e39 := D.is { on := 15, ground := .data } (by simp) rfl rfl 39 rfl
      exact wk.does_move rfl e39
    ·
      have ho2 := (Array.getElem?_eq_some_iff.1 ho).2
      simp only [List.getElem_toArray, List.getElem_cons_succ, List.getElem_cons_zero] at ho2
      subst ho2
      clear ho
      have e6 := D.old 6 (by kernel_rfl)
      exact wk.does_move rfl (by rw [e6]; rfl)
    ·
      have ho2 := (Array.getElem?_eq_some_iff.1 ho).2
      simp only [List.getElem_toArray, List.getElem_cons_succ, List.getElem_cons_zero] at ho2
      subst ho2
      clear ho
      have e7 := D.old 7 (by kernel_rfl)
      exact wk.does_run (by simp only [execOp]; rw [show E (.tmp 7) = .pointer (some ⟨G, 0, none⟩) by rw [e7]; rfl]; go_simp) rfl
    ·
      have ho2 := (Array.getElem?_eq_some_iff.1 ho).2
      simp only [List.getElem_toArray, List.getElem_cons_succ, List.getElem_cons_zero] at ho2
      subst ho2
      clear ho
      have e42 := D.is { on := 18, ground := .data } (by simp) rfl rfl 42 rfl
      exact wk.does_load1 rfl e42 (cell2_1 (wk.row_below Q5.out ((Below.refl _ _).drew.trans hb4))) Try.underlying39 rfl rfl
    ·
      have ho2 := (Array.getElem?_eq_some_iff.1 ho).2
      simp only [List.getElem_toArray, List.getElem_cons_succ, List.getElem_cons_zero] at ho2
      subst ho2
      clear ho
      have e41 := D.is { on := 17, ground := .data } (by simp) rfl rfl 41 rfl
      have e43 := D.is { on := 19, ground := .data } (by simp) rfl rfl 43 rfl
      exact wk.does_bin rfl (by rw [e41, e43]; go_simp) rfl
    ·
      have ho2 := (Array.getElem?_eq_some_iff.1 ho).2
      simp only [List.getElem_toArray, List.getElem_cons_succ, List.getElem_cons_zero] at ho2
      subst ho2
      clear ho
      have e40 := D.is { on := 16, ground := .data } (by simp) rfl rfl 40 rfl
      have e44 := D.is { on := 20, ground := .data } (by simp) rfl rfl 44 rfl
      exact wk.does_pick rfl e40 e44
    ·
      have ho2 := (Array.getElem?_eq_some_iff.1 ho).2
      simp only [List.getElem_toArray, List.getElem_cons_succ, List.getElem_cons_zero] at ho2
      subst ho2
      clear ho
      have e45 := D.is { on := 21, ground := .data } (by simp) rfl rfl 45 rfl
      exact wk.does_assign rfl e45
  case hdone =>
    intro vals w6 hb4 hv
    have h22 := hv 22 (by omega)
    clear hv
    replace h22 : vals 22 = (.bool true) := h22
    simp only [List.drop_succ_cons, List.drop_zero, wpList, Act.put, wk.setL, List.setIfInBounds_toArray, List.set_cons_zero, List.set_cons_succ, Nat.zero_add, Nat.reduceAdd, h22]
    generalize vals 0 = x0
    generalize vals 1 = x1
    generalize vals 2 = x2
    generalize vals 3 = x3
    generalize vals 4 = x4
    generalize vals 5 = x5
    generalize vals 6 = x6
    generalize vals 7 = x7
    generalize vals 8 = x8
    generalize vals 9 = x9
    generalize vals 10 = x10
    generalize vals 11 = x11
    generalize vals 12 = x12
    generalize vals 13 = x13
    generalize vals 14 = x14
    generalize vals 15 = x15
    generalize vals 16 = x16
    generalize vals 17 = x17
    generalize vals 18 = x18
    generalize vals 19 = x19
    generalize vals 20 = x20
    generalize vals 21 = x21
    have HBZ := Lib.hid (Below.andThen HB5.out ((Below.refl _ _).drew.trans hb4))
    clear hb4
    go_wp2_with fail
    go_ret
    exact ⟨rfl, HBZ.out⟩
end Go.Proofs.Ytbnemcggiopdmaa.vectorCodesAsSpecified
