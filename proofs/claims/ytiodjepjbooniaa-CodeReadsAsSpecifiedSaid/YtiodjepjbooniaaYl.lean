/- CodeReadsAsSpecified: its walk. -/
import Derived.Test.YtiodjepjbooniaaU7

import Derived.Test.YtiodjepjbooniaaYj

namespace Go.Proofs.Ytiodjepjbooniaa.codeReadsAsSpecified

open Go.ChangeShapes Go.WideShapes Go.ChangeAt Go.RowKit

open Go.Proofs.Ytiodjepjbooniaa.cq Go.Proofs.Ytiodjepjbooniaa.vk Go.Proofs.Ytiodjepjbooniaa.bk Go.Proofs.Ytiodjepjbooniaa.wk Go.Proofs.Ytiodjepjbooniaa.uk

set_option linter.unusedVariables false
set_option maxRecDepth 100000 in
set_option maxHeartbeats 3000000 in
theorem walk (w : World) {v : Value} {b : Bk} {m : Int} {A A2 : Option Addr} {n c n2 c2 : Nat} {q cl : List Int} (w0 : IsBk w v b) (w1 : (Lit.int .i64 m).wf = true) (w2 : wo.IsI w A n c q) (w3 : wo.IsI w A2 n2 c2 cl) :
    Calls Try.prog 3 #[v, .int .i64 m, .slice A n c, .slice A2 n2 c2] w fun e w' => e = .returned (.bool true) ∧ Below w.heap.size w w' := by
  obtain ⟨A0, n0, c0, AW, nW, cW, rfl, hi, hW, hd⟩ := w0
  have hnc0 := hi.2.1
  have hnm0 := hi.2.2.1
  have hncW := hW.2.1
  have hnmW := hW.2.2.1
  have hnc1 := w2.2.1
  have hnm1 := w2.2.2.1
  have hnc2 := w3.2.1
  have hnm2 := w3.2.2.1
  have HX : Hid (IsBk (w.alloc (.cells #[.int .i64 b.d, .slice A0 n0 c0, .slice AW nW cW] 25)) (.agg #[.int .i64 b.d, .slice A0 n0 c0, .slice AW nW cW]) b) := IsBk.below ⟨_, _, _, _, _, _, rfl, hi, hW, hd⟩ (below_new _ _)
  have HT := Lib.hid (Three.new w (.int .i64 b.d) (.slice A0 n0 c0) (.slice AW nW cW))
  have HV := Lib.hid (V1.mk (isI_below w2 (below_new _ (.cells #[.int .i64 b.d, .slice A0 n0 c0, .slice AW nW cW] 25))))
  have HC := Lib.hid (V1.mk (isI_below w3 (below_new _ (.cells #[.int .i64 b.d, .slice A0 n0 c0, .slice AW nW cW] 25))))
  have HB := Lib.hid (below_new w (.cells #[.int .i64 b.d, .slice A0 n0 c0, .slice AW nW cW] 25))
  have HNQ := Lib.hid w2.1
  have HNC := Lib.hid w3.1
  clear hi hW hd w1 w2 w3
  go_enter Try.func3, Try.ntmps3
  have hc0HT := HT.out.c0
  have hc1HT := HT.out.c1
  have hc2HT := HT.out.c2
  go_wp2_with fail
  clear hc0HT hc1HT hc2HT
  refine (rfew_calls _ b _ HX.out).mono ?_
  rintro e w1 ⟨⟨r, rfl⟩, hb⟩
  replace HX := Lib.hid (HX.out.below hb)
  replace HT := Lib.hid (HT.out.below hb)
  replace HV := Lib.hid (HV.out.below hb)
  replace HC := Lib.hid (HC.out.below hb)
  replace HB := Lib.hid (Below.andThen HB.out hb)
  clear hb
  have hc0HT := HT.out.c0
  have hc1HT := HT.out.c1
  have hc2HT := HT.out.c2
  cases r
  ·
    go_wp2_with fail
    clear hc0HT hc1HT hc2HT
    refine (sanity_calls _).mono ?_
    rintro e w' ⟨rfl, hb⟩
    have HBZ := Lib.hid (Below.andThen HB.out hb)
    clear hb
    go_wp2_with fail
    go_ret
    exact ⟨rfl, HBZ.out⟩
  by_cases h20 : n2 > 20
  ·
    go_wp2_with fail
    clear hc0HT hc1HT hc2HT
    refine (sanity_calls _).mono ?_
    rintro e w' ⟨rfl, hb⟩
    have HBZ := Lib.hid (Below.andThen HB.out hb)
    clear hb
    go_wp2_with fail
    go_ret
    exact ⟨rfl, HBZ.out⟩
  go_wp2_with fail
  clear hc0HT hc1HT hc2HT
  refine wk.region_tailS 5 [.is (.agg #[.int .i64 b.d, .slice A0 n0 c0, .slice AW nW cW]), .is (errB (check b)), .is (.agg #[.int .i64 b.d, .slice A0 n0 c0, .slice AW nW cW]), .is (errB (check b)), .is (.bool false)] [some 24, some 25, some 26, some 27, some 28] (by kernel_rfl) (by kernel_rfl) (by kernel_rfl) (by kernel_rfl) [] (by kernel_rfl) (by intro p hp; cases hp) (by kernel_rfl) (by kernel_rfl) ?hstep ?hdone
  case hstep =>
    intro i o ho hi hns E w4 hb4 D
    have hi2 : i = 0 ∨ i = 1 ∨ i = 2 ∨ i = 3 ∨ i = 4 := by omega
    clear hi
    rcases hi2 with rfl | rfl | rfl | rfl | rfl
    ·
      have ho2 := (Array.getElem?_eq_some_iff.1 ho).2
      simp only [List.getElem_toArray, List.getElem_cons_zero] at ho2
      subst ho2
      clear ho
      have e4 := D.old 4 (by kernel_rfl)
      exact wk.does_load_agg rfl (show E (.tmp 4) = .pointer (some ⟨w.heap.size, 0, none⟩) by rw [e4]; rfl) (cs := [.int .i64 b.d, .slice A0 n0 c0, .slice AW nW cW]) (HT.out.below ((Below.refl _ _).drew.trans hb4 : Below w1.heap.size w1 w4)).cells3 Try.underlying25 rfl (by kernel_rfl) rfl
    ·
      have ho2 := (Array.getElem?_eq_some_iff.1 ho).2
      simp only [List.getElem_toArray, List.getElem_cons_succ, List.getElem_cons_zero] at ho2
      subst ho2
      clear ho
      have e24 := D.is { on := 0, ground := .data } (by simp) rfl rfl 24 rfl
      refine wk.does_fn (f := 12) (vs := #[.agg #[.int .i64 b.d, .slice A0 n0 c0, .slice AW nW cW]]) rfl (D.fn _) (by simp [e24]) (by go_simp) ?_
      refine (check_calls _ b w4 (HX.out.below ((Below.refl _ _).drew.trans hb4 : Below w1.heap.size w1 w4))).mono ?_
      rintro e w7 ⟨rfl, hb7⟩
      exact ⟨_, rfl, hb7, rfl⟩
    ·
      have ho2 := (Array.getElem?_eq_some_iff.1 ho).2
      simp only [List.getElem_toArray, List.getElem_cons_succ, List.getElem_cons_zero] at ho2
      subst ho2
      clear ho
      have e4 := D.old 4 (by kernel_rfl)
      exact wk.does_load_agg rfl (show E (.tmp 4) = .pointer (some ⟨w.heap.size, 0, none⟩) by rw [e4]; rfl) (cs := [.int .i64 b.d, .slice A0 n0 c0, .slice AW nW cW]) (HT.out.below ((Below.refl _ _).drew.trans hb4 : Below w1.heap.size w1 w4)).cells3 Try.underlying25 rfl (by kernel_rfl) rfl
    ·
      have ho2 := (Array.getElem?_eq_some_iff.1 ho).2
      simp only [List.getElem_toArray, List.getElem_cons_succ, List.getElem_cons_zero] at ho2
      subst ho2
      clear ho
      have e26 := D.is { on := 2, ground := .data } (by simp) rfl rfl 26 rfl
      refine wk.does_fn (f := 13) (vs := #[.agg #[.int .i64 b.d, .slice A0 n0 c0, .slice AW nW cW]]) rfl (D.fn _) (by simp [e26]) (by go_simp) ?_
      refine (rcheck_calls _ b w4 (HX.out.below ((Below.refl _ _).drew.trans hb4 : Below w1.heap.size w1 w4))).mono ?_
      rintro e w7 ⟨rfl, hb7⟩
      exact ⟨_, rfl, hb7, rfl⟩
    ·
      have ho2 := (Array.getElem?_eq_some_iff.1 ho).2
      simp only [List.getElem_toArray, List.getElem_cons_succ, List.getElem_cons_zero] at ho2
      subst ho2
      clear ho
      have e25 := D.is { on := 1, ground := .data } (by simp) rfl rfl 25 rfl
      have e27 := D.is { on := 3, ground := .data } (by simp) rfl rfl 27 rfl
      exact wk.does_run (by simp only [execOp]; rw [show E (.tmp 25) = _ from e25, show E (.tmp 27) = _ from e27]; unfold errB; go_simp) rfl
  case hdone =>
    intro vals w4 hb4 hv
    have h4 := hv 4 (by omega)
    clear hv
    replace h4 : vals 4 = (.bool false) := h4
    simp only [List.drop_succ_cons, List.drop_zero, wpList, wk.setL, List.setIfInBounds_toArray, List.set_cons_zero, List.set_cons_succ, Nat.zero_add, Nat.reduceAdd, h4]
    generalize vals 0 = x0
    generalize vals 1 = x1
    generalize vals 2 = x2
    generalize vals 3 = x3
    have hb : Below w1.heap.size w1 w4 := (Below.refl _ _).drew.trans hb4
    clear hb4
    replace HX := Lib.hid (HX.out.below hb)
    replace HT := Lib.hid (HT.out.below hb)
    replace HV := Lib.hid (HV.out.below hb)
    replace HC := Lib.hid (HC.out.below hb)
    replace HB := Lib.hid (Below.andThen HB.out hb)
    clear hb
    have hc0HT := HT.out.c0
    have hc1HT := HT.out.c1
    have hc2HT := HT.out.c2
    go_wp2_with fail
    clear hc0HT hc1HT hc2HT
    refine (right_calls _ b m _ _ _ _ _ _ q q _ HX.out HV.out.is HV.out.is).mono ?_
    rintro e w5 ⟨⟨r, rfl, hr⟩, hb⟩
    replace HX := Lib.hid (HX.out.below hb)
    replace HT := Lib.hid (HT.out.below hb)
    replace HV := Lib.hid (HV.out.below hb)
    replace HC := Lib.hid (HC.out.below hb)
    replace HB := Lib.hid (Below.andThen HB.out hb)
    clear hb
    have hc0HT := HT.out.c0
    have hc1HT := HT.out.c1
    have hc2HT := HT.out.c2
    cases r
    · clear hr
      go_wp2_with fail
      clear hc0HT hc1HT hc2HT
      refine (sanity_calls _).mono ?_
      rintro e w' ⟨rfl, hb⟩
      have HBZ := Lib.hid (Below.andThen HB.out hb)
      clear hb
      go_wp2_with fail
      go_ret
      exact ⟨rfl, HBZ.out⟩
    have HRG := Lib.hid (hr rfl)
    clear hr
    have HND : Hid ((n : Int) = b.d) := by show _ = _; rw [← HNQ.out]; exact HRG.out.d
    obtain ⟨z, hz⟩ : ∃ z, res m b q = z := ⟨_, rfl⟩
    have HZ := Lib.hid hz
    clear hz
    go_wp2_with fail
    clear hc0HT hc1HT hc2HT
    refine (decode_calls _ b _ _ _ cl _ HX.out HRG.out.rt HC.out.is).mono ?_
    rintro e w6 ⟨u3, rfl, hu, hb⟩
    replace HX := Lib.hid (HX.out.below hb)
    replace HT := Lib.hid (HT.out.below hb)
    replace HV := Lib.hid (HV.out.below hb)
    replace HC := Lib.hid (HC.out.below hb)
    replace HB := Lib.hid (Below.andThen HB.out hb)
    obtain ⟨A3, n3, c3, rfl, hu⟩ := hu
    have hnm3 := hu.2.2.1
    have hnc3 := hu.2.1
    have HD := Lib.hid (V1.mk hu)
    clear hu
    obtain ⟨er, her⟩ : ∃ e : Int, (if cok b cl then (0 : Int) else 1) = e := ⟨_, rfl⟩
    unfold okD
    rw [her]
    have HER := Lib.hid her
    clear her
    clear hb
    have hc0HT := HT.out.c0
    have hc1HT := HT.out.c1
    have hc2HT := HT.out.c2
    go_wp2_with fail
    clear hc0HT hc1HT hc2HT
    refine (rdecode_calls _ b _ _ _ cl _ HX.out HRG.out.rt HC.out.is).mono ?_
    rintro e w7 ⟨u4, rfl, hu, hb⟩
    replace HX := Lib.hid (HX.out.below hb)
    replace HT := Lib.hid (HT.out.below hb)
    replace HV := Lib.hid (HV.out.below hb)
    replace HC := Lib.hid (HC.out.below hb)
    replace HD := Lib.hid (HD.out.below hb)
    replace HB := Lib.hid (Below.andThen HB.out hb)
    obtain ⟨A4, n4, c4, rfl, hu⟩ := hu
    have hnm4 := hu.2.2.1
    have hnc4 := hu.2.1
    have HD4 := Lib.hid (V1.mk hu)
    clear hu
    unfold okD
    rw [HER.out]
    have HVC : Hid (VecC (w7.alloc (.cells #[.slice A4 n4 c4, .int .i64 er] 34)) w7.heap.size (.slice A4 n4 c4) (.int .i64 er)) := heap_alloc_new _ _
    clear hb
    have hc0HT := HT.out.c0
    have hc1HT := HT.out.c1
    have hc2HT := HT.out.c2
    clear hc0HT hc1HT hc2HT
    replace HX := Lib.hid (HX.out.below (below_new _ (.cells #[.slice A4 n4 c4, .int .i64 er] 34)))
    replace HT := Lib.hid (HT.out.below (below_new _ (.cells #[.slice A4 n4 c4, .int .i64 er] 34)))
    replace HV := Lib.hid (HV.out.below (below_new _ (.cells #[.slice A4 n4 c4, .int .i64 er] 34)))
    replace HC := Lib.hid (HC.out.below (below_new _ (.cells #[.slice A4 n4 c4, .int .i64 er] 34)))
    replace HD := Lib.hid (HD.out.below (below_new _ (.cells #[.slice A4 n4 c4, .int .i64 er] 34)))
    replace HD4 := Lib.hid (HD4.out.below (below_new _ (.cells #[.slice A4 n4 c4, .int .i64 er] 34)))
    replace HB := Lib.hid (Below.andThen HB.out (below_new _ (.cells #[.slice A4 n4 c4, .int .i64 er] 34)))
    go_wp2_with fail
    generalize (w7.alloc (.cells #[.slice A4 n4 c4, .int .i64 er] 34)) = wV at *
    obtain ⟨gv, hgv⟩ : ∃ g, w7.heap.size = g := ⟨_, rfl⟩
    rw [hgv] at HVC
    simp only [hgv]
    clear hgv
    refine wk.region_tailS 36 [.is (.bool true), .is (.bool true), .is (.agg #[.int .i64 b.d, .slice A0 n0 c0, .slice AW nW cW]), .is (.int .i64 m), .is (.slice A n c), .st (fun u x => IsV u x (enc m b q)) (fun u u2 x h hb => h.below hb), .is (.agg #[.int .i64 b.d, .slice A0 n0 c0, .slice AW nW cW]), .is (.int .i64 m), .is (.slice A n c), .st (fun u x => IsV u x (enc m b q)) (fun u u2 x h hb => h.below hb), .is (.bool true), .is (.bool true), .is (.bool true), .is (.int .i64 er), .is (.pointer (some ⟨gv, 1, none⟩)), .is (.int .i64 er), .is (.bool true), .is (.bool true), .is (.bool true), .is (.slice A3 n3 c3), .is (.pointer (some ⟨gv, 0, none⟩)), .is (.slice A4 n4 c4), .is (.bool true), .is (.bool true), .is (.bool true), .is (.agg #[.int .i64 b.d, .slice A0 n0 c0, .slice AW nW cW]), .is (.int .i64 m), .is (.slice A n c), .is (.int .i64 z), .is (.agg #[.int .i64 b.d, .slice A0 n0 c0, .slice AW nW cW]), .is (.int .i64 m), .is (.slice A n c), .is (.int .i64 z), .is (.bool true), .is (.bool true), .is (.bool true)] [some 46, some 47, some 48, some 49, some 50, some 51, some 52, some 53, some 54, some 55, some 56, some 57, some 58, some 59, some 60, some 61, some 62, some 63, some 64, some 65, some 66, some 67, some 68, some 69, some 70, some 71, some 72, some 73, some 74, some 75, some 76, some 77, some 78, some 79, some 80, some 8] (by kernel_rfl) (by kernel_rfl) (by kernel_rfl) (by kernel_rfl) [] (by kernel_rfl) (by intro p hp; cases hp) (by kernel_rfl) (by kernel_rfl) ?hstep ?hdone
    case hstep =>
      intro i o ho hi hns E w6 hb6 D
      have hi2 : i = 0 ∨ i = 1 ∨ i = 2 ∨ i = 3 ∨ i = 4 ∨ i = 5 ∨ i = 6 ∨ i = 7 ∨ i = 8 ∨ i = 9 ∨ i = 10 ∨ i = 11 ∨ i = 12 ∨ i = 13 ∨ i = 14 ∨ i = 15 ∨ i = 16 ∨ i = 17 ∨ i = 18 ∨ i = 19 ∨ i = 20 ∨ i = 21 ∨ i = 22 ∨ i = 23 ∨ i = 24 ∨ i = 25 ∨ i = 26 ∨ i = 27 ∨ i = 28 ∨ i = 29 ∨ i = 30 ∨ i = 31 ∨ i = 32 ∨ i = 33 ∨ i = 34 ∨ i = 35 := by omega
      clear hi
      rcases hi2 with rfl | rfl | rfl | rfl | rfl | rfl | rfl | rfl | rfl | rfl | rfl | rfl | rfl | rfl | rfl | rfl | rfl | rfl | rfl | rfl | rfl | rfl | rfl | rfl | rfl | rfl | rfl | rfl | rfl | rfl | rfl | rfl | rfl | rfl | rfl | rfl
      ·
        have ho2 := (Array.getElem?_eq_some_iff.1 ho).2
        simp only [List.getElem_toArray, List.getElem_cons_zero] at ho2
        subst ho2
        clear ho
        refine wk.does_fn (f := 11) (vs := #[]) rfl (D.fn _) (by simp) (by go_simp) ?_
        refine (sanity_calls _).mono ?_
        rintro e w7 ⟨rfl, hb7⟩
        exact ⟨_, rfl, hb7, rfl⟩
      ·
        have ho2 := (Array.getElem?_eq_some_iff.1 ho).2
        simp only [List.getElem_toArray, List.getElem_cons_succ, List.getElem_cons_zero] at ho2
        subst ho2
        clear ho
        have e46 := D.is { on := 0, ground := .data } (by simp) rfl rfl 46 rfl
        exact wk.does_move rfl e46
      ·
        have ho2 := (Array.getElem?_eq_some_iff.1 ho).2
        simp only [List.getElem_toArray, List.getElem_cons_succ, List.getElem_cons_zero] at ho2
        subst ho2
        clear ho
        have e4 := D.old 4 (by kernel_rfl)
        exact wk.does_load_agg rfl (show E (.tmp 4) = .pointer (some ⟨w.heap.size, 0, none⟩) by rw [e4]; rfl) (cs := [.int .i64 b.d, .slice A0 n0 c0, .slice AW nW cW]) (HT.out.below ((Below.refl _ _).drew.trans hb6 : Below wV.heap.size wV w6)).cells3 Try.underlying25 rfl (by kernel_rfl) rfl
      ·
        have ho2 := (Array.getElem?_eq_some_iff.1 ho).2
        simp only [List.getElem_toArray, List.getElem_cons_succ, List.getElem_cons_zero] at ho2
        subst ho2
        clear ho
        have e1 := D.old 1 (by kernel_rfl)
        exact wk.does_move rfl (by rw [e1]; rfl)
      ·
        have ho2 := (Array.getElem?_eq_some_iff.1 ho).2
        simp only [List.getElem_toArray, List.getElem_cons_succ, List.getElem_cons_zero] at ho2
        subst ho2
        clear ho
        have e2 := D.old 2 (by kernel_rfl)
        exact wk.does_move rfl (by rw [e2]; rfl)
      ·
        have ho2 := (Array.getElem?_eq_some_iff.1 ho).2
        simp only [List.getElem_toArray, List.getElem_cons_succ, List.getElem_cons_zero] at ho2
        subst ho2
        clear ho
        have e48 := D.is { on := 2, ground := .data } (by simp) rfl rfl 48 rfl
        have e49 := D.is { on := 3, ground := .data } (by simp) rfl rfl 49 rfl
        have e50 := D.is { on := 4, ground := .data } (by simp) rfl rfl 50 rfl
        refine wk.does_fn (f := 18) (vs := #[.agg #[.int .i64 b.d, .slice A0 n0 c0, .slice AW nW cW], .int .i64 m, .slice A n c]) rfl (D.fn _) (by simp [e48, e49, e50]) (by go_simp) ?_
        refine (encode_calls _ b m A n c q w6 (HX.out.below ((Below.refl _ _).drew.trans hb6 : Below wV.heap.size wV w6)) HRG.out.rt HRG.out.m1 HRG.out.m3 (HV.out.below ((Below.refl _ _).drew.trans hb6 : Below wV.heap.size wV w6)).is HRG.out.v1 HND.out).mono ?_
        rintro e w7 ⟨u7, rfl, hu7, hb7⟩
        exact ⟨_, rfl, hb7, hu7⟩
      ·
        have ho2 := (Array.getElem?_eq_some_iff.1 ho).2
        simp only [List.getElem_toArray, List.getElem_cons_succ, List.getElem_cons_zero] at ho2
        subst ho2
        clear ho
        have e4 := D.old 4 (by kernel_rfl)
        exact wk.does_load_agg rfl (show E (.tmp 4) = .pointer (some ⟨w.heap.size, 0, none⟩) by rw [e4]; rfl) (cs := [.int .i64 b.d, .slice A0 n0 c0, .slice AW nW cW]) (HT.out.below ((Below.refl _ _).drew.trans hb6 : Below wV.heap.size wV w6)).cells3 Try.underlying25 rfl (by kernel_rfl) rfl
      ·
        have ho2 := (Array.getElem?_eq_some_iff.1 ho).2
        simp only [List.getElem_toArray, List.getElem_cons_succ, List.getElem_cons_zero] at ho2
        subst ho2
        clear ho
        have e1 := D.old 1 (by kernel_rfl)
        exact wk.does_move rfl (by rw [e1]; rfl)
      ·
        have ho2 := (Array.getElem?_eq_some_iff.1 ho).2
        simp only [List.getElem_toArray, List.getElem_cons_succ, List.getElem_cons_zero] at ho2
        subst ho2
        clear ho
        have e2 := D.old 2 (by kernel_rfl)
        exact wk.does_move rfl (by rw [e2]; rfl)
      ·
        have ho2 := (Array.getElem?_eq_some_iff.1 ho).2
        simp only [List.getElem_toArray, List.getElem_cons_succ, List.getElem_cons_zero] at ho2
        subst ho2
        clear ho
        have e52 := D.is { on := 6, ground := .data } (by simp) rfl rfl 52 rfl
        have e53 := D.is { on := 7, ground := .data } (by simp) rfl rfl 53 rfl
        have e54 := D.is { on := 8, ground := .data } (by simp) rfl rfl 54 rfl
        refine wk.does_fn (f := 19) (vs := #[.agg #[.int .i64 b.d, .slice A0 n0 c0, .slice AW nW cW], .int .i64 m, .slice A n c]) rfl (D.fn _) (by simp [e52, e53, e54]) (by go_simp) ?_
        refine (rencode_calls _ b m A n c q w6 (HX.out.below ((Below.refl _ _).drew.trans hb6 : Below wV.heap.size wV w6)) HRG.out.rt HRG.out.m1 HRG.out.m3 (HV.out.below ((Below.refl _ _).drew.trans hb6 : Below wV.heap.size wV w6)).is HRG.out.v1 HND.out).mono ?_
        rintro e w7 ⟨u7, rfl, hu7, hb7⟩
        exact ⟨_, rfl, hb7, hu7⟩
      ·
        have ho2 := (Array.getElem?_eq_some_iff.1 ho).2
        simp only [List.getElem_toArray, List.getElem_cons_succ, List.getElem_cons_zero] at ho2
        subst ho2
        clear ho
        have s51 := D.st { on := 5, ground := .data } (by simp) rfl rfl 51 rfl
        have s55 := D.st { on := 9, ground := .data } (by simp) rfl rfl 55 rfl
        obtain ⟨A5, n5, c5, e5, h5⟩ := s51
        obtain ⟨A6, n6, c6, e6, h6⟩ := s55
        refine wk.does_fn (f := 17) (vs := #[.slice A5 n5 c5, .slice A6 n6 c6]) rfl (D.fn _) (by simp [show E (.tmp 51) = _ from e5, show E (.tmp 55) = _ from e6]) (by go_simp) ?_
        refine (vk.same_calls _ _ _ _ _ _ (enc m b q) (enc m b q) w6 h5 h6).mono ?_
        rintro e w7 ⟨rfl, q7, hq7⟩
        exact ⟨_, rfl, below_of_drew hq7, by rw [beq_self_eq_true]; rfl⟩
      ·
        have ho2 := (Array.getElem?_eq_some_iff.1 ho).2
        simp only [List.getElem_toArray, List.getElem_cons_succ, List.getElem_cons_zero] at ho2
        subst ho2
        clear ho
        have e47 := D.is { on := 1, ground := .data } (by simp) rfl rfl 47 rfl
        have e56 := D.is { on := 10, ground := .data } (by simp) rfl rfl 56 rfl
        exact wk.does_pick rfl e47 e56
      ·
        have ho2 := (Array.getElem?_eq_some_iff.1 ho).2
        simp only [List.getElem_toArray, List.getElem_cons_succ, List.getElem_cons_zero] at ho2
        subst ho2
        clear ho
        have e57 := D.is { on := 11, ground := .data } (by simp) rfl rfl 57 rfl
        exact wk.does_move rfl e57
      ·
        have ho2 := (Array.getElem?_eq_some_iff.1 ho).2
        simp only [List.getElem_toArray, List.getElem_cons_succ, List.getElem_cons_zero] at ho2
        subst ho2
        clear ho
        have e12 := D.old 12 (by kernel_rfl)
        exact wk.does_move rfl (by rw [e12]; rfl)
      ·
        have ho2 := (Array.getElem?_eq_some_iff.1 ho).2
        simp only [List.getElem_toArray, List.getElem_cons_succ, List.getElem_cons_zero] at ho2
        subst ho2
        clear ho
        have e13 := D.old 13 (by kernel_rfl)
        exact wk.does_run (by simp only [execOp]; rw [show E (.tmp 13) = .pointer (some ⟨gv, 0, none⟩) by rw [e13]; rfl]; go_simp) rfl
      ·
        have ho2 := (Array.getElem?_eq_some_iff.1 ho).2
        simp only [List.getElem_toArray, List.getElem_cons_succ, List.getElem_cons_zero] at ho2
        subst ho2
        clear ho
        have e60 := D.is { on := 14, ground := .data } (by simp) rfl rfl 60 rfl
        exact wk.does_load1 rfl e60 ((HVC.out.below ((Below.refl _ _).drew.trans hb6 : Below wV.heap.size wV w6)).c1) Try.underlying28 rfl rfl
      ·
        have ho2 := (Array.getElem?_eq_some_iff.1 ho).2
        simp only [List.getElem_toArray, List.getElem_cons_succ, List.getElem_cons_zero] at ho2
        subst ho2
        clear ho
        have e59 := D.is { on := 13, ground := .data } (by simp) rfl rfl 59 rfl
        have e61 := D.is { on := 15, ground := .data } (by simp) rfl rfl 61 rfl
        exact wk.does_run (by simp only [execOp]; rw [show E (.tmp 59) = _ from e59, show E (.tmp 61) = _ from e61]; go_simp) rfl
      ·
        have ho2 := (Array.getElem?_eq_some_iff.1 ho).2
        simp only [List.getElem_toArray, List.getElem_cons_succ, List.getElem_cons_zero] at ho2
        subst ho2
        clear ho
        have e58 := D.is { on := 12, ground := .data } (by simp) rfl rfl 58 rfl
        have e62 := D.is { on := 16, ground := .data } (by simp) rfl rfl 62 rfl
        exact wk.does_pick rfl e58 e62
      ·
        have ho2 := (Array.getElem?_eq_some_iff.1 ho).2
        simp only [List.getElem_toArray, List.getElem_cons_succ, List.getElem_cons_zero] at ho2
        subst ho2
        clear ho
        have e63 := D.is { on := 17, ground := .data } (by simp) rfl rfl 63 rfl
        exact wk.does_move rfl e63
      ·
        have ho2 := (Array.getElem?_eq_some_iff.1 ho).2
        simp only [List.getElem_toArray, List.getElem_cons_succ, List.getElem_cons_zero] at ho2
        subst ho2
        clear ho
        have e11 := D.old 11 (by kernel_rfl)
        exact wk.does_move rfl (by rw [e11]; rfl)
      ·
        have ho2 := (Array.getElem?_eq_some_iff.1 ho).2
        simp only [List.getElem_toArray, List.getElem_cons_succ, List.getElem_cons_zero] at ho2
        subst ho2
        clear ho
        have e13 := D.old 13 (by kernel_rfl)
        exact wk.does_run (by simp only [execOp]; rw [show E (.tmp 13) = .pointer (some ⟨gv, 0, none⟩) by rw [e13]; rfl]; go_simp) rfl
      ·
        have ho2 := (Array.getElem?_eq_some_iff.1 ho).2
        simp only [List.getElem_toArray, List.getElem_cons_succ, List.getElem_cons_zero] at ho2
        subst ho2
        clear ho
        have e66 := D.is { on := 20, ground := .data } (by simp) rfl rfl 66 rfl
        exact wk.does_load1 rfl e66 ((HVC.out.below ((Below.refl _ _).drew.trans hb6 : Below wV.heap.size wV w6)).c0) Try.underlying22 rfl rfl
      ·
        have ho2 := (Array.getElem?_eq_some_iff.1 ho).2
        simp only [List.getElem_toArray, List.getElem_cons_succ, List.getElem_cons_zero] at ho2
        subst ho2
        clear ho
        have e65 := D.is { on := 19, ground := .data } (by simp) rfl rfl 65 rfl
        have e67 := D.is { on := 21, ground := .data } (by simp) rfl rfl 67 rfl
        refine wk.does_fn (f := 17) (vs := #[.slice A3 n3 c3, .slice A4 n4 c4]) rfl (D.fn _) (by simp [e65, e67]) (by go_simp) ?_
        refine (vk.same_calls _ _ _ _ _ _ (dec b cl) (dec b cl) w6 (HD.out.below ((Below.refl _ _).drew.trans hb6 : Below wV.heap.size wV w6)).is (HD4.out.below ((Below.refl _ _).drew.trans hb6 : Below wV.heap.size wV w6)).is).mono ?_
        rintro e w7 ⟨rfl, q7, hq7⟩
        exact ⟨_, rfl, below_of_drew hq7, by rw [beq_self_eq_true]; rfl⟩
      ·
        have ho2 := (Array.getElem?_eq_some_iff.1 ho).2
        simp only [List.getElem_toArray, List.getElem_cons_succ, List.getElem_cons_zero] at ho2
        subst ho2
        clear ho
        have e64 := D.is { on := 18, ground := .data } (by simp) rfl rfl 64 rfl
        have e68 := D.is { on := 22, ground := .data } (by simp) rfl rfl 68 rfl
        exact wk.does_pick rfl e64 e68
      ·
        have ho2 := (Array.getElem?_eq_some_iff.1 ho).2
        simp only [List.getElem_toArray, List.getElem_cons_succ, List.getElem_cons_zero] at ho2
        subst ho2
        clear ho
        have e69 := D.is { on := 23, ground := .data } (by simp) rfl rfl 69 rfl
        exact wk.does_move rfl e69
      ·
        have ho2 := (Array.getElem?_eq_some_iff.1 ho).2
        simp only [List.getElem_toArray, List.getElem_cons_succ, List.getElem_cons_zero] at ho2
        subst ho2
        clear ho
        have e4 := D.old 4 (by kernel_rfl)
        exact wk.does_load_agg rfl (show E (.tmp 4) = .pointer (some ⟨w.heap.size, 0, none⟩) by rw [e4]; rfl) (cs := [.int .i64 b.d, .slice A0 n0 c0, .slice AW nW cW]) (HT.out.below ((Below.refl _ _).drew.trans hb6 : Below wV.heap.size wV w6)).cells3 Try.underlying25 rfl (by kernel_rfl) rfl
      ·
        have ho2 := (Array.getElem?_eq_some_iff.1 ho).2
        simp only [List.getElem_toArray, List.getElem_cons_succ, List.getElem_cons_zero] at ho2
        subst ho2
        clear ho
        have e1 := D.old 1 (by kernel_rfl)
        exact wk.does_move rfl (by rw [e1]; rfl)
      ·
        have ho2 := (Array.getElem?_eq_some_iff.1 ho).2
        simp only [List.getElem_toArray, List.getElem_cons_succ, List.getElem_cons_zero] at ho2
        subst ho2
        clear ho
        have e2 := D.old 2 (by kernel_rfl)
        exact wk.does_move rfl (by rw [e2]; rfl)
      ·
        have ho2 := (Array.getElem?_eq_some_iff.1 ho).2
        simp only [List.getElem_toArray, List.getElem_cons_succ, List.getElem_cons_zero] at ho2
        subst ho2
        clear ho
        have e71 := D.is { on := 25, ground := .data } (by simp) rfl rfl 71 rfl
        have e72 := D.is { on := 26, ground := .data } (by simp) rfl rfl 72 rfl
        have e73 := D.is { on := 27, ground := .data } (by simp) rfl rfl 73 rfl
        refine wk.does_fn (f := 20) (vs := #[.agg #[.int .i64 b.d, .slice A0 n0 c0, .slice AW nW cW], .int .i64 m, .slice A n c]) rfl (D.fn _) (by simp [e71, e72, e73]) (by go_simp) ?_
        refine (residual_calls _ b m A n c q w6 (HX.out.below ((Below.refl _ _).drew.trans hb6 : Below wV.heap.size wV w6)) HRG.out.rt HRG.out.m1 HRG.out.m3 (HV.out.below ((Below.refl _ _).drew.trans hb6 : Below wV.heap.size wV w6)).is HRG.out.v1 HND.out).mono ?_
        rintro e w7 ⟨rfl, hb7⟩
        exact ⟨_, rfl, hb7, by rw [HZ.out]; rfl⟩
      ·
        have ho2 := (Array.getElem?_eq_some_iff.1 ho).2
        simp only [List.getElem_toArray, List.getElem_cons_succ, List.getElem_cons_zero] at ho2
        subst ho2
        clear ho
        have e4 := D.old 4 (by kernel_rfl)
        exact wk.does_load_agg rfl (show E (.tmp 4) = .pointer (some ⟨w.heap.size, 0, none⟩) by rw [e4]; rfl) (cs := [.int .i64 b.d, .slice A0 n0 c0, .slice AW nW cW]) (HT.out.below ((Below.refl _ _).drew.trans hb6 : Below wV.heap.size wV w6)).cells3 Try.underlying25 rfl (by kernel_rfl) rfl
      ·
        have ho2 := (Array.getElem?_eq_some_iff.1 ho).2
        simp only [List.getElem_toArray, List.getElem_cons_succ, List.getElem_cons_zero] at ho2
        subst ho2
        clear ho
        have e1 := D.old 1 (by kernel_rfl)
        exact wk.does_move rfl (by rw [e1]; rfl)
      ·
        have ho2 := (Array.getElem?_eq_some_iff.1 ho).2
        simp only [List.getElem_toArray, List.getElem_cons_succ, List.getElem_cons_zero] at ho2
        subst ho2
        clear ho
        have e2 := D.old 2 (by kernel_rfl)
        exact wk.does_move rfl (by rw [e2]; rfl)
      ·
        have ho2 := (Array.getElem?_eq_some_iff.1 ho).2
        simp only [List.getElem_toArray, List.getElem_cons_succ, List.getElem_cons_zero] at ho2
        subst ho2
        clear ho
        have e75 := D.is { on := 29, ground := .data } (by simp) rfl rfl 75 rfl
        have e76 := D.is { on := 30, ground := .data } (by simp) rfl rfl 76 rfl
        have e77 := D.is { on := 31, ground := .data } (by simp) rfl rfl 77 rfl
        refine wk.does_fn (f := 21) (vs := #[.agg #[.int .i64 b.d, .slice A0 n0 c0, .slice AW nW cW], .int .i64 m, .slice A n c]) rfl (D.fn _) (by simp [e75, e76, e77]) (by go_simp) ?_
        refine (rresidual_calls _ b m A n c q w6 (HX.out.below ((Below.refl _ _).drew.trans hb6 : Below wV.heap.size wV w6)) HRG.out.rt HRG.out.m1 HRG.out.m3 (HV.out.below ((Below.refl _ _).drew.trans hb6 : Below wV.heap.size wV w6)).is HRG.out.v1 HND.out).mono ?_
        rintro e w7 ⟨rfl, hb7⟩
        exact ⟨_, rfl, hb7, by rw [HZ.out]; rfl⟩
      ·
        have ho2 := (Array.getElem?_eq_some_iff.1 ho).2
        simp only [List.getElem_toArray, List.getElem_cons_succ, List.getElem_cons_zero] at ho2
        subst ho2
        clear ho
        have e74 := D.is { on := 28, ground := .data } (by simp) rfl rfl 74 rfl
        have e78 := D.is { on := 32, ground := .data } (by simp) rfl rfl 78 rfl
        exact wk.does_run (by simp only [execOp]; rw [show E (.tmp 74) = _ from e74, show E (.tmp 78) = _ from e78]; go_simp) rfl
      ·
        have ho2 := (Array.getElem?_eq_some_iff.1 ho).2
        simp only [List.getElem_toArray, List.getElem_cons_succ, List.getElem_cons_zero] at ho2
        subst ho2
        clear ho
        have e70 := D.is { on := 24, ground := .data } (by simp) rfl rfl 70 rfl
        have e79 := D.is { on := 33, ground := .data } (by simp) rfl rfl 79 rfl
        exact wk.does_pick rfl e70 e79
      ·
        have ho2 := (Array.getElem?_eq_some_iff.1 ho).2
        simp only [List.getElem_toArray, List.getElem_cons_succ, List.getElem_cons_zero] at ho2
        subst ho2
        clear ho
        have e80 := D.is { on := 34, ground := .data } (by simp) rfl rfl 80 rfl
        exact wk.does_assign rfl e80
    case hdone =>
      intro vals w6 hb6 hv
      have h35 := hv 35 (by omega)
      clear hv
      replace h35 : vals 35 = (.bool true) := h35
      simp only [List.drop_succ_cons, List.drop_zero, wpList, wk.setL, List.setIfInBounds_toArray, List.set_cons_zero, List.set_cons_succ, Nat.zero_add, Nat.reduceAdd, h35]
      generalize vals 0 = x0
      generalize vals 1 = x1
      generalize vals 2 = x2
      generalize vals 3 = x3
      generalize vals 4 = x4
      generalize vals 5 = x5
      generalize vals 6 = x6
      generalize vals 7 = x7
      generalize vals 8 = x8
      generalize vals 9 = x9
      generalize vals 10 = x10
      generalize vals 11 = x11
      generalize vals 12 = x12
      generalize vals 13 = x13
      generalize vals 14 = x14
      generalize vals 15 = x15
      generalize vals 16 = x16
      generalize vals 17 = x17
      generalize vals 18 = x18
      generalize vals 19 = x19
      generalize vals 20 = x20
      generalize vals 21 = x21
      generalize vals 22 = x22
      generalize vals 23 = x23
      generalize vals 24 = x24
      generalize vals 25 = x25
      generalize vals 26 = x26
      generalize vals 27 = x27
      generalize vals 28 = x28
      generalize vals 29 = x29
      generalize vals 30 = x30
      generalize vals 31 = x31
      generalize vals 32 = x32
      generalize vals 33 = x33
      generalize vals 34 = x34
      have hb : Below wV.heap.size wV w6 := (Below.refl _ _).drew.trans hb6
      clear hb6
      replace HB := Lib.hid (Below.andThen HB.out hb)
      clear hb
      go_wp2_with fail
      go_ret
      exact ⟨rfl, HB.out⟩
end Go.Proofs.Ytiodjepjbooniaa.codeReadsAsSpecified
