/- CodeIsNearest: its walk. -/
import Derived.Test.YtiodjepjbooniaaU7

namespace Go.Proofs.Ytiodjepjbooniaa.codeIsNearest

open Go.ChangeShapes Go.WideShapes Go.ChangeAt Go.RowKit

open Go.Proofs.Ytiodjepjbooniaa.cq Go.Proofs.Ytiodjepjbooniaa.vk Go.Proofs.Ytiodjepjbooniaa.bk Go.Proofs.Ytiodjepjbooniaa.wk Go.Proofs.Ytiodjepjbooniaa.uk

set_option linter.unusedVariables false
set_option maxRecDepth 100000 in
set_option maxHeartbeats 8000000 in
theorem walk (w : World) {v : Value} {b : Bk} {m : Int} {A A2 : Option Addr} {n c n2 c2 : Nat} {q cl : List Int} (w0 : IsBk w v b) (w1 : (Lit.int .i64 m).wf = true) (w2 : wo.IsI w A n c q) (w3 : wo.IsI w A2 n2 c2 cl) :
    Calls Try.prog 8 #[v, .int .i64 m, .slice A n c, .slice A2 n2 c2] w fun e w' => e = .returned (.bool true) ∧ Below w.heap.size w w' := by
  obtain ⟨A0, n0, c0, AW, nW, cW, rfl, hi, hW, hd⟩ := w0
  have hnc0 := hi.2.1
  have hnm0 := hi.2.2.1
  have hncW := hW.2.1
  have hnmW := hW.2.2.1
  have hnc1 := w2.2.1
  have hnm1 := w2.2.2.1
  have hnc2 := w3.2.1
  have hnm2 := w3.2.2.1
  have HX : Hid (IsBk (w.alloc (.cells #[.int .i64 b.d, .slice A0 n0 c0, .slice AW nW cW] 25)) (.agg #[.int .i64 b.d, .slice A0 n0 c0, .slice AW nW cW]) b) := IsBk.below ⟨_, _, _, _, _, _, rfl, hi, hW, hd⟩ (below_new _ _)
  have HT := Lib.hid (Three.new w (.int .i64 b.d) (.slice A0 n0 c0) (.slice AW nW cW))
  have HV := Lib.hid (V1.mk (isI_below w2 (below_new _ (.cells #[.int .i64 b.d, .slice A0 n0 c0, .slice AW nW cW] 25))))
  have HC := Lib.hid (V1.mk (isI_below w3 (below_new _ (.cells #[.int .i64 b.d, .slice A0 n0 c0, .slice AW nW cW] 25))))
  have HB := Lib.hid (below_new w (.cells #[.int .i64 b.d, .slice A0 n0 c0, .slice AW nW cW] 25))
  have HNQ := Lib.hid w2.1
  have HNC := Lib.hid w3.1
  clear hi hW hd w1 w2 w3
  go_enter Try.func8, Try.ntmps8
  have hc0HT := HT.out.c0
  have hc1HT := HT.out.c1
  have hc2HT := HT.out.c2
  go_wp2_with fail
  clear hc0HT hc1HT hc2HT
  refine (right_calls _ b m _ _ _ _ _ _ q q _ HX.out HV.out.is HV.out.is).mono ?_
  rintro e w1 ⟨⟨r, rfl, hr⟩, hb⟩
  replace HX := Lib.hid (HX.out.below hb)
  replace HT := Lib.hid (HT.out.below hb)
  replace HV := Lib.hid (HV.out.below hb)
  replace HC := Lib.hid (HC.out.below hb)
  replace HB := Lib.hid (Below.andThen HB.out hb)
  clear hb
  have hc0HT := HT.out.c0
  have hc1HT := HT.out.c1
  have hc2HT := HT.out.c2
  cases r
  · clear hr
    go_wp2_with fail
    clear hc0HT hc1HT hc2HT
    refine (sanity_calls _).mono ?_
    rintro e w' ⟨rfl, hb⟩
    have HBZ := Lib.hid (Below.andThen HB.out hb)
    clear hb
    go_wp2_with fail
    go_ret
    exact ⟨rfl, HBZ.out⟩
  have HRG := Lib.hid (hr rfl)
  clear hr
  by_cases h20 : n2 > 20
  ·
    go_wp2_with fail
    clear hc0HT hc1HT hc2HT
    refine (sanity_calls _).mono ?_
    rintro e w' ⟨rfl, hb⟩
    have HBZ := Lib.hid (Below.andThen HB.out hb)
    clear hb
    go_wp2_with fail
    go_ret
    exact ⟨rfl, HBZ.out⟩
  have HND : Hid ((n : Int) = b.d) := by show _ = _; rw [← HNQ.out]; exact HRG.out.d
  have HN32 : Hid (n ≤ 32) := by rw [← HNQ.out]; exact HRG.out.v1.le
  have HLD := Lib.hid (dec_len HRG.out.rt (enc_cok (m := m) HRG.out.rt q))
  have HDV := Lib.hid (dec_vec HRG.out.rt (enc_cok (m := m) HRG.out.rt q))
  go_wp2_with fail
  clear hc0HT hc1HT hc2HT
  refine wk.region_tailS 11 [.is (.agg #[.int .i64 b.d, .slice A0 n0 c0, .slice AW nW cW]), .is (.agg #[.int .i64 b.d, .slice A0 n0 c0, .slice AW nW cW]), .is (.int .i64 m), .is (.slice A n c), .st (fun u x => IsV u x (enc m b q)) (fun u u2 x h hb => h.below hb), .st (fun u x => ∃ y, x = .tuple #[y, .int .i64 0] ∧ IsV u y (dec b (enc m b q))) (fun u u2 x h hb => by obtain ⟨y, h1, h2⟩ := h; exact ⟨y, h1, h2.below hb⟩), .st (fun u x => ∃ y, x = .tuple #[y, .int .i64 0] ∧ IsV u y (dec b (enc m b q))) (fun u u2 x h hb => by obtain ⟨y, h1, h2⟩ := h; exact ⟨y, h1, h2.below hb⟩), .st (fun u x => IsV u x (dec b (enc m b q))) (fun u u2 x h hb => h.below hb), .is (.int .i64 0), .st (fun u x => IsV u x (dec b (enc m b q))) (fun u u2 x h hb => h.below hb), .is (.int .i64 0)] [some 28, some 29, some 30, some 31, some 32, some 33, some 27, some 34, some 35, some 10, some 11] (by kernel_rfl) (by kernel_rfl) (by kernel_rfl) (by kernel_rfl) [] (by kernel_rfl) (by intro p hp; cases hp) (by kernel_rfl) (by kernel_rfl) ?hstep ?hdone
  case hstep =>
    intro i o ho hi hns E w4 hb4 D
    have hi2 : i = 0 ∨ i = 1 ∨ i = 2 ∨ i = 3 ∨ i = 4 ∨ i = 5 ∨ i = 6 ∨ i = 7 ∨ i = 8 ∨ i = 9 ∨ i = 10 := by omega
    clear hi
    rcases hi2 with rfl | rfl | rfl | rfl | rfl | rfl | rfl | rfl | rfl | rfl | rfl
    ·
      have ho2 := (Array.getElem?_eq_some_iff.1 ho).2
      simp only [List.getElem_toArray, List.getElem_cons_zero] at ho2
      subst ho2
      clear ho
      have e4 := D.old 4 (by kernel_rfl)
      exact wk.does_load_agg rfl (show E (.tmp 4) = .pointer (some ⟨w.heap.size, 0, none⟩) by rw [e4]; rfl) (cs := [.int .i64 b.d, .slice A0 n0 c0, .slice AW nW cW]) (HT.out.below ((Below.refl _ _).drew.trans hb4 : Below w1.heap.size w1 w4)).cells3 Try.underlying25 rfl (by kernel_rfl) rfl
    ·
      have ho2 := (Array.getElem?_eq_some_iff.1 ho).2
      simp only [List.getElem_toArray, List.getElem_cons_succ, List.getElem_cons_zero] at ho2
      subst ho2
      clear ho
      have e4 := D.old 4 (by kernel_rfl)
      exact wk.does_load_agg rfl (show E (.tmp 4) = .pointer (some ⟨w.heap.size, 0, none⟩) by rw [e4]; rfl) (cs := [.int .i64 b.d, .slice A0 n0 c0, .slice AW nW cW]) (HT.out.below ((Below.refl _ _).drew.trans hb4 : Below w1.heap.size w1 w4)).cells3 Try.underlying25 rfl (by kernel_rfl) rfl
    ·
      have ho2 := (Array.getElem?_eq_some_iff.1 ho).2
      simp only [List.getElem_toArray, List.getElem_cons_succ, List.getElem_cons_zero] at ho2
      subst ho2
      clear ho
      have e1 := D.old 1 (by kernel_rfl)
      exact wk.does_move rfl (by rw [e1]; rfl)
    ·
      have ho2 := (Array.getElem?_eq_some_iff.1 ho).2
      simp only [List.getElem_toArray, List.getElem_cons_succ, List.getElem_cons_zero] at ho2
      subst ho2
      clear ho
      have e2 := D.old 2 (by kernel_rfl)
      exact wk.does_move rfl (by rw [e2]; rfl)
    ·
      have ho2 := (Array.getElem?_eq_some_iff.1 ho).2
      simp only [List.getElem_toArray, List.getElem_cons_succ, List.getElem_cons_zero] at ho2
      subst ho2
      clear ho
      have e29 := D.is { on := 1, ground := .data } (by simp) rfl rfl 29 rfl
      have e30 := D.is { on := 2, ground := .data } (by simp) rfl rfl 30 rfl
      have e31 := D.is { on := 3, ground := .data } (by simp) rfl rfl 31 rfl
      refine wk.does_fn (f := 18) (vs := #[.agg #[.int .i64 b.d, .slice A0 n0 c0, .slice AW nW cW], .int .i64 m, .slice A n c]) rfl (D.fn _) (by simp [e29, e30, e31]) (by go_simp) ?_
      refine (encode_calls _ b m A n c q w4 (HX.out.below ((Below.refl _ _).drew.trans hb4 : Below w1.heap.size w1 w4)) HRG.out.rt HRG.out.m1 HRG.out.m3 (HV.out.below ((Below.refl _ _).drew.trans hb4 : Below w1.heap.size w1 w4)).is HRG.out.v1 HND.out).mono ?_
      rintro e w7 ⟨u7, rfl, hu7, hb7⟩
      exact ⟨_, rfl, hb7, hu7⟩
    ·
      have ho2 := (Array.getElem?_eq_some_iff.1 ho).2
      simp only [List.getElem_toArray, List.getElem_cons_succ, List.getElem_cons_zero] at ho2
      subst ho2
      clear ho
      have e28 := D.is { on := 0, ground := .data } (by simp) rfl rfl 28 rfl
      have s32 := D.st { on := 4, ground := .data } (by simp) rfl rfl 32 rfl
      obtain ⟨A7, n7, c7, e7, hI7⟩ := s32
      refine wk.does_fn (f := 15) (vs := #[.agg #[.int .i64 b.d, .slice A0 n0 c0, .slice AW nW cW], .slice A7 n7 c7]) rfl (D.fn _) (by simp [e28, show E (.tmp 32) = _ from e7]) (by go_simp) ?_
      refine (decode_calls _ b A7 n7 c7 (enc m b q) w4 (HX.out.below ((Below.refl _ _).drew.trans hb4 : Below w1.heap.size w1 w4)) HRG.out.rt hI7).mono ?_
      rintro e w7 ⟨u7, rfl, hu7, hb7⟩
      exact ⟨_, rfl, hb7, _, by rw [enc_cok HRG.out.rt q]; rfl, hu7⟩
    ·
      have ho2 := (Array.getElem?_eq_some_iff.1 ho).2
      simp only [List.getElem_toArray, List.getElem_cons_succ, List.getElem_cons_zero] at ho2
      subst ho2
      clear ho
      have s33 := D.st { on := 5, ground := .data } (by simp) rfl rfl 33 rfl
      exact wk.does_move rfl s33
    ·
      have ho2 := (Array.getElem?_eq_some_iff.1 ho).2
      simp only [List.getElem_toArray, List.getElem_cons_succ, List.getElem_cons_zero] at ho2
      subst ho2
      clear ho
      have s27 := D.st { on := 6, ground := .data } (by simp) rfl rfl 27 rfl
      obtain ⟨y, ey, hy⟩ := s27
      exact wk.does_extract rfl ey rfl hy
    ·
      have ho2 := (Array.getElem?_eq_some_iff.1 ho).2
      simp only [List.getElem_toArray, List.getElem_cons_succ, List.getElem_cons_zero] at ho2
      subst ho2
      clear ho
      have s27 := D.st { on := 6, ground := .data } (by simp) rfl rfl 27 rfl
      obtain ⟨y, ey, hy⟩ := s27
      exact wk.does_extract rfl ey rfl rfl
    ·
      have ho2 := (Array.getElem?_eq_some_iff.1 ho).2
      simp only [List.getElem_toArray, List.getElem_cons_succ, List.getElem_cons_zero] at ho2
      subst ho2
      clear ho
      have s34 := D.st { on := 7, ground := .data } (by simp) rfl rfl 34 rfl
      exact wk.does_assign rfl s34
    ·
      have ho2 := (Array.getElem?_eq_some_iff.1 ho).2
      simp only [List.getElem_toArray, List.getElem_cons_succ, List.getElem_cons_zero] at ho2
      subst ho2
      clear ho
      have e35 := D.is { on := 8, ground := .data } (by simp) rfl rfl 35 rfl
      exact wk.does_assign rfl e35
  case hdone =>
    intro vals w4 hb4 hv
    have h9 := hv 9 (by omega)
    have h10 := hv 10 (by omega)
    clear hv
    replace h10 : vals 10 = (.int .i64 0) := h10
    simp only [List.drop_succ_cons, List.drop_zero, wpList, wk.setL, List.setIfInBounds_toArray, List.set_cons_zero, List.set_cons_succ, Nat.zero_add, Nat.reduceAdd, h10]
    generalize vals 0 = x0
    generalize vals 1 = x1
    generalize vals 2 = x2
    generalize vals 3 = x3
    generalize vals 4 = x4
    generalize vals 5 = x5
    generalize vals 6 = x6
    generalize vals 7 = x7
    generalize vals 8 = x8
    generalize vals 9 = x9 at *
    obtain ⟨A8, n8, c8, e8, hI8⟩ := h9
    subst e8
    have hb : Below w1.heap.size w1 w4 := (Below.refl _ _).drew.trans hb4
    clear hb4
    replace HX := Lib.hid (HX.out.below hb)
    replace HT := Lib.hid (HT.out.below hb)
    replace HV := Lib.hid (HV.out.below hb)
    replace HC := Lib.hid (HC.out.below hb)
    replace HB := Lib.hid (Below.andThen HB.out hb)
    clear hb
    obtain rfl : n8 = n := by
      have h1 := hI8.1
      have h2 := HLD.out
      have h3 := HND.out
      omega
    have HE := Lib.hid (V1.mk hI8)
    clear hI8
    obtain ⟨z, hz⟩ : ∃ z, res m b q = z := ⟨_, rfl⟩
    have HZ := Lib.hid hz
    have HK : Hid (vq.key m q (dec b (enc m b q)) = z) := hz
    clear hz
    go_wp2_with fail
    refine wk.region_tailS 20 [.is (.int .i64 0), .is (.bool false), .is (.bool false), .is (.slice A8 n8 c8), .is (.int .i64 (n8 : Int)), .is (.slice A n8 c), .is (.int .i64 (n8 : Int)), .is (.bool false), .is (.bool false), .is (.bool false), .is (.int .i64 m), .is (.slice A n8 c), .is (.slice A8 n8 c8), .is (.int .i64 z), .is (.agg #[.int .i64 b.d, .slice A0 n0 c0, .slice AW nW cW]), .is (.int .i64 m), .is (.slice A n8 c), .is (.int .i64 z), .is (.bool false), .is (.bool false)] [some 36, some 37, some 38, some 39, some 40, some 41, some 42, some 43, some 44, some 45, some 46, some 47, some 48, some 49, some 50, some 51, some 52, some 53, some 54, some 55] (by kernel_rfl) (by kernel_rfl) (by kernel_rfl) (by kernel_rfl) [] (by kernel_rfl) (by intro p hp; cases hp) (by kernel_rfl) (by kernel_rfl) ?hstep ?hdone
    case hstep =>
      intro i o ho hi hns E w5 hb5 D
      have hi2 : i = 0 ∨ i = 1 ∨ i = 2 ∨ i = 3 ∨ i = 4 ∨ i = 5 ∨ i = 6 ∨ i = 7 ∨ i = 8 ∨ i = 9 ∨ i = 10 ∨ i = 11 ∨ i = 12 ∨ i = 13 ∨ i = 14 ∨ i = 15 ∨ i = 16 ∨ i = 17 ∨ i = 18 ∨ i = 19 := by omega
      clear hi
      rcases hi2 with rfl | rfl | rfl | rfl | rfl | rfl | rfl | rfl | rfl | rfl | rfl | rfl | rfl | rfl | rfl | rfl | rfl | rfl | rfl | rfl
      ·
        have ho2 := (Array.getElem?_eq_some_iff.1 ho).2
        simp only [List.getElem_toArray, List.getElem_cons_zero] at ho2
        subst ho2
        clear ho
        have e11 := D.old 11 (by kernel_rfl)
        exact wk.does_move rfl (by rw [e11]; rfl)
      ·
        have ho2 := (Array.getElem?_eq_some_iff.1 ho).2
        simp only [List.getElem_toArray, List.getElem_cons_succ, List.getElem_cons_zero] at ho2
        subst ho2
        clear ho
        have e36 := D.is { on := 0, ground := .data } (by simp) rfl rfl 36 rfl
        exact wk.does_run (by simp only [execOp]; rw [show E (.tmp 36) = _ from e36, show E (.const (.int .i64 0)) = .int .i64 0 from D.con _]; go_simp) rfl
      ·
        have ho2 := (Array.getElem?_eq_some_iff.1 ho).2
        simp only [List.getElem_toArray, List.getElem_cons_succ, List.getElem_cons_zero] at ho2
        subst ho2
        clear ho
        have e37 := D.is { on := 1, ground := .data } (by simp) rfl rfl 37 rfl
        exact wk.does_move rfl e37
      ·
        have ho2 := (Array.getElem?_eq_some_iff.1 ho).2
        simp only [List.getElem_toArray, List.getElem_cons_succ, List.getElem_cons_zero] at ho2
        subst ho2
        clear ho
        have e10 := D.old 10 (by kernel_rfl)
        exact wk.does_move rfl (by rw [e10]; rfl)
      ·
        have ho2 := (Array.getElem?_eq_some_iff.1 ho).2
        simp only [List.getElem_toArray, List.getElem_cons_succ, List.getElem_cons_zero] at ho2
        subst ho2
        clear ho
        have e39 := D.is { on := 3, ground := .data } (by simp) rfl rfl 39 rfl
        exact wk.does_run (by simp only [execOp, resolve, invoke, builtin, Sem.run_bind, Sem.run_pure, Result.andThen_ok, List.map_toArray, List.map_cons, List.map_nil]; rw [show E (.tmp 39) = _ from e39]; go_simp) rfl
      ·
        have ho2 := (Array.getElem?_eq_some_iff.1 ho).2
        simp only [List.getElem_toArray, List.getElem_cons_succ, List.getElem_cons_zero] at ho2
        subst ho2
        clear ho
        have e2 := D.old 2 (by kernel_rfl)
        exact wk.does_move rfl (by rw [e2]; rfl)
      ·
        have ho2 := (Array.getElem?_eq_some_iff.1 ho).2
        simp only [List.getElem_toArray, List.getElem_cons_succ, List.getElem_cons_zero] at ho2
        subst ho2
        clear ho
        have e41 := D.is { on := 5, ground := .data } (by simp) rfl rfl 41 rfl
        exact wk.does_run (by simp only [execOp, resolve, invoke, builtin, Sem.run_bind, Sem.run_pure, Result.andThen_ok, List.map_toArray, List.map_cons, List.map_nil]; rw [show E (.tmp 41) = _ from e41]; go_simp) rfl
      ·
        have ho2 := (Array.getElem?_eq_some_iff.1 ho).2
        simp only [List.getElem_toArray, List.getElem_cons_succ, List.getElem_cons_zero] at ho2
        subst ho2
        clear ho
        have e40 := D.is { on := 4, ground := .data } (by simp) rfl rfl 40 rfl
        have e42 := D.is { on := 6, ground := .data } (by simp) rfl rfl 42 rfl
        exact wk.does_run (by simp only [execOp]; rw [show E (.tmp 40) = _ from e40, show E (.tmp 42) = _ from e42]; go_simp) rfl
      ·
        have ho2 := (Array.getElem?_eq_some_iff.1 ho).2
        simp only [List.getElem_toArray, List.getElem_cons_succ, List.getElem_cons_zero] at ho2
        subst ho2
        clear ho
        have e38 := D.is { on := 2, ground := .data } (by simp) rfl rfl 38 rfl
        have e43 := D.is { on := 7, ground := .data } (by simp) rfl rfl 43 rfl
        exact wk.does_pick rfl e38 e43
      ·
        have ho2 := (Array.getElem?_eq_some_iff.1 ho).2
        simp only [List.getElem_toArray, List.getElem_cons_succ, List.getElem_cons_zero] at ho2
        subst ho2
        clear ho
        have e44 := D.is { on := 8, ground := .data } (by simp) rfl rfl 44 rfl
        exact wk.does_move rfl e44
      ·
        have ho2 := (Array.getElem?_eq_some_iff.1 ho).2
        simp only [List.getElem_toArray, List.getElem_cons_succ, List.getElem_cons_zero] at ho2
        subst ho2
        clear ho
        have e1 := D.old 1 (by kernel_rfl)
        exact wk.does_move rfl (by rw [e1]; rfl)
      ·
        have ho2 := (Array.getElem?_eq_some_iff.1 ho).2
        simp only [List.getElem_toArray, List.getElem_cons_succ, List.getElem_cons_zero] at ho2
        subst ho2
        clear ho
        have e2 := D.old 2 (by kernel_rfl)
        exact wk.does_move rfl (by rw [e2]; rfl)
      ·
        have ho2 := (Array.getElem?_eq_some_iff.1 ho).2
        simp only [List.getElem_toArray, List.getElem_cons_succ, List.getElem_cons_zero] at ho2
        subst ho2
        clear ho
        have e10 := D.old 10 (by kernel_rfl)
        exact wk.does_move rfl (by rw [e10]; rfl)
      ·
        have ho2 := (Array.getElem?_eq_some_iff.1 ho).2
        simp only [List.getElem_toArray, List.getElem_cons_succ, List.getElem_cons_zero] at ho2
        subst ho2
        clear ho
        have e46 := D.is { on := 10, ground := .data } (by simp) rfl rfl 46 rfl
        have e47 := D.is { on := 11, ground := .data } (by simp) rfl rfl 47 rfl
        have e48 := D.is { on := 12, ground := .data } (by simp) rfl rfl 48 rfl
        refine wk.does_fn (f := 36) (vs := #[.int .i64 m, .slice A n8 c, .slice A8 n8 c8]) rfl (D.fn _) (by simp [e46, e47, e48]) (by go_simp) ?_
        refine (rkey_calls m _ _ _ _ _ q (dec b (enc m b q)) w5 HRG.out.m1 HRG.out.m3 (HV.out.below ((Below.refl _ _).drew.trans hb5 : Below w4.heap.size w4 w5)).is (HE.out.below ((Below.refl _ _).drew.trans hb5 : Below w4.heap.size w4 w5)).is (fewv HRG.out.v1) (fewv HDV.out) (vq.sub_bound HRG.out.v1 HDV.out) HN32.out).mono ?_
        rintro e w7 ⟨rfl, hb7⟩
        exact ⟨_, rfl, hb7, by rw [HK.out]; rfl⟩
      ·
        have ho2 := (Array.getElem?_eq_some_iff.1 ho).2
        simp only [List.getElem_toArray, List.getElem_cons_succ, List.getElem_cons_zero] at ho2
        subst ho2
        clear ho
        have e4 := D.old 4 (by kernel_rfl)
        exact wk.does_load_agg rfl (show E (.tmp 4) = .pointer (some ⟨w.heap.size, 0, none⟩) by rw [e4]; rfl) (cs := [.int .i64 b.d, .slice A0 n0 c0, .slice AW nW cW]) (HT.out.below ((Below.refl _ _).drew.trans hb5 : Below w4.heap.size w4 w5)).cells3 Try.underlying25 rfl (by kernel_rfl) rfl
      ·
        have ho2 := (Array.getElem?_eq_some_iff.1 ho).2
        simp only [List.getElem_toArray, List.getElem_cons_succ, List.getElem_cons_zero] at ho2
        subst ho2
        clear ho
        have e1 := D.old 1 (by kernel_rfl)
        exact wk.does_move rfl (by rw [e1]; rfl)
      ·
        have ho2 := (Array.getElem?_eq_some_iff.1 ho).2
        simp only [List.getElem_toArray, List.getElem_cons_succ, List.getElem_cons_zero] at ho2
        subst ho2
        clear ho
        have e2 := D.old 2 (by kernel_rfl)
        exact wk.does_move rfl (by rw [e2]; rfl)
      ·
        have ho2 := (Array.getElem?_eq_some_iff.1 ho).2
        simp only [List.getElem_toArray, List.getElem_cons_succ, List.getElem_cons_zero] at ho2
        subst ho2
        clear ho
        have e50 := D.is { on := 14, ground := .data } (by simp) rfl rfl 50 rfl
        have e51 := D.is { on := 15, ground := .data } (by simp) rfl rfl 51 rfl
        have e52 := D.is { on := 16, ground := .data } (by simp) rfl rfl 52 rfl
        refine wk.does_fn (f := 20) (vs := #[.agg #[.int .i64 b.d, .slice A0 n0 c0, .slice AW nW cW], .int .i64 m, .slice A n8 c]) rfl (D.fn _) (by simp [e50, e51, e52]) (by go_simp) ?_
        refine (residual_calls _ b m A n8 c q w5 (HX.out.below ((Below.refl _ _).drew.trans hb5 : Below w4.heap.size w4 w5)) HRG.out.rt HRG.out.m1 HRG.out.m3 (HV.out.below ((Below.refl _ _).drew.trans hb5 : Below w4.heap.size w4 w5)).is HRG.out.v1 HND.out).mono ?_
        rintro e w7 ⟨rfl, hb7⟩
        exact ⟨_, rfl, hb7, by rw [HZ.out]; rfl⟩
      ·
        have ho2 := (Array.getElem?_eq_some_iff.1 ho).2
        simp only [List.getElem_toArray, List.getElem_cons_succ, List.getElem_cons_zero] at ho2
        subst ho2
        clear ho
        have e49 := D.is { on := 13, ground := .data } (by simp) rfl rfl 49 rfl
        have e53 := D.is { on := 17, ground := .data } (by simp) rfl rfl 53 rfl
        exact wk.does_run (by simp only [execOp]; rw [show E (.tmp 49) = _ from e49, show E (.tmp 53) = _ from e53]; go_simp) rfl
      ·
        have ho2 := (Array.getElem?_eq_some_iff.1 ho).2
        simp only [List.getElem_toArray, List.getElem_cons_succ, List.getElem_cons_zero] at ho2
        subst ho2
        clear ho
        have e45 := D.is { on := 9, ground := .data } (by simp) rfl rfl 45 rfl
        have e54 := D.is { on := 18, ground := .data } (by simp) rfl rfl 54 rfl
        exact wk.does_pick rfl e45 e54
    case hdone =>
      intro vals w5 hb5 hv
      have h19 := hv 19 (by omega)
      clear hv
      replace h19 : vals 19 = (.bool false) := h19
      simp only [List.drop_succ_cons, List.drop_zero, wpList, wk.setL, List.setIfInBounds_toArray, List.set_cons_zero, List.set_cons_succ, Nat.zero_add, Nat.reduceAdd, h19]
      generalize vals 0 = x0
      generalize vals 1 = x1
      generalize vals 2 = x2
      generalize vals 3 = x3
      generalize vals 4 = x4
      generalize vals 5 = x5
      generalize vals 6 = x6
      generalize vals 7 = x7
      generalize vals 8 = x8
      generalize vals 9 = x9
      generalize vals 10 = x10
      generalize vals 11 = x11
      generalize vals 12 = x12
      generalize vals 13 = x13
      generalize vals 14 = x14
      generalize vals 15 = x15
      generalize vals 16 = x16
      generalize vals 17 = x17
      generalize vals 18 = x18
      have hb : Below w4.heap.size w4 w5 := (Below.refl _ _).drew.trans hb5
      clear hb5
      replace HX := Lib.hid (HX.out.below hb)
      replace HT := Lib.hid (HT.out.below hb)
      replace HV := Lib.hid (HV.out.below hb)
      replace HC := Lib.hid (HC.out.below hb)
      replace HE := Lib.hid (HE.out.below hb)
      replace HB := Lib.hid (Below.andThen HB.out hb)
      clear hb
      have hc0HT := HT.out.c0
      have hc1HT := HT.out.c1
      have hc2HT := HT.out.c2
      go_wp2_with fail
      clear hc0HT hc1HT hc2HT
      refine (decode_calls _ b _ _ _ cl _ HX.out HRG.out.rt HC.out.is).mono ?_
      rintro e w2 ⟨u3, rfl, hu, hb⟩
      replace HX := Lib.hid (HX.out.below hb)
      replace HT := Lib.hid (HT.out.below hb)
      replace HV := Lib.hid (HV.out.below hb)
      replace HC := Lib.hid (HC.out.below hb)
      replace HE := Lib.hid (HE.out.below hb)
      replace HB := Lib.hid (Below.andThen HB.out hb)
      obtain ⟨A3, n3, c3, rfl, hu⟩ := hu
      have hnm3 := hu.2.2.1
      have hnc3 := hu.2.1
      have HN3 := Lib.hid hu.1
      have HD := Lib.hid (V1.mk hu)
      clear hu
      unfold okD
      clear hb
      have hc0HT := HT.out.c0
      have hc1HT := HT.out.c1
      have hc2HT := HT.out.c2
      cases hck : cok b cl
      · rw [if_neg (by simp)]
        go_wp2_with fail
        clear hc0HT hc1HT hc2HT
        refine (sanity_calls _).mono ?_
        rintro e w' ⟨rfl, hb⟩
        have HBZ := Lib.hid (Below.andThen HB.out hb)
        clear hb
        go_wp2_with fail
        go_ret
        exact ⟨rfl, HBZ.out⟩
      rw [if_pos rfl]
      have HCK := Lib.hid hck
      obtain rfl : n3 = n8 := by
        have h1 := HND.out
        have h2 := dec_len HRG.out.rt hck
        rw [HN3.out] at h2
        omega
      have HVD := Lib.hid (dec_vec HRG.out.rt hck)
      have HDD := Lib.hid (dec_len HRG.out.rt hck)
      have hle := res_le HRG.out.m1 HRG.out.m3 HRG.out.rt HRG.out.d hck
      rw [HZ.out] at hle
      have HR0 := Lib.hid (res_zero HRG.out.m1 HRG.out.m3 HRG.out.rt hck)
      clear hck
      obtain ⟨k2, hk2⟩ : ∃ z, vq.key m q (dec b cl) = z := ⟨_, rfl⟩
      rw [show vq.key m q (dec b cl) = k2 from hk2] at hle
      have HK2 := Lib.hid hk2
      clear hk2
      go_wp2_with fail
      clear hc0HT hc1HT hc2HT
      refine wk.region_tailS 27 [.is (.bool true), .is (.bool true), .is (.slice A3 n3 c3), .is (.int .i64 (n3 : Int)), .is (.slice A n3 c), .is (.int .i64 (n3 : Int)), .is (.bool true), .is (.bool true), .is (.bool true), .is (.int .i64 m), .is (.slice A n3 c), .is (.slice A3 n3 c3), .is (.int .i64 k2), .is (.agg #[.int .i64 b.d, .slice A0 n0 c0, .slice AW nW cW]), .is (.int .i64 m), .is (.slice A n3 c), .is (.int .i64 z), .is (.bool true), .is (.bool true), .is (.bool true), .is (.agg #[.int .i64 b.d, .slice A0 n0 c0, .slice AW nW cW]), .is (.int .i64 m), .is (.slice A3 n3 c3), .is (.int .i64 0), .is (.bool true), .is (.bool true), .is (.bool true)] [some 65, some 66, some 67, some 68, some 69, some 70, some 71, some 72, some 73, some 74, some 75, some 76, some 77, some 78, some 79, some 80, some 81, some 82, some 83, some 84, some 85, some 86, some 87, some 88, some 89, some 90, some 8] (by kernel_rfl) (by kernel_rfl) (by kernel_rfl) (by kernel_rfl) [] (by kernel_rfl) (by intro p hp; cases hp) (by kernel_rfl) (by kernel_rfl) ?hstep ?hdone
      case hstep =>
        intro i o ho hi hns E w6 hb6 D
        have hi2 : i = 0 ∨ i = 1 ∨ i = 2 ∨ i = 3 ∨ i = 4 ∨ i = 5 ∨ i = 6 ∨ i = 7 ∨ i = 8 ∨ i = 9 ∨ i = 10 ∨ i = 11 ∨ i = 12 ∨ i = 13 ∨ i = 14 ∨ i = 15 ∨ i = 16 ∨ i = 17 ∨ i = 18 ∨ i = 19 ∨ i = 20 ∨ i = 21 ∨ i = 22 ∨ i = 23 ∨ i = 24 ∨ i = 25 ∨ i = 26 := by omega
        clear hi
        rcases hi2 with rfl | rfl | rfl | rfl | rfl | rfl | rfl | rfl | rfl | rfl | rfl | rfl | rfl | rfl | rfl | rfl | rfl | rfl | rfl | rfl | rfl | rfl | rfl | rfl | rfl | rfl | rfl
        ·
          have ho2 := (Array.getElem?_eq_some_iff.1 ho).2
          simp only [List.getElem_toArray, List.getElem_cons_zero] at ho2
          subst ho2
          clear ho
          refine wk.does_fn (f := 11) (vs := #[]) rfl (D.fn _) (by simp) (by go_simp) ?_
          refine (sanity_calls _).mono ?_
          rintro e w7 ⟨rfl, hb7⟩
          exact ⟨_, rfl, hb7, rfl⟩
        ·
          have ho2 := (Array.getElem?_eq_some_iff.1 ho).2
          simp only [List.getElem_toArray, List.getElem_cons_succ, List.getElem_cons_zero] at ho2
          subst ho2
          clear ho
          have e65 := D.is { on := 0, ground := .data } (by simp) rfl rfl 65 rfl
          exact wk.does_move rfl e65
        ·
          have ho2 := (Array.getElem?_eq_some_iff.1 ho).2
          simp only [List.getElem_toArray, List.getElem_cons_succ, List.getElem_cons_zero] at ho2
          subst ho2
          clear ho
          have e12 := D.old 12 (by kernel_rfl)
          exact wk.does_move rfl (by rw [e12]; rfl)
        ·
          have ho2 := (Array.getElem?_eq_some_iff.1 ho).2
          simp only [List.getElem_toArray, List.getElem_cons_succ, List.getElem_cons_zero] at ho2
          subst ho2
          clear ho
          have e67 := D.is { on := 2, ground := .data } (by simp) rfl rfl 67 rfl
          exact wk.does_run (by simp only [execOp, resolve, invoke, builtin, Sem.run_bind, Sem.run_pure, Result.andThen_ok, List.map_toArray, List.map_cons, List.map_nil]; rw [show E (.tmp 67) = _ from e67]; go_simp) rfl
        ·
          have ho2 := (Array.getElem?_eq_some_iff.1 ho).2
          simp only [List.getElem_toArray, List.getElem_cons_succ, List.getElem_cons_zero] at ho2
          subst ho2
          clear ho
          have e2 := D.old 2 (by kernel_rfl)
          exact wk.does_move rfl (by rw [e2]; rfl)
        ·
          have ho2 := (Array.getElem?_eq_some_iff.1 ho).2
          simp only [List.getElem_toArray, List.getElem_cons_succ, List.getElem_cons_zero] at ho2
          subst ho2
          clear ho
          have e69 := D.is { on := 4, ground := .data } (by simp) rfl rfl 69 rfl
          exact wk.does_run (by simp only [execOp, resolve, invoke, builtin, Sem.run_bind, Sem.run_pure, Result.andThen_ok, List.map_toArray, List.map_cons, List.map_nil]; rw [show E (.tmp 69) = _ from e69]; go_simp) rfl
        ·
          have ho2 := (Array.getElem?_eq_some_iff.1 ho).2
          simp only [List.getElem_toArray, List.getElem_cons_succ, List.getElem_cons_zero] at ho2
          subst ho2
          clear ho
          have e68 := D.is { on := 3, ground := .data } (by simp) rfl rfl 68 rfl
          have e70 := D.is { on := 5, ground := .data } (by simp) rfl rfl 70 rfl
          exact wk.does_run (by simp only [execOp]; rw [show E (.tmp 68) = _ from e68, show E (.tmp 70) = _ from e70]; go_simp) rfl
        ·
          have ho2 := (Array.getElem?_eq_some_iff.1 ho).2
          simp only [List.getElem_toArray, List.getElem_cons_succ, List.getElem_cons_zero] at ho2
          subst ho2
          clear ho
          have e66 := D.is { on := 1, ground := .data } (by simp) rfl rfl 66 rfl
          have e71 := D.is { on := 6, ground := .data } (by simp) rfl rfl 71 rfl
          exact wk.does_pick rfl e66 e71
        ·
          have ho2 := (Array.getElem?_eq_some_iff.1 ho).2
          simp only [List.getElem_toArray, List.getElem_cons_succ, List.getElem_cons_zero] at ho2
          subst ho2
          clear ho
          have e72 := D.is { on := 7, ground := .data } (by simp) rfl rfl 72 rfl
          exact wk.does_move rfl e72
        ·
          have ho2 := (Array.getElem?_eq_some_iff.1 ho).2
          simp only [List.getElem_toArray, List.getElem_cons_succ, List.getElem_cons_zero] at ho2
          subst ho2
          clear ho
          have e1 := D.old 1 (by kernel_rfl)
          exact wk.does_move rfl (by rw [e1]; rfl)
        ·
          have ho2 := (Array.getElem?_eq_some_iff.1 ho).2
          simp only [List.getElem_toArray, List.getElem_cons_succ, List.getElem_cons_zero] at ho2
          subst ho2
          clear ho
          have e2 := D.old 2 (by kernel_rfl)
          exact wk.does_move rfl (by rw [e2]; rfl)
        ·
          have ho2 := (Array.getElem?_eq_some_iff.1 ho).2
          simp only [List.getElem_toArray, List.getElem_cons_succ, List.getElem_cons_zero] at ho2
          subst ho2
          clear ho
          have e12 := D.old 12 (by kernel_rfl)
          exact wk.does_move rfl (by rw [e12]; rfl)
        ·
          have ho2 := (Array.getElem?_eq_some_iff.1 ho).2
          simp only [List.getElem_toArray, List.getElem_cons_succ, List.getElem_cons_zero] at ho2
          subst ho2
          clear ho
          have e74 := D.is { on := 9, ground := .data } (by simp) rfl rfl 74 rfl
          have e75 := D.is { on := 10, ground := .data } (by simp) rfl rfl 75 rfl
          have e76 := D.is { on := 11, ground := .data } (by simp) rfl rfl 76 rfl
          refine wk.does_fn (f := 36) (vs := #[.int .i64 m, .slice A n3 c, .slice A3 n3 c3]) rfl (D.fn _) (by simp [e74, e75, e76]) (by go_simp) ?_
          refine (rkey_calls m _ _ _ _ _ q (dec b cl) w6 HRG.out.m1 HRG.out.m3 (HV.out.below ((Below.refl _ _).drew.trans hb6 : Below w2.heap.size w2 w6)).is (HD.out.below ((Below.refl _ _).drew.trans hb6 : Below w2.heap.size w2 w6)).is (fewv HRG.out.v1) (fewv HVD.out) (vq.sub_bound HRG.out.v1 HVD.out) HN32.out).mono ?_
          rintro e w7 ⟨rfl, hb7⟩
          exact ⟨_, rfl, hb7, by rw [HK2.out]; rfl⟩
        ·
          have ho2 := (Array.getElem?_eq_some_iff.1 ho).2
          simp only [List.getElem_toArray, List.getElem_cons_succ, List.getElem_cons_zero] at ho2
          subst ho2
          clear ho
          have e4 := D.old 4 (by kernel_rfl)
          exact wk.does_load_agg rfl (show E (.tmp 4) = .pointer (some ⟨w.heap.size, 0, none⟩) by rw [e4]; rfl) (cs := [.int .i64 b.d, .slice A0 n0 c0, .slice AW nW cW]) (HT.out.below ((Below.refl _ _).drew.trans hb6 : Below w2.heap.size w2 w6)).cells3 Try.underlying25 rfl (by kernel_rfl) rfl
        ·
          have ho2 := (Array.getElem?_eq_some_iff.1 ho).2
          simp only [List.getElem_toArray, List.getElem_cons_succ, List.getElem_cons_zero] at ho2
          subst ho2
          clear ho
          have e1 := D.old 1 (by kernel_rfl)
          exact wk.does_move rfl (by rw [e1]; rfl)
        ·
          have ho2 := (Array.getElem?_eq_some_iff.1 ho).2
          simp only [List.getElem_toArray, List.getElem_cons_succ, List.getElem_cons_zero] at ho2
          subst ho2
          clear ho
          have e2 := D.old 2 (by kernel_rfl)
          exact wk.does_move rfl (by rw [e2]; rfl)
        ·
          have ho2 := (Array.getElem?_eq_some_iff.1 ho).2
          simp only [List.getElem_toArray, List.getElem_cons_succ, List.getElem_cons_zero] at ho2
          subst ho2
          clear ho
          have e78 := D.is { on := 13, ground := .data } (by simp) rfl rfl 78 rfl
          have e79 := D.is { on := 14, ground := .data } (by simp) rfl rfl 79 rfl
          have e80 := D.is { on := 15, ground := .data } (by simp) rfl rfl 80 rfl
          refine wk.does_fn (f := 20) (vs := #[.agg #[.int .i64 b.d, .slice A0 n0 c0, .slice AW nW cW], .int .i64 m, .slice A n3 c]) rfl (D.fn _) (by simp [e78, e79, e80]) (by go_simp) ?_
          refine (residual_calls _ b m A n3 c q w6 (HX.out.below ((Below.refl _ _).drew.trans hb6 : Below w2.heap.size w2 w6)) HRG.out.rt HRG.out.m1 HRG.out.m3 (HV.out.below ((Below.refl _ _).drew.trans hb6 : Below w2.heap.size w2 w6)).is HRG.out.v1 HND.out).mono ?_
          rintro e w7 ⟨rfl, hb7⟩
          exact ⟨_, rfl, hb7, by rw [HZ.out]; rfl⟩
        ·
          have ho2 := (Array.getElem?_eq_some_iff.1 ho).2
          simp only [List.getElem_toArray, List.getElem_cons_succ, List.getElem_cons_zero] at ho2
          subst ho2
          clear ho
          have e77 := D.is { on := 12, ground := .data } (by simp) rfl rfl 77 rfl
          have e81 := D.is { on := 16, ground := .data } (by simp) rfl rfl 81 rfl
          exact wk.does_run (by simp only [execOp]; rw [show E (.tmp 77) = _ from e77, show E (.tmp 81) = _ from e81]; go_simp) rfl
        ·
          have ho2 := (Array.getElem?_eq_some_iff.1 ho).2
          simp only [List.getElem_toArray, List.getElem_cons_succ, List.getElem_cons_zero] at ho2
          subst ho2
          clear ho
          have e73 := D.is { on := 8, ground := .data } (by simp) rfl rfl 73 rfl
          have e82 := D.is { on := 17, ground := .data } (by simp) rfl rfl 82 rfl
          exact wk.does_pick rfl e73 e82
        ·
          have ho2 := (Array.getElem?_eq_some_iff.1 ho).2
          simp only [List.getElem_toArray, List.getElem_cons_succ, List.getElem_cons_zero] at ho2
          subst ho2
          clear ho
          have e83 := D.is { on := 18, ground := .data } (by simp) rfl rfl 83 rfl
          exact wk.does_move rfl e83
        ·
          have ho2 := (Array.getElem?_eq_some_iff.1 ho).2
          simp only [List.getElem_toArray, List.getElem_cons_succ, List.getElem_cons_zero] at ho2
          subst ho2
          clear ho
          have e4 := D.old 4 (by kernel_rfl)
          exact wk.does_load_agg rfl (show E (.tmp 4) = .pointer (some ⟨w.heap.size, 0, none⟩) by rw [e4]; rfl) (cs := [.int .i64 b.d, .slice A0 n0 c0, .slice AW nW cW]) (HT.out.below ((Below.refl _ _).drew.trans hb6 : Below w2.heap.size w2 w6)).cells3 Try.underlying25 rfl (by kernel_rfl) rfl
        ·
          have ho2 := (Array.getElem?_eq_some_iff.1 ho).2
          simp only [List.getElem_toArray, List.getElem_cons_succ, List.getElem_cons_zero] at ho2
          subst ho2
          clear ho
          have e1 := D.old 1 (by kernel_rfl)
          exact wk.does_move rfl (by rw [e1]; rfl)
        ·
          have ho2 := (Array.getElem?_eq_some_iff.1 ho).2
          simp only [List.getElem_toArray, List.getElem_cons_succ, List.getElem_cons_zero] at ho2
          subst ho2
          clear ho
          have e12 := D.old 12 (by kernel_rfl)
          exact wk.does_move rfl (by rw [e12]; rfl)
        ·
          have ho2 := (Array.getElem?_eq_some_iff.1 ho).2
          simp only [List.getElem_toArray, List.getElem_cons_succ, List.getElem_cons_zero] at ho2
          subst ho2
          clear ho
          have e85 := D.is { on := 20, ground := .data } (by simp) rfl rfl 85 rfl
          have e86 := D.is { on := 21, ground := .data } (by simp) rfl rfl 86 rfl
          have e87 := D.is { on := 22, ground := .data } (by simp) rfl rfl 87 rfl
          refine wk.does_fn (f := 20) (vs := #[.agg #[.int .i64 b.d, .slice A0 n0 c0, .slice AW nW cW], .int .i64 m, .slice A3 n3 c3]) rfl (D.fn _) (by simp [e85, e86, e87]) (by go_simp) ?_
          refine (residual_calls _ b m A3 n3 c3 (dec b cl) w6 (HX.out.below ((Below.refl _ _).drew.trans hb6 : Below w2.heap.size w2 w6)) HRG.out.rt HRG.out.m1 HRG.out.m3 (HD.out.below ((Below.refl _ _).drew.trans hb6 : Below w2.heap.size w2 w6)).is HVD.out HND.out).mono ?_
          rintro e w7 ⟨rfl, hb7⟩
          exact ⟨_, rfl, hb7, by rw [HR0.out]; rfl⟩
        ·
          have ho2 := (Array.getElem?_eq_some_iff.1 ho).2
          simp only [List.getElem_toArray, List.getElem_cons_succ, List.getElem_cons_zero] at ho2
          subst ho2
          clear ho
          have e88 := D.is { on := 23, ground := .data } (by simp) rfl rfl 88 rfl
          exact wk.does_run (by simp only [execOp]; rw [show E (.tmp 88) = _ from e88, show E (.const (.int .i64 0)) = .int .i64 0 from D.con _]; go_simp) rfl
        ·
          have ho2 := (Array.getElem?_eq_some_iff.1 ho).2
          simp only [List.getElem_toArray, List.getElem_cons_succ, List.getElem_cons_zero] at ho2
          subst ho2
          clear ho
          have e84 := D.is { on := 19, ground := .data } (by simp) rfl rfl 84 rfl
          have e89 := D.is { on := 24, ground := .data } (by simp) rfl rfl 89 rfl
          exact wk.does_pick rfl e84 e89
        ·
          have ho2 := (Array.getElem?_eq_some_iff.1 ho).2
          simp only [List.getElem_toArray, List.getElem_cons_succ, List.getElem_cons_zero] at ho2
          subst ho2
          clear ho
          have e90 := D.is { on := 25, ground := .data } (by simp) rfl rfl 90 rfl
          exact wk.does_assign rfl e90
      case hdone =>
        intro vals w6 hb6 hv
        have h26 := hv 26 (by omega)
        clear hv
        replace h26 : vals 26 = (.bool true) := h26
        simp only [List.drop_succ_cons, List.drop_zero, wpList, wk.setL, List.setIfInBounds_toArray, List.set_cons_zero, List.set_cons_succ, Nat.zero_add, Nat.reduceAdd, h26]
        generalize vals 0 = x0
        generalize vals 1 = x1
        generalize vals 2 = x2
        generalize vals 3 = x3
        generalize vals 4 = x4
        generalize vals 5 = x5
        generalize vals 6 = x6
        generalize vals 7 = x7
        generalize vals 8 = x8
        generalize vals 9 = x9
        generalize vals 10 = x10
        generalize vals 11 = x11
        generalize vals 12 = x12
        generalize vals 13 = x13
        generalize vals 14 = x14
        generalize vals 15 = x15
        generalize vals 16 = x16
        generalize vals 17 = x17
        generalize vals 18 = x18
        generalize vals 19 = x19
        generalize vals 20 = x20
        generalize vals 21 = x21
        generalize vals 22 = x22
        generalize vals 23 = x23
        generalize vals 24 = x24
        generalize vals 25 = x25
        have hb : Below w2.heap.size w2 w6 := (Below.refl _ _).drew.trans hb6
        clear hb6
        replace HB := Lib.hid (Below.andThen HB.out hb)
        clear hb
        go_wp2_with fail
        go_ret
        exact ⟨rfl, HB.out⟩
end Go.Proofs.Ytiodjepjbooniaa.codeIsNearest
