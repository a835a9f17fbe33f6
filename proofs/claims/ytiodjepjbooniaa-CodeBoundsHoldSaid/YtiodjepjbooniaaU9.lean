/- CodeBoundsHold: its walk. -/
import Derived.Test.YtiodjepjbooniaaU7

namespace Go.Proofs.Ytiodjepjbooniaa.codeBoundsHold

open Go.ChangeShapes Go.WideShapes Go.ChangeAt Go.RowKit

open Go.Proofs.Ytiodjepjbooniaa.cq Go.Proofs.Ytiodjepjbooniaa.vk Go.Proofs.Ytiodjepjbooniaa.bk Go.Proofs.Ytiodjepjbooniaa.wk Go.Proofs.Ytiodjepjbooniaa.uk

set_option linter.unusedVariables false
set_option maxRecDepth 100000 in
set_option maxHeartbeats 8000000 in
theorem walk (w : World) {v : Value} {b : Bk} {m : Int} {A A2 : Option Addr} {n c n2 c2 : Nat} {q cl : List Int} (w0 : IsBk w v b) (w1 : (Lit.int .i64 m).wf = true) (w2 : wo.IsI w A n c q) (w3 : wo.IsI w A2 n2 c2 cl) :
    Calls Try.prog 6 #[v, .int .i64 m, .slice A n c, .slice A2 n2 c2] w fun e w' => e = .returned (.bool true) ∧ Below w.heap.size w w' := by
  obtain ⟨A0, n0, c0, AW, nW, cW, rfl, hi, hW, hd⟩ := w0
  have hnc0 := hi.2.1
  have hnm0 := hi.2.2.1
  have hncW := hW.2.1
  have hnmW := hW.2.2.1
  have hnc1 := w2.2.1
  have hnm1 := w2.2.2.1
  have hnc2 := w3.2.1
  have hnm2 := w3.2.2.1
  have HX : Hid (IsBk (w.alloc (.cells #[.int .i64 b.d, .slice A0 n0 c0, .slice AW nW cW] 25)) (.agg #[.int .i64 b.d, .slice A0 n0 c0, .slice AW nW cW]) b) := IsBk.below ⟨_, _, _, _, _, _, rfl, hi, hW, hd⟩ (below_new _ _)
  have HT := Lib.hid (Three.new w (.int .i64 b.d) (.slice A0 n0 c0) (.slice AW nW cW))
  have HV := Lib.hid (V1.mk (isI_below w2 (below_new _ (.cells #[.int .i64 b.d, .slice A0 n0 c0, .slice AW nW cW] 25))))
  have HC := Lib.hid (V1.mk (isI_below w3 (below_new _ (.cells #[.int .i64 b.d, .slice A0 n0 c0, .slice AW nW cW] 25))))
  have HB := Lib.hid (below_new w (.cells #[.int .i64 b.d, .slice A0 n0 c0, .slice AW nW cW] 25))
  have HNQ := Lib.hid w2.1
  have HNC := Lib.hid w3.1
  clear hi hW hd w1 w2 w3
  go_enter Try.func6, Try.ntmps6
  have hc0HT := HT.out.c0
  have hc1HT := HT.out.c1
  have hc2HT := HT.out.c2
  go_wp2_with fail
  clear hc0HT hc1HT hc2HT
  refine (right_calls _ b m _ _ _ _ _ _ q cl _ HX.out HV.out.is HC.out.is).mono ?_
  rintro e w1 ⟨⟨r, rfl, hr⟩, hb⟩
  replace HX := Lib.hid (HX.out.below hb)
  replace HT := Lib.hid (HT.out.below hb)
  replace HV := Lib.hid (HV.out.below hb)
  replace HC := Lib.hid (HC.out.below hb)
  replace HB := Lib.hid (Below.andThen HB.out hb)
  clear hb
  have hc0HT := HT.out.c0
  have hc1HT := HT.out.c1
  have hc2HT := HT.out.c2
  cases r
  · clear hr
    go_wp2_with fail
    clear hc0HT hc1HT hc2HT
    refine (sanity_calls _).mono ?_
    rintro e w' ⟨rfl, hb⟩
    have HBZ := Lib.hid (Below.andThen HB.out hb)
    clear hb
    go_wp2_with fail
    go_ret
    exact ⟨rfl, HBZ.out⟩
  have HRG := Lib.hid (hr rfl)
  clear hr
  have HND : Hid ((n : Int) = b.d) := by show _ = _; rw [← HNQ.out]; exact HRG.out.d
  have HND2 : Hid ((n2 : Int) = b.d) := by show _ = _; rw [← HNC.out]; exact HRG.out.d2
  have HN32 : Hid (n ≤ 32) := by rw [← HNQ.out]; exact HRG.out.v1.le
  have hcok := enc_cok (m := m) HRG.out.rt q
  have HLD := Lib.hid (dec_len HRG.out.rt hcok)
  have HDV := Lib.hid (dec_vec HRG.out.rt hcok)
  have HSK := Lib.hid (sum_key HRG.out.m1 HRG.out.m3 HRG.out.rt HRG.out.d2 hcok)
  have HOK := Lib.hid (tbl_hok (m := m) HRG.out.rt HRG.out.v2 HRG.out.d2 hcok)
  clear hcok
  obtain ⟨ks, hks⟩ : ∃ z, vq.key m cl (dec b (enc m b q)) = z := ⟨_, rfl⟩
  obtain ⟨r, hr⟩ : ∃ z, res m b q = z := ⟨_, rfl⟩
  obtain ⟨k, hk⟩ : ∃ z, vq.key m cl q = z := ⟨_, rfl⟩
  have HKS : Hid (0 ≤ ks ∧ ks ≤ 134217728) := by
    rw [← hks]
    refine ⟨key_nonneg _ _ _, key_max HRG.out.v2 HDV.out ?_⟩
    have h1 := HLD.out
    have h2 := HRG.out.d2
    omega
  have HRR : Hid (0 ≤ r ∧ r ≤ 134217728) := by
    rw [← hr]
    refine ⟨res_nonneg m b q, key_max HRG.out.v1 HDV.out ?_⟩
    have h1 := HLD.out
    have h2 := HRG.out.d
    omega
  have hbh := bounds_hold HRG.out.m1 HRG.out.m3 HRG.out.v2 HRG.out.v1 HDV.out (by have h1 := HRG.out.d; have h2 := HRG.out.d2; omega) (by have h1 := HLD.out; have h2 := HRG.out.d; omega)
  rw [hks, hk, show vq.key m q (dec b (enc m b q)) = r from hr] at hbh
  have HS : Hid (sumc m (tbl m b cl) (enc m b q) = ks) := by show _ = _; rw [HSK.out, ← hks]
  have HR := Lib.hid hr
  have HK := Lib.hid hk
  have HBH := Lib.hid hbh
  clear hks hr hk hbh HSK
  go_wp2_with fail
  clear hc0HT hc1HT hc2HT
  refine wk.region_tailS 21 [.is (.int .i64 m), .is (.int .i64 m), .is (.agg #[.int .i64 b.d, .slice A0 n0 c0, .slice AW nW cW]), .is (.int .i64 m), .is (.slice A2 n2 c2), .st (fun u x => ∃ A5 n5 c5, x = .slice A5 n5 c5 ∧ IsVV u A5 n5 c5 (tbl m b cl)) (fun u u2 x h hb => by obtain ⟨A5, n5, c5, h1, h2⟩ := h; exact ⟨A5, n5, c5, h1, isVV_below h2 hb⟩), .is (.agg #[.int .i64 b.d, .slice A0 n0 c0, .slice AW nW cW]), .is (.int .i64 m), .is (.slice A n c), .st (fun u x => IsV u x (enc m b q)) (fun u u2 x h hb => h.below hb), .is (.int .i64 ks), .is (.agg #[.int .i64 b.d, .slice A0 n0 c0, .slice AW nW cW]), .is (.int .i64 m), .is (.slice A n c), .is (.int .i64 r), .is (.tuple #[.int .i64 (me.low m ks r), .int .i64 (me.high m ks r)]), .is (.tuple #[.int .i64 (me.low m ks r), .int .i64 (me.high m ks r)]), .is (.int .i64 (me.low m ks r)), .is (.int .i64 (me.high m ks r)), .is (.int .i64 (me.low m ks r)), .is (.int .i64 (me.high m ks r))] [some 22, some 23, some 24, some 25, some 26, some 27, some 28, some 29, some 30, some 31, some 32, some 33, some 34, some 35, some 36, some 37, some 21, some 38, some 39, some 10, some 11] (by kernel_rfl) (by kernel_rfl) (by kernel_rfl) (by kernel_rfl) [] (by kernel_rfl) (by intro p hp; cases hp) (by kernel_rfl) (by kernel_rfl) ?hstep ?hdone
  case hstep =>
    intro i o ho hi hns E w4 hb4 D
    have hi2 : i = 0 ∨ i = 1 ∨ i = 2 ∨ i = 3 ∨ i = 4 ∨ i = 5 ∨ i = 6 ∨ i = 7 ∨ i = 8 ∨ i = 9 ∨ i = 10 ∨ i = 11 ∨ i = 12 ∨ i = 13 ∨ i = 14 ∨ i = 15 ∨ i = 16 ∨ i = 17 ∨ i = 18 ∨ i = 19 ∨ i = 20 := by omega
    clear hi
    rcases hi2 with rfl | rfl | rfl | rfl | rfl | rfl | rfl | rfl | rfl | rfl | rfl | rfl | rfl | rfl | rfl | rfl | rfl | rfl | rfl | rfl | rfl
    ·
      have ho2 := (Array.getElem?_eq_some_iff.1 ho).2
      simp only [List.getElem_toArray, List.getElem_cons_zero] at ho2
      subst ho2
      clear ho
      have e1 := D.old 1 (by kernel_rfl)
      exact wk.does_move rfl (by rw [e1]; rfl)
    ·
      have ho2 := (Array.getElem?_eq_some_iff.1 ho).2
      simp only [List.getElem_toArray, List.getElem_cons_succ, List.getElem_cons_zero] at ho2
      subst ho2
      clear ho
      have e1 := D.old 1 (by kernel_rfl)
      exact wk.does_move rfl (by rw [e1]; rfl)
    ·
      have ho2 := (Array.getElem?_eq_some_iff.1 ho).2
      simp only [List.getElem_toArray, List.getElem_cons_succ, List.getElem_cons_zero] at ho2
      subst ho2
      clear ho
      have e4 := D.old 4 (by kernel_rfl)
      exact wk.does_load_agg rfl (show E (.tmp 4) = .pointer (some ⟨w.heap.size, 0, none⟩) by rw [e4]; rfl) (cs := [.int .i64 b.d, .slice A0 n0 c0, .slice AW nW cW]) (HT.out.below ((Below.refl _ _).drew.trans hb4 : Below w1.heap.size w1 w4)).cells3 Try.underlying25 rfl (by kernel_rfl) rfl
    ·
      have ho2 := (Array.getElem?_eq_some_iff.1 ho).2
      simp only [List.getElem_toArray, List.getElem_cons_succ, List.getElem_cons_zero] at ho2
      subst ho2
      clear ho
      have e1 := D.old 1 (by kernel_rfl)
      exact wk.does_move rfl (by rw [e1]; rfl)
    ·
      have ho2 := (Array.getElem?_eq_some_iff.1 ho).2
      simp only [List.getElem_toArray, List.getElem_cons_succ, List.getElem_cons_zero] at ho2
      subst ho2
      clear ho
      have e3 := D.old 3 (by kernel_rfl)
      exact wk.does_move rfl (by rw [e3]; rfl)
    ·
      have ho2 := (Array.getElem?_eq_some_iff.1 ho).2
      simp only [List.getElem_toArray, List.getElem_cons_succ, List.getElem_cons_zero] at ho2
      subst ho2
      clear ho
      have e24 := D.is { on := 2, ground := .data } (by simp) rfl rfl 24 rfl
      have e25 := D.is { on := 3, ground := .data } (by simp) rfl rfl 25 rfl
      have e26 := D.is { on := 4, ground := .data } (by simp) rfl rfl 26 rfl
      refine wk.does_fn (f := 26) (vs := #[.agg #[.int .i64 b.d, .slice A0 n0 c0, .slice AW nW cW], .int .i64 m, .slice A2 n2 c2]) rfl (D.fn _) (by simp [e24, e25, e26]) (by go_simp) ?_
      refine (table_calls _ b m A2 n2 c2 cl w4 (HX.out.below ((Below.refl _ _).drew.trans hb4 : Below w1.heap.size w1 w4)) HRG.out.rt HRG.out.m1 HRG.out.m3 (HC.out.below ((Below.refl _ _).drew.trans hb4 : Below w1.heap.size w1 w4)).is HRG.out.v2 HND2.out).mono ?_
      rintro e w7 ⟨A5, n5, c5, rfl, hu7, hb7⟩
      exact ⟨_, rfl, hb7, A5, n5, c5, rfl, hu7.now⟩
    ·
      have ho2 := (Array.getElem?_eq_some_iff.1 ho).2
      simp only [List.getElem_toArray, List.getElem_cons_succ, List.getElem_cons_zero] at ho2
      subst ho2
      clear ho
      have e4 := D.old 4 (by kernel_rfl)
      exact wk.does_load_agg rfl (show E (.tmp 4) = .pointer (some ⟨w.heap.size, 0, none⟩) by rw [e4]; rfl) (cs := [.int .i64 b.d, .slice A0 n0 c0, .slice AW nW cW]) (HT.out.below ((Below.refl _ _).drew.trans hb4 : Below w1.heap.size w1 w4)).cells3 Try.underlying25 rfl (by kernel_rfl) rfl
    ·
      have ho2 := (Array.getElem?_eq_some_iff.1 ho).2
      simp only [List.getElem_toArray, List.getElem_cons_succ, List.getElem_cons_zero] at ho2
      subst ho2
      clear ho
      have e1 := D.old 1 (by kernel_rfl)
      exact wk.does_move rfl (by rw [e1]; rfl)
    ·
      have ho2 := (Array.getElem?_eq_some_iff.1 ho).2
      simp only [List.getElem_toArray, List.getElem_cons_succ, List.getElem_cons_zero] at ho2
      subst ho2
      clear ho
      have e2 := D.old 2 (by kernel_rfl)
      exact wk.does_move rfl (by rw [e2]; rfl)
    ·
      have ho2 := (Array.getElem?_eq_some_iff.1 ho).2
      simp only [List.getElem_toArray, List.getElem_cons_succ, List.getElem_cons_zero] at ho2
      subst ho2
      clear ho
      have e28 := D.is { on := 6, ground := .data } (by simp) rfl rfl 28 rfl
      have e29 := D.is { on := 7, ground := .data } (by simp) rfl rfl 29 rfl
      have e30 := D.is { on := 8, ground := .data } (by simp) rfl rfl 30 rfl
      refine wk.does_fn (f := 18) (vs := #[.agg #[.int .i64 b.d, .slice A0 n0 c0, .slice AW nW cW], .int .i64 m, .slice A n c]) rfl (D.fn _) (by simp [e28, e29, e30]) (by go_simp) ?_
      refine (encode_calls _ b m A n c q w4 (HX.out.below ((Below.refl _ _).drew.trans hb4 : Below w1.heap.size w1 w4)) HRG.out.rt HRG.out.m1 HRG.out.m3 (HV.out.below ((Below.refl _ _).drew.trans hb4 : Below w1.heap.size w1 w4)).is HRG.out.v1 HND.out).mono ?_
      rintro e w7 ⟨u7, rfl, hu7, hb7⟩
      exact ⟨_, rfl, hb7, hu7⟩
    ·
      have ho2 := (Array.getElem?_eq_some_iff.1 ho).2
      simp only [List.getElem_toArray, List.getElem_cons_succ, List.getElem_cons_zero] at ho2
      subst ho2
      clear ho
      have e23 := D.is { on := 1, ground := .data } (by simp) rfl rfl 23 rfl
      have s27 := D.st { on := 5, ground := .data } (by simp) rfl rfl 27 rfl
      have s31 := D.st { on := 9, ground := .data } (by simp) rfl rfl 31 rfl
      obtain ⟨A5, n5, c5, e5, h5⟩ := s27
      obtain ⟨A6, n6, c6, e6, h6⟩ := s31
      obtain rfl : n6 = n5 := by rw [← h6.1, ← h5.1, enc_len HRG.out.rt, tbl_len HRG.out.rt]
      refine wk.does_fn (f := 27) (vs := #[.int .i64 m, .slice A5 n6 c5, .slice A6 n6 c6]) rfl (D.fn _) (by simp [e23, show E (.tmp 27) = _ from e5, show E (.tmp 31) = _ from e6]) (by go_simp) ?_
      refine (sum_calls m A5 A6 n6 c5 c6 (tbl m b cl) (enc m b q) w4 HRG.out.m1 HRG.out.m3 h5 h6 (by rw [← h5.1, tbl_len HRG.out.rt, HRG.out.rt.wl]; have := HRG.out.rt.div.n8; omega) HOK.out).mono ?_
      rintro e w7 ⟨rfl, hb7⟩
      exact ⟨_, rfl, hb7, by rw [HS.out]; rfl⟩
    ·
      have ho2 := (Array.getElem?_eq_some_iff.1 ho).2
      simp only [List.getElem_toArray, List.getElem_cons_succ, List.getElem_cons_zero] at ho2
      subst ho2
      clear ho
      have e4 := D.old 4 (by kernel_rfl)
      exact wk.does_load_agg rfl (show E (.tmp 4) = .pointer (some ⟨w.heap.size, 0, none⟩) by rw [e4]; rfl) (cs := [.int .i64 b.d, .slice A0 n0 c0, .slice AW nW cW]) (HT.out.below ((Below.refl _ _).drew.trans hb4 : Below w1.heap.size w1 w4)).cells3 Try.underlying25 rfl (by kernel_rfl) rfl
    ·
      have ho2 := (Array.getElem?_eq_some_iff.1 ho).2
      simp only [List.getElem_toArray, List.getElem_cons_succ, List.getElem_cons_zero] at ho2
      subst ho2
      clear ho
      have e1 := D.old 1 (by kernel_rfl)
      exact wk.does_move rfl (by rw [e1]; rfl)
    ·
      have ho2 := (Array.getElem?_eq_some_iff.1 ho).2
      simp only [List.getElem_toArray, List.getElem_cons_succ, List.getElem_cons_zero] at ho2
      subst ho2
      clear ho
      have e2 := D.old 2 (by kernel_rfl)
      exact wk.does_move rfl (by rw [e2]; rfl)
    ·
      have ho2 := (Array.getElem?_eq_some_iff.1 ho).2
      simp only [List.getElem_toArray, List.getElem_cons_succ, List.getElem_cons_zero] at ho2
      subst ho2
      clear ho
      have e33 := D.is { on := 11, ground := .data } (by simp) rfl rfl 33 rfl
      have e34 := D.is { on := 12, ground := .data } (by simp) rfl rfl 34 rfl
      have e35 := D.is { on := 13, ground := .data } (by simp) rfl rfl 35 rfl
      refine wk.does_fn (f := 20) (vs := #[.agg #[.int .i64 b.d, .slice A0 n0 c0, .slice AW nW cW], .int .i64 m, .slice A n c]) rfl (D.fn _) (by simp [e33, e34, e35]) (by go_simp) ?_
      refine (residual_calls _ b m A n c q w4 (HX.out.below ((Below.refl _ _).drew.trans hb4 : Below w1.heap.size w1 w4)) HRG.out.rt HRG.out.m1 HRG.out.m3 (HV.out.below ((Below.refl _ _).drew.trans hb4 : Below w1.heap.size w1 w4)).is HRG.out.v1 HND.out).mono ?_
      rintro e w7 ⟨rfl, hb7⟩
      exact ⟨_, rfl, hb7, by rw [HR.out]; rfl⟩
    ·
      have ho2 := (Array.getElem?_eq_some_iff.1 ho).2
      simp only [List.getElem_toArray, List.getElem_cons_succ, List.getElem_cons_zero] at ho2
      subst ho2
      clear ho
      have e22 := D.is { on := 0, ground := .data } (by simp) rfl rfl 22 rfl
      have e32 := D.is { on := 10, ground := .data } (by simp) rfl rfl 32 rfl
      have e36 := D.is { on := 14, ground := .data } (by simp) rfl rfl 36 rfl
      refine wk.does_fn (f := 23) (vs := #[.int .i64 m, .int .i64 ks, .int .i64 r]) rfl (D.fn _) (by simp [e22, e32, e36]) (by go_simp) ?_
      refine (bounds_calls m ks r w4 HRG.out.m1 HRG.out.m3 HKS.out.1 HRR.out.1 HKS.out.2 HRR.out.2).mono ?_
      rintro e w7 ⟨rfl, hb7⟩
      exact ⟨_, rfl, hb7, rfl⟩
    ·
      have ho2 := (Array.getElem?_eq_some_iff.1 ho).2
      simp only [List.getElem_toArray, List.getElem_cons_succ, List.getElem_cons_zero] at ho2
      subst ho2
      clear ho
      have e37 := D.is { on := 15, ground := .data } (by simp) rfl rfl 37 rfl
      exact wk.does_move rfl e37
    ·
      have ho2 := (Array.getElem?_eq_some_iff.1 ho).2
      simp only [List.getElem_toArray, List.getElem_cons_succ, List.getElem_cons_zero] at ho2
      subst ho2
      clear ho
      have e21 := D.is { on := 16, ground := .data } (by simp) rfl rfl 21 rfl
      exact wk.does_extract rfl e21 rfl rfl
    ·
      have ho2 := (Array.getElem?_eq_some_iff.1 ho).2
      simp only [List.getElem_toArray, List.getElem_cons_succ, List.getElem_cons_zero] at ho2
      subst ho2
      clear ho
      have e21 := D.is { on := 16, ground := .data } (by simp) rfl rfl 21 rfl
      exact wk.does_extract rfl e21 rfl rfl
    ·
      have ho2 := (Array.getElem?_eq_some_iff.1 ho).2
      simp only [List.getElem_toArray, List.getElem_cons_succ, List.getElem_cons_zero] at ho2
      subst ho2
      clear ho
      have e38 := D.is { on := 17, ground := .data } (by simp) rfl rfl 38 rfl
      exact wk.does_assign rfl e38
    ·
      have ho2 := (Array.getElem?_eq_some_iff.1 ho).2
      simp only [List.getElem_toArray, List.getElem_cons_succ, List.getElem_cons_zero] at ho2
      subst ho2
      clear ho
      have e39 := D.is { on := 18, ground := .data } (by simp) rfl rfl 39 rfl
      exact wk.does_assign rfl e39
  case hdone =>
    intro vals w4 hb4 hv
    have h19 := hv 19 (by omega)
    have h20 := hv 20 (by omega)
    clear hv
    replace h19 : vals 19 = (.int .i64 (me.low m ks r)) := h19
    replace h20 : vals 20 = (.int .i64 (me.high m ks r)) := h20
    simp only [List.drop_succ_cons, List.drop_zero, wpList, wk.setL, List.setIfInBounds_toArray, List.set_cons_zero, List.set_cons_succ, Nat.zero_add, Nat.reduceAdd, h19, h20]
    generalize vals 0 = x0
    generalize vals 1 = x1
    generalize vals 2 = x2
    generalize vals 3 = x3
    generalize vals 4 = x4
    generalize vals 5 = x5
    generalize vals 6 = x6
    generalize vals 7 = x7
    generalize vals 8 = x8
    generalize vals 9 = x9
    generalize vals 10 = x10
    generalize vals 11 = x11
    generalize vals 12 = x12
    generalize vals 13 = x13
    generalize vals 14 = x14
    generalize vals 15 = x15
    generalize vals 16 = x16
    generalize vals 17 = x17
    generalize vals 18 = x18
    have hb : Below w1.heap.size w1 w4 := (Below.refl _ _).drew.trans hb4
    clear hb4
    replace HX := Lib.hid (HX.out.below hb)
    replace HT := Lib.hid (HT.out.below hb)
    replace HV := Lib.hid (HV.out.below hb)
    replace HC := Lib.hid (HC.out.below hb)
    replace HB := Lib.hid (Below.andThen HB.out hb)
    clear hb
    obtain rfl : n2 = n := by
      have h1 := HND2.out
      have h2 := HND.out
      omega
    have hc0HT := HT.out.c0
    have hc1HT := HT.out.c1
    have hc2HT := HT.out.c2
    go_wp2_with fail
    clear hc0HT hc1HT hc2HT
    refine (rkey_calls m _ _ _ _ _ cl q _ HRG.out.m1 HRG.out.m3 HC.out.is HV.out.is (fewv HRG.out.v2) (fewv HRG.out.v1) (vq.sub_bound HRG.out.v2 HRG.out.v1) HN32.out).mono ?_
    rintro e w2 ⟨rfl, hb⟩
    replace HX := Lib.hid (HX.out.below hb)
    replace HT := Lib.hid (HT.out.below hb)
    replace HV := Lib.hid (HV.out.below hb)
    replace HC := Lib.hid (HC.out.below hb)
    replace HB := Lib.hid (Below.andThen HB.out hb)
    rw [HK.out]
    clear hb
    have hc0HT := HT.out.c0
    have hc1HT := HT.out.c1
    have hc2HT := HT.out.c2
    go_wp2_with fail
    clear hc0HT hc1HT hc2HT
    refine (sanity_calls _).mono ?_
    rintro e w3 ⟨rfl, hb⟩
    replace HX := Lib.hid (HX.out.below hb)
    replace HT := Lib.hid (HT.out.below hb)
    replace HV := Lib.hid (HV.out.below hb)
    replace HC := Lib.hid (HC.out.below hb)
    replace HB := Lib.hid (Below.andThen HB.out hb)
    clear hb
    have hc0HT := HT.out.c0
    have hc1HT := HT.out.c1
    have hc2HT := HT.out.c2
    have hlo := HBH.out.1
    have hhi := HBH.out.2
    generalize me.low m ks r = lo at *
    generalize me.high m ks r = hi at *
    go_wp2_with fail
    go_ret
    exact ⟨rfl, HB.out⟩
end Go.Proofs.Ytiodjepjbooniaa.codeBoundsHold
