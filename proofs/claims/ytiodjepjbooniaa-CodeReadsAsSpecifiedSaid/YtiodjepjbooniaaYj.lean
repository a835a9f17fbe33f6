/- The reference: Residual. -/
import Derived.Test.YtiodjepjbooniaaYk

import Derived.Test.YtiodjepjbooniaaYf

namespace Go.Proofs.Ytiodjepjbooniaa.uk

open Go.ChangeShapes Go.WideShapes Go.ChangeAt Go.RowKit

open Go.Proofs.Ytiodjepjbooniaa.cq Go.Proofs.Ytiodjepjbooniaa.vk Go.Proofs.Ytiodjepjbooniaa.bk Go.Proofs.Ytiodjepjbooniaa.wk

set_option linter.unusedVariables false
set_option maxRecDepth 100000 in
set_option maxHeartbeats 3000000 in
theorem rresidual_calls (v : Value) (b : Bk) (m : Int) (A : Option Addr) (n c : Nat) (q : List Int) (w : World) (h : IsBk w v b) (hR : Rt b) (hm1 : 1 ≤ m) (hm3 : m ≤ 3) (h2 : wo.IsI w A n c q) (hq : vq.Vec q) (hnd : (n : Int) = b.d) :
    Calls Try.prog 21 #[v, .int .i64 m, .slice A n c] w fun e w' => e = .returned (.int .i64 (res m b q)) ∧ Below w.heap.size w w' := by
  obtain ⟨A0, n0, c0, AW, nW, cW, rfl, hi, hW, hd⟩ := h
  have hb0 := below_new w (.cells #[.int .i64 b.d, .slice A0 n0 c0, .slice AW nW cW] 25)
  have hT0 := Three.new w (.int .i64 b.d) (.slice A0 n0 c0) (.slice AW nW cW)
  have HX : Hid (IsBk _ (.agg #[.int .i64 b.d, .slice A0 n0 c0, .slice AW nW cW]) b) := IsBk.below ⟨_, _, _, _, _, _, rfl, hi, hW, hd⟩ hb0
  have HLD := Lib.hid (dec_len hR (enc_cok (m := m) hR q))
  have HDV := Lib.hid (dec_vec hR (enc_cok (m := m) hR q))
  have HN32 : Hid (n ≤ 32) := by show _ ≤ _; rw [← h2.1]; exact hq.le
  have HR := Lib.hid hR
  have HM1 := Lib.hid hm1
  have HM3 := Lib.hid hm3
  have HVQ := Lib.hid hq
  have HND := Lib.hid hnd
  have HQ := Lib.hid (isI_below h2 hb0)
  have HB0 := Lib.hid hb0
  have HT := Lib.hid hT0
  clear hi hW hd hR hm1 hm3 h2 hq hnd
  go_enter Try.func21, Try.ntmps21
  go_wp2_with fail
  clear hT0 hb0
  generalize w.alloc (.cells #[.int .i64 b.d, .slice A0 n0 c0, .slice AW nW cW] 25) = wE at *
  refine wk.region_tailS 11 [.is (.int .i64 m), .is (.slice A n c), .is (.agg #[.int .i64 b.d, .slice A0 n0 c0, .slice AW nW cW]), .is (.agg #[.int .i64 b.d, .slice A0 n0 c0, .slice AW nW cW]), .is (.int .i64 m), .is (.slice A n c), .st (fun u x => IsV u x (enc m b q)) (fun u u2 x h hb => h.below hb), .st (fun u x => ∃ y, x = .agg #[y, .int .i64 0] ∧ IsV u y (dec b (enc m b q))) (fun u u2 x h hb => by obtain ⟨y, h1, h2⟩ := h; exact ⟨y, h1, h2.below hb⟩), .st (fun u x => IsV u x (dec b (enc m b q))) (fun u u2 x h hb => h.below hb), .is (.int .i64 (res m b q)), .is (.int .i64 (res m b q))] [some 7, some 8, some 9, some 10, some 11, some 12, some 13, some 14, some 15, some 16, some 6] (by kernel_rfl) (by kernel_rfl) (by kernel_rfl) (by kernel_rfl) [] (by kernel_rfl) (by intro p hp; cases hp) (by kernel_rfl) (by kernel_rfl) ?hstep ?hdone
  case hstep =>
    intro i o ho hi hns E w4 hb4 D
    have hi2 : i = 0 ∨ i = 1 ∨ i = 2 ∨ i = 3 ∨ i = 4 ∨ i = 5 ∨ i = 6 ∨ i = 7 ∨ i = 8 ∨ i = 9 ∨ i = 10 := by omega
    clear hi
    rcases hi2 with rfl | rfl | rfl | rfl | rfl | rfl | rfl | rfl | rfl | rfl | rfl
    ·
      have ho2 := (Array.getElem?_eq_some_iff.1 ho).2
      simp only [List.getElem_toArray, List.getElem_cons_zero] at ho2
      subst ho2
      clear ho
      have e1 := D.old 1 (by kernel_rfl)
      exact wk.does_move rfl (by rw [e1]; rfl)
    ·
      have ho2 := (Array.getElem?_eq_some_iff.1 ho).2
      simp only [List.getElem_toArray, List.getElem_cons_succ, List.getElem_cons_zero] at ho2
      subst ho2
      clear ho
      have e2 := D.old 2 (by kernel_rfl)
      exact wk.does_move rfl (by rw [e2]; rfl)
    ·
      have ho2 := (Array.getElem?_eq_some_iff.1 ho).2
      simp only [List.getElem_toArray, List.getElem_cons_succ, List.getElem_cons_zero] at ho2
      subst ho2
      clear ho
      have e3 := D.old 3 (by kernel_rfl)
      exact wk.does_load_agg rfl (show E (.tmp 3) = .pointer (some ⟨w.heap.size, 0, none⟩) by rw [e3]; rfl) (cs := [.int .i64 b.d, .slice A0 n0 c0, .slice AW nW cW]) (HT.out.below ((Below.refl _ _).drew.trans hb4)).cells3 Try.underlying25 rfl (by kernel_rfl) rfl
    ·
      have ho2 := (Array.getElem?_eq_some_iff.1 ho).2
      simp only [List.getElem_toArray, List.getElem_cons_succ, List.getElem_cons_zero] at ho2
      subst ho2
      clear ho
      have e3 := D.old 3 (by kernel_rfl)
      exact wk.does_load_agg rfl (show E (.tmp 3) = .pointer (some ⟨w.heap.size, 0, none⟩) by rw [e3]; rfl) (cs := [.int .i64 b.d, .slice A0 n0 c0, .slice AW nW cW]) (HT.out.below ((Below.refl _ _).drew.trans hb4)).cells3 Try.underlying25 rfl (by kernel_rfl) rfl
    ·
      have ho2 := (Array.getElem?_eq_some_iff.1 ho).2
      simp only [List.getElem_toArray, List.getElem_cons_succ, List.getElem_cons_zero] at ho2
      subst ho2
      clear ho
      have e1 := D.old 1 (by kernel_rfl)
      exact wk.does_move rfl (by rw [e1]; rfl)
    ·
      have ho2 := (Array.getElem?_eq_some_iff.1 ho).2
      simp only [List.getElem_toArray, List.getElem_cons_succ, List.getElem_cons_zero] at ho2
      subst ho2
      clear ho
      have e2 := D.old 2 (by kernel_rfl)
      exact wk.does_move rfl (by rw [e2]; rfl)
    ·
      have ho2 := (Array.getElem?_eq_some_iff.1 ho).2
      simp only [List.getElem_toArray, List.getElem_cons_succ, List.getElem_cons_zero] at ho2
      subst ho2
      clear ho
      have e10 := D.is { on := 3, ground := .data } (by simp) rfl rfl 10 rfl
      have e11 := D.is { on := 4, ground := .data } (by simp) rfl rfl 11 rfl
      have e12 := D.is { on := 5, ground := .data } (by simp) rfl rfl 12 rfl
      refine wk.does_fn (f := 19) (vs := #[.agg #[.int .i64 b.d, .slice A0 n0 c0, .slice AW nW cW], .int .i64 m, .slice A n c]) rfl (D.fn _) (by simp [e10, e11, e12]) (by go_simp) ?_
      refine (rencode_calls _ b m A n c q w4 (HX.out.below ((Below.refl _ _).drew.trans hb4)) HR.out HM1.out HM3.out (isI_below HQ.out ((Below.refl _ _).drew.trans hb4)) HVQ.out HND.out).mono ?_
      rintro e w7 ⟨u7, rfl, hu7, hb7⟩
      exact ⟨_, rfl, hb7, hu7⟩
    ·
      have ho2 := (Array.getElem?_eq_some_iff.1 ho).2
      simp only [List.getElem_toArray, List.getElem_cons_succ, List.getElem_cons_zero] at ho2
      subst ho2
      clear ho
      have e9 := D.is { on := 2, ground := .data } (by simp) rfl rfl 9 rfl
      have s13 := D.st { on := 6, ground := .data } (by simp) rfl rfl 13 rfl
      obtain ⟨A7, n7, c7, e7, hI7⟩ := s13
      refine wk.does_fn (f := 16) (vs := #[.agg #[.int .i64 b.d, .slice A0 n0 c0, .slice AW nW cW], .slice A7 n7 c7]) rfl (D.fn _) (by simp [e9, show E (.tmp 13) = _ from e7]) (by go_simp) ?_
      refine (rdecode_calls _ b A7 n7 c7 (enc m b q) w4 (HX.out.below ((Below.refl _ _).drew.trans hb4)) HR.out hI7).mono ?_
      rintro e w7 ⟨u7, rfl, hu7, hb7⟩
      exact ⟨_, rfl, hb7, _, by rw [enc_cok HR.out q]; rfl, hu7⟩
    ·
      have ho2 := (Array.getElem?_eq_some_iff.1 ho).2
      simp only [List.getElem_toArray, List.getElem_cons_succ, List.getElem_cons_zero] at ho2
      subst ho2
      clear ho
      have s14 := D.st { on := 7, ground := .data } (by simp) rfl rfl 14 rfl
      obtain ⟨y, ey, hy⟩ := s14
      exact wk.does_run (v := y) (by simp only [execOp]; rw [show E (.tmp 14) = _ from ey]; simp only [Sem.run_bind, vfield_run, Result.andThen_ok, Sem.run_pure]) hy
    ·
      have ho2 := (Array.getElem?_eq_some_iff.1 ho).2
      simp only [List.getElem_toArray, List.getElem_cons_succ, List.getElem_cons_zero] at ho2
      subst ho2
      clear ho
      have e7 := D.is { on := 0, ground := .data } (by simp) rfl rfl 7 rfl
      have e8 := D.is { on := 1, ground := .data } (by simp) rfl rfl 8 rfl
      have s15 := D.st { on := 8, ground := .data } (by simp) rfl rfl 15 rfl
      obtain ⟨A8, n8, c8, e15, hI8⟩ := s15
      obtain rfl : n8 = n := by have h1 := hI8.1; have h2 := HLD.out; have h3 := HND.out; omega
      refine wk.does_fn (f := 36) (vs := #[.int .i64 m, .slice A n8 c, .slice A8 n8 c8]) rfl (D.fn _) (by simp [e7, e8, show E (.tmp 15) = _ from e15]) (by go_simp) ?_
      refine (rkey_calls m _ _ n8 _ _ q (dec b (enc m b q)) w4 HM1.out HM3.out (isI_below HQ.out ((Below.refl _ _).drew.trans hb4)) hI8 (fewv HVQ.out) (fewv HDV.out) (vq.sub_bound HVQ.out HDV.out) HN32.out).mono ?_
      rintro e w7 ⟨rfl, hb7⟩
      exact ⟨_, rfl, hb7, rfl⟩
    ·
      have ho2 := (Array.getElem?_eq_some_iff.1 ho).2
      simp only [List.getElem_toArray, List.getElem_cons_succ, List.getElem_cons_zero] at ho2
      subst ho2
      clear ho
      have e16 := D.is { on := 9, ground := .data } (by simp) rfl rfl 16 rfl
      exact wk.does_assign rfl e16
  case hdone =>
    intro vals w4 hb4 hv
    have h10 := hv 10 (by omega)
    clear hv
    replace h10 : vals 10 = (.int .i64 (res m b q)) := h10
    simp only [List.drop_succ_cons, List.drop_zero, wpList, wk.setL, List.setIfInBounds_toArray, List.set_cons_zero, List.set_cons_succ, Nat.zero_add, Nat.reduceAdd, h10]
    generalize vals 0 = x0
    generalize vals 1 = x1
    generalize vals 2 = x2
    generalize vals 3 = x3
    generalize vals 4 = x4
    generalize vals 5 = x5
    generalize vals 6 = x6
    generalize vals 7 = x7
    generalize vals 8 = x8
    generalize vals 9 = x9
    have hb5 := HB0.out.trans (((Below.refl _ _).drew.trans hb4).mono HB0.out.size)
    have HB5 := Lib.hid hb5
    clear hb4 hb5
    go_wp2_with fail
    go_ret
    exact ⟨rfl, HB5.out⟩
end Go.Proofs.Ytiodjepjbooniaa.uk
