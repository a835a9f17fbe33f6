/- Joined: Uj Uk Ul Val8 Um Un. -/
import Derived.Test.YtiodjepjbooniaaG9

import Derived.Lib.MinMax

import Derived.Laws.EntriesVeiled

import Derived.Laws.CopyOwn

import Derived.Deep.RegionLaw

import Derived.Lib.Mul64

import Derived.Laws.Bits64b
/- Encode, Residual, Bounds, Worst. -/
namespace Go.Proofs.Ytiodjepjbooniaa.uk

open Go.ChangeShapes Go.WideShapes Go.ChangeAt Go.RowKit

open Go.Proofs.Ytiodjepjbooniaa.cq Go.Proofs.Ytiodjepjbooniaa.vk Go.Proofs.Ytiodjepjbooniaa.bk Go.Proofs.Ytiodjepjbooniaa.wk

set_option linter.unusedVariables false
theorem enc_bd {m : Int} {b : Bk} (hR : Rt b) (v : List Int) : ∀ x ∈ enc m b v, 0 ≤ x ∧ x < 256 := fun x hx => by
  unfold enc at hx
  obtain ⟨r, hr, rfl⟩ := List.mem_map.1 hx
  obtain ⟨k, hk, rfl⟩ := List.mem_iff_getElem.1 hr
  rw [tbl_len hR] at hk
  have hl := List.getElem?_eq_getElem hk
  have hy := List.getElem?_eq_getElem (show k < b.cuts.length by rw [← hR.wl]; exact hk)
  have h1 := (hR.ok k _ _ hl hy).1
  have h2 := tbl_at (m := m) (q := v) hl hy
  rw [List.getElem?_eq_getElem (by rw [tbl_len hR]; exact hk)] at h2
  injection h2 with h2
  rw [h2]
  have h3 := lst_lt (l := trow m v (b.W[k], (b.cuts[k]'(by rw [← hR.wl]; exact hk), endAt b.cuts b.d k))) (by rw [trow_len]; exact h1.1)
  rw [trow_len] at h3
  omega
theorem Three.cells3 {w : World} {g : Nat} {a b c : Value} (h : Three w g a b c) : ∀ j v, [a, b, c][j]? = some v → w.cell? ((⟨g, 0, none⟩ : Addr).add j) = some v := fun j u hu => by
  rw [wk.add_at, Nat.zero_add, cell_of_row _ _ _ _ _ _ h]
  simpa using hu
theorem enc_len {m : Int} {b : Bk} (hR : Rt b) (v : List Int) : (enc m b v).length = b.W.length := by unfold enc; rw [List.length_map, tbl_len hR]
set_option maxRecDepth 100000 in
set_option maxHeartbeats 4000000 in
theorem encode_calls (v : Value) (b : Bk) (m : Int) (A : Option Addr) (n c : Nat) (q : List Int) (w : World) (h : IsBk w v b) (hR : Rt b) (hm1 : 1 ≤ m) (hm3 : m ≤ 3) (h2 : wo.IsI w A n c q) (hq : vq.Vec q) (hnd : (n : Int) = b.d) :
    Calls Try.prog 18 #[v, .int .i64 m, .slice A n c] w fun e w' => ∃ u, e = .returned u ∧ IsV w' u (enc m b q) ∧ Below w.heap.size w w' := by
  have hTC := fun w' hb => table_calls v b m A n c q w' (h.below hb) hR hm1 hm3 (isI_below h2 hb) hq hnd
  obtain ⟨A0, n0, c0, AW, nW, cW, rfl, hi, hW, hd⟩ := h
  obtain ⟨i0, hi9, hz0, hz1, hz2⟩ := info_parts infoIz
  have hmW := hW.2.2.1
  have hncW := hW.2.1
  have hn8 : nW ≤ 8 := by have := hW.1; have := hR.wl; have := hR.div.n8; omega
  have HB0 := Lib.hid (below_new w (.cells #[.int .i64 b.d, .slice A0 n0 c0, .slice AW nW cW] 25))
  have hT0 := Three.new w (.int .i64 b.d) (.slice A0 n0 c0) (.slice AW nW cW)
  have HTC := Lib.hid hTC
  have HEL : Hid ((enc m b q).length = nW) := by show _ = _; rw [enc_len hR, hW.1]
  have HEB := Lib.hid (enc_bd (m := m) hR q)
  have HTL : Hid ((tbl m b q).length = nW) := by show _ = _; rw [tbl_len hR, hW.1]
  have hnI : (i0.bytes : Nat) * nW ≤ 281474976710656 := by rw [hz2]; omega
  obtain ⟨w1, hmk, hown, hgr⟩ := run_make_own (P := Try.prog) (w.alloc (.cells #[.int .i64 b.d, .slice A0 n0 c0, .slice AW nW cW] 25)) w.heap.size 22 3 i0 (.int .i64 0) 1 Try.underlying22 hi9 hz0 hz1 .i64 .i64 nW hnI (by unfold maxLen; omega) (by rw [size_new]; omega)
  rw [size_new] at hown
  have hb1 : Below (w.alloc (.cells #[.int .i64 b.d, .slice A0 n0 c0, .slice AW nW cW] 25)).heap.size (w.alloc (.cells #[.int .i64 b.d, .slice A0 n0 c0, .slice AW nW cW] 25)) w1 := (Below.refl _ _).grown hgr (Nat.le_refl _) (fun k hk => by cases hk)
  have HB1 := Lib.hid (HB0.out.trans (hb1.mono (by rw [size_new]; omega)))
  have HT1 := Lib.hid (hT0.below hb1)
  have HOWN := Lib.hid hown
  have hc2 := hT0.c2
  have hd0 := HT1.out.c0
  have hd1 := HT1.out.c1
  have hd2 := HT1.out.c2
  clear hown hgr hb1 hT0 hi hW hd hR hTC h2
  go_enter Try.func18, Try.ntmps18
  go_wp2_with fail
  refine (HTC.out w1 HB1.out).mono ?_
  rintro e w2 ⟨A2, n2, c2, rfl, hSQ, hb2⟩
  have hVV := hSQ.now
  obtain rfl : n2 = nW := by rw [← hVV.1]; exact HTL.out
  have hm2 := hVV.2.2.1
  have hnc2 := hVV.2.1
  have hs1 := HB1.out.size
  have hr1 : w.heap.size + 1 < w1.heap.size := (HOWN.out.lt _ rfl).2
  have HSQ := Lib.hid hSQ
  have HB2 := Lib.hid (HB1.out.trans (hb2.mono hs1))
  have HOWN2 := Lib.hid (keptB HOWN.out hb2)
  clear hVV hSQ hb2 HOWN hd0 hd1 hd2 hc2 hmk HT1
  generalize hG : w.heap.size = G at *
  have HG := Lib.hid hG
  clear hG
  go_wp2_with fail
  obtain ⟨w0, hw0⟩ : ∃ u, u = w2 := ⟨_, rfl⟩
  subst hw0
  go_loopg [7, 19] n2 (fun g u x wr => ∃ (k : Nat) (v0 : Value), k + g = n2 ∧ v0 = u ∧ v0 = .slice (some ⟨G + 1, 0, none⟩) k n2 ∧ x = .int .i64 (k : Int) ∧ wr.ownsRow G 3 1 v0 k (iv ((enc m b q).take k)) ∧ Below G w wr ∧ Sq w1.heap.size [] (fun w' => IsVV w' A2 n2 c2 (tbl m b q)) wr)
  case atStart => exact ⟨0, _, by omega, rfl, by first | rfl | (rw [HG.out]), rfl, HOWN2.out, HB2.out, HSQ.out⟩
  case round =>
    obtain ⟨k, v0, hk, hv0, hv1, rfl, hown, hbel, hsq⟩ := hrel
    subst hv1
    subst hv0
    have HK := Lib.hid hk
    have HOWN3 := Lib.hid hown
    have HBEL := Lib.hid hbel
    have HSQ3 := Lib.hid hsq
    have hkn : k ≤ n2 := by omega
    by_cases hlt : k < n2
    · obtain ⟨b2, o2, A4, n4, c4, l4, rfl, hb4, hc4, hI4, hL4⟩ := isVV_get hsq.now hlt
      have HLE := Lib.hid (least_calls A4 n4 c4 l4 wr hI4)
      have HS : Hid ((enc m b q).take (k + 1) = (enc m b q).take k ++ [(lst l4 : Int)]) := by
        show _ = _
        have he : (enc m b q)[k]? = some (lst l4 : Int) := by unfold enc; rw [List.getElem?_map, hL4]; rfl
        rw [List.take_add_one, he]; rfl
      have hlt0 : (k : Int) < (n2 : Int) := by omega
      have hBw : G ≤ wr.heap.size := by have := hbel.size; have := HG.out; omega
      generalize lst l4 = z at *
      clear hk hown hbel hsq hI4 hL4
      go_wp2_with fail
      refine HLE.out.mono ?_
      rintro e w' ⟨rfl, rfl⟩
      go_wp2_with (at_builtin; refine wpList_append_fits _ rfl _ _ 22 rfl G 3 i0 1 Try.underlying22 hi9 hz1 (G + 1) k n2 (iv ((enc m b q).take k)) rfl (HOWN3.out.alloc _) ⟨w'.heap.size, 0, none⟩ 1 1 [.int .i64 (z : Int)] rfl rfl ?c1 ?c2 ?c3 ?_)
      case c1 => exact cell_one_new _ _ _
      case c2 => simp [Value.oneCell']
      case c3 => omega
      intro w5 hown5 hgrow5
      have hbe : Below G w w5 := (HBEL.out.alloc hBw _).grown hgrow5 (by simp; omega) (fun q hq => by cases hq; omega)
      have hsq5 := (HSQ3.out.below (below_new w' (.cells #[.int .i64 (z : Int)] 3))).keep (Kq.of_low hgrow5 (by omega))
      have HB5 := Lib.hid hbe
      have HO5 := Lib.hid hown5
      have HSQ5 := Lib.hid hsq5
      clear hown5 hgrow5 hbe hsq5
      go_wp2_with fail
      go_roundg (gk - 1)
      case measure => have := HK.out; omega
      case rel =>
        refine ⟨k + 1, .slice (some ⟨G + 1, 0, none⟩) (k + 1) n2, by have := HK.out; omega, rfl, rfl, by go_num, ?_, HB5.out, HSQ5.out⟩
        have hO := HO5.out
        rw [HS.out]
        unfold iv at hO ⊢
        rw [List.map_append]
        simpa using hO
    · obtain rfl : k = n2 := by omega
      have ho := hown
      rw [List.take_of_length_le (by have := HEL.out; omega)] at ho
      have hV := isV_own ho (fun x hx => by have := HEB.out x hx; unfold I64; omega)
      have HV := Lib.hid hV
      clear ho hown hbel hsq hV
      go_wp2_with fail
      go_ret
      exact ⟨_, rfl, HV.out, by first | exact HBEL.out | (rw [HG.out]; exact HBEL.out)⟩
set_option maxRecDepth 100000 in
set_option maxHeartbeats 4000000 in
theorem residual_calls (v : Value) (b : Bk) (m : Int) (A : Option Addr) (n c : Nat) (q : List Int) (w : World) (h : IsBk w v b) (hR : Rt b) (hm1 : 1 ≤ m) (hm3 : m ≤ 3) (h2 : wo.IsI w A n c q) (hq : vq.Vec q) (hnd : (n : Int) = b.d) :
    Calls Try.prog 20 #[v, .int .i64 m, .slice A n c] w fun e w' => e = .returned (.int .i64 (res m b q)) ∧ Below w.heap.size w w' := by
  have hEC := fun w' hb => encode_calls v b m A n c q w' (h.below hb) hR hm1 hm3 (isI_below h2 hb) hq hnd
  have hcok := enc_cok (m := m) hR q
  have hDC := fun w' (hb : Below w.heap.size w w') A7 n7 c7 (h7 : wo.IsI w' A7 n7 c7 (enc m b q)) => decode_calls v b A7 n7 c7 (enc m b q) w' (h.below hb) hR h7
  rw [hcok] at hDC
  obtain ⟨A0, n0, c0, AW, nW, cW, rfl, hi, hW, hd⟩ := h
  have hT0 := Three.new w (.int .i64 b.d) (.slice A0 n0 c0) (.slice AW nW cW)
  have hb0 := below_new w (.cells #[.int .i64 b.d, .slice A0 n0 c0, .slice AW nW cW] 25)
  have HLD := Lib.hid (dec_len hR hcok)
  have HDV := Lib.hid (dec_vec hR hcok)
  have HVQ := Lib.hid hq
  have HQI := Lib.hid h2
  have HND := Lib.hid hnd
  have HBE := Lib.hid hb0
  have HTE := Lib.hid hT0
  clear hi hW hd hR h2 hq hnd hcok
  go_enter Try.func20, Try.ntmps20
  go_wp2_with fail
  generalize w.alloc (.cells #[.int .i64 b.d, .slice A0 n0 c0, .slice AW nW cW] 25) = wE at *
  have HEC : Hid (∀ w', Below wE.heap.size wE w' → _) := fun w' hb => hEC w' (hb0.trans (hb.mono hb0.size))
  have HDC : Hid (∀ w', Below wE.heap.size wE w' → _) := fun w' hb => hDC w' (hb0.trans (hb.mono hb0.size))
  clear hEC hDC hb0 hT0
  generalize hG : w.heap.size = G at *
  refine wk.region_tailS 11 [.is (.agg #[.int .i64 b.d, .slice A0 n0 c0, .slice AW nW cW]), .is (.agg #[.int .i64 b.d, .slice A0 n0 c0, .slice AW nW cW]), .is (.int .i64 m), .is (.slice A n c), .st (fun u x => IsV u x (enc m b q)) (fun u u2 x h hb => h.below hb), .st (fun u x => ∃ y, x = .tuple #[y, .int .i64 0] ∧ IsV u y (dec b (enc m b q))) (fun u u2 x h hb => by obtain ⟨y, h1, h2⟩ := h; exact ⟨y, h1, h2.below hb⟩), .st (fun u x => ∃ y, x = .tuple #[y, .int .i64 0] ∧ IsV u y (dec b (enc m b q))) (fun u u2 x h hb => by obtain ⟨y, h1, h2⟩ := h; exact ⟨y, h1, h2.below hb⟩), .st (fun u x => IsV u x (dec b (enc m b q))) (fun u u2 x h hb => h.below hb), .is (.int .i64 0), .st (fun u x => IsV u x (dec b (enc m b q))) (fun u u2 x h hb => h.below hb), .is (.int .i64 0)] [some 10, some 11, some 12, some 13, some 14, some 15, some 9, some 16, some 17, some 7, some 8] (by kernel_rfl) (by kernel_rfl) (by kernel_rfl) (by kernel_rfl) [] (by kernel_rfl) (by intro p hp; cases hp) (by kernel_rfl) (by kernel_rfl) ?hstep ?hdone
  case hstep =>
    intro i o ho hi hns E w4 hb4 D
    have hi2 : i = 0 ∨ i = 1 ∨ i = 2 ∨ i = 3 ∨ i = 4 ∨ i = 5 ∨ i = 6 ∨ i = 7 ∨ i = 8 ∨ i = 9 ∨ i = 10 := by omega
    clear hi
    rcases hi2 with rfl | rfl | rfl | rfl | rfl | rfl | rfl | rfl | rfl | rfl | rfl
    ·
      have ho2 := (Array.getElem?_eq_some_iff.1 ho).2
      simp only [List.getElem_toArray, List.getElem_cons_zero] at ho2
      subst ho2
      clear ho
      have e3 := D.old 3 (by kernel_rfl)
      exact wk.does_load_agg rfl (show E (.tmp 3) = .pointer (some ⟨G, 0, none⟩) by rw [e3]; rfl) (cs := [.int .i64 b.d, .slice A0 n0 c0, .slice AW nW cW]) (HTE.out.below ((Below.refl _ _).drew.trans hb4 : Below wE.heap.size wE w4)).cells3 Try.underlying25 rfl (by kernel_rfl) rfl
    ·
      have ho2 := (Array.getElem?_eq_some_iff.1 ho).2
      simp only [List.getElem_toArray, List.getElem_cons_succ, List.getElem_cons_zero] at ho2
      subst ho2
      clear ho
      have e3 := D.old 3 (by kernel_rfl)
      exact wk.does_load_agg rfl (show E (.tmp 3) = .pointer (some ⟨G, 0, none⟩) by rw [e3]; rfl) (cs := [.int .i64 b.d, .slice A0 n0 c0, .slice AW nW cW]) (HTE.out.below ((Below.refl _ _).drew.trans hb4 : Below wE.heap.size wE w4)).cells3 Try.underlying25 rfl (by kernel_rfl) rfl
    ·
      have ho2 := (Array.getElem?_eq_some_iff.1 ho).2
      simp only [List.getElem_toArray, List.getElem_cons_succ, List.getElem_cons_zero] at ho2
      subst ho2
      clear ho
      have e1 := D.old 1 (by kernel_rfl)
      exact wk.does_move rfl (by rw [e1]; rfl)
    ·
      have ho2 := (Array.getElem?_eq_some_iff.1 ho).2
      simp only [List.getElem_toArray, List.getElem_cons_succ, List.getElem_cons_zero] at ho2
      subst ho2
      clear ho
      have e2 := D.old 2 (by kernel_rfl)
      exact wk.does_move rfl (by rw [e2]; rfl)
    ·
      have ho2 := (Array.getElem?_eq_some_iff.1 ho).2
      simp only [List.getElem_toArray, List.getElem_cons_succ, List.getElem_cons_zero] at ho2
      subst ho2
      clear ho
      have e11 := D.is { on := 1, ground := .data } (by simp) rfl rfl 11 rfl
      have e12 := D.is { on := 2, ground := .data } (by simp) rfl rfl 12 rfl
      have e13 := D.is { on := 3, ground := .data } (by simp) rfl rfl 13 rfl
      refine wk.does_fn (f := 18) (vs := #[.agg #[.int .i64 b.d, .slice A0 n0 c0, .slice AW nW cW], .int .i64 m, .slice A n c]) rfl (D.fn _) (by simp [e11, e12, e13]) (by go_simp) ?_
      refine (HEC.out w4 ((Below.refl _ _).drew.trans hb4 : Below wE.heap.size wE w4)).mono ?_
      rintro e w7 ⟨u7, rfl, hu7, hb7⟩
      exact ⟨_, rfl, hb7, hu7⟩
    ·
      have ho2 := (Array.getElem?_eq_some_iff.1 ho).2
      simp only [List.getElem_toArray, List.getElem_cons_succ, List.getElem_cons_zero] at ho2
      subst ho2
      clear ho
      have e10 := D.is { on := 0, ground := .data } (by simp) rfl rfl 10 rfl
      have s14 := D.st { on := 4, ground := .data } (by simp) rfl rfl 14 rfl
      obtain ⟨A7, n7, c7, e7, hI7⟩ := s14
      refine wk.does_fn (f := 15) (vs := #[.agg #[.int .i64 b.d, .slice A0 n0 c0, .slice AW nW cW], .slice A7 n7 c7]) rfl (D.fn _) (by simp [e10, show E (.tmp 14) = _ from e7]) (by go_simp) ?_
      refine (HDC.out w4 ((Below.refl _ _).drew.trans hb4 : Below wE.heap.size wE w4) A7 n7 c7 hI7).mono ?_
      rintro e w7 ⟨u7, rfl, hu7, hb7⟩
      exact ⟨_, rfl, hb7, _, rfl, hu7⟩
    ·
      have ho2 := (Array.getElem?_eq_some_iff.1 ho).2
      simp only [List.getElem_toArray, List.getElem_cons_succ, List.getElem_cons_zero] at ho2
      subst ho2
      clear ho
      have s15 := D.st { on := 5, ground := .data } (by simp) rfl rfl 15 rfl
      exact wk.does_move rfl s15
    ·
      have ho2 := (Array.getElem?_eq_some_iff.1 ho).2
      simp only [List.getElem_toArray, List.getElem_cons_succ, List.getElem_cons_zero] at ho2
      subst ho2
      clear ho
      have s9 := D.st { on := 6, ground := .data } (by simp) rfl rfl 9 rfl
      obtain ⟨y, ey, hy⟩ := s9
      exact wk.does_extract rfl ey rfl hy
    ·
      have ho2 := (Array.getElem?_eq_some_iff.1 ho).2
      simp only [List.getElem_toArray, List.getElem_cons_succ, List.getElem_cons_zero] at ho2
      subst ho2
      clear ho
      have s9 := D.st { on := 6, ground := .data } (by simp) rfl rfl 9 rfl
      obtain ⟨y, ey, hy⟩ := s9
      exact wk.does_extract rfl ey rfl rfl
    ·
      have ho2 := (Array.getElem?_eq_some_iff.1 ho).2
      simp only [List.getElem_toArray, List.getElem_cons_succ, List.getElem_cons_zero] at ho2
      subst ho2
      clear ho
      have s16 := D.st { on := 7, ground := .data } (by simp) rfl rfl 16 rfl
      exact wk.does_assign rfl s16
    ·
      have ho2 := (Array.getElem?_eq_some_iff.1 ho).2
      simp only [List.getElem_toArray, List.getElem_cons_succ, List.getElem_cons_zero] at ho2
      subst ho2
      clear ho
      have e17 := D.is { on := 8, ground := .data } (by simp) rfl rfl 17 rfl
      exact wk.does_assign rfl e17
  case hdone =>
    intro vals w4 hb4 hv
    have h9 := hv 9 (by omega)
    have h10 := hv 10 (by omega)
    clear hv
    replace h10 : vals 10 = (.int .i64 0) := h10
    simp only [List.drop_succ_cons, List.drop_zero, wpList, wk.setL, List.setIfInBounds_toArray, List.set_cons_zero, List.set_cons_succ, Nat.zero_add, Nat.reduceAdd, h10]
    generalize vals 0 = x0
    generalize vals 1 = x1
    generalize vals 2 = x2
    generalize vals 3 = x3
    generalize vals 4 = x4
    generalize vals 5 = x5
    generalize vals 6 = x6
    generalize vals 7 = x7
    generalize vals 8 = x8
    generalize vals 9 = x9 at *
    obtain ⟨A8, n8, c8, e8, hI8⟩ := h9
    subst e8
    have hB8 : Below wE.heap.size wE w4 := ((Below.refl _ _).drew.trans hb4 : Below wE.heap.size wE w4)
    have HI8 := Lib.hid hI8
    have HB8 := Lib.hid hB8
    clear hb4 hI8 hB8
    have hl8 : n8 = n := by
      have h1 := HI8.out.1
      have h2 := HLD.out
      have h3 := HND.out
      omega
    subst hl8
    have HK := Lib.hid (key_calls m A A8 n8 c c8 q (dec b (enc m b q)) w4 (by omega) (by omega) (isI_below HQI.out (by rw [hG]; exact (HBE.out.trans (HB8.out.mono (by have := HBE.out.size; omega))))) HI8.out (vq.sub_bound HVQ.out HDV.out) (by have := HVQ.out.le; have := HQI.out.1; omega))
    have HRE : Hid (res m b q = vq.key m q (dec b (enc m b q))) := rfl
    clear HQI
    generalize vq.key m q (dec b (enc m b q)) = z at *
    go_wp2_with fail
    refine HK.out.mono ?_
    rintro e w9 ⟨rfl, hb9⟩
    have HB9 := Lib.hid (HBE.out.trans (HB8.out.mono (by have := HBE.out.size; omega)))
    have HB10 := Lib.hid (HB9.out.trans (hb9.mono (by have := HB9.out.size; omega)))
    clear hb9
    go_wp2_with fail
    go_ret
    exact ⟨by rw [HRE.out]; rfl, by rw [hG]; exact HB10.out⟩
set_option maxRecDepth 100000 in
set_option maxHeartbeats 4000000 in
theorem bounds_calls (m key r : Int) (w : World) (h1 : 1 ≤ m) (h3 : m ≤ 3) (ha : 0 ≤ key) (hb : 0 ≤ r) (ha2 : key ≤ 134217728) (hb2 : r ≤ 134217728) :
    Calls Try.prog 23 #[.int .i64 m, .int .i64 key, .int .i64 r] w fun e w' => e = .returned (.tuple #[.int .i64 (me.low m key r), .int .i64 (me.high m key r)]) ∧ Below w.heap.size w w' := by
  have HL := Lib.hid (fun w' => me.low_calls m key r w' h1 h3 ha hb ha2 hb2)
  have HH := Lib.hid (fun w' => me.high_calls m key r w' h1 h3 ha hb ha2 hb2)
  generalize me.low m key r = x at *
  generalize me.high m key r = y at *
  go_enter Try.func23, Try.ntmps23
  go_wp2_with fail
  refine (HL.out _).mono ?_
  rintro e w1 ⟨rfl, hb1⟩
  have HB1 := Lib.hid hb1
  clear hb1
  go_wp2_with fail
  refine (HH.out _).mono ?_
  rintro e w2 ⟨rfl, hb2⟩
  have HB2 := Lib.hid (HB1.out.trans (hb2.mono HB1.out.size))
  clear hb2
  go_wp2_with fail
  go_ret2
  exact ⟨rfl, HB2.out⟩
theorem worst_snoc {m : Int} {b : Bk} {L : VV} {k : Nat} {l : List Int} (h : L[k]? = some l) : worst m b (L.take (k + 1)) = max (worst m b (L.take k)) (res m b l) := by
  unfold worst
  rw [List.take_add_one, h, List.foldl_append]; rfl
theorem IsBk.of {w : World} {b : Bk} {A0 AW : Option Addr} {n0 c0 nW cW : Nat} (hi : wo.IsI w A0 n0 c0 b.cuts) (hW : IsW w AW nW cW b.W) (hd : I64 b.d) : IsBk w (.agg #[.int .i64 b.d, .slice A0 n0 c0, .slice AW nW cW]) b := ⟨_, _, _, _, _, _, rfl, hi, hW, hd⟩
set_option maxRecDepth 100000 in
set_option maxHeartbeats 4000000 in
theorem worst_calls (v : Value) (b : Bk) (m : Int) (A : Option Addr) (n c : Nat) (L : VV) (w : World) (h : IsBk w v b) (hR : Rt b) (hm1 : 1 ≤ m) (hm3 : m ≤ 3) (h2 : IsVV w A n c L) (hq : ∀ l ∈ L, vq.Vec l ∧ (l.length : Int) = b.d) :
    Calls Try.prog 34 #[v, .int .i64 m, .slice A n c] w fun e w' => e = .returned (.int .i64 (worst m b L)) ∧ Below w.heap.size w w' := by
  have hRC := fun w' hb A' n' c' l (hI : wo.IsI w' A' n' c' l) (hl : l ∈ L) => residual_calls v b m A' n' c' l w' (h.below hb) hR hm1 hm3 hI (hq l hl).1 (by rw [← hI.1]; exact (hq l hl).2)
  have HRM : Hid (∀ l ∈ L, 0 ≤ res m b l ∧ res m b l ≤ 134217728) := fun l hl => ⟨res_nonneg m b l, key_max (hq l hl).1 (dec_vec hR (enc_cok hR l)) (by have := dec_len hR (enc_cok (m := m) hR l); have := (hq l hl).2; omega)⟩
  obtain ⟨A0, n0, c0, AW, nW, cW, rfl, hi, hW, hd⟩ := h
  have hT0 := Three.new w (.int .i64 b.d) (.slice A0 n0 c0) (.slice AW nW cW)
  have hb0 := below_new w (.cells #[.int .i64 b.d, .slice A0 n0 c0, .slice AW nW cW] 25)
  have hm := h2.2.2.1
  have hnc := h2.2.1
  have HL := Lib.hid h2
  have HRC := Lib.hid hRC
  have HT := Lib.hid hT0
  have HB0 := Lib.hid hb0
  have HWE : Hid (worst m b (L.take n) = worst m b L) := by show _ = _; rw [List.take_of_length_le (by have := h2.1; omega)]
  clear hi hW hd hR h2 hq hRC
  go_enter Try.func34, Try.ntmps34
  go_wp2_with fail
  generalize w.alloc (.cells #[.int .i64 b.d, .slice A0 n0 c0, .slice AW nW cW] 25) = wE at *
  clear hT0 hb0
  go_loopg [7, 12] n (fun g u x wr => ∃ (k : Nat) (s : Int), k + g = n ∧ x = .int .i64 (k : Int) ∧ u = .int .i64 s ∧ s = worst m b (L.take k) ∧ 0 ≤ s ∧ s ≤ 134217728 ∧ Below wE.heap.size wE wr)
  case atStart => exact ⟨0, 0, by omega, rfl, rfl, rfl, by omega, by omega, Below.refl _ _⟩
  case round =>
    obtain ⟨k, s, hk, rfl, rfl, hs, hs0, hs1, hbel⟩ := hrel
    have HK := Lib.hid hk
    have HS := Lib.hid hs
    have HBEL := Lib.hid hbel
    have hkn : k ≤ n := by omega
    have hbw : Below w.heap.size w wr := HB0.out.trans (hbel.mono HB0.out.size)
    clear hk hs
    by_cases hlt : k < n
    · obtain ⟨b4, o4, A4, n4, c4, l4, rfl, hb4, hc4, hI4, hL4⟩ := isVV_get (isVV_below HL.out hbw) hlt
      have HC := Lib.hid (HRC.out wr hbw A4 n4 c4 l4 hI4 (List.mem_of_getElem? hL4))
      have HSN := Lib.hid (worst_snoc (m := m) (b := b) hL4)
      have hr := HRM.out l4 (List.mem_of_getElem? hL4)
      have hth := HT.out.below hbel
      have ht0 := hth.c0
      have ht1 := hth.c1
      have ht2 := hth.c2
      have hlt0 : (k : Int) < (n : Int) := by omega
      generalize res m b l4 = z at *
      obtain ⟨mx, hmx⟩ : ∃ y, max s z = y := ⟨_, rfl⟩
      have hmx2 : 0 ≤ mx ∧ mx ≤ 134217728 := by omega
      have HMX : Hid (worst m b (L.take (k + 1)) = mx) := by show _ = _; rw [HSN.out, ← HS.out, hmx]
      clear hI4 hL4 hbw hbel hth
      go_wp2_with fail
      refine HC.out.mono ?_
      rintro e w5 ⟨rfl, hb5⟩
      have HB5 := Lib.hid (HBEL.out.trans (hb5.mono HBEL.out.size))
      clear hb5
      go_wp2_with fail
      go_roundg (gk - 1)
      case measure => have := HK.out; omega
      case rel => exact ⟨k + 1, mx, by have := HK.out; omega, by go_num, rfl, HMX.out.symm, hmx2.1, hmx2.2, HB5.out⟩
    · obtain rfl : k = n := by omega
      have HB6 := Lib.hid (HB0.out.trans (hbel.mono HB0.out.size))
      have HE : Hid (s = worst m b L) := by show _ = _; rw [HS.out, HWE.out]
      clear hbw hbel
      go_wp2_with fail
      go_ret
      exact ⟨by rw [← HE.out]; rfl, HB6.out⟩
end Go.Proofs.Ytiodjepjbooniaa.uk
/- Sum. -/
namespace Go.Proofs.Ytiodjepjbooniaa.uk

open Go.ChangeShapes Go.WideShapes Go.ChangeAt Go.RowKit

open Go.Proofs.Ytiodjepjbooniaa.cq Go.Proofs.Ytiodjepjbooniaa.vk Go.Proofs.Ytiodjepjbooniaa.bk Go.Proofs.Ytiodjepjbooniaa.wk

set_option linter.unusedVariables false
def enV (k : Int) (v : Value) (b : Nat) : MapEntry := { key := .int .i64 k, val := v, born := b }
theorem zeroF1 (w : World) : (zeroValue 75).run Try.prog w = .ok .nilFunc w := by kernel_rfl
def addF (g : Nat) : Value := .func (.func 53) #[] #[.pointer (some ⟨g, 0, none⟩)]
def maxF (g : Nat) : Value := .func (.func 54) #[] #[.pointer (some ⟨g, 0, none⟩)]
theorem find3V (m : Int) (h1 : 1 ≤ m) (h3 : m ≤ 3) (v1 v2 v3 : Value) : Instr.findNow (.int .i64) (.int .i64 m) [enV 1 v1 0, enV 2 v2 1, enV 3 v3 2] 0 = some (if m = 1 then some (0, v1) else if m = 2 then some (1, v2) else some (2, v3)) := by
  rcases (by omega : m = 1 ∨ m = 2 ∨ m = 3) with rfl | rfl | rfl <;> simp [Instr.findNow, Instr.sameNow, enV]
set_option maxRecDepth 100000 in
theorem add_calls (m s x : Int) (g : Nat) (w : World) (h : One w g 3 (.int .i64 s)) (hm : m ≠ 3) (h0 : 0 ≤ s) (h1 : s ≤ 1099511627776) (h2 : 0 ≤ x) (h3 : x ≤ 1099511627776) :
    Calls Try.prog 53 #[.int .i64 x, .pointer (some ⟨g, 0, none⟩)] w fun e w' => (∃ v, e = .returned v) ∧ One w' g 3 (.int .i64 (put m s x)) ∧ Below g w w' := by
  have hc := h.cell
  have hf := h.frozen
  have HO := Lib.hid h
  have HP : Hid (put m s x = s + x) := by show _ = _; unfold put; rw [if_neg hm]
  clear h
  go_enter Try.func53, Try.ntmps53
  go_wp2_with fail
  go_end0
  exact ⟨⟨_, rfl⟩, by rw [HP.out]; exact HO.out.set _, (Below.refl _ _).setCell (p := ⟨g, 0, none⟩) (Nat.le_refl _) _⟩
set_option maxRecDepth 100000 in
theorem max_calls (s x : Int) (g : Nat) (w : World) (h : One w g 3 (.int .i64 s)) :
    Calls Try.prog 54 #[.int .i64 x, .pointer (some ⟨g, 0, none⟩)] w fun e w' => (∃ v, e = .returned v) ∧ One w' g 3 (.int .i64 (put 3 s x)) ∧ Below g w w' := by
  have hc := h.cell
  have hf := h.frozen
  have HO := Lib.hid h
  have HP : Hid (put 3 s x = max s x) := by show _ = _; unfold put; rw [if_pos rfl]
  clear h
  obtain ⟨mx, hmx⟩ : ∃ y, max s x = y := ⟨_, rfl⟩
  rw [hmx] at HP
  go_enter Try.func54, Try.ntmps54
  go_wp2_with fail
  go_end0
  exact ⟨⟨_, rfl⟩, by rw [HP.out]; exact HO.out.set _, (Below.refl _ _).setCell (p := ⟨g, 0, none⟩) (Nat.le_refl _) _⟩
def sumk (m : Int) (T : VV) (c : List Int) (k : Nat) : Int := ((List.zipWith take1 T c).take k).foldl (put m) 0
theorem sumk_snoc {m : Int} {T : VV} {c : List Int} {k : Nat} {r : List Int} {i : Int} (hr : T[k]? = some r) (hi : c[k]? = some i) : sumk m T c (k + 1) = put m (sumk m T c k) (take1 r i) := by
  unfold sumk
  have : (List.zipWith take1 T c)[k]? = some (take1 r i) := by rw [List.getElem?_zipWith, hr, hi]
  rw [List.take_add_one, this, List.foldl_append]; rfl
theorem put_bd {m s x : Int} {k : Nat} (h0 : 0 ≤ s) (h1 : s ≤ 134217728 * k) (h2 : 0 ≤ x) (h3 : x ≤ 134217728) : 0 ≤ put m s x ∧ put m s x ≤ 134217728 * (k + 1 : Nat) := by
  unfold put; split <;> omega
set_option maxRecDepth 100000 in
set_option maxHeartbeats 8000000 in
theorem sum_calls (m : Int) (A A2 : Option Addr) (n c c2 : Nat) (T : VV) (cl : List Int) (w : World) (hm1 : 1 ≤ m) (hm3 : m ≤ 3) (h : IsVV w A n c T) (h2 : wo.IsI w A2 n c2 cl) (hn : n ≤ 1000) (hok : ∀ (k : Nat) (r : List Int) (i : Int), T[k]? = some r → cl[k]? = some i → 0 ≤ i ∧ i < (r.length : Int) ∧ ∀ x ∈ r, 0 ≤ x ∧ x ≤ 134217728) :
    Calls Try.prog 27 #[.int .i64 m, .slice A n c, .slice A2 n c2] w fun e w' => e = .returned (.int .i64 (sumc m T cl)) ∧ Below w.heap.size w w' := by
  have hmm := @run_makeMap Try.prog
  have hmT := h.2.2.1
  have hncT := h.2.1
  have hmC := h2.2.2.1
  have hncC := h2.2.1
  have HT := Lib.hid h
  have HC := Lib.hid h2
  have HOK := Lib.hid hok
  clear h h2 hok
  go_enter Try.func27, Try.ntmps27
  have hn0 := heap_alloc_new (w.alloc (.cells #[.int .i64 0] 3)) (.map #[] 0)
  rw [size_new] at hn0
  have hb0 : Below (w.heap.size + 1) (w.alloc (.cells #[.int .i64 0] 3)) ((w.alloc (.cells #[.int .i64 0] 3)).alloc (.map #[] 0)) := by have := below_new (w.alloc (.cells #[.int .i64 0] 3)) (.map #[] 0); rw [size_new] at this; exact this
  have hO0 := One.new w 3 (.int .i64 0)
  go_wp2_with (refine ins_step rfl 77 (.tmp 15) (.const (.int .i64 1)) (.tmp 16) rfl (w.heap.size + 1) #[] 0 rfl 3 75 Try.underlying77 Try.underlying3 1 rfl hn0 rfl ?_)
  intro w1 hw1 _ hb1
  have hw1' : w1.heap[w.heap.size + 1]? = some (.map #[enV 1 (addF w.heap.size) 0] 1) := hw1
  clear hw1
  replace hb1 := hb0.trans (hb1 (w.heap.size + 1) (Nat.le_refl _))
  go_wp2_with (refine ins_step rfl 77 (.tmp 15) (.const (.int .i64 2)) (.tmp 17) rfl (w.heap.size + 1) #[enV 1 (addF w.heap.size) 0] 1 rfl 3 75 Try.underlying77 Try.underlying3 2 rfl hw1' rfl ?_)
  intro w2 hw2 _ hb2
  have hw2' : w2.heap[w.heap.size + 1]? = some (.map #[enV 1 (addF w.heap.size) 0, enV 2 (addF w.heap.size) 1] 2) := hw2
  clear hw2
  replace hb2 := hb1.trans (hb2 (w.heap.size + 1) (Nat.le_refl _))
  go_wp2_with (refine ins_step rfl 77 (.tmp 15) (.const (.int .i64 3)) (.tmp 18) rfl (w.heap.size + 1) #[enV 1 (addF w.heap.size) 0, enV 2 (addF w.heap.size) 1] 2 rfl 3 75 Try.underlying77 Try.underlying3 3 rfl hw2' rfl ?_)
  intro w3 hw3 _ hb3
  have hw3' : w3.heap[w.heap.size + 1]? = some (.map #[enV 1 (addF w.heap.size) 0, enV 2 (addF w.heap.size) 1, enV 3 (maxF w.heap.size) 2] 3) := hw3
  clear hw3
  replace hb3 := hb2.trans (hb3 (w.heap.size + 1) (Nat.le_refl _))
  have hb4 := hb3.mono (Nat.le_of_lt (Nat.lt_succ_self w.heap.size))
  have HO3 : Hid (One w3 w.heap.size 3 (.int .i64 0)) := hO0.at (hb3.block w.heap.size (by omega))
  have HB3 : Hid (Below w.heap.size w w3) := (below_new w _).trans hb4
  clear hb0 hb1 hb2 hb3 hb4 hn0 hw1' hw2' hmm hO0
  rcases (by omega : m = 1 ∨ m = 2 ∨ m = 3) with rfl | rfl | rfl
  · have hl := run_look (P := Try.prog) (w := w3) 77 (w.heap.size + 1) _ 3 3 75 Try.underlying77 Try.underlying3 1 hw3' .nilFunc (zeroF1 w3) _ (find3V 1 (by omega) (by omega) (addF w.heap.size) (addF w.heap.size) (maxF w.heap.size))
    simp only [Int.reduceEq, if_true, if_false, lookRes] at hl
    unfold addF at hl
    clear hw3'
    go_wp2_with (refine look_step rfl 77 (.tmp 19) (.tmp 20) rfl _ _ _ rfl rfl hl ?_)
    go_wp2_with fail
    clear hl
    generalize hG : w.heap.size = G at *
    have HG := Lib.hid hG
    clear hG
    go_loopg [31] n (fun g x wr => ∃ (k : Nat), k + g = n ∧ x = .int .i64 (k : Int) ∧ One wr G 3 (.int .i64 (sumk 1 T cl k)) ∧ 0 ≤ sumk 1 T cl k ∧ sumk 1 T cl k ≤ 134217728 * k ∧ Below G w wr)
    case atStart => exact ⟨0, by omega, rfl, HO3.out, by simp [sumk], by simp [sumk], HB3.out⟩
    case round =>
      obtain ⟨k, hk, rfl, hO, hs0, hs1, hbel⟩ := hrel
      have HK := Lib.hid hk
      have hkn : k ≤ n := by omega
      clear hk
      by_cases hlt : k < n
      · have hbw : Below w.heap.size w wr := by rw [HG.out]; exact hbel
        obtain ⟨b1, o1, A1, n1, c1, r1, rfl, hb1, hc1, hI1, hL1⟩ := isVV_get (isVV_below HT.out hbw) hlt
        obtain ⟨b2, o2, i2, rfl, hc2, hL2, -, -⟩ := isI_at (isI_below HC.out hbw) hlt
        have hok := HOK.out k r1 i2 hL1 hL2
        obtain ⟨i3, rfl⟩ := Int.eq_ofNat_of_zero_le hok.1
        have hi3 : i3 < n1 := by have := hI1.1; omega
        obtain ⟨b4, o4, x4, rfl, hc4, hx4, -, -⟩ := isI_at hI1 hi3
        have hxb := hok.2.2 x4 (List.mem_of_getElem? hx4)
        have hm1 := hI1.2.2.1
        have hnc1 := hI1.2.1
        have ht1 : take1 r1 (i3 : Int) = x4 := by unfold take1; rw [Int.toNat_natCast, List.getD_eq_getElem?_getD, hx4]; rfl
        have hsn := sumk_snoc (m := 1) hL1 hL2
        rw [ht1] at hsn
        have hpb := put_bd (m := 1) hs0 hs1 hxb.1 hxb.2
        rw [← hsn] at hpb
        have HPB := Lib.hid hpb
        generalize sumk 1 T cl k = s at *
        have HF := Lib.hid (add_calls 1 s x4 G wr hO (by omega) (by omega) (by omega) (by omega) (by omega))
        have HSN := Lib.hid hsn
        have HBEL := Lib.hid hbel
        have hlt0 : (k : Int) < (n : Int) := by omega
        have hlt1 : (i3 : Int) < (n1 : Int) := by omega
        clear hbw hbel hI1 hL1 hL2 hok hx4 hxb ht1 hsn hpb hO hb1
        go_wp2_with fail
        refine HF.out.mono ?_
        rintro e w5 ⟨⟨v5, rfl⟩, hO5, hb5⟩
        have HO5 := Lib.hid hO5
        have HB5 := Lib.hid (HBEL.out.trans hb5)
        clear hO5 hb5
        go_wp2_with fail
        go_roundg (gk - 1)
        case measure => have := HK.out; omega
        case rel => exact ⟨k + 1, by have := HK.out; omega, by go_num, by rw [HSN.out]; exact HO5.out, HPB.out.1, HPB.out.2, HB5.out⟩
      · obtain rfl : k = n := by omega
        have hc := hO.cell
        have HBEL := Lib.hid hbel
        have HE : Hid (sumk 1 T cl k = sumc 1 T cl) := by
          show _ = _
          unfold sumk sumc comb
          rw [List.take_of_length_le (by rw [List.length_zipWith]; have := HT.out.1; omega)]
        clear hO hbel
        go_wp2_with fail
        go_ret
        exact ⟨by rw [← HE.out]; rfl, by first | exact HBEL.out | (rw [HG.out]; exact HBEL.out)⟩
  · have hl := run_look (P := Try.prog) (w := w3) 77 (w.heap.size + 1) _ 3 3 75 Try.underlying77 Try.underlying3 2 hw3' .nilFunc (zeroF1 w3) _ (find3V 2 (by omega) (by omega) (addF w.heap.size) (addF w.heap.size) (maxF w.heap.size))
    simp only [Int.reduceEq, if_true, if_false, lookRes] at hl
    unfold addF at hl
    clear hw3'
    go_wp2_with (refine look_step rfl 77 (.tmp 19) (.tmp 20) rfl _ _ _ rfl rfl hl ?_)
    go_wp2_with fail
    clear hl
    generalize hG : w.heap.size = G at *
    have HG := Lib.hid hG
    clear hG
    go_loopg [31] n (fun g x wr => ∃ (k : Nat), k + g = n ∧ x = .int .i64 (k : Int) ∧ One wr G 3 (.int .i64 (sumk 2 T cl k)) ∧ 0 ≤ sumk 2 T cl k ∧ sumk 2 T cl k ≤ 134217728 * k ∧ Below G w wr)
    case atStart => exact ⟨0, by omega, rfl, HO3.out, by simp [sumk], by simp [sumk], HB3.out⟩
    case round =>
      obtain ⟨k, hk, rfl, hO, hs0, hs1, hbel⟩ := hrel
      have HK := Lib.hid hk
      have hkn : k ≤ n := by omega
      clear hk
      by_cases hlt : k < n
      · have hbw : Below w.heap.size w wr := by rw [HG.out]; exact hbel
        obtain ⟨b1, o1, A1, n1, c1, r1, rfl, hb1, hc1, hI1, hL1⟩ := isVV_get (isVV_below HT.out hbw) hlt
        obtain ⟨b2, o2, i2, rfl, hc2, hL2, -, -⟩ := isI_at (isI_below HC.out hbw) hlt
        have hok := HOK.out k r1 i2 hL1 hL2
        obtain ⟨i3, rfl⟩ := Int.eq_ofNat_of_zero_le hok.1
        have hi3 : i3 < n1 := by have := hI1.1; omega
        obtain ⟨b4, o4, x4, rfl, hc4, hx4, -, -⟩ := isI_at hI1 hi3
        have hxb := hok.2.2 x4 (List.mem_of_getElem? hx4)
        have hm1 := hI1.2.2.1
        have hnc1 := hI1.2.1
        have ht1 : take1 r1 (i3 : Int) = x4 := by unfold take1; rw [Int.toNat_natCast, List.getD_eq_getElem?_getD, hx4]; rfl
        have hsn := sumk_snoc (m := 2) hL1 hL2
        rw [ht1] at hsn
        have hpb := put_bd (m := 2) hs0 hs1 hxb.1 hxb.2
        rw [← hsn] at hpb
        have HPB := Lib.hid hpb
        generalize sumk 2 T cl k = s at *
        have HF := Lib.hid (add_calls 2 s x4 G wr hO (by omega) (by omega) (by omega) (by omega) (by omega))
        have HSN := Lib.hid hsn
        have HBEL := Lib.hid hbel
        have hlt0 : (k : Int) < (n : Int) := by omega
        have hlt1 : (i3 : Int) < (n1 : Int) := by omega
        clear hbw hbel hI1 hL1 hL2 hok hx4 hxb ht1 hsn hpb hO hb1
        go_wp2_with fail
        refine HF.out.mono ?_
        rintro e w5 ⟨⟨v5, rfl⟩, hO5, hb5⟩
        have HO5 := Lib.hid hO5
        have HB5 := Lib.hid (HBEL.out.trans hb5)
        clear hO5 hb5
        go_wp2_with fail
        go_roundg (gk - 1)
        case measure => have := HK.out; omega
        case rel => exact ⟨k + 1, by have := HK.out; omega, by go_num, by rw [HSN.out]; exact HO5.out, HPB.out.1, HPB.out.2, HB5.out⟩
      · obtain rfl : k = n := by omega
        have hc := hO.cell
        have HBEL := Lib.hid hbel
        have HE : Hid (sumk 2 T cl k = sumc 2 T cl) := by
          show _ = _
          unfold sumk sumc comb
          rw [List.take_of_length_le (by rw [List.length_zipWith]; have := HT.out.1; omega)]
        clear hO hbel
        go_wp2_with fail
        go_ret
        exact ⟨by rw [← HE.out]; rfl, by first | exact HBEL.out | (rw [HG.out]; exact HBEL.out)⟩
  · have hl := run_look (P := Try.prog) (w := w3) 77 (w.heap.size + 1) _ 3 3 75 Try.underlying77 Try.underlying3 3 hw3' .nilFunc (zeroF1 w3) _ (find3V 3 (by omega) (by omega) (addF w.heap.size) (addF w.heap.size) (maxF w.heap.size))
    simp only [Int.reduceEq, if_false, lookRes] at hl
    unfold maxF at hl
    clear hw3'
    go_wp2_with (refine look_step rfl 77 (.tmp 19) (.tmp 20) rfl _ _ _ rfl rfl hl ?_)
    go_wp2_with fail
    clear hl
    generalize hG : w.heap.size = G at *
    have HG := Lib.hid hG
    clear hG
    go_loopg [31] n (fun g x wr => ∃ (k : Nat), k + g = n ∧ x = .int .i64 (k : Int) ∧ One wr G 3 (.int .i64 (sumk 3 T cl k)) ∧ 0 ≤ sumk 3 T cl k ∧ sumk 3 T cl k ≤ 134217728 * k ∧ Below G w wr)
    case atStart => exact ⟨0, by omega, rfl, HO3.out, by simp [sumk], by simp [sumk], HB3.out⟩
    case round =>
      obtain ⟨k, hk, rfl, hO, hs0, hs1, hbel⟩ := hrel
      have HK := Lib.hid hk
      have hkn : k ≤ n := by omega
      clear hk
      by_cases hlt : k < n
      · have hbw : Below w.heap.size w wr := by rw [HG.out]; exact hbel
        obtain ⟨b1, o1, A1, n1, c1, r1, rfl, hb1, hc1, hI1, hL1⟩ := isVV_get (isVV_below HT.out hbw) hlt
        obtain ⟨b2, o2, i2, rfl, hc2, hL2, -, -⟩ := isI_at (isI_below HC.out hbw) hlt
        have hok := HOK.out k r1 i2 hL1 hL2
        obtain ⟨i3, rfl⟩ := Int.eq_ofNat_of_zero_le hok.1
        have hi3 : i3 < n1 := by have := hI1.1; omega
        obtain ⟨b4, o4, x4, rfl, hc4, hx4, -, -⟩ := isI_at hI1 hi3
        have hxb := hok.2.2 x4 (List.mem_of_getElem? hx4)
        have hm1 := hI1.2.2.1
        have hnc1 := hI1.2.1
        have ht1 : take1 r1 (i3 : Int) = x4 := by unfold take1; rw [Int.toNat_natCast, List.getD_eq_getElem?_getD, hx4]; rfl
        have hsn := sumk_snoc (m := 3) hL1 hL2
        rw [ht1] at hsn
        have hpb := put_bd (m := 3) hs0 hs1 hxb.1 hxb.2
        rw [← hsn] at hpb
        have HPB := Lib.hid hpb
        generalize sumk 3 T cl k = s at *
        have HF := Lib.hid (max_calls s x4 G wr hO)
        have HSN := Lib.hid hsn
        have HBEL := Lib.hid hbel
        have hlt0 : (k : Int) < (n : Int) := by omega
        have hlt1 : (i3 : Int) < (n1 : Int) := by omega
        clear hbw hbel hI1 hL1 hL2 hok hx4 hxb ht1 hsn hpb hO hb1
        go_wp2_with fail
        refine HF.out.mono ?_
        rintro e w5 ⟨⟨v5, rfl⟩, hO5, hb5⟩
        have HO5 := Lib.hid hO5
        have HB5 := Lib.hid (HBEL.out.trans hb5)
        clear hO5 hb5
        go_wp2_with fail
        go_roundg (gk - 1)
        case measure => have := HK.out; omega
        case rel => exact ⟨k + 1, by have := HK.out; omega, by go_num, by rw [HSN.out]; exact HO5.out, HPB.out.1, HPB.out.2, HB5.out⟩
      · obtain rfl : k = n := by omega
        have hc := hO.cell
        have HBEL := Lib.hid hbel
        have HE : Hid (sumk 3 T cl k = sumc 3 T cl) := by
          show _ = _
          unfold sumk sumc comb
          rw [List.take_of_length_le (by rw [List.length_zipWith]; have := HT.out.1; omega)]
        clear hO hbel
        go_wp2_with fail
        go_ret
        exact ⟨by rw [← HE.out]; rfl, by first | exact HBEL.out | (rw [HG.out]; exact HBEL.out)⟩
end Go.Proofs.Ytiodjepjbooniaa.uk
/- partOf; Repeat, Index, Max. -/
namespace Go.Proofs.Ytiodjepjbooniaa.uk

open Go.ChangeShapes Go.WideShapes Go.ChangeAt Go.RowKit

open Go.Proofs.Ytiodjepjbooniaa.cq Go.Proofs.Ytiodjepjbooniaa.vk Go.Proofs.Ytiodjepjbooniaa.bk Go.Proofs.Ytiodjepjbooniaa.wk

set_option linter.unusedVariables false
/-- a row of integers that is known whole -/
def RowK (w : World) (g : Nat) (l : List Int) : Prop := w.heap[g]? = some (.cells (iv l).toArray 3 (0, 0))
theorem RowK.lt {w : World} {g : Nat} {l : List Int} (h : RowK w g l) : g < w.heap.size := (Array.getElem?_eq_some_iff.1 h).1
theorem RowK.at {w w' : World} {g : Nat} {l : List Int} (h : RowK w g l) (e : w'.heap[g]? = w.heap[g]?) : RowK w' g l := e.trans h
theorem RowK.below {w w' : World} {g : Nat} {l : List Int} (h : RowK w g l) (hb : Below w.heap.size w w') : RowK w' g l := h.at (hb.block g h.lt)
theorem RowK.cell {w : World} {g i : Nat} {l : List Int} {x : Int} (h : RowK w g l) (hx : l[i]? = some x) : w.cell? ⟨g, i, none⟩ = some (.int .i64 x) := by
  rw [cell_of_row _ _ _ _ _ _ h]
  simp [iv, hx]
theorem RowK.frozen {w : World} {g i : Nat} {l : List Int} (h : RowK w g l) : w.frozen? ⟨g, i, none⟩ = false := frozen_of_row _ _ _ _ _ h
theorem RowK.isI {w : World} {g n c : Nat} {l : List Int} (h : RowK w g l) (hl : l.length = n) (hc : n ≤ c) (hm : c ≤ 9223372036854775807) (hb : ∀ x ∈ l, I64 x) : wo.IsI w (some ⟨g, 0, none⟩) n c l :=
  ⟨hl, hc, hm, fun _ => ⟨g, 0, rfl, h.lt, fun j u hu => by rw [cell_of_row _ _ _ _ _ _ h]; simpa using hu⟩, hb⟩
/-- it stands, whatever grows above B0 -/
def IsVs (B0 : Nat) (w : World) (u : Value) (x : List Int) : Prop := St B0 [39, 25] (fun w' => IsV w' u x) w
theorem isVV_st2 {B B0 : Nat} {es : List TypeId} {w : World} {v : Value} {L : VV} {vals : List Value} (h : RowE (IsVs B0) B es 22 w v L vals) (he : 22 ∉ [39, 25]) : ∃ A c, v = .slice A L.length c ∧ St B0 [39, 25] (fun w' => IsVV w' A L.length c L) w := by
  obtain ⟨A, c, rfl⟩ := own_slice h.own
  have hl := h.len
  refine ⟨A, c, rfl, fun w' k => ?_⟩
  have ho := own_st (B := B0) h.own he w' k
  rcases ho.2 with ⟨hv, hn0⟩ | ⟨g, cap, cur, hv, hb2, hh, h3, h4, h5, h6⟩
  · injection hv with e1 e2 e3
    subst e1 e3
    exact ⟨rfl, by omega, by omega, fun k l hk => by have := (List.getElem?_eq_some_iff.1 hk).1; omega⟩
  · injection hv with e1 e2 e3
    subst e1 e3
    refine ⟨rfl, h3, by unfold maxLen at h4; omega, fun k2 l hk => ?_⟩
    obtain ⟨u, hu, hs⟩ := h.at' k2 l hk
    obtain ⟨A', n', c', rfl, hI⟩ := hs.now w' k
    have hc := ho.cells rfl k2 _ hu
    rw [wk.add_at] at hc
    exact ⟨g, 0, A', n', c', rfl, (Array.getElem?_eq_some_iff.1 hh).1, hc, hI⟩
def SpanX (w : World) (g : Nat) (x y : Int) : Prop := w.heap[g]? = some (.cells #[.int .i64 x, .int .i64 y] 67 (0, 0))
theorem SpanX.lt {w : World} {g : Nat} {x y : Int} (h : SpanX w g x y) : g < w.heap.size := (Array.getElem?_eq_some_iff.1 h).1
theorem SpanX.below {w w' : World} {g : Nat} {x y : Int} (h : SpanX w g x y) (hb : Below w.heap.size w w') : SpanX w' g x y := (hb.block g h.lt).trans h
theorem SpanX.new (w : World) (x y : Int) : SpanX (w.alloc (.cells #[.int .i64 x, .int .i64 y] 67)) w.heap.size x y := heap_alloc_new w _
theorem SpanX.c0 {w : World} {g : Nat} {x y : Int} (h : SpanX w g x y) : w.cell? ⟨g, 0, none⟩ = some (.int .i64 x) := by rw [cell_of_row _ _ _ _ _ _ h]; rfl
theorem SpanX.c1 {w : World} {g : Nat} {x y : Int} (h : SpanX w g x y) : w.cell? ⟨g, 1, none⟩ = some (.int .i64 y) := by rw [cell_of_row _ _ _ _ _ _ h]; rfl
theorem RowK.set {w : World} {g i : Nat} {l : List Int} (h : RowK w g l) (x : Int) : RowK (w.setCell ⟨g, i, none⟩ (.int .i64 x)) g (l.set i x) := by
  have h1 := heap_setCell_same w g i (iv l).toArray 3 (.int .i64 x) h
  unfold RowK
  rw [h1]
  simp [iv]
set_option maxRecDepth 100000 in
set_option maxHeartbeats 4000000 in
theorem partOf_calls (A : Option Addr) (n c d : Nat) (L : VV) (x y : Int) (w0 w : World) (h : IsVV w0 A n c L) (h00 : Below w0.heap.size w0 w) (hn : n ≤ 4096) (h0 : 0 ≤ x) (h1 : x < y) (h2 : y ≤ d) (hd : ∀ l ∈ L, l.length = d) :
    Calls Try.prog 59 #[.slice A n c, rng x y] w fun e w' => ∃ A' c', e = .returned (.slice A' n c') ∧ St w0.heap.size [39, 25] (fun w2 => IsVV w2 A' n c' (L.map fun v => pt v (x, y))) w' ∧ Below w.heap.size w w' := by
  obtain ⟨i0, hi9, hz0, hz1, hz2⟩ := info_parts infoVz
  have hm := h.2.2.1
  have hnc := h.2.1
  unfold rng
  have hb0 := below_new w (.cells #[.int .i64 x, .int .i64 y] 67)
  have hT0 := SpanX.new w x y
  have HL := Lib.hid h
  have HD := Lib.hid hd
  have HLN := Lib.hid h.1
  clear h hd
  generalize hG : w.heap.size = G at *
  have HG := Lib.hid hG
  clear hG
  have hnI : (i0.bytes : Nat) * n ≤ 281474976710656 := by rw [hz2]; omega
  obtain ⟨w1, hmk, hown, hgr⟩ := run_make_own (P := Try.prog) (w.alloc (.cells #[.int .i64 x, .int .i64 y] 67)) G 39 22 i0 (.slice none 0 0) 1 Try.underlying39 hi9 hz0 hz1 .i64 .i64 n hnI (by unfold maxLen; omega) (by rw [size_new, HG.out]; omega)
  have hb1 : Below (w.alloc (.cells #[.int .i64 x, .int .i64 y] 67)).heap.size (w.alloc (.cells #[.int .i64 x, .int .i64 y] 67)) w1 := (Below.refl _ _).grown hgr (Nat.le_refl _) (fun k hk => by cases hk)
  have HB1 : Hid (Below G w w1) := hb0.trans (hb1.mono (by rw [size_new, HG.out]; omega))
  have HT1 := Lib.hid (hT0.below hb1)
  rw [size_new] at hown
  have HOWN := Lib.hid hown
  clear hown hgr hb1 hT0 hb0
  go_enter Try.func59, Try.ntmps59
  go_wp2_with fail
  go_loopg [5, 13] n (fun g u z wr => ∃ (k : Nat) (v0 : Value) (vals : List Value), k + g = n ∧ v0 = u ∧ z = .int .i64 (k : Int) ∧ RowE (IsVs w0.heap.size) G [22, 39, 25] 22 wr v0 ((L.map fun v => pt v (x, y)).take k) vals ∧ Below G w wr ∧ SpanX wr G x y)
  case atStart => exact ⟨0, _, [], by omega, rfl, rfl, RowE.start HOWN.out, HB1.out, HT1.out⟩
  case round =>
    obtain ⟨k, v0, vals, hk, rfl, rfl, hrow, hbel, htw⟩ := hrel
    have HK := Lib.hid hk
    have HROW := Lib.hid hrow
    have HBEL := Lib.hid hbel
    have HTW := Lib.hid htw
    have hkn : k ≤ n := by omega
    have HCL : Hid ((L.map fun v => pt v (x, y)).length = n) := by show _ = _; rw [List.length_map, HLN.out]
    clear hk hrow
    by_cases hlt : k < n
    · have hbw : Below w0.heap.size w0 wr := h00.trans (hbel.mono (by have := h00.size; have := HG.out; omega))
      have hBw : G ≤ wr.heap.size := by have := hbel.size; have := HG.out; omega
      obtain ⟨b4, o4, A4, n4, c4, l4, rfl, hb4, hc4, hI4, hL4⟩ := isVV_get (isVV_below HL.out hbw) hlt
      obtain ⟨b5, o5, A5, n5, c5, l5, e5, hb5, hc5, hI5, hL5⟩ := isVV_get HL.out hlt
      cases e5
      rw [hL4] at hL5
      injection hL5 with hL5
      subst hL5
      have hce := hbw.cell (p := ⟨b4, o4 + k, none⟩) hb5
      rw [hc4, hc5] at hce
      injection hce with hce
      injection hce with e1 e2 e3
      subst e1 e2 e3
      have hd4 := HD.out l4 (List.mem_of_getElem? hL4)
      have hn4 : n4 = d := by rw [← hI5.1]; exact hd4
      subst hn4
      obtain ⟨A6, c6, hsl, hpart⟩ := run_part hI5 h0 h1 (by omega)
      have HST : Hid (St G [22, 39, 25] (fun w' => IsVs w0.heap.size w' (.slice A6 (y - x).toNat c6) (pt l4 (x, y))) wr) := fun w' k w2 k2 => ⟨A6, _, c6, rfl, hpart w2 ((hbw.trans (k.below.mono (by have := h00.size; have := HG.out; omega))).trans k2.below)⟩
      have HTAKE : Hid ((L.map fun v => pt v (x, y)).take (k + 1) = (L.map fun v => pt v (x, y)).take k ++ [pt l4 (x, y)]) := by
        show _ = _
        rw [List.take_add_one, List.getElem?_map, hL4]; rfl
      have hrl : ((L.map fun v => pt v (x, y)).take k).length = k := by rw [List.length_take, HCL.out]; omega
      have HOWN2 : Hid (wr.ownsRow G 22 1 v0 k vals) := by have := HROW.out.own; rw [hrl] at this; exact this
      have HRL := Lib.hid hrl
      have HBW : Hid (G ≤ wr.heap.size) := hBw
      have hlt0 : (k : Int) < (n : Int) := by omega
      have ht0 := htw.c0
      have ht1 := htw.c1
      rw [← HG.out] at ht0 ht1
      have HG3 := Lib.hid htw.lt
      clear hbel hbw hI4 hI5 hL4 hpart hrl hBw hd4 hc5
      go_wp2_with (at_builtin; refine wpList_append_own _ rfl _ _ 39 rfl G 22 i0 (.slice none 0 0) 1 24 Try.underlying39 hi9 hz0 hz1 hz2 rfl (by decide) _ _ _ rfl (HOWN2.out.alloc _) ⟨wr.heap.size, 0, none⟩ 1 1 [.slice A6 (y - x).toNat c6] rfl rfl ?c1 ?c2 ?c3 ?c4 ?c5 ?_)
      case c1 => exact cell_one_new _ _ _
      case c2 => simp [Value.oneCell']
      case c3 => unfold maxLen; omega
      case c4 => omega
      case c5 => have := HBW.out; simp; omega
      intro v' w5 hown2 hgrow _
      have hB5 : Below G w w5 := (HBEL.out.alloc HBW.out _).grown hgrow (by have := HBW.out; simp; omega) (fun q hq => (HOWN2.out.lt q hq).1)
      have HB5 := Lib.hid hB5
      have HR5 := Lib.hid (HROW.out.push (by simp) HST.out HBW.out _ hgrow (by rw [HRL.out]; exact hown2))
      have HT5 : Hid (SpanX w5 G x y) := by
        have hk5 : Kp G [22, 39, 25] wr w5 := (Kp.of_below (below_new wr _) HBW.out).trans (Kp.of_grown (keptB HOWN2.out (below_new wr _)) (by simp) (Nat.le_refl _) (by rw [size_new]; have := HBW.out; omega) hgrow)
        exact hk5.high _ _ _ _ HTW.out (by decide)
      clear hown2 hgrow hB5
      go_wp2_with fail
      go_roundg (gk - 1)
      case measure => have := HK.out; omega
      case rel => exact ⟨k + 1, _, _, by have := HK.out; omega, rfl, by go_num, by rw [HTAKE.out]; exact HR5.out, HB5.out, HT5.out⟩
    · obtain rfl : k = n := by omega
      have hrow := HROW.out
      rw [List.take_of_length_le (by have := HCL.out; omega)] at hrow
      obtain ⟨A9, c9, rfl, hVV⟩ := isVV_st2 hrow (by decide)
      rw [HCL.out] at hVV ⊢
      have HVV := Lib.hid hVV
      clear hrow hVV hbel htw
      go_wp2_with fail
      go_ret
      exact ⟨_, _, rfl, HVV.out, HBEL.out⟩
end Go.Proofs.Ytiodjepjbooniaa.uk
/- As Val3, for a region whose tail writes a slot that its first operations read. No program here. -/
namespace Go.Proofs.Ytiodjepjbooniaa.wk

open Go.RowKit

set_option linter.unusedVariables false

section

variable {P : Program} {ops : Array Oper} {Q : Exit → Act → World → Prop} {md : Region.Mode}
theorem linv_step2K {a0 : Act} {k : Nat} (R : (Nat → Bool) → Nat → World → Value → Prop) (hap : apart ops a0.tmps.size = true) (hg : noGuard ops k = true) {L : Nat → Bool} {a : Act} {w : World} {i : Nat} {o : Oper} (hik : i < k) (hI : LInv ops R a0 L a w) (ho : ops[i]? = some o) (hdep : ∀ e ∈ o.after, Region.binds .any e = true → L e.on = true) (hno : ∀ j, k ≤ j → L j = false)
    {S : World → Prop} (hstep : ∀ E, DueG ops (R L) a0 o E w → (∀ s, unwK ops k s = true → E (.tmp s) = a0.eval (.tmp s)) → DoesT P Q o E w fun w' v => R (fun j => if j = i then true else L j) i w' v ∧ (∀ j u, L j = true → (∀ d, dstOf ops j = some d → E (.tmp d) = u) → R L j w u → R (fun j => if j = i then true else L j) j w' u) ∧ S w') :
    wpOp P ops Q i (fun a' w' => LInv ops R a0 (fun j => if j = i then true else L j) a' w' ∧ S w') a w := by
  have hio : i < ops.size := (Array.getElem?_eq_some_iff.1 ho).1
  have hdv : ∀ e ∈ o.after, Region.binds .any e = true → ∃ v, R L e.on w v ∧ ∀ d, dstOf ops e.on = some d → a.tmps[d]? = some v := fun e he hb => hI.vals e.on (hdep e he hb)
  have hgn : o.guard = none := by
    have h1 := List.all_eq_true.1 hg i (List.mem_range.2 hik)
    simp only [ho, Option.isNone_iff_eq_none] at h1
    exact h1
  refine wpOp_step ho fun K' hK => ?_
  rw [if_pos (by simp [Region.wanted, hgn])]
  refine hstep a.eval ⟨fun _ => rfl, fun _ => rfl, fun k hk => ?_, fun e he hb => ?_⟩ (fun s hs2 => ?_) a K' rfl fun v w' hRT => ?_
  · show a.tmps.getD k undef = a0.tmps.getD k undef
    rw [Array.getD_eq_getD_getElem?, Array.getD_eq_getD_getElem?, hI.rest k fun j hj h => ?_]
    have := List.all_eq_true.1 hk j (List.mem_range.2 (dst_lt h))
    rw [h] at this
    simp at this
  · obtain ⟨v, hv, hd⟩ := hdv e he hb
    exact ⟨v, hv, fun d hdd => getD_of (hd d hdd)⟩
  · show a.tmps.getD s undef = a0.tmps.getD s undef
    rw [Array.getD_eq_getD_getElem?, Array.getD_eq_getD_getElem?, hI.rest s fun j hj h => ?_]
    have hjk : j < k := by
      rcases Nat.lt_or_ge j k with h1 | h1
      · exact h1
      · rw [hno j h1] at hj; cases hj
    have := List.all_eq_true.1 hs2 j (List.mem_range.2 hjk)
    rw [h] at this
    simp at this
  · obtain ⟨hv, hT, hS⟩ := hRT
    have hdo : dstOf ops i = o.dst := by unfold dstOf; rw [ho]; rfl
    refine hK _ _ ⟨⟨?_, ?_, fun j hj => ?_, fun k hk => ?_⟩, hS⟩
    · cases hd : o.dst <;> exact hI.defers
    · cases hd : o.dst <;> simp only [Act.put, Array.size_setIfInBounds] <;> exact hI.size
    · by_cases hji : j = i
      · subst hji
        refine ⟨v, hv, fun d hd => ?_⟩
        rw [hdo] at hd
        have hlt := apart_lt hap hio (by rw [hdo]; exact hd)
        rw [hd]
        show (a.tmps.setIfInBounds d _)[d]? = some _
        rw [Array.getElem?_setIfInBounds, if_pos rfl, if_pos (by rw [hI.size]; exact hlt)]
      · rw [if_neg hji] at hj
        obtain ⟨u, hu, hud⟩ := hI.vals j hj
        refine ⟨u, hT j u hj (fun d hd => getD_of (hud d hd)) hu, fun d hd => ?_⟩
        cases hod : o.dst with
        | none => exact hud d hd
        | some d' =>
          have hne : d' ≠ d := fun e => hji (apart_ne hap (dst_lt hd) hio hd (by rw [hdo, hod, e]))
          show (a.tmps.setIfInBounds d' _)[d]? = _
          rw [Array.getElem?_setIfInBounds, if_neg hne]
          exact hud d hd
    · have hk' : ∀ j, L j = true → dstOf ops j ≠ some k := fun j hj => hk j (by by_cases h : j = i <;> simp [h, hj])
      have hki : o.dst ≠ some k := by rw [← hdo]; exact hk i (by simp)
      cases hod : o.dst with
      | none => exact hI.rest k hk'
      | some d' =>
        have hne : d' ≠ k := fun e => hki (by rw [hod, e])
        show (a.tmps.setIfInBounds d' _)[k]? = _
        rw [Array.getElem?_setIfInBounds, if_neg hne]
        exact hI.rest k hk'
/-- .. where what is said of the values rests on what has been done -/
theorem region_lev2K {id : Nat} {a0 : Act} {w0 : World} (k : Nat) (R : (Nat → Bool) → Nat → World → Value → Prop) (ds : List (Option Tmp)) (S : (Nat → Bool) → World → Prop) (h0 : S (fun _ => false) w0.drew) (hm : P.follows .mixedOrders = true) (hord : orderedB .any ops = true) (hap : apart ops a0.tmps.size = true) (hg : noGuard ops k = true) (hds : (List.range k).map (dstOf ops) = ds) (htl : tailed ops k = true)
    (hstep : ∀ i o, ops[i]? = some o → i < k → ∀ E L w, S L w → L i = false → (∀ e ∈ o.after, Region.binds .any e = true → L e.on = true) → DueG ops (R L) a0 o E w → (∀ s, unwK ops k s = true → E (.tmp s) = a0.eval (.tmp s)) → DoesT P Q o E w (fun w' v => R (fun j => if j = i then true else L j) i w' v ∧ (∀ j u, L j = true → (∀ d, dstOf ops j = some d → E (.tmp d) = u) → R L j w u → R (fun j => if j = i then true else L j) j w' u) ∧ S (fun j => if j = i then true else L j) w'))
    (hdone : ∀ (vals : Nat → Value) L w, (∀ j, j < k → L j = true) → S L w → (∀ i, i < k → R L i w (vals i)) → wpList P ops Q (ops.toList.drop k) { a0 with tmps := setL ds vals 0 a0.tmps } w) : (Code.region id ops true).wp P Q a0 w0 := by
  unfold tailed at htl
  simp only [Bool.and_eq_true, decide_eq_true_eq] at htl
  obtain ⟨⟨hkn, hcov⟩, hch⟩ := htl
  have hchain : ∀ i, k ≤ i → i + 1 < ops.size → waitsFor ops (i + 1) i = true := fun i h1 h2 => by
    have := List.all_eq_true.1 hch i (List.mem_range.2 (by omega))
    simp only [Bool.or_eq_true, decide_eq_true_eq] at this
    rcases this with (h | h) | h
    · omega
    · omega
    · exact h
  have hcover : ∀ j, j < k → k < ops.size → ∃ i, j < i ∧ i ≤ k ∧ waitsFor ops i j = true := fun j h1 h2 => by
    have := List.all_eq_true.1 hcov j (List.mem_range.2 h1)
    simp only [Bool.or_eq_true, beq_iff_eq] at this
    rcases this with h | h
    · omega
    · obtain ⟨i, hi, h⟩ := List.any_eq_true.1 h
      simp only [Bool.and_eq_true, decide_eq_true_eq] at h
      exact ⟨i, h.1, by have := List.mem_range.1 hi; omega, h.2⟩
  have hfin : ∀ L a w, LInv ops R a0 L a w → S L w → (∀ j, j < k → L j = true) → (∀ j, k ≤ j → L j = false) → wpList P ops Q (ops.toList.drop k) a w := fun L a w hI hw hall hno => by
    have hv : ∀ i, ∃ v, i < k → R L i w v ∧ ∀ d, dstOf ops i = some d → a.tmps[d]? = some v := fun i => by
      by_cases hi : i < k
      · obtain ⟨v, h⟩ := hI.vals i (hall i hi); exact ⟨v, fun _ => h⟩
      · exact ⟨undef, fun h => absurd h hi⟩
    obtain ⟨vals, hvals⟩ := Classical.axiomOfChoice hv
    have ha : a = { a0 with tmps := setAll ops vals k a0.tmps } := by
      obtain ⟨tm, df⟩ := a
      have h1 : df = a0.defers := hI.defers
      have h2 : tm = setAll ops vals k a0.tmps := by
        refine Array.ext_getElem? fun s => ?_
        have hset := setAll_get vals hap s k a0.tmps hkn rfl
        by_cases hk : ∃ i, i < k ∧ dstOf ops i = some s
        · obtain ⟨i, hik, hi⟩ := hk
          rw [hset.2 i hik hi]
          exact (hvals i hik).2 s hi
        · rw [hset.1 fun i hi h => hk ⟨i, hi, h⟩]
          refine hI.rest s fun i hi h => ?_
          rcases Nat.lt_or_ge i k with hl | hl
          · exact hk ⟨i, hl, h⟩
          · rw [hno i hl] at hi; cases hi
      rw [h1, h2]
    rw [ha, setAll_eq, hds]
    exact hdone vals L w hall hw fun i hi => (hvals i hi).1
  refine region_invB (fun a0' B L a w => (LInv ops R a0 L a w ∧ S L w ∧ (∀ i, k ≤ i → L i = false) ∧ Closed ops L) ∨ ∃ m, k ≤ m ∧ m ≤ ops.size ∧ (∀ i, L i = decide (i < m)) ∧ wpList P ops Q (ops.toList.drop m) a w) hm hord
    (Or.inl ⟨⟨rfl, rfl, fun i h => (Bool.noConfusion h), fun k _ => rfl⟩, h0, fun _ _ => rfl, fun i o _ h => (Bool.noConfusion h)⟩) ?_ ?_
  · intro L a w hI i o ho hLi hdep
    have hio : i < ops.size := (Array.getElem?_eq_some_iff.1 ho).1
    rcases hI with ⟨hI, hSw, hno, hcl⟩ | ⟨m, hm1, hm2, hL, hwp⟩
    · by_cases hik : i < k
      · refine wpOp_mono (fun a' w' h => Or.inl ?_) (linv_step2K R hap hg hik hI ho hdep hno (S := S (fun j => if j = i then true else L j)) fun E hE hO => hstep i o ho hik E L w hSw hLi hdep hE hO)
        refine ⟨h.1, h.2, fun j hj => ?_, fun j o' ho' hj e he hb => ?_⟩
        · have hji : j ≠ i := by omega
          simp only [hji, if_false]
          exact hno j hj
        · by_cases hji : j = i
          · subst hji
            rw [ho] at ho'; cases ho'
            by_cases h2 : e.on = j
            · simp [h2]
            · simp only [h2, if_false]; exact hdep e he hb
          · simp only [hji, if_false] at hj
            by_cases h2 : e.on = i
            · simp [h2]
            · simp only [h2, if_false]; exact hcl j o' ho' hj e he hb
      · have hik' : i = k := by
          rcases Nat.lt_or_ge k i with h | h
          · have := waits_done (L := L) (hchain (i - 1) (by omega) (by omega)) (by rw [show i - 1 + 1 = i by omega]; exact ho) hdep
            rw [hno (i - 1) (by omega)] at this; cases this
          · omega
        subst hik'
        have hall : ∀ d j, i - j ≤ d → j < i → L j = true := by
          intro d
          induction d with
          | zero => intro j h1 h2; omega
          | succ d ih =>
            intro j h1 h2
            obtain ⟨q, hq1, hq2, hq3⟩ := hcover j h2 hio
            by_cases hqi : q = i
            · subst hqi; exact waits_done hq3 ho hdep
            · have hq : L q = true := ih q (by omega) (by omega)
              have hqo : ops[q]? = some ops[q] := Array.getElem?_eq_getElem (by omega)
              exact waits_done hq3 hqo (hcl q _ hqo hq)
        refine wpOp_mono (fun a' w' h => Or.inr ⟨i + 1, by omega, by omega, fun j => ?_, h⟩) (wpList_to_op ho (hfin L a w hI hSw (fun j hj => hall _ j (Nat.le_refl _) hj) hno))
        by_cases hji : j = i
        · subst hji; simp
        · simp only [hji, if_false]
          rcases Nat.lt_or_ge j i with h1 | h1
          · rw [hall _ j (Nat.le_refl _) h1]; simp; omega
          · rw [hno j h1]; simp; omega
    · have him : i = m := by
        have h1 : ¬ i < m := fun h => by rw [hL i] at hLi; simp [h] at hLi
        rcases Nat.lt_or_ge m i with h | h
        · have := waits_done (L := L) (hchain (i - 1) (by omega) (by omega)) (by rw [show i - 1 + 1 = i by omega]; exact ho) hdep
          rw [hL (i - 1)] at this
          simp at this; omega
        · omega
      subst him
      refine wpOp_mono (fun a' w' h => Or.inr ⟨i + 1, by omega, by omega, fun j => ?_, h⟩) (wpList_to_op ho hwp)
      by_cases hji : j = i
      · subst hji; simp
      · simp only [hji, if_false]
        rw [hL j]
        rcases Nat.lt_or_ge j i with h1 | h1
        · simp [h1]; omega
        · simp; omega
  · intro L a w hall hI
    rcases hI with ⟨hI, hSw, hno, hcl⟩ | ⟨m, hm1, hm2, hL, hwp⟩
    · have hk : k = ops.size := by
        rcases Nat.lt_or_ge k ops.size with h | h
        · have := hall k h; rw [hno k (Nat.le_refl _)] at this; cases this
        · omega
      have := hfin L a w hI hSw (fun j hj => hall j (by omega)) hno
      rw [hk, ← Array.length_toList, List.drop_length] at this
      exact this
    · have hk : m = ops.size := by
        rcases Nat.lt_or_ge m ops.size with h | h
        · have := hall m h; rw [hL m] at this; simp at this
        · omega
      rw [hk, ← Array.length_toList, List.drop_length] at hwp
      exact hwp
end

end Go.Proofs.Ytiodjepjbooniaa.wk
/- Repeat, Index, Max. -/
namespace Go.Proofs.Ytiodjepjbooniaa.uk

open Go.ChangeShapes Go.WideShapes Go.ChangeAt Go.RowKit

open Go.Proofs.Ytiodjepjbooniaa.cq Go.Proofs.Ytiodjepjbooniaa.vk Go.Proofs.Ytiodjepjbooniaa.bk Go.Proofs.Ytiodjepjbooniaa.wk

set_option linter.unusedVariables false

namespace M64
theorem maskN (a : Nat) (ha : a < 18446744073709551616) : bits .and .u64 (a : Int) 4294967295 = ((a % 4294967296 : Nat) : Int) := by
  have h := bits_and_u64_nat a 4294967295 ha (by omega)
  have e : a &&& 4294967295 = a % 4294967296 := Nat.and_two_pow_sub_one_eq_mod a 32
  rw [e] at h
  exact h
theorem divN (a : Nat) : (a : Int) / 4294967296 = ((a / 4294967296 : Nat) : Int) := by omega
theorem mulN (a b : Nat) : (a : Int) * (b : Int) = ((a * b : Nat) : Int) := (Int.natCast_mul a b).symm
theorem addN (a b : Nat) : (a : Int) + (b : Int) = ((a + b : Nat) : Int) := (Int.natCast_add a b).symm
theorem wrapN (a : Nat) (ha : a < 18446744073709551616) : IntKind.u64.wrap (a : Int) = (a : Int) := by rw [IntKind.wrap_u64]; omega
theorem wrapM (a : Nat) : IntKind.u64.wrap (a : Int) = ((a % 18446744073709551616 : Nat) : Int) := by rw [IntKind.wrap_u64]; omega
end M64
set_option maxHeartbeats 1000000 in
theorem mul64_calls (x y : Nat) (hx : x < 18446744073709551616) (hy : y < 18446744073709551616) (w : World) :
    Calls Try.prog 97 #[.int .u64 x, .int .u64 y] w fun e w' => e = .returned (.tuple #[.int .u64 ((x * y / 18446744073709551616 : Nat) : Int), .int .u64 ((x * y % 18446744073709551616 : Nat) : Int)]) ∧ w' = w := by
  obtain ⟨bd, bt, bw, hhi⟩ := Lib.mul64_hi x y hx hy
  have ba := Lib.half_mul_le (a := x / 4294967296) (b := y / 4294967296) (by omega) (by omega)
  have bb := Lib.half_mul_le (a := x / 4294967296) (b := y % 4294967296) (by omega) (by omega)
  have bc := Lib.half_mul_le (a := x % 4294967296) (b := y / 4294967296) (by omega) (by omega)
  have ba' : x / 4294967296 * (y / 4294967296) < 18446744073709551616 := by omega
  have bb' : x / 4294967296 * (y % 4294967296) < 18446744073709551616 := by omega
  have bc' : x % 4294967296 * (y / 4294967296) < 18446744073709551616 := by omega
  have bh1 : x / 4294967296 * (y / 4294967296) + (x / 4294967296 * (y % 4294967296) + x % 4294967296 * (y % 4294967296) / 4294967296) / 4294967296 < 18446744073709551616 := by omega
  have bh : x / 4294967296 * (y / 4294967296) + (x / 4294967296 * (y % 4294967296) + x % 4294967296 * (y % 4294967296) / 4294967296) / 4294967296 + ((x / 4294967296 * (y % 4294967296) + x % 4294967296 * (y % 4294967296) / 4294967296) % 4294967296 + x % 4294967296 * (y / 4294967296)) / 4294967296 < 18446744073709551616 := by omega
  go_enter Try.func97, Try.ntmps97
  go_wp2
  simp only [M64.maskN x hx, M64.maskN y hy, M64.divN, M64.mulN, M64.addN, M64.wrapN _ bd, M64.wrapN _ bb', M64.wrapN _ bt, M64.maskN _ bt, M64.wrapN _ bc', M64.wrapN _ bw, M64.wrapN _ ba', M64.wrapN _ bh1, M64.wrapN _ bh, M64.wrapM (x * y)]
  rw [hhi]
  go_ret2
  exact ⟨rfl, rfl⟩
theorem mul_calls (n : Nat) (hn : n ≤ 4096) (w : World) :
    Calls Try.prog 94 #[.int .u64 1, .int .u64 n] w fun e w' => e = .returned (.tuple #[.int .u64 0, .int .u64 n]) ∧ w' = w := by
  have h := mul64_calls 1 n (by omega) (by omega)
  rw [show 1 * n / 18446744073709551616 = 0 by omega, show 1 * n % 18446744073709551616 = n by omega] at h
  have H := Lib.hid h
  clear h
  go_enter Try.func94, Try.ntmps94
  go_wp2_with fail
  refine (H.out _).mono ?_
  rintro e w' ⟨rfl, rfl⟩
  go_wp2_with fail
  go_ret2
  exact ⟨rfl, rfl⟩
theorem made_int (n : Nat) : madeCells (Value.int .i64 0).cells n = (List.replicate n (Value.int .i64 0)).toArray := by
  unfold madeCells
  refine Array.ext_getElem? fun i => ?_
  rw [Array.getElem?_map, Array.getElem?_range]
  simp only [List.getElem?_toArray, List.getElem?_replicate]
  split
  · simp [Value.cells, Nat.mod_one]
  · rfl
section

variable {P : Program} {Q : Exit → Act → World → Prop}
theorem does_copy_t {o : Oper} {E : Operand → Value} {w : World} {R : World → Value → Prop} (d s : Operand) (dT sT : TypeId) (ho : o.op = .call { callee := .builtin .copy, args := #[d, s], argTypes := #[dT, sT] }) (elem : TypeId) (hu : P.underlying dT = some (.slice elem)) (hsz : (P.info? elem).map (·.size) = some 1)
    (g off dLen dCap : Nat) (ad : Addr) (sLen sCap : Nat) (hd : E d = .slice (some ⟨g, off, none⟩) dLen dCap) (hs : E s = .slice (some ad) sLen sCap) (cur : List Value) (t : TypeId) (hg : w.heap[g]? = some (.cells cur.toArray t (0, 0))) (cs : List Value) (hn : cs.length = Nat.min sLen dLen)
    (hsrc : ∀ j v, cs[j]? = some v → w.cell? (ad.add j) = some v) (hfit : off + cs.length ≤ cur.length) (h1 : ∀ v ∈ cs, v.oneCell' = true) (hR : R (w.setRow g (splice cur off cs).toArray) (goInt cs.length)) : DoesT P Q o E w R := by
  have hrun := run_copy_row (P := P) w dT sT o.type elem g off dLen dCap ad sLen sCap cur.toArray t cs hu hsz hg hn hsrc (by simpa using hfit) h1
  refine does_new_t (v := goInt cs.length) (w' := w.setRow g (splice cur off cs).toArray) ?_ hR
  unfold execOp
  simp only [ho, resolve, invoke, builtin, Sem.run_bind, Sem.run_pure, Result.andThen_ok, List.map_toArray, List.map_cons, List.map_nil, hd, hs, hrun]
  simp [splice]
end
def half (n p : Nat) (x : Int) : List Int := List.replicate p x ++ List.replicate (n - p) 0
theorem half_len {n p : Nat} {x : Int} (h : p ≤ n) : (half n p x).length = n := by simp [half]; omega
theorem half_end {n : Nat} {x : Int} : half n n x = List.replicate n x := by simp [half]
theorem half_splice {n p k : Nat} {x : Int} (h : p + k ≤ n) : splice (iv (half n p x)) p (iv (List.replicate k x)) = iv (half n (p + k) x) := by
  unfold splice half iv
  simp only [List.map_append, List.map_replicate, List.length_replicate]
  rw [List.take_append_of_le_length (by simp), List.take_of_length_le (by simp), List.drop_append, List.drop_of_length_le (by simp), List.nil_append, List.drop_replicate]
  rw [← List.append_assoc, List.replicate_append_replicate]
  congr 2
  simp
  omega
theorem infoI1 : (Try.prog.info? 3).map (·.size) = some 1 := by kernel_rfl
theorem run_low (g p n : Nat) (h : p < n) (w' : World) : (Instr.slice 22 (.slice (some ⟨g, 0, none⟩) n n) (some (.int .i64 p)) none none).run Try.prog w' = .ok (.slice (some ⟨g, p, none⟩) (n - p) (n - p)) w' := by
  have ht : Try.prog.underlying 22 = some (.slice (Try.prog.elem 22)) := by simp [Program.elem, Try.underlying22]
  have he : Try.prog.elem 22 = 3 := by simp [Program.elem, Try.underlying22]
  rw [run_slice_l w' 22 _ n n ht .i64 p (by omega) (by omega), he, wk.run_sizeOf w' 3 1 infoI1]
  simp only [Result.andThen, sliced, Int.toNat_natCast]
  rw [if_neg (by omega)]
  simp [wk.add_at]
theorem run_high (g p n : Nat) (h : p ≤ n) (h1 : 1 ≤ n) (w' : World) : (Instr.slice 22 (.slice (some ⟨g, 0, none⟩) n n) none (some (.int .i64 p)) none).run Try.prog w' = .ok (.slice (some ⟨g, 0, none⟩) p n) w' := by
  have ht : Try.prog.underlying 22 = some (.slice (Try.prog.elem 22)) := by simp [Program.elem, Try.underlying22]
  have he : Try.prog.elem 22 = 3 := by simp [Program.elem, Try.underlying22]
  rw [run_slice_h w' 22 _ n n ht .i64 p (by omega) (by omega), he, wk.run_sizeOf w' 3 1 infoI1]
  simp only [Result.andThen, sliced, Int.toNat_natCast]
  rw [if_neg (by omega)]
  simp [wk.add_at]
set_option maxRecDepth 100000 in
set_option maxHeartbeats 4000000 in
theorem repeat_calls (b : Nat) (x : Int) (n : Nat) (w : World) (h : w.cell? ⟨b, 0, none⟩ = some (.int .i64 x)) (h1 : 1 ≤ n) (hn : n ≤ 4096) :
    Calls Try.prog 76 #[.slice (some ⟨b, 0, none⟩) 1 1, .int .i64 n] w fun e w' => e = .returned (.slice (some ⟨w.heap.size, 0, none⟩) n n) ∧ RowK w' w.heap.size (List.replicate n x) ∧ Below w.heap.size w w' := by
  obtain ⟨i0, hi9, hz0, hz1, hz2⟩ := info_parts infoIz
  have hnI : (i0.bytes : Nat) * n ≤ 281474976710656 := by rw [hz2]; omega
  have hMU := fun w => mul_calls n hn w
  have HMU := Lib.hid hMU
  have hblt : b < w.heap.size := block_lt_of_cell h
  have HC := Lib.hid h
  have hmk := run_make (P := Try.prog) w 22 3 i0 (.int .i64 0) Try.underlying22 hi9 hz0 .i64 .i64 n n (by omega) (Int.le_refl _) (by omega) (by omega)
  rw [Int.toNat_natCast, hz1, Nat.mul_one, made_int] at hmk
  have hb0 := below_new w (.cells (iv (half n 0 x)).toArray 3)
  have hg0 : RowK (w.alloc (.cells (iv (half n 0 x)).toArray 3)) w.heap.size (half n 0 x) := heap_alloc_new w _
  have hc0 := (hb0.cell (p := ⟨b, 0, none⟩) hblt).trans h
  rw [show (List.replicate n (Value.int .i64 0)) = iv (half n 0 x) by simp [iv, half]] at hmk
  have hg1 : (w.alloc (.cells (iv (half n 0 x)).toArray 3)).heap[w.heap.size]? = some (.cells (iv (half n 0 x)).toArray 3 (0, 0)) := hg0
  generalize hwA : w.alloc (.cells (iv (half n 0 x)).toArray 3) = wA at *
  have hSP := half_splice (n := n) (p := 0) (k := 1) (x := x) (by omega)
  obtain ⟨X0, hX0⟩ : ∃ X, X = iv (half n 0 x) := ⟨_, rfl⟩
  obtain ⟨C1, hC1⟩ : ∃ X, X = iv (List.replicate 1 x) := ⟨_, rfl⟩
  rw [← hX0] at hg1 hSP
  rw [← hC1] at hSP
  have hX0l : X0.length = n := by rw [hX0]; simp [iv, half]
  have hC1l : C1.length = 1 := by rw [hC1]; simp [iv]
  have HCC : Hid (∀ j v, C1[j]? = some v → wA.cell? ((⟨b, 0, none⟩ : Addr).add j) = some v) := fun j v hv => by
    rw [hC1] at hv
    match j, hv with
    | 0, hv => simp [iv] at hv; subst hv; simpa [wk.add_at] using hc0
    | j + 1, hv => simp [iv] at hv
  have HC1o : Hid (∀ v ∈ C1, v.oneCell' = true) := fun v hv => by rw [hC1] at hv; simp [iv] at hv; subst hv; rfl
  have HX0 := Lib.hid hX0
  have HG1 := Lib.hid hg1
  have HSP := Lib.hid hSP
  have HB0 := Lib.hid hb0
  have hs0 : w.heap.size < wA.heap.size := by rw [← hwA, size_new]; omega
  clear hX0 hC1 hg0 hg1 hSP hb0 hwA h hc0
  generalize hG : w.heap.size = G at *
  have HGE := Lib.hid hG
  clear hG
  go_enter Try.func76, Try.ntmps76
  go_wp2_with fail
  refine (HMU.out _).mono ?_
  rintro e w' ⟨rfl, rfl⟩
  go_wp2_with (refine wpList_copy_splice rfl _ _ 22 22 rfl 3 Try.underlying22 infoI1 (some ⟨G, 0, none⟩) (some ⟨b, 0, none⟩) n n 1 1 rfl rfl G 0 X0 3 HG1.out C1 (by rw [hC1l]; show 1 = min 1 n; omega) (fun _ => ⟨rfl, _, rfl, HCC.out⟩) (by omega) HC1o.out G w' HB0.out (Nat.le_refl _) ?_)
  intro w2 HG2 hB2
  have hg2 : w2.heap[G]? = some (.cells (iv (half n 1 x)).toArray 3 (0, 0)) := by
    have := HG2.out
    rw [HSP.out, Nat.zero_add] at this
    exact this
  have HG3 := Lib.hid hg2
  have HB2 := Lib.hid hB2
  try rw [hC1l]
  clear hg2 hB2 HG2 HSP HX0 HCC HC1o HG1 hX0l hC1l hmk
  go_wp2_with fail
  go_loopg [8] (n - 1) (fun g u wr => ∃ p : Nat, p + g = n ∧ 1 ≤ p ∧ u = .int .i64 (p : Int) ∧ wr.heap[G]? = some (.cells (iv (half n p x)).toArray 3 (0, 0)) ∧ Below G w' wr)
  case atStart => exact ⟨1, by omega, by omega, rfl, HG3.out, HB2.out⟩
  case round =>
    obtain ⟨p, hp, hp1, rfl, hg, hbel⟩ := hrel
    have HP := Lib.hid hp
    have HBEL := Lib.hid hbel
    have HGR := Lib.hid hg
    have hpn : p ≤ n := by omega
    clear hp hbel
    by_cases hlt : p < n
    · obtain ⟨k, hk⟩ : ∃ k, k = Nat.min p (n - p) := ⟨_, rfl⟩
      have hk1 : k ≤ p := by rw [hk]; exact Nat.min_le_left _ _
      have hk2 : k ≤ n - p := by rw [hk]; exact Nat.min_le_right _ _
      have hk0 : 1 ≤ k := by rw [hk]; show 1 ≤ min p (n - p); omega
      have hSP := half_splice (n := n) (p := p) (k := k) (x := x) (by omega)
      obtain ⟨X1, hX1⟩ : ∃ X, X = iv (half n p x) := ⟨_, rfl⟩
      obtain ⟨C2, hC2⟩ : ∃ X, X = iv (List.replicate k x) := ⟨_, rfl⟩
      have HCC : Hid (∀ (w4 : World) (hg4 : w4.heap[G]? = some (.cells X1.toArray 3 (0, 0))) j v, C2[j]? = some v → w4.cell? ((⟨G, 0, none⟩ : Addr).add j) = some v) := fun w4 hg4 j v hv => by
        have hj : j < k := by have := (List.getElem?_eq_some_iff.1 hv).1; rw [hC2] at this; simpa [iv] using this
        rw [hC2] at hv
        have hv' : v = .int .i64 x := by simpa [iv, List.getElem?_replicate, hj] using hv.symm
        subst hv'
        rw [wk.add_at, Nat.zero_add, cell_of_row _ _ _ _ _ _ hg4, hX1]
        have : (half n p x)[j]? = some x := by
          unfold half
          rw [List.getElem?_append_left (by simp; omega), List.getElem?_replicate, if_pos (by omega)]
        simp [iv, this]
      have HC2o : Hid (∀ v ∈ C2, v.oneCell' = true) := fun v hv => by
        rw [hC2] at hv
        simp only [iv, List.mem_map] at hv
        obtain ⟨y, _, rfl⟩ := hv
        rfl
      have hC2l : C2.length = k := by rw [hC2]; simp [iv]
      have hX1l : X1.length = n := by rw [hX1]; simp [iv, half_len hpn]
      rw [← hX1] at hg hSP
      rw [← hC2] at hSP
      have HG5 := Lib.hid hg
      have HSP := Lib.hid hSP
      have HL1 := Lib.hid (run_low G p n hlt)
      have HL2 := Lib.hid (run_high G p n hpn h1)
      have HKM : Hid (k = Nat.min p (n - p)) := hk
      have hlt0 : (p : Int) < (n : Int) := by omega
      clear hX1 hC2 hg hSP hk
      go_wp2_with fail
      refine wk.region_lev2K 9 (fun _ i _ v => v = ([.int .i64 (p : Int), .slice (some ⟨G, 0, none⟩) n n, .int .i64 (p : Int), .slice (some ⟨G, p, none⟩) (n - p) (n - p), .slice (some ⟨G, 0, none⟩) n n, .int .i64 (p : Int), .slice (some ⟨G, 0, none⟩) p n, .int .i64 ((k : Nat) : Int), .int .i64 ((p : Int) + (k : Int))] : List Value).getD i undef) [some 38, some 39, some 40, some 41, some 42, some 43, some 44, some 45, some 46] (fun Lv u => u.heap[G]? = some (.cells (if Lv 7 = true then splice X1 p C2 else X1).toArray 3 (0, 0)) ∧ Below G w' u) ⟨HG5.out, HBEL.out.drew⟩ (by kernel_rfl) (by kernel_rfl) (by kernel_rfl) (by kernel_rfl) (by kernel_rfl) (by kernel_rfl) ?rstep ?rdone
      case rstep =>
        intro i o ho hi9 E Lv w4 hS4 hL hdeps DG hold
        have hi2 : i = 0 ∨ i = 1 ∨ i = 2 ∨ i = 3 ∨ i = 4 ∨ i = 5 ∨ i = 6 ∨ i = 7 ∨ i = 8 := by omega
        clear hi9
        rcases hi2 with rfl | rfl | rfl | rfl | rfl | rfl | rfl | rfl | rfl
        ·
          have ho2 := (Array.getElem?_eq_some_iff.1 ho).2
          simp only [List.getElem_toArray, List.getElem_cons_zero] at ho2
          subst ho2
          clear ho
          have e8 : E (.tmp 8) = .int .i64 (p : Int) := (hold 8 (by kernel_rfl)).trans rfl
          refine wk.Does.weak (R := fun w9 x => x = .int .i64 (p : Int)) ?_ (fun w9 v hb hr => ⟨hr, fun j u _ _ hj => hj, (hb.block G (Array.getElem?_eq_some_iff.1 hS4.1).1).trans hS4.1, hS4.2.trans (hb.mono (by have := hS4.2.size; have := HGE.out; omega))⟩)
          exact wk.does_move rfl e8
        ·
          have ho2 := (Array.getElem?_eq_some_iff.1 ho).2
          simp only [List.getElem_toArray, List.getElem_cons_succ, List.getElem_cons_zero] at ho2
          subst ho2
          clear ho
          have e7 : E (.tmp 7) = .slice (some ⟨G, 0, none⟩) n n := (hold 7 (by kernel_rfl)).trans rfl
          refine wk.Does.weak (R := fun w9 x => x = .slice (some ⟨G, 0, none⟩) n n) ?_ (fun w9 v hb hr => ⟨hr, fun j u _ _ hj => hj, (hb.block G (Array.getElem?_eq_some_iff.1 hS4.1).1).trans hS4.1, hS4.2.trans (hb.mono (by have := hS4.2.size; have := HGE.out; omega))⟩)
          exact wk.does_move rfl e7
        ·
          have ho2 := (Array.getElem?_eq_some_iff.1 ho).2
          simp only [List.getElem_toArray, List.getElem_cons_succ, List.getElem_cons_zero] at ho2
          subst ho2
          clear ho
          have e8 : E (.tmp 8) = .int .i64 (p : Int) := (hold 8 (by kernel_rfl)).trans rfl
          refine wk.Does.weak (R := fun w9 x => x = .int .i64 (p : Int)) ?_ (fun w9 v hb hr => ⟨hr, fun j u _ _ hj => hj, (hb.block G (Array.getElem?_eq_some_iff.1 hS4.1).1).trans hS4.1, hS4.2.trans (hb.mono (by have := hS4.2.size; have := HGE.out; omega))⟩)
          exact wk.does_move rfl e8
        ·
          have ho2 := (Array.getElem?_eq_some_iff.1 ho).2
          simp only [List.getElem_toArray, List.getElem_cons_succ, List.getElem_cons_zero] at ho2
          subst ho2
          clear ho
          have e39 := DG.is { on := 1, ground := .data } (by simp) rfl 39 rfl
          replace e39 : E (.tmp 39) = .slice (some ⟨G, 0, none⟩) n n := e39
          have e40 := DG.is { on := 2, ground := .data } (by simp) rfl 40 rfl
          replace e40 : E (.tmp 40) = .int .i64 (p : Int) := e40
          refine wk.Does.weak (R := fun w9 x => x = .slice (some ⟨G, p, none⟩) (n - p) (n - p)) ?_ (fun w9 v hb hr => ⟨hr, fun j u _ _ hj => hj, (hb.block G (Array.getElem?_eq_some_iff.1 hS4.1).1).trans hS4.1, hS4.2.trans (hb.mono (by have := hS4.2.size; have := HGE.out; omega))⟩)
          exact wk.does_run (wk.op_slice rfl e39 (by simp only [Option.map_some]; rw [e40]) rfl rfl (HL1.out _)) rfl
        ·
          have ho2 := (Array.getElem?_eq_some_iff.1 ho).2
          simp only [List.getElem_toArray, List.getElem_cons_succ, List.getElem_cons_zero] at ho2
          subst ho2
          clear ho
          have e7 : E (.tmp 7) = .slice (some ⟨G, 0, none⟩) n n := (hold 7 (by kernel_rfl)).trans rfl
          refine wk.Does.weak (R := fun w9 x => x = .slice (some ⟨G, 0, none⟩) n n) ?_ (fun w9 v hb hr => ⟨hr, fun j u _ _ hj => hj, (hb.block G (Array.getElem?_eq_some_iff.1 hS4.1).1).trans hS4.1, hS4.2.trans (hb.mono (by have := hS4.2.size; have := HGE.out; omega))⟩)
          exact wk.does_move rfl e7
        ·
          have ho2 := (Array.getElem?_eq_some_iff.1 ho).2
          simp only [List.getElem_toArray, List.getElem_cons_succ, List.getElem_cons_zero] at ho2
          subst ho2
          clear ho
          have e8 : E (.tmp 8) = .int .i64 (p : Int) := (hold 8 (by kernel_rfl)).trans rfl
          refine wk.Does.weak (R := fun w9 x => x = .int .i64 (p : Int)) ?_ (fun w9 v hb hr => ⟨hr, fun j u _ _ hj => hj, (hb.block G (Array.getElem?_eq_some_iff.1 hS4.1).1).trans hS4.1, hS4.2.trans (hb.mono (by have := hS4.2.size; have := HGE.out; omega))⟩)
          exact wk.does_move rfl e8
        ·
          have ho2 := (Array.getElem?_eq_some_iff.1 ho).2
          simp only [List.getElem_toArray, List.getElem_cons_succ, List.getElem_cons_zero] at ho2
          subst ho2
          clear ho
          have e42 := DG.is { on := 4, ground := .data } (by simp) rfl 42 rfl
          replace e42 : E (.tmp 42) = .slice (some ⟨G, 0, none⟩) n n := e42
          have e43 := DG.is { on := 5, ground := .data } (by simp) rfl 43 rfl
          replace e43 : E (.tmp 43) = .int .i64 (p : Int) := e43
          refine wk.Does.weak (R := fun w9 x => x = .slice (some ⟨G, 0, none⟩) p n) ?_ (fun w9 v hb hr => ⟨hr, fun j u _ _ hj => hj, (hb.block G (Array.getElem?_eq_some_iff.1 hS4.1).1).trans hS4.1, hS4.2.trans (hb.mono (by have := hS4.2.size; have := HGE.out; omega))⟩)
          exact wk.does_run (wk.op_slice rfl e42 rfl (by simp only [Option.map_some]; rw [e43]) rfl (HL2.out _)) rfl
        ·
          have ho2 := (Array.getElem?_eq_some_iff.1 ho).2
          simp only [List.getElem_toArray, List.getElem_cons_succ, List.getElem_cons_zero] at ho2
          subst ho2
          clear ho
          have e41 := DG.is { on := 3, ground := .data } (by simp) rfl 41 rfl
          replace e41 : E (.tmp 41) = .slice (some ⟨G, p, none⟩) (n - p) (n - p) := e41
          have e44 := DG.is { on := 6, ground := .data } (by simp) rfl 44 rfl
          replace e44 : E (.tmp 44) = .slice (some ⟨G, 0, none⟩) p n := e44
          have hg4 := hS4.1
          rw [hL] at hg4
          refine does_copy_t (.tmp 41) (.tmp 44) 22 22 rfl 3 Try.underlying22 infoI1 G p (n - p) (n - p) ⟨G, 0, none⟩ p n e41 e44 X1 3 hg4 C2 (by rw [hC2l]; exact HKM.out) (fun j v hv => HCC.out w4 hg4 j v hv) (by omega) HC2o.out ?_
          refine ⟨by rw [hC2l]; rfl, fun j u _ _ hj => hj, ?_, below_setRow hS4.2 (Nat.le_refl _) _⟩
          exact setRow_heap w4 G _ _ 3 _ hg4
        ·
          have ho2 := (Array.getElem?_eq_some_iff.1 ho).2
          simp only [List.getElem_toArray, List.getElem_cons_succ, List.getElem_cons_zero] at ho2
          subst ho2
          clear ho
          have e38 := DG.is { on := 0, ground := .data } (by simp) rfl 38 rfl
          replace e38 : E (.tmp 38) = .int .i64 (p : Int) := e38
          have e45 := DG.is { on := 7, ground := .data } (by simp) rfl 45 rfl
          replace e45 : E (.tmp 45) = .int .i64 ((k : Nat) : Int) := e45
          refine wk.Does.weak (R := fun w9 x => x = .int .i64 ((p : Int) + (k : Int))) ?_ (fun w9 v hb hr => ⟨hr, fun j u _ _ hj => hj, (hb.block G (Array.getElem?_eq_some_iff.1 hS4.1).1).trans hS4.1, hS4.2.trans (hb.mono (by have := hS4.2.size; have := HGE.out; omega))⟩)
          have hw : IntKind.i64.wrap ((p : Int) + (k : Int)) = (p : Int) + (k : Int) := by rw [IntKind.wrap_i64]; omega
          exact wk.does_run (by simp only [execOp]; rw [show E (.tmp 38) = _ from e38, show E (.tmp 45) = _ from e45]; go_simp) rfl
      case rdone =>
        intro vals Lv w4 hall hS4 hv
        have h0 : vals 0 = .int .i64 (p : Int) := hv 0 (by omega)
        have h1 : vals 1 = .slice (some ⟨G, 0, none⟩) n n := hv 1 (by omega)
        have h2 : vals 2 = .int .i64 (p : Int) := hv 2 (by omega)
        have h3 : vals 3 = .slice (some ⟨G, p, none⟩) (n - p) (n - p) := hv 3 (by omega)
        have h4 : vals 4 = .slice (some ⟨G, 0, none⟩) n n := hv 4 (by omega)
        have h5 : vals 5 = .int .i64 (p : Int) := hv 5 (by omega)
        have h6 : vals 6 = .slice (some ⟨G, 0, none⟩) p n := hv 6 (by omega)
        have h7 : vals 7 = .int .i64 ((k : Nat) : Int) := hv 7 (by omega)
        have h8 : vals 8 = .int .i64 ((p : Int) + (k : Int)) := hv 8 (by omega)
        clear hv
        simp only [List.drop_succ_cons, List.drop_zero, wk.setL, List.setIfInBounds_toArray, List.set_cons_zero, List.set_cons_succ, Nat.zero_add, Nat.reduceAdd, h0, h1, h2, h3, h4, h5, h6, h7, h8]
        clear h0 h1 h2 h3 h4 h5 h6 h7 h8
        have hg4 := hS4.1
        rw [hall 7 (by omega), if_pos rfl, HSP.out] at hg4
        have HG6 := Lib.hid hg4
        have HB6 := Lib.hid hS4.2
        clear hg4 hS4 hall
        go_wp2_with fail
        go_roundg (gk - k)
        case measure => have := HP.out; omega
        case rel => exact ⟨p + k, by have := HP.out; omega, by omega, by go_num, HG6.out, HB6.out⟩
    · obtain rfl : p = n := by omega
      have hg' := HGR.out
      rw [half_end] at hg'
      have HGF := Lib.hid hg'
      clear hg hg'
      go_wp2_with fail
      go_ret
      exact ⟨rfl, HGF.out, by first | exact HBEL.out | (rw [HGE.out]; exact HBEL.out)⟩
end Go.Proofs.Ytiodjepjbooniaa.uk
/- Index, Max, spread. -/
namespace Go.Proofs.Ytiodjepjbooniaa.uk

open Go.ChangeShapes Go.WideShapes Go.ChangeAt Go.RowKit

open Go.Proofs.Ytiodjepjbooniaa.cq Go.Proofs.Ytiodjepjbooniaa.vk Go.Proofs.Ytiodjepjbooniaa.bk Go.Proofs.Ytiodjepjbooniaa.wk

set_option linter.unusedVariables false
set_option maxRecDepth 100000 in
set_option maxHeartbeats 4000000 in
theorem index_calls (A : Option Addr) (n c : Nat) (l : List Int) (i : Nat) (x : Int) (w : World) (h : wo.IsI w A n c l) (hi : l[i]? = some x) (hf : ∀ j y, j < i → l[j]? = some y → y ≠ x) :
    Calls Try.prog 77 #[.slice A n c, .int .i64 x] w fun e w' => e = .returned (.int .i64 (i : Nat)) ∧ w' = w := by
  have hm := h.2.2.1
  have hnc := h.2.1
  have hin : i < n := by have := (List.getElem?_eq_some_iff.1 hi).1; have := h.1; omega
  have H := Lib.hid h
  have HI := Lib.hid hi
  have HF := Lib.hid hf
  clear h hi hf
  go_enter Try.func77, Try.ntmps77
  go_wp2_with fail
  go_loopg [8] n (fun g u wr => ∃ k : Nat, k + g = n ∧ k ≤ i ∧ u = .int .i64 (k : Int) ∧ wr = w)
  case atStart => exact ⟨0, by omega, by omega, rfl, rfl⟩
  case round =>
    obtain ⟨k, hk, hki, rfl, rfl⟩ := hrel
    have HK := Lib.hid hk
    have hkn : k < n := by omega
    obtain ⟨b, o, y, rfl, hy, hY, -, -⟩ := isI_at H.out hkn
    have hlt0 : (k : Int) < (n : Int) := by omega
    by_cases hke : k = i
    · subst hke
      have hyx : y = x := by have := HI.out; rw [hY] at this; injection this
      subst hyx
      clear hY
      go_wp2_with fail
      go_ret
      exact ⟨rfl, rfl⟩
    · have hne := HF.out k y (by omega) hY
      have hne' : (x == y) = false := by simp; omega
      clear hY hk
      go_wp2_with fail
      go_roundg (gk - 1)
      case measure => have := HK.out; omega
      case rel => exact ⟨k + 1, by have := HK.out; omega, by omega, by go_num, rfl⟩
theorem gst_max {l : List Int} {k : Nat} {x : Int} (h : l[k]? = some x) : max (l.getD (gstk l k) 0) x = l.getD (gstk l (k + 1)) 0 := by
  rw [gstk_succ]
  unfold gstep
  have hx : l.getD k 0 = x := by rw [List.getD_eq_getElem?_getD, h]; rfl
  rw [hx]
  split
  · rw [hx]; omega
  · omega
set_option maxRecDepth 100000 in
set_option maxHeartbeats 4000000 in
theorem max_of_calls (A : Option Addr) (n c : Nat) (l : List Int) (w : World) (h : wo.IsI w A n c l) (h1 : 1 ≤ n) :
    Calls Try.prog 78 #[.slice A n c] w fun e w' => e = .returned (.int .i64 (l.getD (gst l) 0)) ∧ w' = w := by
  have hm := h.2.2.1
  have hnc := h.2.1
  have hE : l.getD (gst l) 0 = l.getD (gstk l n) 0 := by unfold gst; rw [h.1]
  rw [hE]
  obtain ⟨b0, o0, x0, rfl, hx0, hX0, -, -⟩ := isI_at h (k := 0) (by omega)
  rw [Nat.add_zero] at hx0
  have hS0 : l.getD (gstk l 1) 0 = x0 := by
    rw [gstk_succ]
    unfold gstk gstep
    simp [List.getD_eq_getElem?_getD, hX0]
  have H := Lib.hid h
  have HS0 := Lib.hid hS0
  have hn0 : (0 : Int) < (n : Int) := by omega
  have hn1' : 0 < n := by omega
  clear h hE hX0 hS0
  go_enter Try.func78, Try.ntmps78
  go_wp2_with fail
  go_loopg [3, 4] (n - 1) (fun g u v wr => ∃ k : Nat, k + g = n ∧ 1 ≤ k ∧ v = .int .i64 (k : Int) ∧ u = .int .i64 (l.getD (gstk l k) 0) ∧ wr = w)
  case atStart => exact ⟨1, by omega, by omega, rfl, by rw [HS0.out], rfl⟩
  case round =>
    obtain ⟨k, hk, hk1, rfl, rfl, rfl⟩ := hrel
    have HK := Lib.hid hk
    have hkn : k ≤ n := by omega
    by_cases hlt : k < n
    · obtain ⟨b, o, y, e, hy, hY, hy1, hy2⟩ := isI_at H.out hlt
      cases e
      have hlt0 : (k : Int) < (n : Int) := by omega
      have HG := Lib.hid (gst_max hY)
      generalize l.getD (gstk l k) 0 = s at *
      obtain ⟨mx, hmx⟩ : ∃ z, max s y = z := ⟨_, rfl⟩
      rw [hmx] at HG
      clear hY hk
      go_wp2_with fail
      go_roundg (gk - 1)
      case measure => have := HK.out; omega
      case rel => exact ⟨k + 1, by have := HK.out; omega, by omega, by go_num, by rw [← HG.out], rfl⟩
    · obtain rfl : k = n := by omega
      go_wp2_with fail
      go_ret
      exact ⟨rfl, rfl⟩
theorem isI_some {w : World} {g n : Nat} {l : List Int} (h : RowK w g l) (hl : l.length = n) (hb : ∀ x ∈ l, I64 x) (hn : n ≤ 4096) : wo.IsI w (some ⟨g, 0, none⟩) n n l := h.isI hl (Nat.le_refl _) (by omega) hb
theorem apw_i64 (ws l : VV) : ∀ x ∈ apw ws l, I64 x := fun x hx => by
  unfold apw at hx
  obtain ⟨v, _, rfl⟩ := List.mem_map.1 hx
  have := ap1_bd ws v
  unfold I64; omega
/-- partly done -/
def aph (ws l : VV) (w : List Int) (i : Nat) : List Int := (apw (ws ++ [w]) l).take i ++ (apw ws l).drop i
theorem aph_zero (ws l : VV) (w : List Int) : aph ws l w 0 = apw ws l := by simp [aph]
theorem aph_end {ws l : VV} {w : List Int} {n : Nat} (h : l.length = n) : aph ws l w n = apw (ws ++ [w]) l := by
  unfold aph
  rw [List.take_of_length_le (by rw [apw_len]; omega), List.drop_of_length_le (by rw [apw_len]; omega), List.append_nil]
theorem aph_at {ws l : VV} {w v : List Int} {i : Nat} (h : l[i]? = some v) : (aph ws l w i)[i]? = some (ap1 ws v) := by
  have hi := (List.getElem?_eq_some_iff.1 h).1
  unfold aph
  rw [List.getElem?_append_right (by rw [List.length_take, apw_len]; omega), List.length_take, apw_len, Nat.min_eq_left (by omega), Nat.sub_self, List.getElem?_drop, Nat.add_zero, apw_at h]
theorem aph_set {ws l : VV} {w v : List Int} {i : Nat} (h : l[i]? = some v) : (aph ws l w i).set i (min (ap1 ws v) (vq.key 2 v w)) = aph ws l w (i + 1) := by
  have hi := (List.getElem?_eq_some_iff.1 h).1
  have h1 := apw_at (ws := ws ++ [w]) h
  rw [ap1_snoc] at h1
  have h2 := apw_at (ws := ws) h
  unfold aph
  rw [List.take_add_one, h1, List.set_append_right _ _ (by rw [List.length_take, apw_len]; omega), List.length_take, apw_len, Nat.min_eq_left (by omega), Nat.sub_self]
  have hd : (apw ws l).drop i = ap1 ws v :: (apw ws l).drop (i + 1) := by
    obtain ⟨hk, hk2⟩ := List.getElem?_eq_some_iff.1 h2
    rw [List.drop_eq_getElem_cons hk, hk2]
  rw [hd, List.set_cons_zero]
  simp
theorem aph_len {ws l : VV} {w : List Int} {i : Nat} (h : i ≤ l.length) : (aph ws l w i).length = l.length := by
  unfold aph
  rw [List.length_append, List.length_take, List.length_drop, apw_len, apw_len]; omega
theorem aph_i64 (ws l : VV) (w : List Int) (i : Nat) : ∀ x ∈ aph ws l w i, I64 x := fun x hx => by
  unfold aph at hx
  rcases List.mem_append.1 hx with h | h
  · exact apw_i64 _ _ x (List.mem_of_mem_take h)
  · exact apw_i64 _ _ x (List.mem_of_mem_drop h)
end Go.Proofs.Ytiodjepjbooniaa.uk
