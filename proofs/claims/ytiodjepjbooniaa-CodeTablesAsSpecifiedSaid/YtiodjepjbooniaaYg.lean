/- The reference: Table. -/
import Derived.Test.YtiodjepjbooniaaYf

import Derived.Test.YtiodjepjbooniaaG8

namespace Go.Proofs.Ytiodjepjbooniaa.uk

open Go.ChangeShapes Go.WideShapes Go.ChangeAt Go.RowKit

open Go.Proofs.Ytiodjepjbooniaa.cq Go.Proofs.Ytiodjepjbooniaa.vk Go.Proofs.Ytiodjepjbooniaa.bk Go.Proofs.Ytiodjepjbooniaa.wk

set_option linter.unusedVariables false
set_option maxRecDepth 100000 in
set_option maxHeartbeats 3000000 in
theorem rtable_calls (v : Value) (b : Bk) (m : Int) (A : Option Addr) (n c : Nat) (q : List Int) (w : World) (h : IsBk w v b) (hR : Rt b) (hm1 : 1 ≤ m) (hm3 : m ≤ 3) (h2 : wo.IsI w A n c q) (hq : vq.Vec q) (hnd : (n : Int) = b.d) :
    Calls Try.prog 22 #[v, .int .i64 m, .slice A n c] w fun e w' => ∃ A' n' c', e = .returned (.slice A' n' c') ∧ IsVV w' A' n' c' (tbl m b q) ∧ Below w.heap.size w w' := by
  obtain ⟨i0, hi9, hz0, hz1, hz2⟩ := info_parts infoIz
  obtain ⟨i1, hj9, hj0, hj1, hj2⟩ := info_parts infoVz
  obtain ⟨A0, n0, c0, AW, nW, cW, rfl, hi, hW, hd⟩ := h
  have hb0 := below_new w (.cells #[.int .i64 b.d, .slice A0 n0 c0, .slice AW nW cW] 25)
  have hT0 := Three.new w (.int .i64 b.d) (.slice A0 n0 c0) (.slice AW nW cW)
  have hPC := fun k (hk : k < b.cuts.length) w' (hb : Below w.heap.size w w') => rpart_calls (.agg #[.int .i64 b.d, .slice A0 n0 c0, .slice AW nW cW]) b k A n c q w' (IsBk.below ⟨_, _, _, _, _, _, rfl, hi, hW, hd⟩ hb) hR hk (isI_below h2 hb) hnd
  obtain rfl : nW = n0 := by rw [← hW.1, ← hi.1]; exact hR.wl
  have hn8 : nW ≤ 8 := by rw [← hi.1]; exact hR.div.n8
  have hmW := hW.2.2.1
  have hncW := hW.2.1
  have hm0 := hi.2.2.1
  have hnc0 := hi.2.1
  have HPCC := Lib.hid hPC
  have HW := Lib.hid (isW_below hW hb0)
  have HIL := Lib.hid hi.1
  have HEL : Hid ((tbl m b q).length = nW) := by show _ = _; rw [tbl_len hR, hW.1]
  have HR := Lib.hid hR
  have HM1 := Lib.hid hm1
  have HM3 := Lib.hid hm3
  have HVQ := Lib.hid hq
  have HND : Hid ((q.length : Int) = b.d) := by show _ = _; rw [h2.1]; exact hnd
  have HB0 := Lib.hid hb0
  have HT := Lib.hid hT0
  have hnm := h2.2.2.1
  have hnc := h2.2.1
  clear hi hW hd hR hm1 hm3 hq hnd h2 hPC hb0
  go_enter Try.func22, Try.ntmps22
  generalize hwE : w.alloc (.cells #[.int .i64 b.d, .slice A0 nW c0, .slice AW nW cW] 25) = wE at *
  obtain ⟨g, hg⟩ : ∃ g, w.heap.size = g := ⟨_, rfl⟩
  have HG := Lib.hid hg
  rw [hg] at HT
  clear hT0
  go_wp2_with fail
  try simp only [hg]
  try simp only [hwE]
  clear hg hwE
  go_loopg [7, 8] nW (fun gk u x wr => ∃ (k : Nat) (v0 : Value) (vs : List Value), k + gk = nW ∧ v0 = u ∧ x = .int .i64 (k : Int) ∧ RowQ IsV wE.heap.size [22] 22 wr v0 ((tbl m b q).take k) vs ∧ Below wE.heap.size wE wr)
  case atStart => exact ⟨0, _, [], by omega, rfl, rfl, RowQ.nil _ _ _ _ _, Below.refl _ _⟩
  case round =>
    obtain ⟨k, v0, vs, hk, hv0, rfl, hown, hbel⟩ := hrel
    subst hv0
    have HK := Lib.hid hk
    have HOWN := Lib.hid hown
    have HBEL := Lib.hid hbel
    have hkn : k ≤ nW := by omega
    have hTR := HT.out.below hbel
    have hc1 := hTR.c1
    have hc2 := hTR.c2
    clear hk hown
    by_cases hlt : k < nW
    · obtain ⟨b7, o7, A8, n8, c8, l8, rfl, hb7, hc7, hI8, hX8⟩ := isW_get (isW_below HW.out hbel) hlt
      have hk2 : k < b.cuts.length := by rw [HIL.out]; exact hlt
      obtain ⟨y0, hy0⟩ : ∃ y, b.cuts[k]? = some y := ⟨_, List.getElem?_eq_getElem hk2⟩
      obtain ⟨y1, hy1⟩ : ∃ y, endAt b.cuts b.d k = y := ⟨_, rfl⟩
      have hDA := HR.out.div.at hy0
      have hok := HR.out.ok _ _ _ hX8 hy0
      have HPC : Hid (∀ w', Below wE.heap.size wE w' → _) := fun w' hb => HPCC.out k hk2 w' (HB0.out.trans (hb.mono HB0.out.size))
      rw [spa_of (sp_at (d := b.d) hy0), hy1] at HPC
      rw [hy1] at hDA hok
      have hle : y1 ≤ (q.length : Int) := by rw [HND.out]; exact hDA.2.2
      have HLQ := Lib.hid (pt_len (v := q) (p := (y0, y1)) hDA.1 (Int.le_of_lt hDA.2.1) hle)
      have HVP := Lib.hid (vec_part HVQ.out (p := (y0, y1)) hDA.1 hDA.2.1 hle)
      have HENC : Hid ((tbl m b q)[k]? = some (trow m q (l8, (y0, y1)))) := by
        show _ = _
        rw [tbl_at hX8 hy0, hy1]
      have hl8 := hI8.1
      have hn81 : 1 ≤ n8 := by rw [← hl8]; exact hok.1.1
      obtain ⟨b8, o8, -, -, -, -, rfl, hb8, -, -, -⟩ := isVV_get hI8 (k := 0) (by omega)
      have hm8 := hI8.2.2.1
      have hnc8 := hI8.2.1
      have hlt0 : (k : Int) < (nW : Int) := by omega
      have HI8 := Lib.hid hI8
      have HTW := Lib.hid hTR
      have HOKW := Lib.hid hok.2
      have HL8 : Hid ((trow m q (l8, (y0, y1))).length = n8) := by show _ = _; rw [trow_len, hl8]
      have hn8m : n8 ≤ 256 := by rw [← hl8]; exact hok.1.2
      have HC7W := Lib.hid hc7
      have HB7W := Lib.hid hb7
      have HB8W := Lib.hid hb8
      clear hX8 hy0 hy1 hDA hok hle hl8 hI8 hb8 hbel
      go_wp2_with fail
      obtain ⟨w0, hw0⟩ : ∃ u, u = wr := ⟨_, rfl⟩
      clear hc1 hc2 hc7 hb7 hTR
      go_loopg [9, 10] n8 (fun gk u x wr => ∃ (i : Nat) (v1 : Value), i + gk = n8 ∧ x = .int .i64 (i : Int) ∧ u = v1 ∧ wr.ownsRow w0.heap.size 3 1 v1 i (iv ((trow m q (l8, (y0, y1))).take i)) ∧ Below w0.heap.size w0 wr)
      case atStart => exact ⟨0, _, by omega, rfl, rfl, by simpa [iv] using World.ownsRow_nil _ _ _ _, by rw [hw0]; exact Below.refl _ _⟩
      case round =>
        obtain ⟨i, v1, hi, rfl, rfl, hownr, hbi⟩ := hrel
        subst hw0
        have HKI := Lib.hid hi
        have HOWR := Lib.hid hownr
        have HBI := Lib.hid hbi
        have hin : i ≤ n8 := by omega
        have HTR := Lib.hid (HTW.out.below hbi)
        have hc1 := HTR.out.c1
        have hc2 := HTR.out.c2
        have HC7 : Hid (wr.cell? ⟨b7, o7 + k, none⟩ = some (.slice (some ⟨b8, o8, none⟩) n8 c8)) := (hbi.cell (p := ⟨b7, o7 + k, none⟩) HB7W.out).trans HC7W.out
        have HB7 : Hid (b7 < wr.heap.size) := Nat.lt_of_lt_of_le HB7W.out hbi.size
        have HB8 : Hid (b8 < wr.heap.size) := Nat.lt_of_lt_of_le HB8W.out hbi.size
        have HBR : Hid (Below wE.heap.size wE wr) := HBEL.out.trans (hbi.mono HBEL.out.size)
        have HSZ : Hid (wE.heap.size ≤ wr.heap.size) := HBR.out.size
        by_cases hlt2 : i < n8
        · obtain ⟨bb, oo, Ai, ni, ci, li, eA, -, hci, hIi, hXi⟩ := isVV_get (isVV_below HI8.out hbi) hlt2
          cases eA
          have HVi := Lib.hid (HOKW.out li (List.mem_of_getElem? hXi))
          obtain ⟨ri, hri⟩ : ∃ z, vq.key m li (pt q (y0, y1)) = z := ⟨_, rfl⟩
          have HRW : Hid ((trow m q (l8, (y0, y1)))[i]? = some ri) := by
            show _ = _
            rw [← hri]
            unfold trow
            rw [List.getElem?_map, hXi]; rfl
          have HRi := Lib.hid hri
          have HIi := Lib.hid hIi
          have HCi := Lib.hid hci
          have hlt3 : (i : Int) < (n8 : Int) := by omega
          have hc7 := HC7.out
          clear hi hXi hri hIi hci hbi hownr
          go_wp2_with fail
          clear hc1 hc2 hc7
          refine wk.region_tailK 16 [.is u9, .is (.int .i64 m), .is (.pointer (some ⟨g, 2, none⟩)), .is (.slice (some ⟨b7, o7, none⟩) nW cW), .is (.int .i64 (k : Int)), .is (.pointer (some ⟨b7, o7 + k, none⟩)), .is (.slice (some ⟨b8, o8, none⟩) n8 c8), .is (.int .i64 (i : Int)), .is (.pointer (some ⟨b8, o8 + i, none⟩)), .is (.slice Ai ni ci), .is (.agg #[.int .i64 b.d, .slice A0 nW c0, .slice (some ⟨b7, o7, none⟩) nW cW]), .is (.int .i64 (k : Int)), .is (.slice A n c), .st (fun u x => ∃ A n c, x = .slice A n c ∧ wo.IsI u A n c (pt q (y0, y1))) (fun u u2 x h hb => by obtain ⟨A, n, c, h1, h2⟩ := h; exact ⟨A, n, c, h1, isI_below h2 hb⟩), .is (.int .i64 ri), .st (fun u x => ∃ g, x = .slice (some ⟨g, 0, none⟩) 1 1 ∧ One u g 3 (.int .i64 ri)) (fun u u2 x h hb => by obtain ⟨g, h1, h2⟩ := h; exact ⟨g, h1, h2.below hb⟩)] [some 28, some 29, some 30, some 31, some 32, some 33, some 34, some 35, some 36, some 37, some 38, some 39, some 40, some 41, some 42, some 43] (by kernel_rfl) (by kernel_rfl) (by kernel_rfl) (by kernel_rfl) [] (by kernel_rfl) (by intro p hp; cases hp) (by kernel_rfl) (by kernel_rfl) ?hstep ?hdone
          case hstep =>
            intro i o ho hi hns E w4 hb4 D hold
            have hi2 : i = 0 ∨ i = 1 ∨ i = 2 ∨ i = 3 ∨ i = 4 ∨ i = 5 ∨ i = 6 ∨ i = 7 ∨ i = 8 ∨ i = 9 ∨ i = 10 ∨ i = 11 ∨ i = 12 ∨ i = 13 ∨ i = 14 ∨ i = 15 := by omega
            clear hi
            rcases hi2 with rfl | rfl | rfl | rfl | rfl | rfl | rfl | rfl | rfl | rfl | rfl | rfl | rfl | rfl | rfl | rfl
            ·
              have ho2 := (Array.getElem?_eq_some_iff.1 ho).2
              simp only [List.getElem_toArray, List.getElem_cons_zero] at ho2
              subst ho2
              clear ho
              have e9 := hold 9 (by kernel_rfl)
              exact wk.does_move rfl (by rw [e9]; rfl)
            ·
              have ho2 := (Array.getElem?_eq_some_iff.1 ho).2
              simp only [List.getElem_toArray, List.getElem_cons_succ, List.getElem_cons_zero] at ho2
              subst ho2
              clear ho
              have e1 := D.old 1 (by kernel_rfl)
              exact wk.does_move rfl (by rw [e1]; rfl)
            ·
              have ho2 := (Array.getElem?_eq_some_iff.1 ho).2
              simp only [List.getElem_toArray, List.getElem_cons_succ, List.getElem_cons_zero] at ho2
              subst ho2
              clear ho
              have e3 := D.old 3 (by kernel_rfl)
              exact wk.does_run (by simp only [execOp]; rw [show E (.tmp 3) = .pointer (some ⟨g, 0, none⟩) by rw [e3]; rfl]; go_simp) rfl
            ·
              have ho2 := (Array.getElem?_eq_some_iff.1 ho).2
              simp only [List.getElem_toArray, List.getElem_cons_succ, List.getElem_cons_zero] at ho2
              subst ho2
              clear ho
              have e30 := D.is { on := 2, ground := .data } (by simp) rfl rfl 30 rfl
              exact wk.does_load1 rfl e30 ((HTR.out.below ((Below.refl _ _).drew.trans hb4)).c2) Try.underlying23 rfl rfl
            ·
              have ho2 := (Array.getElem?_eq_some_iff.1 ho).2
              simp only [List.getElem_toArray, List.getElem_cons_succ, List.getElem_cons_zero] at ho2
              subst ho2
              clear ho
              have e8 := D.old 8 (by kernel_rfl)
              exact wk.does_move rfl (by rw [e8]; rfl)
            ·
              have ho2 := (Array.getElem?_eq_some_iff.1 ho).2
              simp only [List.getElem_toArray, List.getElem_cons_succ, List.getElem_cons_zero] at ho2
              subst ho2
              clear ho
              have e31 := D.is { on := 3, ground := .data } (by simp) rfl rfl 31 rfl
              have e32 := D.is { on := 4, ground := .data } (by simp) rfl rfl 32 rfl
              exact wk.does_run (by simp only [execOp]; rw [show E (.tmp 31) = _ from e31, show E (.tmp 32) = _ from e32]; go_simp) rfl
            ·
              have ho2 := (Array.getElem?_eq_some_iff.1 ho).2
              simp only [List.getElem_toArray, List.getElem_cons_succ, List.getElem_cons_zero] at ho2
              subst ho2
              clear ho
              have e33 := D.is { on := 5, ground := .data } (by simp) rfl rfl 33 rfl
              exact wk.does_load1 rfl e33 ((((Below.refl _ _).drew.trans hb4).cell (p := ⟨_, _, none⟩) HB7.out).trans HC7.out) Try.underlying39 rfl rfl
            ·
              have ho2 := (Array.getElem?_eq_some_iff.1 ho).2
              simp only [List.getElem_toArray, List.getElem_cons_succ, List.getElem_cons_zero] at ho2
              subst ho2
              clear ho
              have e10 := D.old 10 (by kernel_rfl)
              exact wk.does_move rfl (by rw [e10]; rfl)
            ·
              have ho2 := (Array.getElem?_eq_some_iff.1 ho).2
              simp only [List.getElem_toArray, List.getElem_cons_succ, List.getElem_cons_zero] at ho2
              subst ho2
              clear ho
              have e34 := D.is { on := 6, ground := .data } (by simp) rfl rfl 34 rfl
              have e35 := D.is { on := 7, ground := .data } (by simp) rfl rfl 35 rfl
              exact wk.does_run (by simp only [execOp]; rw [show E (.tmp 34) = _ from e34, show E (.tmp 35) = _ from e35]; go_simp) rfl
            ·
              have ho2 := (Array.getElem?_eq_some_iff.1 ho).2
              simp only [List.getElem_toArray, List.getElem_cons_succ, List.getElem_cons_zero] at ho2
              subst ho2
              clear ho
              have e36 := D.is { on := 8, ground := .data } (by simp) rfl rfl 36 rfl
              exact wk.does_load1 rfl e36 ((((Below.refl _ _).drew.trans hb4).cell (p := ⟨_, _, none⟩) HB8.out).trans HCi.out) Try.underlying22 rfl rfl
            ·
              have ho2 := (Array.getElem?_eq_some_iff.1 ho).2
              simp only [List.getElem_toArray, List.getElem_cons_succ, List.getElem_cons_zero] at ho2
              subst ho2
              clear ho
              have e3 := D.old 3 (by kernel_rfl)
              exact wk.does_load_agg rfl (show E (.tmp 3) = .pointer (some ⟨g, 0, none⟩) by rw [e3]; rfl) (cs := [.int .i64 b.d, .slice A0 nW c0, .slice (some ⟨b7, o7, none⟩) nW cW]) (HTR.out.below ((Below.refl _ _).drew.trans hb4)).cells3 Try.underlying25 rfl (by kernel_rfl) rfl
            ·
              have ho2 := (Array.getElem?_eq_some_iff.1 ho).2
              simp only [List.getElem_toArray, List.getElem_cons_succ, List.getElem_cons_zero] at ho2
              subst ho2
              clear ho
              have e8 := D.old 8 (by kernel_rfl)
              exact wk.does_move rfl (by rw [e8]; rfl)
            ·
              have ho2 := (Array.getElem?_eq_some_iff.1 ho).2
              simp only [List.getElem_toArray, List.getElem_cons_succ, List.getElem_cons_zero] at ho2
              subst ho2
              clear ho
              have e2 := D.old 2 (by kernel_rfl)
              exact wk.does_move rfl (by rw [e2]; rfl)
            ·
              have ho2 := (Array.getElem?_eq_some_iff.1 ho).2
              simp only [List.getElem_toArray, List.getElem_cons_succ, List.getElem_cons_zero] at ho2
              subst ho2
              clear ho
              have e38 := D.is { on := 10, ground := .data } (by simp) rfl rfl 38 rfl
              have e39 := D.is { on := 11, ground := .data } (by simp) rfl rfl 39 rfl
              have e40 := D.is { on := 12, ground := .data } (by simp) rfl rfl 40 rfl
              refine wk.does_fn (f := 47) (vs := #[.agg #[.int .i64 b.d, .slice A0 nW c0, .slice (some ⟨b7, o7, none⟩) nW cW], .int .i64 (k : Int), .slice A n c]) rfl (D.fn _) (by simp [e38, e39, e40]) (by go_simp) ?_
              refine (HPC.out w4 (HBR.out.trans (((Below.refl _ _).drew.trans hb4).mono HSZ.out))).mono ?_
              rintro e w7 ⟨A5, n5, c5, rfl, hI5, hb7⟩
              exact ⟨_, rfl, hb7, A5, n5, c5, rfl, hI5⟩
            ·
              have ho2 := (Array.getElem?_eq_some_iff.1 ho).2
              simp only [List.getElem_toArray, List.getElem_cons_succ, List.getElem_cons_zero] at ho2
              subst ho2
              clear ho
              have e29 := D.is { on := 1, ground := .data } (by simp) rfl rfl 29 rfl
              have e37 := D.is { on := 9, ground := .data } (by simp) rfl rfl 37 rfl
              have s41 := D.st { on := 13, ground := .data } (by simp) rfl rfl 41 rfl
              obtain ⟨A5, n5, c5, e5, hI5⟩ := s41
              obtain rfl : n5 = ni := by have h1 := hI5.1; have h2 := HIi.out.1; have h3 := HLQ.out; have h4 := HVi.out.1; omega
              refine wk.does_fn (f := 36) (vs := #[.int .i64 m, .slice Ai n5 ci, .slice A5 n5 c5]) rfl (D.fn _) (by simp [e29, e37, show E (.tmp 41) = _ from e5]) (by go_simp) ?_
              refine (rkey_calls m _ _ n5 _ _ li (pt q (y0, y1)) w4 HM1.out HM3.out (isI_below HIi.out ((Below.refl _ _).drew.trans hb4)) hI5 (fewv HVi.out.2) (fewv HVP.out) (vq.sub_bound HVi.out.2 HVP.out) (by rw [← hI5.1]; exact HVP.out.le)).mono ?_
              rintro e w7 ⟨rfl, hb7⟩
              exact ⟨_, rfl, hb7, by rw [HRi.out]; rfl⟩
            ·
              have ho2 := (Array.getElem?_eq_some_iff.1 ho).2
              simp only [List.getElem_toArray, List.getElem_cons_succ, List.getElem_cons_zero] at ho2
              subst ho2
              clear ho
              have e42 := D.is { on := 14, ground := .data } (by simp) rfl rfl 42 rfl
              refine wk.does_new (v := .slice (some ⟨w4.heap.size, 0, none⟩) 1 1) (w' := w4.alloc (.cells #[.int .i64 ri] 3)) (by simp only [execOp, List.map_toArray, List.map_cons, List.map_nil]; rw [show E (.tmp 42) = _ from e42]; go_simp) (below_new _ _) ⟨_, rfl, One.new _ _ _⟩
          case hdone =>
            intro vals w4 hb4 hv
            have h0 := hv 0 (by omega)
            have h15 := hv 15 (by omega)
            clear hv
            replace h0 : vals 0 = u9 := h0
            simp only [List.drop_succ_cons, List.drop_zero, wk.setL, List.setIfInBounds_toArray, List.set_cons_zero, List.set_cons_succ, Nat.zero_add, Nat.reduceAdd, h0]
            generalize vals 1 = x1
            generalize vals 2 = x2
            generalize vals 3 = x3
            generalize vals 4 = x4
            generalize vals 5 = x5
            generalize vals 6 = x6
            generalize vals 7 = x7
            generalize vals 8 = x8
            generalize vals 9 = x9
            generalize vals 10 = x10
            generalize vals 11 = x11
            generalize vals 12 = x12
            generalize vals 13 = x13
            generalize vals 14 = x14
            generalize vals 15 = x15 at *
            obtain ⟨gg, rfl, hgg⟩ := h15
            have hb5 : Below wr.heap.size wr w4 := (Below.refl _ _).drew.trans hb4
            have hbe5 : Below w0.heap.size w0 w4 := HBI.out.trans (hb5.mono HBI.out.size)
            have HOW := Lib.hid (keptB HOWR.out hb5)
            have hcg : ∀ j u, [Value.int .i64 ri][j]? = some u → w4.cell? ((⟨gg, 0, none⟩ : Addr).add j) = some u := fun j u hu => by
              cases j with
              | zero => simp at hu; subst hu; rw [wk.add_at]; exact hgg.cell
              | succ j => simp at hu
            have hB4 : w0.heap.size ≤ w4.heap.size := hbe5.size
            have HBE5 := Lib.hid hbe5
            have HCG := Lib.hid hcg
            clear hb4 hb5 hgg hcg hbe5
            go_wp2_with (at_builtin; refine wpList_append_own _ rfl _ _ 22 rfl w0.heap.size 3 i0 (.int .i64 0) 1 8 Try.underlying22 hi9 hz0 hz1 hz2 rfl (by decide) _ _ _ rfl HOW.out ⟨gg, 0, none⟩ 1 1 [.int .i64 ri] rfl rfl HCG.out ?c2 ?c3 ?c4 ?c5 ?_)
            case c2 => simp [Value.oneCell']
            case c3 => unfold maxLen; omega
            case c4 => omega
            case c5 => omega
            intro v' w5 hown5 hgrow5 _
            have hbe : Below w0.heap.size w0 w5 := HBE5.out.grown hgrow5 (by omega) (fun q hq => (HOW.out.lt q hq).1)
            have HB5 := Lib.hid hbe
            have HO5 := Lib.hid hown5
            clear hown5 hgrow5 hbe
            go_wp2_with fail
            go_roundg (gk - 1)
            case measure => have := HKI.out; omega
            case rel =>
              refine ⟨i + 1, _, by have := HKI.out; omega, by go_num, rfl, ?_, HB5.out⟩
              have hO := HO5.out
              rw [List.take_add_one, HRW.out]
              unfold iv at hO ⊢
              rw [List.map_append]
              simpa using hO
        · obtain rfl : i = n8 := by omega
          have hc7 := HC7.out
          have hor := HOWR.out
          rw [List.take_of_length_le (by have := HL8.out; omega)] at hor
          have hbd : ∀ x ∈ trow m q (l8, (y0, y1)), I64 x := fun x hx => by
            simp only [trow, List.mem_map] at hx
            obtain ⟨u, hu, rfl⟩ := hx
            have h1 := HOKW.out u hu
            have h2 := key_max (m := m) h1.2 HVP.out (by have := HLQ.out; have := h1.1; omega)
            have h3 := key_nonneg m u (pt q (y0, y1))
            unfold I64
            omega
          obtain ⟨A9, c9, rfl, hsq⟩ := isI_own_sq (B := wE.heap.size) (es := [22]) hor HBEL.out.size hbd (by decide)
          have hsv : Sq wE.heap.size [22] (fun w' => IsV w' (.slice A9 i c9) (trow m q (l8, (y0, y1)))) wr := hsq.imp fun w' h => ⟨_, _, _, rfl, h⟩
          have HSV := Lib.hid hsv
          have hrow := HOWN.out.below hbi
          have HROW := Lib.hid hrow
          have HLT : Hid (((tbl m b q).take k).length = k) := by show _ = _; rw [List.length_take, HEL.out]; omega
          have ho0 := hrow.own
          rw [HLT.out] at ho0
          have HO2 := Lib.hid (keptB ho0 (below_new wr (.cells #[.slice A9 i c9] 22)))
          have HCG := Lib.hid (Row1.new wr 22 (.slice A9 i c9)).cells
          have hBw : wE.heap.size ≤ wr.heap.size := HSZ.out
          clear hi hbi hownr hor hbd hsq hsv hrow ho0
          go_wp2_with (at_builtin; refine wpList_append_own _ rfl _ _ 39 rfl wE.heap.size 22 i1 (.slice none 0 0) 1 24 Try.underlying39 hj9 hj0 hj1 hj2 rfl (by decide) _ _ _ rfl HO2.out ⟨wr.heap.size, 0, none⟩ 1 1 [.slice A9 i c9] rfl rfl HCG.out ?c2 ?c3 ?c4 ?c5 ?_)
          case c2 => simp [Value.oneCell']
          case c3 => unfold maxLen; omega
          case c4 => omega
          case c5 => rw [size_new]; omega
          intro v' w5 hown5 hgrow5 _
          have hbe : Below wE.heap.size wE w5 := (HBR.out.alloc hBw _).grown hgrow5 (by rw [size_new]; omega) (fun q hq => (HO2.out.lt q hq).1)
          have hpush := HROW.out.push (by simp) HSV.out _ hgrow5 (by rw [HLT.out]; exact hown5)
          have HB5 := Lib.hid hbe
          have HP5 := Lib.hid hpush
          clear hown5 hgrow5 hbe hpush
          go_wp2_with fail
          go_roundg (nW - (k + 1))
          case measure => have := HK.out; omega
          case rel =>
            refine ⟨k + 1, _, vs ++ [.slice A9 i c9], by omega, rfl, by go_num, ?_, HB5.out⟩
            have hO := HP5.out
            rw [List.take_add_one, HENC.out]
            exact hO
    · obtain rfl : k = nW := by omega
      have ho := HOWN.out
      rw [List.take_of_length_le (by have := HEL.out; omega)] at ho
      obtain ⟨A9, c9, rfl, hvv⟩ := ho.isVV
      have HV := Lib.hid hvv
      have HBZ := Lib.hid (HB0.out.trans (hbel.mono HB0.out.size))
      clear ho hbel hvv
      go_wp2_with fail
      go_ret
      exact ⟨_, _, _, rfl, HV.out, HBZ.out⟩
end Go.Proofs.Ytiodjepjbooniaa.uk
