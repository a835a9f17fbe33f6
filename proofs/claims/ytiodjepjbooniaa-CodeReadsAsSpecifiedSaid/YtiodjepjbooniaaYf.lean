/- The reference: Encode. -/
import Derived.Test.YtiodjepjbooniaaYe

import Derived.Test.YtiodjepjbooniaaU7

import Derived.Test.YtiodjepjbooniaaG10

namespace Go.Proofs.Ytiodjepjbooniaa.uk

open Go.ChangeShapes Go.WideShapes Go.ChangeAt Go.RowKit

open Go.Proofs.Ytiodjepjbooniaa.cq Go.Proofs.Ytiodjepjbooniaa.vk Go.Proofs.Ytiodjepjbooniaa.bk Go.Proofs.Ytiodjepjbooniaa.wk

set_option linter.unusedVariables false
set_option maxRecDepth 100000 in
set_option maxHeartbeats 3000000 in
theorem rencode_calls (v : Value) (b : Bk) (m : Int) (A : Option Addr) (n c : Nat) (q : List Int) (w : World) (h : IsBk w v b) (hR : Rt b) (hm1 : 1 ≤ m) (hm3 : m ≤ 3) (h2 : wo.IsI w A n c q) (hq : vq.Vec q) (hnd : (n : Int) = b.d) :
    Calls Try.prog 19 #[v, .int .i64 m, .slice A n c] w fun e w' => ∃ u, e = .returned u ∧ IsV w' u (enc m b q) ∧ Below w.heap.size w w' := by
  obtain ⟨i0, hi9, hz0, hz1, hz2⟩ := info_parts infoIz
  obtain ⟨A0, n0, c0, AW, nW, cW, rfl, hi, hW, hd⟩ := h
  have hb0 := below_new w (.cells #[.int .i64 b.d, .slice A0 n0 c0, .slice AW nW cW] 25)
  have hT0 := Three.new w (.int .i64 b.d) (.slice A0 n0 c0) (.slice AW nW cW)
  have hPC := fun k (hk : k < b.cuts.length) w' (hb : Below w.heap.size w w') => rpart_calls (.agg #[.int .i64 b.d, .slice A0 n0 c0, .slice AW nW cW]) b k A n c q w' (IsBk.below ⟨_, _, _, _, _, _, rfl, hi, hW, hd⟩ hb) hR hk (isI_below h2 hb) hnd
  obtain rfl : nW = n0 := by rw [← hW.1, ← hi.1]; exact hR.wl
  have hn8 : nW ≤ 8 := by rw [← hi.1]; exact hR.div.n8
  have hmW := hW.2.2.1
  have hncW := hW.2.1
  have hm0 := hi.2.2.1
  have hnc0 := hi.2.1
  have HPCC := Lib.hid hPC
  have HW := Lib.hid (isW_below hW hb0)
  have HIL := Lib.hid hi.1
  have HEL : Hid ((enc m b q).length = nW) := by show _ = _; rw [enc_len hR, hW.1]
  have HEB := Lib.hid (enc_bd (m := m) hR q)
  have HR := Lib.hid hR
  have HM1 := Lib.hid hm1
  have HM3 := Lib.hid hm3
  have HVQ := Lib.hid hq
  have HND : Hid ((q.length : Int) = b.d) := by show _ = _; rw [h2.1]; exact hnd
  have HB0 := Lib.hid hb0
  have HT := Lib.hid hT0
  have hnm := h2.2.2.1
  have hnc := h2.2.1
  clear hi hW hd hR hm1 hm3 hq hnd h2 hPC hb0
  go_enter Try.func19, Try.ntmps19
  generalize hwE : w.alloc (.cells #[.int .i64 b.d, .slice A0 nW c0, .slice AW nW cW] 25) = wE at *
  obtain ⟨g, hg⟩ : ∃ g, w.heap.size = g := ⟨_, rfl⟩
  have HG := Lib.hid hg
  rw [hg] at HT
  clear hT0
  go_wp2_with fail
  try simp only [hg]
  try simp only [hwE]
  clear hg hwE
  go_loopg [7, 8] nW (fun gk u x wr => ∃ (k : Nat) (v0 : Value), k + gk = nW ∧ v0 = u ∧ x = .int .i64 (k : Int) ∧ wr.ownsRow wE.heap.size 3 1 v0 k (iv ((enc m b q).take k)) ∧ Below wE.heap.size wE wr)
  case atStart => exact ⟨0, _, by omega, rfl, rfl, by simpa [iv] using World.ownsRow_nil _ _ _ _, Below.refl _ _⟩
  case round =>
    obtain ⟨k, v0, hk, hv0, rfl, hown, hbel⟩ := hrel
    subst hv0
    have HK := Lib.hid hk
    have HOWN := Lib.hid hown
    have HBEL := Lib.hid hbel
    have hkn : k ≤ nW := by omega
    have hTR := HT.out.below hbel
    have hc1 := hTR.c1
    have hc2 := hTR.c2
    clear hk hown
    by_cases hlt : k < nW
    · obtain ⟨b7, o7, A8, n8, c8, l8, rfl, hb7, hc7, hI8, hX8⟩ := isW_get (isW_below HW.out hbel) hlt
      have hk2 : k < b.cuts.length := by rw [HIL.out]; exact hlt
      obtain ⟨y0, hy0⟩ : ∃ y, b.cuts[k]? = some y := ⟨_, List.getElem?_eq_getElem hk2⟩
      obtain ⟨y1, hy1⟩ : ∃ y, endAt b.cuts b.d k = y := ⟨_, rfl⟩
      have hDA := HR.out.div.at hy0
      have hok := HR.out.ok _ _ _ hX8 hy0
      have HPC : Hid (∀ w', Below wE.heap.size wE w' → _) := fun w' hb => HPCC.out k hk2 w' (HB0.out.trans (hb.mono HB0.out.size))
      rw [spa_of (sp_at (d := b.d) hy0), hy1] at HPC
      rw [hy1] at hDA hok
      have hle : y1 ≤ (q.length : Int) := by rw [HND.out]; exact hDA.2.2
      have HLQ := Lib.hid (pt_len (v := q) (p := (y0, y1)) hDA.1 (Int.le_of_lt hDA.2.1) hle)
      have HVP := Lib.hid (vec_part HVQ.out (p := (y0, y1)) hDA.1 hDA.2.1 hle)
      have HENC : Hid ((enc m b q)[k]? = some (lst (trow m q (l8, (y0, y1))) : Int)) := by
        show _ = _
        rw [enc_at hX8 hy0, hy1]
      have hl8 := hI8.1
      have hn81 : 1 ≤ n8 := by rw [← hl8]; exact hok.1.1
      obtain ⟨b8, o8, -, -, -, -, rfl, hb8, -, -, -⟩ := isVV_get hI8 (k := 0) (by omega)
      have hm8 := hI8.2.2.1
      have hnc8 := hI8.2.1
      have hlt0 : (k : Int) < (nW : Int) := by omega
      have HI8 := Lib.hid hI8
      have HTW := Lib.hid hTR
      have HOKW := Lib.hid hok.2
      have HL8 : Hid (lstk (trow m q (l8, (y0, y1))) n8 = lst (trow m q (l8, (y0, y1)))) := by show _ = _; unfold lst; rw [trow_len, hl8]
      have HC7W := Lib.hid hc7
      have HB7W := Lib.hid hb7
      have HB8W := Lib.hid hb8
      clear hX8 hy0 hy1 hDA hok hle hl8 hI8 hb8 hbel
      go_wp2_with fail
      obtain ⟨w0, hw0⟩ : ∃ u, u = wr := ⟨_, rfl⟩
      clear hc1 hc2 hc7 hb7 hTR
      go_loopg [9, 10] n8 (fun gk u x wr => ∃ i p : Nat, i + gk = n8 ∧ x = .int .i64 (i : Int) ∧ u = .int .i64 (p : Int) ∧ p = lstk (trow m q (l8, (y0, y1))) i ∧ Below w0.heap.size w0 wr)
      case atStart => exact ⟨0, 0, by omega, rfl, rfl, rfl, by rw [hw0]; exact Below.refl _ _⟩
      case round =>
        obtain ⟨i, p, hi, rfl, rfl, hp, hbi⟩ := hrel
        subst hw0
        have HKI := Lib.hid hi
        have HBI := Lib.hid hbi
        have hin : i ≤ n8 := by omega
        have HTR := Lib.hid (HTW.out.below hbi)
        have hc1 := HTR.out.c1
        have hc2 := HTR.out.c2
        have HC7 : Hid (wr.cell? ⟨b7, o7 + k, none⟩ = some (.slice (some ⟨b8, o8, none⟩) n8 c8)) := (hbi.cell (p := ⟨b7, o7 + k, none⟩) HB7W.out).trans HC7W.out
        have HB7 : Hid (b7 < wr.heap.size) := Nat.lt_of_lt_of_le HB7W.out hbi.size
        have HB8 : Hid (b8 < wr.heap.size) := Nat.lt_of_lt_of_le HB8W.out hbi.size
        have HBR : Hid (Below wE.heap.size wE wr) := HBEL.out.trans (hbi.mono HBEL.out.size)
        have HSZ : Hid (wE.heap.size ≤ wr.heap.size) := HBR.out.size
        by_cases hlt2 : i < n8
        · obtain ⟨bb, oo, Ai, ni, ci, li, eA, -, hci, hIi, hXi⟩ := isVV_get (isVV_below HI8.out hbi) hlt2
          cases eA
          have hpn : p < n8 := by have := lstk_lt (trow m q (l8, (y0, y1))) i; omega
          obtain ⟨bb, oo, Ap, np, cp, lp, eA, -, hcp, hIp, hXp⟩ := isVV_get (isVV_below HI8.out hbi) hpn
          cases eA
          have HVi := Lib.hid (HOKW.out li (List.mem_of_getElem? hXi))
          have HVp := Lib.hid (HOKW.out lp (List.mem_of_getElem? hXp))
          obtain ⟨ri, hri⟩ : ∃ z, vq.key m li (pt q (y0, y1)) = z := ⟨_, rfl⟩
          obtain ⟨rp, hrp⟩ : ∃ z, vq.key m lp (pt q (y0, y1)) = z := ⟨_, rfl⟩
          have HST : Hid (lstep (trow m q (l8, (y0, y1))) p i = if ri < rp then i else p) := by
            show _ = _
            unfold lstep
            rw [trow_at hXi, trow_at hXp, ← hri, ← hrp]
          have HSS : Hid (lstk (trow m q (l8, (y0, y1))) (i + 1) = lstep (trow m q (l8, (y0, y1))) p i) := by show _ = _; rw [lstk_succ, ← hp]
          have HRi := Lib.hid hri
          have HRp := Lib.hid hrp
          have HIi := Lib.hid hIi
          have HIp := Lib.hid hIp
          have HCi := Lib.hid hci
          have HCp := Lib.hid hcp
          have hlt3 : (i : Int) < (n8 : Int) := by omega
          have hlt4 : (p : Int) < (n8 : Int) := by omega
          have hc7 := HC7.out
          clear hi hp hXi hXp hri hrp hIi hIp hci hcp hbi
          go_wp2_with fail
          clear hc1 hc2 hc7
          refine wk.region_tailS 29 [.is (.int .i64 m), .is (.pointer (some ⟨g, 2, none⟩)), .is (.slice (some ⟨b7, o7, none⟩) nW cW), .is (.int .i64 (k : Int)), .is (.pointer (some ⟨b7, o7 + k, none⟩)), .is (.slice (some ⟨b8, o8, none⟩) n8 c8), .is (.int .i64 (i : Int)), .is (.pointer (some ⟨b8, o8 + i, none⟩)), .is (.slice Ai ni ci), .is (.agg #[.int .i64 b.d, .slice A0 nW c0, .slice (some ⟨b7, o7, none⟩) nW cW]), .is (.int .i64 (k : Int)), .is (.slice A n c), .st (fun u x => ∃ A n c, x = .slice A n c ∧ wo.IsI u A n c (pt q (y0, y1))) (fun u u2 x h hb => by obtain ⟨A, n, c, h1, h2⟩ := h; exact ⟨A, n, c, h1, isI_below h2 hb⟩), .is (.int .i64 ri), .is (.int .i64 m), .is (.pointer (some ⟨g, 2, none⟩)), .is (.slice (some ⟨b7, o7, none⟩) nW cW), .is (.int .i64 (k : Int)), .is (.pointer (some ⟨b7, o7 + k, none⟩)), .is (.slice (some ⟨b8, o8, none⟩) n8 c8), .is (.int .i64 (p : Int)), .is (.pointer (some ⟨b8, o8 + p, none⟩)), .is (.slice Ap np cp), .is (.agg #[.int .i64 b.d, .slice A0 nW c0, .slice (some ⟨b7, o7, none⟩) nW cW]), .is (.int .i64 (k : Int)), .is (.slice A n c), .st (fun u x => ∃ A n c, x = .slice A n c ∧ wo.IsI u A n c (pt q (y0, y1))) (fun u u2 x h hb => by obtain ⟨A, n, c, h1, h2⟩ := h; exact ⟨A, n, c, h1, isI_below h2 hb⟩), .is (.int .i64 rp), .is (.bool (decide (ri < rp)))] [some 28, some 29, some 30, some 31, some 32, some 33, some 34, some 35, some 36, some 37, some 38, some 39, some 40, some 41, some 42, some 43, some 44, some 45, some 46, some 47, some 48, some 49, some 50, some 51, some 52, some 53, some 54, some 55, some 56] (by kernel_rfl) (by kernel_rfl) (by kernel_rfl) (by kernel_rfl) [] (by kernel_rfl) (by intro p hp; cases hp) (by kernel_rfl) (by kernel_rfl) ?hstep ?hdone
          case hstep =>
            intro i o ho hi hns E w4 hb4 D
            have hi2 : i = 0 ∨ i = 1 ∨ i = 2 ∨ i = 3 ∨ i = 4 ∨ i = 5 ∨ i = 6 ∨ i = 7 ∨ i = 8 ∨ i = 9 ∨ i = 10 ∨ i = 11 ∨ i = 12 ∨ i = 13 ∨ i = 14 ∨ i = 15 ∨ i = 16 ∨ i = 17 ∨ i = 18 ∨ i = 19 ∨ i = 20 ∨ i = 21 ∨ i = 22 ∨ i = 23 ∨ i = 24 ∨ i = 25 ∨ i = 26 ∨ i = 27 ∨ i = 28 := by omega
            clear hi
            rcases hi2 with rfl | rfl | rfl | rfl | rfl | rfl | rfl | rfl | rfl | rfl | rfl | rfl | rfl | rfl | rfl | rfl | rfl | rfl | rfl | rfl | rfl | rfl | rfl | rfl | rfl | rfl | rfl | rfl | rfl
            ·
              have ho2 := (Array.getElem?_eq_some_iff.1 ho).2
              simp only [List.getElem_toArray, List.getElem_cons_zero] at ho2
              subst ho2
              clear ho
              have e1 := D.old 1 (by kernel_rfl)
              exact wk.does_move rfl (by rw [e1]; rfl)
            ·
              have ho2 := (Array.getElem?_eq_some_iff.1 ho).2
              simp only [List.getElem_toArray, List.getElem_cons_succ, List.getElem_cons_zero] at ho2
              subst ho2
              clear ho
              have e3 := D.old 3 (by kernel_rfl)
              exact wk.does_run (by simp only [execOp]; rw [show E (.tmp 3) = .pointer (some ⟨g, 0, none⟩) by rw [e3]; rfl]; go_simp) rfl
            ·
              have ho2 := (Array.getElem?_eq_some_iff.1 ho).2
              simp only [List.getElem_toArray, List.getElem_cons_succ, List.getElem_cons_zero] at ho2
              subst ho2
              clear ho
              have e29 := D.is { on := 1, ground := .data } (by simp) rfl rfl 29 rfl
              exact wk.does_load1 rfl e29 ((HTR.out.below ((Below.refl _ _).drew.trans hb4)).c2) Try.underlying23 rfl rfl
            ·
              have ho2 := (Array.getElem?_eq_some_iff.1 ho).2
              simp only [List.getElem_toArray, List.getElem_cons_succ, List.getElem_cons_zero] at ho2
              subst ho2
              clear ho
              have e8 := D.old 8 (by kernel_rfl)
              exact wk.does_move rfl (by rw [e8]; rfl)
            ·
              have ho2 := (Array.getElem?_eq_some_iff.1 ho).2
              simp only [List.getElem_toArray, List.getElem_cons_succ, List.getElem_cons_zero] at ho2
              subst ho2
              clear ho
              have e30 := D.is { on := 2, ground := .data } (by simp) rfl rfl 30 rfl
              have e31 := D.is { on := 3, ground := .data } (by simp) rfl rfl 31 rfl
              exact wk.does_run (by simp only [execOp]; rw [show E (.tmp 30) = _ from e30, show E (.tmp 31) = _ from e31]; go_simp) rfl
            ·
              have ho2 := (Array.getElem?_eq_some_iff.1 ho).2
              simp only [List.getElem_toArray, List.getElem_cons_succ, List.getElem_cons_zero] at ho2
              subst ho2
              clear ho
              have e32 := D.is { on := 4, ground := .data } (by simp) rfl rfl 32 rfl
              exact wk.does_load1 rfl e32 ((((Below.refl _ _).drew.trans hb4).cell (p := ⟨_, _, none⟩) HB7.out).trans HC7.out) Try.underlying39 rfl rfl
            ·
              have ho2 := (Array.getElem?_eq_some_iff.1 ho).2
              simp only [List.getElem_toArray, List.getElem_cons_succ, List.getElem_cons_zero] at ho2
              subst ho2
              clear ho
              have e10 := D.old 10 (by kernel_rfl)
              exact wk.does_move rfl (by rw [e10]; rfl)
            ·
              have ho2 := (Array.getElem?_eq_some_iff.1 ho).2
              simp only [List.getElem_toArray, List.getElem_cons_succ, List.getElem_cons_zero] at ho2
              subst ho2
              clear ho
              have e33 := D.is { on := 5, ground := .data } (by simp) rfl rfl 33 rfl
              have e34 := D.is { on := 6, ground := .data } (by simp) rfl rfl 34 rfl
              exact wk.does_run (by simp only [execOp]; rw [show E (.tmp 33) = _ from e33, show E (.tmp 34) = _ from e34]; go_simp) rfl
            ·
              have ho2 := (Array.getElem?_eq_some_iff.1 ho).2
              simp only [List.getElem_toArray, List.getElem_cons_succ, List.getElem_cons_zero] at ho2
              subst ho2
              clear ho
              have e35 := D.is { on := 7, ground := .data } (by simp) rfl rfl 35 rfl
              exact wk.does_load1 rfl e35 ((((Below.refl _ _).drew.trans hb4).cell (p := ⟨_, _, none⟩) HB8.out).trans HCi.out) Try.underlying22 rfl rfl
            ·
              have ho2 := (Array.getElem?_eq_some_iff.1 ho).2
              simp only [List.getElem_toArray, List.getElem_cons_succ, List.getElem_cons_zero] at ho2
              subst ho2
              clear ho
              have e3 := D.old 3 (by kernel_rfl)
              exact wk.does_load_agg rfl (show E (.tmp 3) = .pointer (some ⟨g, 0, none⟩) by rw [e3]; rfl) (cs := [.int .i64 b.d, .slice A0 nW c0, .slice (some ⟨b7, o7, none⟩) nW cW]) (HTR.out.below ((Below.refl _ _).drew.trans hb4)).cells3 Try.underlying25 rfl (by kernel_rfl) rfl
            ·
              have ho2 := (Array.getElem?_eq_some_iff.1 ho).2
              simp only [List.getElem_toArray, List.getElem_cons_succ, List.getElem_cons_zero] at ho2
              subst ho2
              clear ho
              have e8 := D.old 8 (by kernel_rfl)
              exact wk.does_move rfl (by rw [e8]; rfl)
            ·
              have ho2 := (Array.getElem?_eq_some_iff.1 ho).2
              simp only [List.getElem_toArray, List.getElem_cons_succ, List.getElem_cons_zero] at ho2
              subst ho2
              clear ho
              have e2 := D.old 2 (by kernel_rfl)
              exact wk.does_move rfl (by rw [e2]; rfl)
            ·
              have ho2 := (Array.getElem?_eq_some_iff.1 ho).2
              simp only [List.getElem_toArray, List.getElem_cons_succ, List.getElem_cons_zero] at ho2
              subst ho2
              clear ho
              have e37 := D.is { on := 9, ground := .data } (by simp) rfl rfl 37 rfl
              have e38 := D.is { on := 10, ground := .data } (by simp) rfl rfl 38 rfl
              have e39 := D.is { on := 11, ground := .data } (by simp) rfl rfl 39 rfl
              refine wk.does_fn (f := 47) (vs := #[.agg #[.int .i64 b.d, .slice A0 nW c0, .slice (some ⟨b7, o7, none⟩) nW cW], .int .i64 (k : Int), .slice A n c]) rfl (D.fn _) (by simp [e37, e38, e39]) (by go_simp) ?_
              refine (HPC.out w4 (HBR.out.trans (((Below.refl _ _).drew.trans hb4).mono HSZ.out))).mono ?_
              rintro e w7 ⟨A5, n5, c5, rfl, hI5, hb7⟩
              exact ⟨_, rfl, hb7, A5, n5, c5, rfl, hI5⟩
            ·
              have ho2 := (Array.getElem?_eq_some_iff.1 ho).2
              simp only [List.getElem_toArray, List.getElem_cons_succ, List.getElem_cons_zero] at ho2
              subst ho2
              clear ho
              have e28 := D.is { on := 0, ground := .data } (by simp) rfl rfl 28 rfl
              have e36 := D.is { on := 8, ground := .data } (by simp) rfl rfl 36 rfl
              have s40 := D.st { on := 12, ground := .data } (by simp) rfl rfl 40 rfl
              obtain ⟨A5, n5, c5, e5, hI5⟩ := s40
              obtain rfl : n5 = ni := by have h1 := hI5.1; have h2 := HIi.out.1; have h3 := HLQ.out; have h4 := HVi.out.1; omega
              refine wk.does_fn (f := 36) (vs := #[.int .i64 m, .slice Ai n5 ci, .slice A5 n5 c5]) rfl (D.fn _) (by simp [e28, e36, show E (.tmp 40) = _ from e5]) (by go_simp) ?_
              refine (rkey_calls m _ _ n5 _ _ li (pt q (y0, y1)) w4 HM1.out HM3.out (isI_below HIi.out ((Below.refl _ _).drew.trans hb4)) hI5 (fewv HVi.out.2) (fewv HVP.out) (vq.sub_bound HVi.out.2 HVP.out) (by rw [← hI5.1]; exact HVP.out.le)).mono ?_
              rintro e w7 ⟨rfl, hb7⟩
              exact ⟨_, rfl, hb7, by rw [HRi.out]; rfl⟩
            ·
              have ho2 := (Array.getElem?_eq_some_iff.1 ho).2
              simp only [List.getElem_toArray, List.getElem_cons_succ, List.getElem_cons_zero] at ho2
              subst ho2
              clear ho
              have e1 := D.old 1 (by kernel_rfl)
              exact wk.does_move rfl (by rw [e1]; rfl)
            ·
              have ho2 := (Array.getElem?_eq_some_iff.1 ho).2
              simp only [List.getElem_toArray, List.getElem_cons_succ, List.getElem_cons_zero] at ho2
              subst ho2
              clear ho
              have e3 := D.old 3 (by kernel_rfl)
              exact wk.does_run (by simp only [execOp]; rw [show E (.tmp 3) = .pointer (some ⟨g, 0, none⟩) by rw [e3]; rfl]; go_simp) rfl
            ·
              have ho2 := (Array.getElem?_eq_some_iff.1 ho).2
              simp only [List.getElem_toArray, List.getElem_cons_succ, List.getElem_cons_zero] at ho2
              subst ho2
              clear ho
              have e43 := D.is { on := 15, ground := .data } (by simp) rfl rfl 43 rfl
              exact wk.does_load1 rfl e43 ((HTR.out.below ((Below.refl _ _).drew.trans hb4)).c2) Try.underlying23 rfl rfl
            ·
              have ho2 := (Array.getElem?_eq_some_iff.1 ho).2
              simp only [List.getElem_toArray, List.getElem_cons_succ, List.getElem_cons_zero] at ho2
              subst ho2
              clear ho
              have e8 := D.old 8 (by kernel_rfl)
              exact wk.does_move rfl (by rw [e8]; rfl)
            ·
              have ho2 := (Array.getElem?_eq_some_iff.1 ho).2
              simp only [List.getElem_toArray, List.getElem_cons_succ, List.getElem_cons_zero] at ho2
              subst ho2
              clear ho
              have e44 := D.is { on := 16, ground := .data } (by simp) rfl rfl 44 rfl
              have e45 := D.is { on := 17, ground := .data } (by simp) rfl rfl 45 rfl
              exact wk.does_run (by simp only [execOp]; rw [show E (.tmp 44) = _ from e44, show E (.tmp 45) = _ from e45]; go_simp) rfl
            ·
              have ho2 := (Array.getElem?_eq_some_iff.1 ho).2
              simp only [List.getElem_toArray, List.getElem_cons_succ, List.getElem_cons_zero] at ho2
              subst ho2
              clear ho
              have e46 := D.is { on := 18, ground := .data } (by simp) rfl rfl 46 rfl
              exact wk.does_load1 rfl e46 ((((Below.refl _ _).drew.trans hb4).cell (p := ⟨_, _, none⟩) HB7.out).trans HC7.out) Try.underlying39 rfl rfl
            ·
              have ho2 := (Array.getElem?_eq_some_iff.1 ho).2
              simp only [List.getElem_toArray, List.getElem_cons_succ, List.getElem_cons_zero] at ho2
              subst ho2
              clear ho
              have e9 := D.old 9 (by kernel_rfl)
              exact wk.does_move rfl (by rw [e9]; rfl)
            ·
              have ho2 := (Array.getElem?_eq_some_iff.1 ho).2
              simp only [List.getElem_toArray, List.getElem_cons_succ, List.getElem_cons_zero] at ho2
              subst ho2
              clear ho
              have e47 := D.is { on := 19, ground := .data } (by simp) rfl rfl 47 rfl
              have e48 := D.is { on := 20, ground := .data } (by simp) rfl rfl 48 rfl
              exact wk.does_run (by simp only [execOp]; rw [show E (.tmp 47) = _ from e47, show E (.tmp 48) = _ from e48]; go_simp) rfl
            ·
              have ho2 := (Array.getElem?_eq_some_iff.1 ho).2
              simp only [List.getElem_toArray, List.getElem_cons_succ, List.getElem_cons_zero] at ho2
              subst ho2
              clear ho
              have e49 := D.is { on := 21, ground := .data } (by simp) rfl rfl 49 rfl
              exact wk.does_load1 rfl e49 ((((Below.refl _ _).drew.trans hb4).cell (p := ⟨_, _, none⟩) HB8.out).trans HCp.out) Try.underlying22 rfl rfl
            ·
              have ho2 := (Array.getElem?_eq_some_iff.1 ho).2
              simp only [List.getElem_toArray, List.getElem_cons_succ, List.getElem_cons_zero] at ho2
              subst ho2
              clear ho
              have e3 := D.old 3 (by kernel_rfl)
              exact wk.does_load_agg rfl (show E (.tmp 3) = .pointer (some ⟨g, 0, none⟩) by rw [e3]; rfl) (cs := [.int .i64 b.d, .slice A0 nW c0, .slice (some ⟨b7, o7, none⟩) nW cW]) (HTR.out.below ((Below.refl _ _).drew.trans hb4)).cells3 Try.underlying25 rfl (by kernel_rfl) rfl
            ·
              have ho2 := (Array.getElem?_eq_some_iff.1 ho).2
              simp only [List.getElem_toArray, List.getElem_cons_succ, List.getElem_cons_zero] at ho2
              subst ho2
              clear ho
              have e8 := D.old 8 (by kernel_rfl)
              exact wk.does_move rfl (by rw [e8]; rfl)
            ·
              have ho2 := (Array.getElem?_eq_some_iff.1 ho).2
              simp only [List.getElem_toArray, List.getElem_cons_succ, List.getElem_cons_zero] at ho2
              subst ho2
              clear ho
              have e2 := D.old 2 (by kernel_rfl)
              exact wk.does_move rfl (by rw [e2]; rfl)
            ·
              have ho2 := (Array.getElem?_eq_some_iff.1 ho).2
              simp only [List.getElem_toArray, List.getElem_cons_succ, List.getElem_cons_zero] at ho2
              subst ho2
              clear ho
              have e51 := D.is { on := 23, ground := .data } (by simp) rfl rfl 51 rfl
              have e52 := D.is { on := 24, ground := .data } (by simp) rfl rfl 52 rfl
              have e53 := D.is { on := 25, ground := .data } (by simp) rfl rfl 53 rfl
              refine wk.does_fn (f := 47) (vs := #[.agg #[.int .i64 b.d, .slice A0 nW c0, .slice (some ⟨b7, o7, none⟩) nW cW], .int .i64 (k : Int), .slice A n c]) rfl (D.fn _) (by simp [e51, e52, e53]) (by go_simp) ?_
              refine (HPC.out w4 (HBR.out.trans (((Below.refl _ _).drew.trans hb4).mono HSZ.out))).mono ?_
              rintro e w7 ⟨A5, n5, c5, rfl, hI5, hb7⟩
              exact ⟨_, rfl, hb7, A5, n5, c5, rfl, hI5⟩
            ·
              have ho2 := (Array.getElem?_eq_some_iff.1 ho).2
              simp only [List.getElem_toArray, List.getElem_cons_succ, List.getElem_cons_zero] at ho2
              subst ho2
              clear ho
              have e42 := D.is { on := 14, ground := .data } (by simp) rfl rfl 42 rfl
              have e50 := D.is { on := 22, ground := .data } (by simp) rfl rfl 50 rfl
              have s54 := D.st { on := 26, ground := .data } (by simp) rfl rfl 54 rfl
              obtain ⟨A5, n5, c5, e5, hI5⟩ := s54
              obtain rfl : n5 = np := by have h1 := hI5.1; have h2 := HIp.out.1; have h3 := HLQ.out; have h4 := HVp.out.1; omega
              refine wk.does_fn (f := 36) (vs := #[.int .i64 m, .slice Ap n5 cp, .slice A5 n5 c5]) rfl (D.fn _) (by simp [e42, e50, show E (.tmp 54) = _ from e5]) (by go_simp) ?_
              refine (rkey_calls m _ _ n5 _ _ lp (pt q (y0, y1)) w4 HM1.out HM3.out (isI_below HIp.out ((Below.refl _ _).drew.trans hb4)) hI5 (fewv HVp.out.2) (fewv HVP.out) (vq.sub_bound HVp.out.2 HVP.out) (by rw [← hI5.1]; exact HVP.out.le)).mono ?_
              rintro e w7 ⟨rfl, hb7⟩
              exact ⟨_, rfl, hb7, by rw [HRp.out]; rfl⟩
            ·
              have ho2 := (Array.getElem?_eq_some_iff.1 ho).2
              simp only [List.getElem_toArray, List.getElem_cons_succ, List.getElem_cons_zero] at ho2
              subst ho2
              clear ho
              have e41 := D.is { on := 13, ground := .data } (by simp) rfl rfl 41 rfl
              have e55 := D.is { on := 27, ground := .data } (by simp) rfl rfl 55 rfl
              exact wk.does_run (by simp only [execOp]; rw [show E (.tmp 41) = _ from e41, show E (.tmp 55) = _ from e55]; go_simp) rfl
          case hdone =>
            intro vals w4 hb4 hv
            have h28 := hv 28 (by omega)
            clear hv
            replace h28 : vals 28 = (.bool (decide (ri < rp))) := h28
            simp only [List.drop_succ_cons, List.drop_zero, wpList, wk.setL, List.setIfInBounds_toArray, List.set_cons_zero, List.set_cons_succ, Nat.zero_add, Nat.reduceAdd, h28]
            generalize vals 0 = x0
            generalize vals 1 = x1
            generalize vals 2 = x2
            generalize vals 3 = x3
            generalize vals 4 = x4
            generalize vals 5 = x5
            generalize vals 6 = x6
            generalize vals 7 = x7
            generalize vals 8 = x8
            generalize vals 9 = x9
            generalize vals 10 = x10
            generalize vals 11 = x11
            generalize vals 12 = x12
            generalize vals 13 = x13
            generalize vals 14 = x14
            generalize vals 15 = x15
            generalize vals 16 = x16
            generalize vals 17 = x17
            generalize vals 18 = x18
            generalize vals 19 = x19
            generalize vals 20 = x20
            generalize vals 21 = x21
            generalize vals 22 = x22
            generalize vals 23 = x23
            generalize vals 24 = x24
            generalize vals 25 = x25
            generalize vals 26 = x26
            generalize vals 27 = x27
            have hb5 : Below w0.heap.size w0 w4 := HBI.out.trans (((Below.refl _ _).drew.trans hb4).mono HBI.out.size)
            clear hb4
            have HB5 := Lib.hid hb5
            clear hb5
            by_cases hg : ri < rp
            · have HT2 : Hid (lstep (trow m q (l8, (y0, y1))) p i = i) := by show _ = _; rw [HST.out, if_pos hg]
              simp only [decide_eq_true hg] at *
              go_wp2_with fail
              go_roundg (gk - 1)
              case measure => have := HKI.out; omega
              case rel => exact ⟨i + 1, i, by have := HKI.out; omega, by go_num, rfl, by rw [HSS.out, HT2.out], HB5.out⟩
            · have HT2 : Hid (lstep (trow m q (l8, (y0, y1))) p i = p) := by show _ = _; rw [HST.out, if_neg hg]
              simp only [decide_eq_false hg] at *
              go_wp2_with fail
              go_roundg (gk - 1)
              case measure => have := HKI.out; omega
              case rel => exact ⟨i + 1, p, by have := HKI.out; omega, by go_num, rfl, by rw [HSS.out, HT2.out], HB5.out⟩
        · obtain rfl : i = n8 := by omega
          have hc7 := HC7.out
          rw [HL8.out] at hp
          have HP := Lib.hid hp
          have hpB : p ≤ 255 := by
            have h1 := HEB.out (p : Int) (List.mem_of_getElem? (by rw [HENC.out, ← hp]))
            omega
          have hown2 := keptB HOWN.out hbi
          have hBw : wE.heap.size ≤ wr.heap.size := HSZ.out
          have HO2 := Lib.hid (keptB hown2 (below_new wr (.cells #[.int .i64 (p : Int)] 3)))
          have HCG := Lib.hid (Row1.new wr 3 (.int .i64 (p : Int))).cells
          clear hi hp hbi hown2
          go_wp2_with (at_builtin; refine wpList_append_own _ rfl _ _ 22 rfl wE.heap.size 3 i0 (.int .i64 0) 1 8 Try.underlying22 hi9 hz0 hz1 hz2 rfl (by decide) _ _ _ rfl HO2.out ⟨wr.heap.size, 0, none⟩ 1 1 [.int .i64 (p : Int)] rfl rfl HCG.out ?c2 ?c3 ?c4 ?c5 ?_)
          case c2 => simp [Value.oneCell']
          case c3 => unfold maxLen; omega
          case c4 => omega
          case c5 => rw [size_new]; omega
          intro v' w5 hown5 hgrow5 _
          have hbe : Below wE.heap.size wE w5 := (HBR.out.alloc hBw _).grown hgrow5 (by rw [size_new]; omega) (fun q hq => (HO2.out.lt q hq).1)
          have HB5 := Lib.hid hbe
          have HO5 := Lib.hid hown5
          clear hown5 hgrow5 hbe
          go_wp2_with fail
          go_roundg (nW - (k + 1))
          case measure => have := HK.out; omega
          case rel =>
            refine ⟨k + 1, _, by omega, rfl, by go_num, ?_, HB5.out⟩
            have hO := HO5.out
            rw [List.take_add_one, HENC.out, ← HP.out]
            unfold iv at hO ⊢
            rw [List.map_append]
            simpa using hO
    · obtain rfl : k = nW := by omega
      have ho := HOWN.out
      rw [List.take_of_length_le (by have := HEL.out; omega)] at ho
      have HV := Lib.hid (isV_own ho (fun x hx => by have := HEB.out x hx; unfold I64; omega))
      have HBZ := Lib.hid (HB0.out.trans (hbel.mono HB0.out.size))
      clear ho hbel
      go_wp2_with fail
      go_ret
      exact ⟨_, rfl, HV.out, HBZ.out⟩
end Go.Proofs.Ytiodjepjbooniaa.uk
