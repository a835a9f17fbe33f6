/- Joined: Uo Ut Val3 Us. -/
import Derived.Test.YtiodjepjbooniaaG10

import Derived.Deep.Cut
/- spread. -/
namespace Go.Proofs.Ytiodjepjbooniaa.uk

open Go.ChangeShapes Go.WideShapes Go.ChangeAt Go.RowKit

open Go.Proofs.Ytiodjepjbooniaa.cq Go.Proofs.Ytiodjepjbooniaa.vk Go.Proofs.Ytiodjepjbooniaa.bk Go.Proofs.Ytiodjepjbooniaa.wk

set_option linter.unusedSimpArgs false

set_option linter.unusedVariables false
set_option maxRecDepth 100000 in
set_option maxHeartbeats 8000000 in
theorem spread_calls (A : Option Addr) (n c d M : Nat) (L : VV) (w : World) (h : IsVV w A n c L) (h1 : 1 ≤ n) (hn : n ≤ 4096) (hM1 : 1 ≤ M) (hM2 : M ≤ 256) (hv : ∀ v ∈ L, vq.Vec v) (hd : ∀ v ∈ L, v.length = d) :
    Calls Try.prog 58 #[.slice A n c, .int .i64 M] w fun e w' => ∃ A' n' c', e = .returned (.slice A' n' c') ∧ Sq w.heap.size [39, 25] (fun w2 => IsVV w2 A' n' c' (spread M L)) w' ∧ Below w.heap.size w w' := by
  obtain ⟨i0, hi9, hz0, hz1, hz2⟩ := info_parts infoVz
  have hm := h.2.2.1
  have hnc := h.2.1
  have hb0 := below_new w (.cells #[.int .i64 134217728] 3)
  have hc0 : (w.alloc (.cells #[.int .i64 134217728] 3)).cell? ⟨w.heap.size, 0, none⟩ = some (.int .i64 134217728) := cell_one_new w _ _ 0 _ rfl
  have HRP := Lib.hid (repeat_calls w.heap.size 134217728 n (w.alloc (.cells #[.int .i64 134217728] 3)) hc0 h1 hn)
  rw [size_new] at HRP
  have HL := Lib.hid h
  have HV := Lib.hid hv
  have HD := Lib.hid hd
  have HB0 := Lib.hid hb0
  have HLN : Hid (L.length = n) := h.1
  clear h hv hd hb0 hc0
  generalize hG : w.heap.size = G at *
  have HGE := Lib.hid hG
  go_enter Try.func58, Try.ntmps58
  go_wp2_with fail
  clear hG
  refine HRP.out.mono ?_
  rintro e w1 ⟨rfl, hrk, hb1⟩
  have HB1 := Lib.hid (HB0.out.trans (hb1.mono (by omega)))
  have HRK0 : Hid (RowK w1 (G + 1) (apw [] L)) := by show RowK _ _ _; rw [apw_nil, HLN.out]; exact hrk
  have hpb : G + 1 < w1.heap.size := hrk.lt
  clear HRP hrk hb1
  generalize hBp : w1.heap.size = Bp at *
  have HBPE := Lib.hid hBp
  have HPB : Hid (G + 1 < Bp) := hpb
  clear hBp
  go_wp2_with fail
  go_loopg [6, 7] M (fun g u6 u7 wr => ∃ (ws : VV) (wv : Value) (vals : List Value), ws.length + g = M ∧ wv = u7 ∧ u6 = .int .i64 (gst (apw ws L) : Nat) ∧ RowQ IsV Bp [22, 39, 25] 22 wr wv ws vals ∧ RowK wr (G + 1) (apw ws L) ∧ sprN (M - ws.length) ws L = spread M L ∧ Below G w wr ∧ Bp ≤ wr.heap.size)
  case atStart =>
    refine ⟨[], _, [], by simp, rfl, ?_, RowQ.nil _ _ _ _ _, HRK0.out, rfl, HB1.out, by have := HBPE.out; omega⟩
    rw [apw_nil, gst_rep]; rfl
  case round =>
    obtain ⟨ws, wv, vals, hj, rfl, rfl, hrow, hrk, hsp, hbel, hbs⟩ := hrel
    obtain ⟨Aw, cw, rfl⟩ := own_slice hrow.own
    have hwn : ws.length ≤ cw ∧ cw ≤ 9223372036854775807 := by
      obtain ⟨A9, c9, e9, hV9⟩ := hrow.isVV
      injection e9 with _ _ e9
      subst e9
      exact ⟨hV9.2.1, hV9.2.2.1⟩
    have hwn1 := hwn.1
    have hwn2 := hwn.2
    have HJ := Lib.hid hj
    have HROW := Lib.hid hrow
    have HRK1 := Lib.hid hrk
    have HSP := Lib.hid hsp
    have HBEL := Lib.hid hbel
    have HBS := Lib.hid hbs
    have hgl := gst_lt (l := apw ws L) (by rw [apw_len, HLN.out]; exact h1)
    have hgl2 := hgl
    rw [apw_len, HLN.out] at hgl2
    have hz := getD_at (d := 0) hgl
    have hzc := hrk.cell hz
    have hzb := ap1_bd ws (L.getD (gst (apw ws L)) [])
    have HEXIT : Hid (sprN (M - ws.length) ws L = ws → ∃ A' n' c', Ending.returned (.slice Aw ws.length cw) = .returned (.slice A' n' c') ∧ Sq G [39, 25] (fun w2 => IsVV w2 A' n' c' (spread M L)) wr ∧ Below G w wr) := fun he => by
      obtain ⟨A9, c9, e9, hq9⟩ := HROW.out.isVV_sq (es' := [39, 25]) (by intro x hx; simp only [List.mem_cons, List.not_mem_nil, or_false] at hx; rcases hx with rfl | rfl <;> simp) (by decide)
      injection e9 with e1 _ e3
      subst e1 e3
      refine ⟨_, _, _, rfl, ?_, HBEL.out⟩
      rw [← HSP.out, he]
      exact hq9.down (by have := HPB.out; omega) (fun e h => h)
    by_cases hlt : ws.length < M
    · have hlt0 : (ws.length : Int) < (M : Int) := by omega
      have hgl3 : ((gst (apw ws L) : Nat) : Int) < (n : Int) := by omega
      by_cases hpos : 0 < (apw ws L).getD (gst (apw ws L)) 0
      · obtain ⟨b4, o4, A4, n4, c4, l4, rfl, hb4, hc4, hI4, hL4⟩ := isVV_get (isVV_below HL.out (by rw [HGE.out]; exact hbel)) hgl2
        have hv4 := HV.out l4 (List.mem_of_getElem? hL4)
        have hd4 := HD.out l4 (List.mem_of_getElem? hL4)
        have hn4 : n4 = d := by rw [← hI4.1]; exact hd4
        have HCL := Lib.hid (clone_calls A4 n4 c4 l4 wr hI4 (by rw [← hI4.1]; exact hv4.pos) (by have := hv4.le; have := hI4.1; omega))
        have HNX : Hid (sprN (M - (ws ++ [l4]).length) (ws ++ [l4]) L = spread M L) := by
          show _ = _
          rw [← HSP.out, List.length_append, List.length_cons, List.length_nil, show M - ws.length = (M - (ws.length + (0 + 1))) + 1 by omega]
          conv => rhs; rw [sprN, if_pos hpos]
          rw [List.getD_eq_getElem?_getD, hL4]; rfl
        have HV4 := Lib.hid hv4
        have HL4 := Lib.hid hL4
        have HG4 : Hid (l4.length = n4) := hI4.1
        have HN4 := Lib.hid hn4
        generalize hf : gst (apw ws L) = f at *
        generalize (apw ws L).getD f 0 = zz at *
        clear hj hrow hrk hsp hbel hbs hI4 hL4 hv4 hd4 hn4 HEXIT hz hzb hgl hf
        go_wp2_with fail
        refine HCL.out.mono ?_
        rintro e w2 ⟨v8, rfl, hown8, hb8⟩
        have hs8 := hb8.size
        obtain ⟨A8, c8, rfl, hsq8⟩ := isI_own_sq (B := Bp) (es := [22, 39, 25]) hown8 HBS.out (vec_i64 HV4.out) (by decide)
        have HSQ8 := Lib.hid hsq8
        have HROW2 := Lib.hid (HROW.out.below hb8)
        have HRK2 := Lib.hid (HRK1.out.below hb8)
        have HB2 := Lib.hid (HBEL.out.trans (hb8.mono (by have := HBEL.out.size; have := HGE.out; omega)))
        have HBS2 : Hid (Bp ≤ w2.heap.size) := by have := HBS.out; show _ ≤ _; omega
        clear hown8 hb8 hsq8 hzc HCL HROW HRK1 HBEL
        go_wp2_with (at_builtin; refine wpList_append_own _ rfl _ _ 39 rfl Bp 22 i0 (.slice none 0 0) 1 24 Try.underlying39 hi9 hz0 hz1 hz2 rfl (by decide) _ _ _ rfl (HROW2.out.own.alloc _) ⟨w2.heap.size, 0, none⟩ 1 1 [.slice A8 n4 c8] rfl rfl ?c1 ?c2 ?c3 ?c4 ?c5 ?_)
        case c1 => exact cell_one_new _ _ _
        case c2 => simp [Value.oneCell']
        case c3 => unfold maxLen; omega
        case c4 => omega
        case c5 => have := HBS2.out; simp; omega
        intro v' w3 hown3 hgrow3 _
        have hk3 : Kq Bp [22, 39, 25] w2 w3 := (Kq.of_below (below_new w2 _)).trans (Kq.of_grown (keptB HROW2.out.own (below_new w2 _)) (by simp) hgrow3)
        have hrow3 := HROW2.out.push (by simp) (HSQ8.out.imp fun w' h => (⟨A8, n4, c8, rfl, h⟩ : IsV w' (.slice A8 n4 c8) l4)) _ hgrow3 hown3
        have hrk3 : RowK w3 (G + 1) (apw ws L) := by
          refine HRK2.out.at ((hgrow3.block (G + 1) (by simp; have := HRK2.out.lt; omega) (fun e => ?_)).trans ((below_new w2 _).block (G + 1) HRK2.out.lt))
          have := (HROW2.out.own.lt (G + 1) e.symm).1
          have := HPB.out
          omega
        have hb3 : Below G w w3 := (HB2.out.alloc (by have := HB2.out.size; have := HGE.out; omega) _).grown hgrow3 (by have := HB2.out.size; have := HGE.out; simp; omega) (fun q hq => by have := (HROW2.out.own.lt q hq).1; have := HPB.out; omega)
        have HSQ3 := Lib.hid (HSQ8.out.keep hk3)
        have HROW3 := Lib.hid hrow3
        have HRK3 := Lib.hid hrk3
        have HB3 := Lib.hid hb3
        have HBS3 : Hid (Bp ≤ w3.heap.size) := by have := hk3.size; have := HBS2.out; show _ ≤ _; omega
        clear hk3 hrow3 hrk3 hb3 hown3 hgrow3 HSQ8 HROW2 HRK2 HB2 HBS2
        go_wp2_with fail
        obtain ⟨gk1, hgk1⟩ : ∃ u, u = gk := ⟨_, rfl⟩
        rw [← hgk1] at HJ
        obtain ⟨w0, hw0⟩ : ∃ u, u = w3 := ⟨_, rfl⟩
        subst hw0
        obtain ⟨wo1, hwo⟩ : ∃ u, u = wr := ⟨_, rfl⟩
        subst hwo
        go_loopg [37] n (fun g2 u wr2 => ∃ i : Nat, i + g2 = n ∧ u = .int .i64 (i : Int) ∧ RowK wr2 (G + 1) (aph ws L l4 i) ∧ RowQ IsV Bp [22, 39, 25] 22 wr2 v' (ws ++ [l4]) (vals ++ [.slice A8 n4 c8]) ∧ Sq Bp [22, 39, 25] (fun w' => wo.IsI w' A8 n4 c8 l4) wr2 ∧ Below G w wr2 ∧ Bp ≤ wr2.heap.size)
        case atStart => exact ⟨0, by omega, rfl, by rw [aph_zero]; exact HRK3.out, HROW3.out, HSQ3.out, HB3.out, HBS3.out⟩
        case round =>
          obtain ⟨i, hi2, rfl, hrk2, hrow2, hsq2, hbel2, hbs2⟩ := hrel
          have HK2 := Lib.hid hi2
          have hin : i ≤ n := by omega
          by_cases hlt2 : i < n
          · have hbw2 : Below w.heap.size w wr := by rw [HGE.out]; exact hbel2
            obtain ⟨b5, o5, A5, n5, c5, l5, e5, hb5, hc5, hI5, hL5⟩ := isVV_get (isVV_below HL.out hbw2) hlt2
            cases e5
            have hv5 := HV.out l5 (List.mem_of_getElem? hL5)
            have hd5 := HD.out l5 (List.mem_of_getElem? hL5)
            obtain rfl : n4 = n5 := by have := hI5.1; have := HN4.out; omega
            have HKC := Lib.hid (fun w' (hb : Below wr.heap.size wr w') => key_calls 2 A5 A8 n4 c5 c8 l5 l4 w' (by omega) (by omega) (isI_below hI5 hb) (isI_below hsq2.now hb) (vq.sub_bound hv5 HV4.out) (by have := hv5.le; have := hI5.1; omega))
            have HAX : Hid ((aph ws L l4 i)[i]? = some (ap1 ws l5)) := aph_at hL5
            have HSET := Lib.hid (aph_set (ws := ws) (w := l4) hL5)
            have hxb := ap1_bd ws l5
            have hlt3 : (i : Int) < (n : Int) := by omega
            generalize ap1 ws l5 = x at *
            generalize vq.key 2 l5 l4 = z at *
            obtain ⟨mn, hmn⟩ : ∃ y, min x z = y := ⟨_, rfl⟩
            rw [hmn] at HSET
            have HMN := Lib.hid hmn
            have HRK := Lib.hid hrk2
            have HROW3 := Lib.hid hrow2
            have HSQW := Lib.hid hsq2
            have HBEL2 := Lib.hid hbel2
            have HGG := HGE
            have HBP : Hid (Bp ≤ wr.heap.size) := hbs2
            clear hi2 hrk2 hrow2 hsq2 hbel2 hbs2 hbw2 hI5 hL5 hv5 hd5 hb5
            go_wp2_with fail
            refine wk.region_tailS 11 [.is (.slice (some ⟨G + 1, 0, none⟩) n n), .is (.int .i64 (i : Int)), .is (.slice (some ⟨G + 1, 0, none⟩) n n), .is (.int .i64 (i : Int)), .is (.pointer (some ⟨G + 1, i, none⟩)), .is (.int .i64 x), .is (.slice A5 n4 c5), .is (.slice A8 n4 c8), .is (.int .i64 z), .is (.int .i64 mn), .is (.pointer (some ⟨G + 1, i, none⟩))] [some 42, some 43, some 44, some 45, some 46, some 47, some 48, some 49, some 50, some 51, some 52] (by kernel_rfl) (by kernel_rfl) (by kernel_rfl) (by kernel_rfl) [] (by kernel_rfl) (by intro p hp; cases hp) (by kernel_rfl) (by kernel_rfl) ?hstep ?hdone
            case hstep =>
              intro i o ho hi hns E w4 hb4 D
              have hi2 : i = 0 ∨ i = 1 ∨ i = 2 ∨ i = 3 ∨ i = 4 ∨ i = 5 ∨ i = 6 ∨ i = 7 ∨ i = 8 ∨ i = 9 ∨ i = 10 := by omega
              clear hi
              rcases hi2 with rfl | rfl | rfl | rfl | rfl | rfl | rfl | rfl | rfl | rfl | rfl
              ·
                have ho2 := (Array.getElem?_eq_some_iff.1 ho).2
                simp only [List.getElem_toArray, List.getElem_cons_zero] at ho2
                subst ho2
                clear ho
                have e5 := D.old 5 (by kernel_rfl)
                exact wk.does_move rfl (by rw [e5]; rfl)
              ·
                have ho2 := (Array.getElem?_eq_some_iff.1 ho).2
                simp only [List.getElem_toArray, List.getElem_cons_succ, List.getElem_cons_zero] at ho2
                subst ho2
                clear ho
                have e9 := D.old 9 (by kernel_rfl)
                exact wk.does_move rfl (by rw [e9]; rfl)
              ·
                have ho2 := (Array.getElem?_eq_some_iff.1 ho).2
                simp only [List.getElem_toArray, List.getElem_cons_succ, List.getElem_cons_zero] at ho2
                subst ho2
                clear ho
                have e5 := D.old 5 (by kernel_rfl)
                exact wk.does_move rfl (by rw [e5]; rfl)
              ·
                have ho2 := (Array.getElem?_eq_some_iff.1 ho).2
                simp only [List.getElem_toArray, List.getElem_cons_succ, List.getElem_cons_zero] at ho2
                subst ho2
                clear ho
                have e9 := D.old 9 (by kernel_rfl)
                exact wk.does_move rfl (by rw [e9]; rfl)
              ·
                have ho2 := (Array.getElem?_eq_some_iff.1 ho).2
                simp only [List.getElem_toArray, List.getElem_cons_succ, List.getElem_cons_zero] at ho2
                subst ho2
                clear ho
                have e44 := D.is { on := 2, ground := .data } (by simp) rfl rfl 44 rfl
                have e45 := D.is { on := 3, ground := .data } (by simp) rfl rfl 45 rfl
                exact wk.does_run (by simp only [execOp]; rw [show E (.tmp 44) = _ from e44, show E (.tmp 45) = _ from e45]; go_simp) rfl
              ·
                have ho2 := (Array.getElem?_eq_some_iff.1 ho).2
                simp only [List.getElem_toArray, List.getElem_cons_succ, List.getElem_cons_zero] at ho2
                subst ho2
                clear ho
                have e46 := D.is { on := 4, ground := .data } (by simp) rfl rfl 46 rfl
                exact wk.does_load1 rfl e46 ((HRK.out.below ((Below.refl _ _).drew.trans hb4 : Below wr.heap.size wr w4)).cell HAX.out) Try.underlying3 rfl rfl
              ·
                have ho2 := (Array.getElem?_eq_some_iff.1 ho).2
                simp only [List.getElem_toArray, List.getElem_cons_succ, List.getElem_cons_zero] at ho2
                subst ho2
                clear ho
                have e10 := D.old 10 (by kernel_rfl)
                exact wk.does_move rfl (by rw [e10]; rfl)
              ·
                have ho2 := (Array.getElem?_eq_some_iff.1 ho).2
                simp only [List.getElem_toArray, List.getElem_cons_succ, List.getElem_cons_zero] at ho2
                subst ho2
                clear ho
                have e8 := D.old 8 (by kernel_rfl)
                exact wk.does_move rfl (by rw [e8]; rfl)
              ·
                have ho2 := (Array.getElem?_eq_some_iff.1 ho).2
                simp only [List.getElem_toArray, List.getElem_cons_succ, List.getElem_cons_zero] at ho2
                subst ho2
                clear ho
                have e48 := D.is { on := 6, ground := .data } (by simp) rfl rfl 48 rfl
                have e49 := D.is { on := 7, ground := .data } (by simp) rfl rfl 49 rfl
                refine wk.does_fn (f := 48) (vs := #[.int .i64 2, .slice A5 n4 c5, .slice A8 n4 c8]) rfl (D.fn _) (by simp [e48, e49, D.con]) (by go_simp) ?_
                refine (HKC.out w4 ((Below.refl _ _).drew.trans hb4 : Below wr.heap.size wr w4)).mono ?_
                rintro e w7 ⟨rfl, hb7⟩
                exact ⟨_, rfl, hb7, rfl⟩
              ·
                have ho2 := (Array.getElem?_eq_some_iff.1 ho).2
                simp only [List.getElem_toArray, List.getElem_cons_succ, List.getElem_cons_zero] at ho2
                subst ho2
                clear ho
                have e47 := D.is { on := 5, ground := .data } (by simp) rfl rfl 47 rfl
                have e50 := D.is { on := 8, ground := .data } (by simp) rfl rfl 50 rfl
                exact wk.does_run (v := .int .i64 mn) (by unfold execOp; first | (go_simp; rw [e47, e50]; go_simp; rw [HMN.out]; done) | (simp only [List.map_toArray, List.map_cons, List.map_nil]; rw [e47, e50]; done) | (simp only [List.map_toArray, List.map_cons, List.map_nil]; rw [e47, e50]; go_simp; done) | (dsimp only; go_simp; done) | (dsimp only; go_simp; rw [HMN.out])) rfl
              ·
                have ho2 := (Array.getElem?_eq_some_iff.1 ho).2
                simp only [List.getElem_toArray, List.getElem_cons_succ, List.getElem_cons_zero] at ho2
                subst ho2
                clear ho
                have e42 := D.is { on := 0, ground := .data } (by simp) rfl rfl 42 rfl
                have e43 := D.is { on := 1, ground := .data } (by simp) rfl rfl 43 rfl
                exact wk.does_run (by simp only [execOp]; rw [show E (.tmp 42) = _ from e42, show E (.tmp 43) = _ from e43]; go_simp) rfl
            case hdone =>
              intro vals w4 hb4 hv
              have h9 := hv 9 (by omega)
              have h10 := hv 10 (by omega)
              clear hv
              replace h9 : vals 9 = (.int .i64 mn) := h9
              replace h10 : vals 10 = (.pointer (some ⟨G + 1, i, none⟩)) := h10
              simp only [List.drop_succ_cons, List.drop_zero, wk.setL, List.setIfInBounds_toArray, List.set_cons_zero, List.set_cons_succ, Nat.zero_add, Nat.reduceAdd, h9, h10]
              generalize vals 0 = x0
              generalize vals 1 = x1
              generalize vals 2 = x2
              generalize vals 3 = x3
              generalize vals 4 = x4
              generalize vals 5 = x5
              generalize vals 6 = x6
              generalize vals 7 = x7
              generalize vals 8 = x8
              have HB4 := Lib.hid (HBEL2.out.trans (((Below.refl _ _).drew.trans hb4 : Below wr.heap.size wr w4).mono (by have := HBEL2.out.size; have := HGG.out; omega)))
              have HRK4 := Lib.hid (HRK.out.below ((Below.refl _ _).drew.trans hb4 : Below wr.heap.size wr w4))
              have HROW4 := Lib.hid (HROW3.out.below ((Below.refl _ _).drew.trans hb4 : Below wr.heap.size wr w4))
              have HSQ4 := Lib.hid (HSQW.out.below ((Below.refl _ _).drew.trans hb4 : Below wr.heap.size wr w4))
              have hbs : Bp ≤ w4.heap.size := by have := ((Below.refl _ _).drew.trans hb4 : Below wr.heap.size wr w4).size; have := HBP.out; omega
              clear hb4
              have hq0 := HRK4.out.cell HAX.out
              have hq1 := HRK4.out.frozen (i := i)
              go_wp2_with fail
              go_roundg (gk - 1)
              case measure => have := HK2.out; omega
              case rel =>
                refine ⟨i + 1, by have := HK2.out; omega, by go_num, ?_, ?_, ?_, ?_, by simp; omega⟩
                · have := HRK4.out.set (i := i) mn
                  rw [HSET.out] at this
                  exact this
                · exact HROW4.out.setBox HRK4.out (.inr HPB.out) (by decide) _
                · exact HSQ4.out.keep (Kq.of_set _ HRK4.out (.inr HPB.out))
                · exact HB4.out.setCell (p := ⟨G + 1, i, none⟩) (by show G ≤ G + 1; omega) _
          · obtain rfl : i = n := by omega
            rw [aph_end HLN.out] at hrk2
            have hll : (apw (ws ++ [l4]) L).length = i := by rw [apw_len, HLN.out]
            have hII := isI_some hrk2 hll (apw_i64 _ _) hn
            have HMX := Lib.hid (max_of_calls _ i i (apw (ws ++ [l4]) L) wr hII h1)
            have hg5 := gst_lt (l := apw (ws ++ [l4]) L) (by omega)
            have HIX := Lib.hid (index_calls _ i i (apw (ws ++ [l4]) L) (gst (apw (ws ++ [l4]) L)) _ wr hII (getD_at (d := 0) hg5) (fun j y hj hy => by
              have := gst_first hj (by omega)
              rw [List.getD_eq_getElem?_getD, hy] at this
              simp only [Option.getD_some] at this
              omega))
            have HRK5 := Lib.hid hrk2
            have HROW5 := Lib.hid hrow2
            have HB5 := Lib.hid hbel2
            have HBS5 := Lib.hid hbs2
            generalize (apw (ws ++ [l4]) L).getD (gst (apw (ws ++ [l4]) L)) 0 = mxv at *
            generalize hf5 : gst (apw (ws ++ [l4]) L) = f5 at *
            have HF5 := Lib.hid hf5
            clear hi2 hrk2 hrow2 hsq2 hbel2 hbs2 hII hll hg5 hf5
            go_wp2_with fail
            refine HMX.out.mono ?_
            rintro e w' ⟨rfl, rfl⟩
            go_wp2_with fail
            refine HIX.out.mono ?_
            rintro e w'' ⟨rfl, rfl⟩
            go_wp2_with fail
            go_roundg (gk1 - 1)
            case measure => have := HJ.out; omega
            case rel => exact ⟨ws ++ [l4], _, _, by have := HJ.out; rw [List.length_append, List.length_cons, List.length_nil]; omega, rfl, by rw [HF5.out], HROW5.out, HRK5.out, HNX.out, HB5.out, HBS5.out⟩
      · have he : sprN (M - ws.length) ws L = ws := by
          rw [show M - ws.length = (M - ws.length - 1) + 1 by omega, sprN, if_neg hpos]
        have HE := Lib.hid (HEXIT.out he)
        generalize hf : gst (apw ws L) = f at *
        generalize (apw ws L).getD f 0 = zz at *
        clear hj hrow hrk hsp hbel hbs hz hzb hgl he hf HEXIT
        go_wp2_with fail
        go_ret
        have hE := HE.out
        first | exact hE | (rw [HGE.out]; exact hE)
    · have he : sprN (M - ws.length) ws L = ws := by
        rw [show M - ws.length = 0 by omega]; rfl
      have HE := Lib.hid (HEXIT.out he)
      generalize hf : gst (apw ws L) = f at *
      generalize (apw ws L).getD f 0 = zz at *
      clear hj hrow hrk hsp hbel hbs hz hzb hgl he hf HEXIT hzc
      go_wp2_with fail
      go_ret
      have hE := HE.out
      first | exact hE | (rw [HGE.out]; exact hE)
end Go.Proofs.Ytiodjepjbooniaa.uk
/- The law of a range over the parts once more: what the cuts lie in may be written about. -/
namespace Go.Proofs.Ytiodjepjbooniaa.uk

open Go.ChangeShapes Go.WideShapes Go.ChangeAt Go.RowKit

open Go.Proofs.Ytiodjepjbooniaa.cq Go.Proofs.Ytiodjepjbooniaa.vk Go.Proofs.Ytiodjepjbooniaa.bk Go.Proofs.Ytiodjepjbooniaa.wk

set_option linter.unusedVariables false
attribute [local go_sem] Oper.semAt_some
set_option maxRecDepth 100000 in
set_option maxHeartbeats 2000000 in
theorem parts1E_in (m : Nat) (l Bc Bd B : Nat) (M : List Nat) (A : Option Addr) (n c : Nat) (cuts : List Int) (d : Int) (hBc : Bc < B) (hBcM : Bc ∉ M) (hBd : Bd < B) (hBdM : Bd ∉ M)
    (J Jx : List (Nth n) → World → Prop) (W : World) (hX : ∀ w', Exc M B W w' → wo.IsI w' A n c cuts) (hd : I64 d)
    (hJ : AbidesFrom W.heap.size J)
    (hY : ∀ pre x W, J pre W → pre.length < n → YieldAt Fence.wide (m - 1) Try.prog l (encp (sp cuts d) x) W fun e W' =>
      (e = .returned (.bool true) ∧ J (pre ++ [x]) W' ∧ Exc M B W W') ∨ (e = .returned (.bool false) ∧ Jx (pre ++ [x]) W'))
    (hB : B ≤ W.heap.size) (hc : Box W Bc (.slice A n c)) (hcd : Box W Bd (.int .i64 d)) (h0 : J [] W) :
    CallsIn Fence.wide m Try.prog 63 #[.func (.yield l) #[] #[], .pointer (some ⟨Bc, 0, none⟩), .pointer (some ⟨Bd, 0, none⟩)] W fun e W' => (∃ v, e = .returned v) ∧
      ((∃ ys, ys.map (·.1) = List.range n ∧ J ys W') ∨ (∃ pre, Jx pre W')) := by
  refine callsIn_of_wp Try.func63 rfl trivial ?_ rfl
  simp only [Try.ntmps63, List.size_toArray, List.length_cons, List.length_nil, Nat.reduceAdd, Nat.reduceSub, Array.replicate_succ, Array.replicate_zero, List.push_toArray, List.append_toArray, List.nil_append, List.cons_append]
  have hi := hX W (Exc.refl _ _ _)
  have hn := hi.1
  have hm := hi.2.2.1
  have hnc := hi.2.1
  have hc0 := hc.cell
  have hd0 := hcd.cell
  have HC := Lib.hid hc
  have HD := Lib.hid hcd
  have HX := Lib.hid hX
  have HN := Lib.hid hn
  clear hi hc hcd hX hn
  gi_wp2
  gi_loopw [9] (fun i wr => ∃ (k : Nat) (pre : List (Nth n)), k ≤ n ∧ i = .int .i64 k ∧ pre.map (·.1) = List.range k ∧ J pre wr ∧ Exc M B W wr)
    (fun i _ => n - (intOf i).toNat)
  case atStart => exact ⟨0, [], Nat.zero_le _, rfl, rfl, h0, Exc.refl _ _ _⟩
  case round =>
    obtain ⟨k, pre, hk, rfl, hpre, hJs, hx⟩ := hrel
    by_cases hlt : k < n
    · have hlt2 : (k : Int) < (n : Int) := by omega
      have hC0 := (Box.at HC.out (hx.block Bc hBc hBcM)).cell
      have hD0 := (Box.at HD.out (hx.block Bd hBd hBdM)).cell
      obtain ⟨b, o, x, rfl, hcell, hxk, hx1, hx2⟩ := isI_at (HX.out wr hx) hlt
      have hS := spa_of (sp_at (d := d) hxk)
      obtain ⟨fn, tmps, assign, body, hy, hR⟩ := hY pre ⟨k, hlt⟩ wr hJs (by rw [len_range hpre]; exact hlt)
      unfold encp rng at hy
      dsimp only at hy
      rw [hS] at hy
      dsimp only at hy
      by_cases hl2 : k + 1 < n
      · obtain ⟨b', o', y, hA, hcell2, hyk, hy1, hy2⟩ := isI_at (HX.out wr hx) hl2
        cases hA
        rw [endAt_in hyk] at hy
        have hl3 : ((k + 1 : Nat) : Int) < (n : Int) := by omega
        have hl4 : (k : Int) + 1 < (n : Int) := by omega
        clear hS
        gi_wp2
        refine ⟨(fun hh => by cases hh), hR.mono ?_⟩
        rintro e W3 (⟨rfl, hJ3, hk3⟩ | ⟨rfl, hJx3⟩)
        · gi_wp2
          go_roundw
          case rel => exact ⟨k + 1, _, by omega, by simp, map_snoc pre ⟨k, hlt⟩ hpre, hJ3, hx.trans hk3⟩
          case measure => simp [intOf]; omega
        · gi_wp2
          refine bodyPost_ret (results_none rfl _ _ _) rfl ?_
          exact ⟨⟨_, rfl⟩, .inr ⟨_, hJx3⟩⟩
      · rw [endAt_out (by rw [HN.out]; omega)] at hy
        clear hS
        gi_wp2
        refine ⟨(fun hh => by cases hh), hR.mono ?_⟩
        rintro e W3 (⟨rfl, hJ3, hk3⟩ | ⟨rfl, hJx3⟩)
        · gi_wp2
          go_roundw
          case rel => exact ⟨k + 1, _, by omega, by simp, map_snoc pre ⟨k, hlt⟩ hpre, hJ3, hx.trans hk3⟩
          case measure => simp [intOf]; omega
        · gi_wp2
          refine bodyPost_ret (results_none rfl _ _ _) rfl ?_
          exact ⟨⟨_, rfl⟩, .inr ⟨_, hJx3⟩⟩
    · obtain rfl : k = n := by omega
      gi_wp2
      go_end0
      exact ⟨⟨_, rfl⟩, .inl ⟨_, hpre, hJs⟩⟩
theorem rangeE_parts {g : Operand} {ps : Array Tmp} {assign body : Code} {Q : Exit → Act → World → Prop} {a : Act} {w : World} (Bc Bd : Nat) (M : List Nat) (A : Option Addr) (n c : Nat) (cuts : List Int) (d : Int)
    (hg : a.eval g = .func (.func 63) #[] #[.pointer (some ⟨Bc, 0, none⟩), .pointer (some ⟨Bd, 0, none⟩)]) (hps : ps.size = 2) (hBc : Box w Bc (.slice A n c)) (hBcM : Bc ∉ M) (hBd : Box w Bd (.int .i64 d)) (hBdM : Bd ∉ M) (hd : I64 d) (hMB : ∀ j ∈ M, j < w.heap.size)
    (hX : ∀ w', Exc M w.heap.size w w' → wo.IsI w' A n c cuts)
    (I : List (Nth n) → World → Prop) (Ix : Code → World → Prop) (hI : OwnFrom w.heap.size I) (hIx : ∀ c, OwnFrom w.heap.size (fun (_ : Unit) W => Ix c W)) (h0 : I [] w)
    (F : Nth n → Nat → Act)
    (hassign : ∀ (l m : Nat) (x : Nth n) (W : World) (K : Act → World → Prop), K (F x W.heap.size) (W.alloc (.cells #[.int .i64 (spa (sp cuts d) x.1).1, .int .i64 (spa (sp cuts d) x.1).2] 67)) →
      assign.wpIn (Fence.wide.inRound l) m Try.prog (Exit.then K (fun _ _ _ => False)) { tmps := (ps.zip (encp (sp cuts d) x)).foldl (fun t (p, v) => t.setIfInBounds p v) a.tmps, defers := [] } W)
    (hbody : ∀ (l m : Nat) (pre : List (Nth n)) (x : Nth n) (Bx : Nat) (W : World), w.heap.size ≤ Bx → SpanX W Bx (spa (sp cuts d) x.1).1 (spa (sp cuts d) x.1).2 → Exc M w.heap.size w W → I pre W → pre.length < n →
      body.wpIn (Fence.wide.inRound l) m Try.prog (roundPost' M w.heap.size I Ix (pre ++ [x]) W) (F x Bx) W)
    (hdone : ∀ (D : Nat) (ys : List (Nth n)) (W : World), w.heap.size ≤ D → ys.map (·.1) = List.range n → Exc M w.heap.size w W → I ys W → W.heap[D]? = some (.deferred (some [])) → Q .normal { a with defers := { target := .collected D, args := #[] } :: a.defers } W)
    (hstop : ∀ (D : Nat) (c : Code) (W : World), w.heap.size ≤ D → Exc M w.heap.size w W → Ix c W → W.heap[D]? = some (.deferred (some [])) → c.wp Try.prog Q { a with defers := { target := .collected D, args := #[] } :: a.defers } W) :
    (Code.rangeFunc g ps assign body).wp Try.prog Q a w := by
  refine wpIn_wide.1 (wpIn_rangeFunc_ownH (F := Fence.wide) (n := 4) (w := w) (w0 := w) rfl (by omega) hg trivial (enters_of Try.func63 (by kernel_rfl) rfl)
    (encs := encp (sp cuts d)) (Kp := Exc M w.heap.size) (S := fun ys => ys.map (·.1) = List.range n) (Sp := fun _ => True) (N := n) ?seq
    (fun h k => h.trans k) (fun W l o o' hl _ _ _ => Exc.put _ hl) (Below.refl _ _) (fun x => by simp [encp, hps])
    (fun pre W => I pre W ∧ Exc M w.heap.size w W) (fun c _ W => Ix c W ∧ Exc M w.heap.size w W)
    (OwnFrom.and hI (Exc.own (Nat.le_refl _))) (fun c => OwnFrom.and (fun s W W' row hs hg' hr => hIx c () W W' row hs hg' hr) (Exc.own (Nat.le_refl _))) ⟨h0, Exc.refl _ _ _⟩
    (fun x a' W => ∃ Bx, w.heap.size ≤ Bx ∧ SpanX W Bx (spa (sp cuts d) x.1).1 (spa (sp cuts d) x.1).2 ∧ a' = F x Bx) ?hAx ?hassign ?hbody ?hdone ?hstop)
  case seq =>
    intro l J Jx W hW hJ hJx hY hJ0
    have hXW : ∀ w', Exc M w.heap.size W w' → wo.IsI w' A n c cuts := fun w' hb => hX w' ((Exc.of_below hW).trans hb)
    refine (parts1E_in 3 l Bc Bd w.heap.size M A n c cuts d hBc.lt hBcM hBd.lt hBdM J Jx W hXW hd hJ hY hW.size (Box.at hBc (hW.block _ hBc.lt)) (Box.at hBd (hW.block _ hBd.lt)) hJ0).mono ?_
    rintro e W' ⟨he, ⟨ys, hy, hj⟩ | ⟨pre, hj⟩⟩
    · exact ⟨he, .inl ⟨ys, hy, hj⟩⟩
    · exact ⟨he, .inr ⟨pre, trivial, hj⟩⟩
  case hAx =>
    rintro x a' u W W' row ⟨Bx, h1, h2, h3⟩ hg' hr
    refine ⟨Bx, h1, ?_, h3⟩
    have hlt := (Array.getElem?_eq_some_iff.1 h2).1
    refine (hg'.block Bx hlt fun e => ?_).trans h2
    obtain ⟨_, o, ho, hnc⟩ := hr Bx e.symm
    rw [h2] at ho
    cases ho
    cases hnc
  case hassign =>
    rintro l pre x W K ⟨hi, hx⟩ hK
    refine hassign l _ x W K ?_
    have hb : Below W.heap.size W (W.alloc (.cells #[.int .i64 (spa (sp cuts d) x.1).1, .int .i64 (spa (sp cuts d) x.1).2] 67)) := below_new _ _
    have hT := Turn.of_below (M := M) hb hx.size
    exact hK _ _ hT.keeps hT.exc ⟨hI.alloc _ hi, hx.trans hT.exc⟩ ⟨_, hx.size, SpanX.new _ _ _, rfl⟩
  case hbody =>
    rintro l pre x a' W hl hr ⟨hi, hx⟩ ⟨Bx, h1, h2, rfl⟩ hlen'
    refine wpIn_mono (hbody l _ pre x Bx W h1 h2 hx hi hlen') ?_
    intro e a3 W3 hp
    cases e with
    | normal => exact ⟨hp.1.keeps, hp.1.exc, hp.2, hx.trans hp.1.exc⟩
    | ret => exact ⟨hp.1.keeps, hp.2, hx.trans hp.1.exc⟩
    | exit id => exact hp.elim
    | goto t => exact hp.elim
    | panic c => exact hp.elim
    | outgrown => exact hp.elim
  case hdone => rintro D ys W hD hy ⟨hi, hx⟩ hK; exact hdone D ys W hD hy hx hi hK
  case hstop => rintro D c pre W hD _ ⟨hi, hx⟩ hK; exact wpIn_wide.2 (hstop D c W hD hx hi hK)
theorem rangeE_parts' {g : Operand} {pi pr : Nat} {assign body : Code} {Q : Exit → Act → World → Prop} {T : Array Value} {w : World} (si : Option Nat) (sb : Nat) (Bc Bd : Nat) (M : List Nat) (A : Option Addr) (n c : Nat) (cuts : List Int) (d : Int)
    (hg : Act.eval { tmps := T, defers := [] } g = .func (.func 63) #[] #[.pointer (some ⟨Bc, 0, none⟩), .pointer (some ⟨Bd, 0, none⟩)]) (hBc : Box w Bc (.slice A n c)) (hBcM : Bc ∉ M) (hBd : Box w Bd (.int .i64 d)) (hBdM : Bd ∉ M) (hd : I64 d) (hMB : ∀ j ∈ M, j < w.heap.size)
    (hX : ∀ w', Exc M w.heap.size w w' → wo.IsI w' A n c cuts)
    (I : List (Nth n) → World → Prop) (Ix : Code → World → Prop) (hI : OwnFrom w.heap.size I) (hIx : ∀ c, OwnFrom w.heap.size (fun (_ : Unit) W => Ix c W)) (h0 : I [] w)
    (hassign : ∀ (l m : Nat) (i : Int) (a b : Int) (W : World) (K : Act → World → Prop), K { tmps := roundT T pi pr si sb (.int .i64 i) (rng a b) W.heap.size, defers := [] } (W.alloc (.cells #[.int .i64 a, .int .i64 b] 67)) →
      assign.wpIn (Fence.wide.inRound l) m Try.prog (Exit.then K (fun _ _ _ => False)) { tmps := (T.setIfInBounds pi (.int .i64 i)).setIfInBounds pr (rng a b), defers := [] } W)
    (hbody : ∀ (l m : Nat) (pre : List (Nth n)) (x : Nth n) (Bx : Nat) (W : World), w.heap.size ≤ Bx → SpanX W Bx (spa (sp cuts d) x.1).1 (spa (sp cuts d) x.1).2 → Exc M w.heap.size w W → I pre W → pre.length < n →
      body.wpIn (Fence.wide.inRound l) m Try.prog (roundPost' M w.heap.size I Ix (pre ++ [x]) W) { tmps := roundT T pi pr si sb (.int .i64 (x.1 : Int)) (rng (spa (sp cuts d) x.1).1 (spa (sp cuts d) x.1).2) Bx, defers := [] } W)
    (hdone : ∀ (D : Nat) (ys : List (Nth n)) (W : World), w.heap.size ≤ D → ys.map (·.1) = List.range n → Exc M w.heap.size w W → I ys W → W.heap[D]? = some (.deferred (some [])) → Q .normal { tmps := T, defers := [{ target := .collected D, args := #[] }] } W)
    (hstop : ∀ (D : Nat) (c : Code) (W : World), w.heap.size ≤ D → Exc M w.heap.size w W → Ix c W → W.heap[D]? = some (.deferred (some [])) → c.wp Try.prog Q { tmps := T, defers := [{ target := .collected D, args := #[] }] } W) :
    (Code.rangeFunc g #[pi, pr] assign body).wp Try.prog Q { tmps := T, defers := [] } w := by
  refine rangeE_parts Bc Bd M A n c cuts d hg rfl hBc hBcM hBd hBdM hd hMB hX I Ix hI hIx h0 (fun x Bx => { tmps := roundT T pi pr si sb (.int .i64 (x.1 : Int)) (rng (spa (sp cuts d) x.1).1 (spa (sp cuts d) x.1).2) Bx, defers := [] }) ?_ hbody hdone hstop
  intro l m x W K hK
  have e : (#[pi, pr].zip (encp (sp cuts d) x)).foldl (fun t (q : Nat × Value) => t.setIfInBounds q.1 q.2) T = (T.setIfInBounds pi (.int .i64 (x.1 : Int))).setIfInBounds pr (rng (spa (sp cuts d) x.1).1 (spa (sp cuts d) x.1).2) := by
    simp [encp]
  have := hassign l m x.1 _ _ W K hK
  rw [← e] at this
  exact this
end Go.Proofs.Ytiodjepjbooniaa.uk
/- A region that draws its order, where what is said of the values rests on what has been done, and on the values that the slots hold. No program here. -/
namespace Go.Proofs.Ytiodjepjbooniaa.wk

open Go.RowKit

set_option linter.unusedVariables false

section

variable {P : Program} {ops : Array Oper} {Q : Exit → Act → World → Prop} {md : Region.Mode}
theorem linv_step2 {a0 : Act} {k : Nat} (R : (Nat → Bool) → Nat → World → Value → Prop) (hap : apart ops a0.tmps.size = true) (hg : noGuard ops k = true) {L : Nat → Bool} {a : Act} {w : World} {i : Nat} {o : Oper} (hik : i < k) (hI : LInv ops R a0 L a w) (ho : ops[i]? = some o) (hdep : ∀ e ∈ o.after, Region.binds .any e = true → L e.on = true)
    {S : World → Prop} (hstep : ∀ E, DueG ops (R L) a0 o E w → DoesT P Q o E w fun w' v => R (fun j => if j = i then true else L j) i w' v ∧ (∀ j u, L j = true → (∀ d, dstOf ops j = some d → E (.tmp d) = u) → R L j w u → R (fun j => if j = i then true else L j) j w' u) ∧ S w') :
    wpOp P ops Q i (fun a' w' => LInv ops R a0 (fun j => if j = i then true else L j) a' w' ∧ S w') a w := by
  have hio : i < ops.size := (Array.getElem?_eq_some_iff.1 ho).1
  have hdv : ∀ e ∈ o.after, Region.binds .any e = true → ∃ v, R L e.on w v ∧ ∀ d, dstOf ops e.on = some d → a.tmps[d]? = some v := fun e he hb => hI.vals e.on (hdep e he hb)
  have hgn : o.guard = none := by
    have h1 := List.all_eq_true.1 hg i (List.mem_range.2 hik)
    simp only [ho, Option.isNone_iff_eq_none] at h1
    exact h1
  refine wpOp_step ho fun K' hK => ?_
  rw [if_pos (by simp [Region.wanted, hgn])]
  refine hstep a.eval ⟨fun _ => rfl, fun _ => rfl, fun k hk => ?_, fun e he hb => ?_⟩ a K' rfl fun v w' hRT => ?_
  · show a.tmps.getD k undef = a0.tmps.getD k undef
    rw [Array.getD_eq_getD_getElem?, Array.getD_eq_getD_getElem?, hI.rest k fun j hj h => ?_]
    have := List.all_eq_true.1 hk j (List.mem_range.2 (dst_lt h))
    rw [h] at this
    simp at this
  · obtain ⟨v, hv, hd⟩ := hdv e he hb
    exact ⟨v, hv, fun d hdd => getD_of (hd d hdd)⟩
  · obtain ⟨hv, hT, hS⟩ := hRT
    have hdo : dstOf ops i = o.dst := by unfold dstOf; rw [ho]; rfl
    refine hK _ _ ⟨⟨?_, ?_, fun j hj => ?_, fun k hk => ?_⟩, hS⟩
    · cases hd : o.dst <;> exact hI.defers
    · cases hd : o.dst <;> simp only [Act.put, Array.size_setIfInBounds] <;> exact hI.size
    · by_cases hji : j = i
      · subst hji
        refine ⟨v, hv, fun d hd => ?_⟩
        rw [hdo] at hd
        have hlt := apart_lt hap hio (by rw [hdo]; exact hd)
        rw [hd]
        show (a.tmps.setIfInBounds d _)[d]? = some _
        rw [Array.getElem?_setIfInBounds, if_pos rfl, if_pos (by rw [hI.size]; exact hlt)]
      · rw [if_neg hji] at hj
        obtain ⟨u, hu, hud⟩ := hI.vals j hj
        refine ⟨u, hT j u hj (fun d hd => getD_of (hud d hd)) hu, fun d hd => ?_⟩
        cases hod : o.dst with
        | none => exact hud d hd
        | some d' =>
          have hne : d' ≠ d := fun e => hji (apart_ne hap (dst_lt hd) hio hd (by rw [hdo, hod, e]))
          show (a.tmps.setIfInBounds d' _)[d]? = _
          rw [Array.getElem?_setIfInBounds, if_neg hne]
          exact hud d hd
    · have hk' : ∀ j, L j = true → dstOf ops j ≠ some k := fun j hj => hk j (by by_cases h : j = i <;> simp [h, hj])
      have hki : o.dst ≠ some k := by rw [← hdo]; exact hk i (by simp)
      cases hod : o.dst with
      | none => exact hI.rest k hk'
      | some d' =>
        have hne : d' ≠ k := fun e => hki (by rw [hod, e])
        show (a.tmps.setIfInBounds d' _)[k]? = _
        rw [Array.getElem?_setIfInBounds, if_neg hne]
        exact hI.rest k hk'
/-- .. where what is said of the values rests on what has been done -/
theorem region_lev2 {id : Nat} {a0 : Act} {w0 : World} (k : Nat) (R : (Nat → Bool) → Nat → World → Value → Prop) (ds : List (Option Tmp)) (S : (Nat → Bool) → World → Prop) (h0 : S (fun _ => false) w0.drew) (hm : P.follows .mixedOrders = true) (hord : orderedB .any ops = true) (hap : apart ops a0.tmps.size = true) (hg : noGuard ops k = true) (hds : (List.range k).map (dstOf ops) = ds) (htl : tailed ops k = true)
    (hstep : ∀ i o, ops[i]? = some o → i < k → ∀ E L w, S L w → L i = false → (∀ e ∈ o.after, Region.binds .any e = true → L e.on = true) → DueG ops (R L) a0 o E w → DoesT P Q o E w (fun w' v => R (fun j => if j = i then true else L j) i w' v ∧ (∀ j u, L j = true → (∀ d, dstOf ops j = some d → E (.tmp d) = u) → R L j w u → R (fun j => if j = i then true else L j) j w' u) ∧ S (fun j => if j = i then true else L j) w'))
    (hdone : ∀ (vals : Nat → Value) L w, (∀ j, j < k → L j = true) → S L w → (∀ i, i < k → R L i w (vals i)) → wpList P ops Q (ops.toList.drop k) { a0 with tmps := setL ds vals 0 a0.tmps } w) : (Code.region id ops true).wp P Q a0 w0 := by
  unfold tailed at htl
  simp only [Bool.and_eq_true, decide_eq_true_eq] at htl
  obtain ⟨⟨hkn, hcov⟩, hch⟩ := htl
  have hchain : ∀ i, k ≤ i → i + 1 < ops.size → waitsFor ops (i + 1) i = true := fun i h1 h2 => by
    have := List.all_eq_true.1 hch i (List.mem_range.2 (by omega))
    simp only [Bool.or_eq_true, decide_eq_true_eq] at this
    rcases this with (h | h) | h
    · omega
    · omega
    · exact h
  have hcover : ∀ j, j < k → k < ops.size → ∃ i, j < i ∧ i ≤ k ∧ waitsFor ops i j = true := fun j h1 h2 => by
    have := List.all_eq_true.1 hcov j (List.mem_range.2 h1)
    simp only [Bool.or_eq_true, beq_iff_eq] at this
    rcases this with h | h
    · omega
    · obtain ⟨i, hi, h⟩ := List.any_eq_true.1 h
      simp only [Bool.and_eq_true, decide_eq_true_eq] at h
      exact ⟨i, h.1, by have := List.mem_range.1 hi; omega, h.2⟩
  have hfin : ∀ L a w, LInv ops R a0 L a w → S L w → (∀ j, j < k → L j = true) → (∀ j, k ≤ j → L j = false) → wpList P ops Q (ops.toList.drop k) a w := fun L a w hI hw hall hno => by
    have hv : ∀ i, ∃ v, i < k → R L i w v ∧ ∀ d, dstOf ops i = some d → a.tmps[d]? = some v := fun i => by
      by_cases hi : i < k
      · obtain ⟨v, h⟩ := hI.vals i (hall i hi); exact ⟨v, fun _ => h⟩
      · exact ⟨undef, fun h => absurd h hi⟩
    obtain ⟨vals, hvals⟩ := Classical.axiomOfChoice hv
    have ha : a = { a0 with tmps := setAll ops vals k a0.tmps } := by
      obtain ⟨tm, df⟩ := a
      have h1 : df = a0.defers := hI.defers
      have h2 : tm = setAll ops vals k a0.tmps := by
        refine Array.ext_getElem? fun s => ?_
        have hset := setAll_get vals hap s k a0.tmps hkn rfl
        by_cases hk : ∃ i, i < k ∧ dstOf ops i = some s
        · obtain ⟨i, hik, hi⟩ := hk
          rw [hset.2 i hik hi]
          exact (hvals i hik).2 s hi
        · rw [hset.1 fun i hi h => hk ⟨i, hi, h⟩]
          refine hI.rest s fun i hi h => ?_
          rcases Nat.lt_or_ge i k with hl | hl
          · exact hk ⟨i, hl, h⟩
          · rw [hno i hl] at hi; cases hi
      rw [h1, h2]
    rw [ha, setAll_eq, hds]
    exact hdone vals L w hall hw fun i hi => (hvals i hi).1
  refine region_invB (fun a0' B L a w => (LInv ops R a0 L a w ∧ S L w ∧ (∀ i, k ≤ i → L i = false) ∧ Closed ops L) ∨ ∃ m, k ≤ m ∧ m ≤ ops.size ∧ (∀ i, L i = decide (i < m)) ∧ wpList P ops Q (ops.toList.drop m) a w) hm hord
    (Or.inl ⟨⟨rfl, rfl, fun i h => (Bool.noConfusion h), fun k _ => rfl⟩, h0, fun _ _ => rfl, fun i o _ h => (Bool.noConfusion h)⟩) ?_ ?_
  · intro L a w hI i o ho hLi hdep
    have hio : i < ops.size := (Array.getElem?_eq_some_iff.1 ho).1
    rcases hI with ⟨hI, hSw, hno, hcl⟩ | ⟨m, hm1, hm2, hL, hwp⟩
    · by_cases hik : i < k
      · refine wpOp_mono (fun a' w' h => Or.inl ?_) (linv_step2 R hap hg hik hI ho hdep (S := S (fun j => if j = i then true else L j)) fun E hE => hstep i o ho hik E L w hSw hLi hdep hE)
        refine ⟨h.1, h.2, fun j hj => ?_, fun j o' ho' hj e he hb => ?_⟩
        · have hji : j ≠ i := by omega
          simp only [hji, if_false]
          exact hno j hj
        · by_cases hji : j = i
          · subst hji
            rw [ho] at ho'; cases ho'
            by_cases h2 : e.on = j
            · simp [h2]
            · simp only [h2, if_false]; exact hdep e he hb
          · simp only [hji, if_false] at hj
            by_cases h2 : e.on = i
            · simp [h2]
            · simp only [h2, if_false]; exact hcl j o' ho' hj e he hb
      · have hik' : i = k := by
          rcases Nat.lt_or_ge k i with h | h
          · have := waits_done (L := L) (hchain (i - 1) (by omega) (by omega)) (by rw [show i - 1 + 1 = i by omega]; exact ho) hdep
            rw [hno (i - 1) (by omega)] at this; cases this
          · omega
        subst hik'
        have hall : ∀ d j, i - j ≤ d → j < i → L j = true := by
          intro d
          induction d with
          | zero => intro j h1 h2; omega
          | succ d ih =>
            intro j h1 h2
            obtain ⟨q, hq1, hq2, hq3⟩ := hcover j h2 hio
            by_cases hqi : q = i
            · subst hqi; exact waits_done hq3 ho hdep
            · have hq : L q = true := ih q (by omega) (by omega)
              have hqo : ops[q]? = some ops[q] := Array.getElem?_eq_getElem (by omega)
              exact waits_done hq3 hqo (hcl q _ hqo hq)
        refine wpOp_mono (fun a' w' h => Or.inr ⟨i + 1, by omega, by omega, fun j => ?_, h⟩) (wpList_to_op ho (hfin L a w hI hSw (fun j hj => hall _ j (Nat.le_refl _) hj) hno))
        by_cases hji : j = i
        · subst hji; simp
        · simp only [hji, if_false]
          rcases Nat.lt_or_ge j i with h1 | h1
          · rw [hall _ j (Nat.le_refl _) h1]; simp; omega
          · rw [hno j h1]; simp; omega
    · have him : i = m := by
        have h1 : ¬ i < m := fun h => by rw [hL i] at hLi; simp [h] at hLi
        rcases Nat.lt_or_ge m i with h | h
        · have := waits_done (L := L) (hchain (i - 1) (by omega) (by omega)) (by rw [show i - 1 + 1 = i by omega]; exact ho) hdep
          rw [hL (i - 1)] at this
          simp at this; omega
        · omega
      subst him
      refine wpOp_mono (fun a' w' h => Or.inr ⟨i + 1, by omega, by omega, fun j => ?_, h⟩) (wpList_to_op ho hwp)
      by_cases hji : j = i
      · subst hji; simp
      · simp only [hji, if_false]
        rw [hL j]
        rcases Nat.lt_or_ge j i with h1 | h1
        · simp [h1]; omega
        · simp; omega
  · intro L a w hall hI
    rcases hI with ⟨hI, hSw, hno, hcl⟩ | ⟨m, hm1, hm2, hL, hwp⟩
    · have hk : k = ops.size := by
        rcases Nat.lt_or_ge k ops.size with h | h
        · have := hall k h; rw [hno k (Nat.le_refl _)] at this; cases this
        · omega
      have := hfin L a w hI hSw (fun j hj => hall j (by omega)) hno
      rw [hk, ← Array.length_toList, List.drop_length] at this
      exact this
    · have hk : m = ops.size := by
        rcases Nat.lt_or_ge m ops.size with h | h
        · have := hall m h; rw [hL m] at this; simp at this
        · omega
      rw [hk, ← Array.length_toList, List.drop_length] at hwp
      exact hwp
end

end Go.Proofs.Ytiodjepjbooniaa.wk
/- A region that draws, in a round: facts that hang on what is done. No program here. -/
namespace Go.Proofs.Ytiodjepjbooniaa.wk

open Go.RowKit

set_option linter.unusedVariables false

section

variable {P : Program} {ops : Array Oper} {Q : Exit → Act → World → Prop}
theorem region_lev2_in {id n : Nat} {a0 : Act} {w0 : World} (l : Nat) (hnd : noDefer ops = true) (hq : ¬ LetsOut Q) (k : Nat) (R : (Nat → Bool) → Nat → World → Value → Prop) (ds : List (Option Tmp)) (S : (Nat → Bool) → World → Prop) (h0 : S (fun _ => false) w0.drew) (hm : P.follows .mixedOrders = true) (hord : orderedB .any ops = true) (hap : apart ops a0.tmps.size = true) (hg : noGuard ops k = true) (hds : (List.range k).map (dstOf ops) = ds) (htl : tailed ops k = true)
    (hstep : ∀ i o, ops[i]? = some o → i < k → ∀ E L w, S L w → L i = false → (∀ e ∈ o.after, Region.binds .any e = true → L e.on = true) → DueG ops (R L) a0 o E w → DoesT P Q o E w (fun w' v => R (fun j => if j = i then true else L j) i w' v ∧ (∀ j u, L j = true → (∀ d, dstOf ops j = some d → E (.tmp d) = u) → R L j w u → R (fun j => if j = i then true else L j) j w' u) ∧ S (fun j => if j = i then true else L j) w'))
    (hdone : ∀ (vals : Nat → Value) L w, (∀ j, j < k → L j = true) → S L w → (∀ i, i < k → R L i w (vals i)) → wpList P ops Q (ops.toList.drop k) { a0 with tmps := setL ds vals 0 a0.tmps } w) : (Code.region id ops true).wpIn (Fence.wide.inRound l) n P Q a0 w0 := by
  unfold tailed at htl
  simp only [Bool.and_eq_true, decide_eq_true_eq] at htl
  obtain ⟨⟨hkn, hcov⟩, hch⟩ := htl
  have hchain : ∀ i, k ≤ i → i + 1 < ops.size → waitsFor ops (i + 1) i = true := fun i h1 h2 => by
    have := List.all_eq_true.1 hch i (List.mem_range.2 (by omega))
    simp only [Bool.or_eq_true, decide_eq_true_eq] at this
    rcases this with (h | h) | h
    · omega
    · omega
    · exact h
  have hcover : ∀ j, j < k → k < ops.size → ∃ i, j < i ∧ i ≤ k ∧ waitsFor ops i j = true := fun j h1 h2 => by
    have := List.all_eq_true.1 hcov j (List.mem_range.2 h1)
    simp only [Bool.or_eq_true, beq_iff_eq] at this
    rcases this with h | h
    · omega
    · obtain ⟨i, hi, h⟩ := List.any_eq_true.1 h
      simp only [Bool.and_eq_true, decide_eq_true_eq] at h
      exact ⟨i, h.1, by have := List.mem_range.1 hi; omega, h.2⟩
  have hfin : ∀ L a w, LInv ops R a0 L a w → S L w → (∀ j, j < k → L j = true) → (∀ j, k ≤ j → L j = false) → wpList P ops Q (ops.toList.drop k) a w := fun L a w hI hw hall hno => by
    have hv : ∀ i, ∃ v, i < k → R L i w v ∧ ∀ d, dstOf ops i = some d → a.tmps[d]? = some v := fun i => by
      by_cases hi : i < k
      · obtain ⟨v, h⟩ := hI.vals i (hall i hi); exact ⟨v, fun _ => h⟩
      · exact ⟨undef, fun h => absurd h hi⟩
    obtain ⟨vals, hvals⟩ := Classical.axiomOfChoice hv
    have ha : a = { a0 with tmps := setAll ops vals k a0.tmps } := by
      obtain ⟨tm, df⟩ := a
      have h1 : df = a0.defers := hI.defers
      have h2 : tm = setAll ops vals k a0.tmps := by
        refine Array.ext_getElem? fun s => ?_
        have hset := setAll_get vals hap s k a0.tmps hkn rfl
        by_cases hk : ∃ i, i < k ∧ dstOf ops i = some s
        · obtain ⟨i, hik, hi⟩ := hk
          rw [hset.2 i hik hi]
          exact (hvals i hik).2 s hi
        · rw [hset.1 fun i hi h => hk ⟨i, hi, h⟩]
          refine hI.rest s fun i hi h => ?_
          rcases Nat.lt_or_ge i k with hl | hl
          · exact hk ⟨i, hl, h⟩
          · rw [hno i hl] at hi; cases hi
      rw [h1, h2]
    rw [ha, setAll_eq, hds]
    exact hdone vals L w hall hw fun i hi => (hvals i hi).1
  refine region_invB_in l hnd hq (fun a0' B L a w => (LInv ops R a0 L a w ∧ S L w ∧ (∀ i, k ≤ i → L i = false) ∧ Closed ops L) ∨ ∃ m, k ≤ m ∧ m ≤ ops.size ∧ (∀ i, L i = decide (i < m)) ∧ wpList P ops Q (ops.toList.drop m) a w) hm hord
    (Or.inl ⟨⟨rfl, rfl, fun i h => (Bool.noConfusion h), fun k _ => rfl⟩, h0, fun _ _ => rfl, fun i o _ h => (Bool.noConfusion h)⟩) ?_ ?_
  · intro L a w hI i o ho hLi hdep
    have hio : i < ops.size := (Array.getElem?_eq_some_iff.1 ho).1
    rcases hI with ⟨hI, hSw, hno, hcl⟩ | ⟨m, hm1, hm2, hL, hwp⟩
    · by_cases hik : i < k
      · refine wpOp_mono (fun a' w' h => Or.inl ?_) (linv_step2 R hap hg hik hI ho hdep (S := S (fun j => if j = i then true else L j)) fun E hE => hstep i o ho hik E L w hSw hLi hdep hE)
        refine ⟨h.1, h.2, fun j hj => ?_, fun j o' ho' hj e he hb => ?_⟩
        · have hji : j ≠ i := by omega
          simp only [hji, if_false]
          exact hno j hj
        · by_cases hji : j = i
          · subst hji
            rw [ho] at ho'; cases ho'
            by_cases h2 : e.on = j
            · simp [h2]
            · simp only [h2, if_false]; exact hdep e he hb
          · simp only [hji, if_false] at hj
            by_cases h2 : e.on = i
            · simp [h2]
            · simp only [h2, if_false]; exact hcl j o' ho' hj e he hb
      · have hik' : i = k := by
          rcases Nat.lt_or_ge k i with h | h
          · have := waits_done (L := L) (hchain (i - 1) (by omega) (by omega)) (by rw [show i - 1 + 1 = i by omega]; exact ho) hdep
            rw [hno (i - 1) (by omega)] at this; cases this
          · omega
        subst hik'
        have hall : ∀ d j, i - j ≤ d → j < i → L j = true := by
          intro d
          induction d with
          | zero => intro j h1 h2; omega
          | succ d ih =>
            intro j h1 h2
            obtain ⟨q, hq1, hq2, hq3⟩ := hcover j h2 hio
            by_cases hqi : q = i
            · subst hqi; exact waits_done hq3 ho hdep
            · have hq : L q = true := ih q (by omega) (by omega)
              have hqo : ops[q]? = some ops[q] := Array.getElem?_eq_getElem (by omega)
              exact waits_done hq3 hqo (hcl q _ hqo hq)
        refine wpOp_mono (fun a' w' h => Or.inr ⟨i + 1, by omega, by omega, fun j => ?_, h⟩) (wpList_to_op ho (hfin L a w hI hSw (fun j hj => hall _ j (Nat.le_refl _) hj) hno))
        by_cases hji : j = i
        · subst hji; simp
        · simp only [hji, if_false]
          rcases Nat.lt_or_ge j i with h1 | h1
          · rw [hall _ j (Nat.le_refl _) h1]; simp; omega
          · rw [hno j h1]; simp; omega
    · have him : i = m := by
        have h1 : ¬ i < m := fun h => by rw [hL i] at hLi; simp [h] at hLi
        rcases Nat.lt_or_ge m i with h | h
        · have := waits_done (L := L) (hchain (i - 1) (by omega) (by omega)) (by rw [show i - 1 + 1 = i by omega]; exact ho) hdep
          rw [hL (i - 1)] at this
          simp at this; omega
        · omega
      subst him
      refine wpOp_mono (fun a' w' h => Or.inr ⟨i + 1, by omega, by omega, fun j => ?_, h⟩) (wpList_to_op ho hwp)
      by_cases hji : j = i
      · subst hji; simp
      · simp only [hji, if_false]
        rw [hL j]
        rcases Nat.lt_or_ge j i with h1 | h1
        · simp [h1]; omega
        · simp; omega
  · intro L a w hall hI
    rcases hI with ⟨hI, hSw, hno, hcl⟩ | ⟨m, hm1, hm2, hL, hwp⟩
    · have hk : k = ops.size := by
        rcases Nat.lt_or_ge k ops.size with h | h
        · have := hall k h; rw [hno k (Nat.le_refl _)] at this; cases this
        · omega
      have := hfin L a w hI hSw (fun j hj => hall j (by omega)) hno
      rw [hk, ← Array.length_toList, List.drop_length] at this
      exact this
    · have hk : m = ops.size := by
        rcases Nat.lt_or_ge m ops.size with h | h
        · have := hall m h; rw [hL m] at this; simp at this
        · omega
      rw [hk, ← Array.length_toList, List.drop_length] at hwp
      exact hwp
end

end Go.Proofs.Ytiodjepjbooniaa.wk
