/- Joined: De Op6. -/
import Derived.Test.YtmnpmjioahnjoaaG15

import Derived.OpenShut

import Derived.ChangeSame

import Derived.WideShapes
/- The reference's Meet. -/
namespace Go.Proofs.Ytmnpmjioahnjoaa.bk

open Go.ChangeShapes Go.WideShapes Go.ChangeAt Go.RowKit

open Go.Proofs.Ytmnpmjioahnjoaa.bq Go.Proofs.Ytmnpmjioahnjoaa.vk Go.Proofs.Ytmnpmjioahnjoaa.wk

set_option linter.unusedVariables false
theorem TwoX.belowB {w w' : World} {g B : Nat} {a b : Value} (h : TwoX w g a b) (hb : Below B w w') (hg : g < B) : TwoX w' g a b := (hb.block g hg).trans h
theorem Rows.lt {w : World} {S : Nat} {va vb : Value} {n m : Nat} {xs ys : List Value} (h : Rows w S va vb n m xs ys) : S < w.heap.size := (Array.getElem?_eq_some_iff.1 h.two).1
theorem meetR_none {p q : Pair} (h : balike p q = true) {k : Nat} (hk : k < p.1.length) (hgt : at' (meet p q).2 k < at' (meet p q).1 k) : meetR p q = (([], []), false, 0) := by
  have hv : bvalid (meet p q) = false := by
    cases hh : bvalid (meet p q)
    · rfl
    · have := (bvalid_iff.1 hh).le k (by rw [meet_length]; exact hk)
      omega
  rw [meetR, if_pos h, hv]; rfl
theorem meet_isBox {p q : Pair} (h : balike p q = true) (hle : ∀ i, i < p.1.length → at' (meet p q).1 i ≤ at' (meet p q).2 i) : IsBox (meet p q) := by
  obtain ⟨hl, hp, hq⟩ := balike_iff.1 h
  have hlen := hp.len
  refine box_of (by rw [maxs_length]; exact hp.lo.pos) (by rw [maxs_length]; exact hp.lo.le) (by rw [maxs_length, mins_length]; exact hlen) fun i hi => ?_
  rw [maxs_length] at hi
  have hm := hle i hi
  have h3 : at' (meet p q).1 i = max (at' p.1 i) (at' q.1 i) := maxs_at hi
  have h4 : at' (meet p q).2 i = min (at' p.2 i) (at' q.2 i) := mins_at (by omega)
  have h5 : at' (maxs p.1 q.1) i = max (at' p.1 i) (at' q.1 i) := maxs_at hi
  have h6 : at' (mins p.2 q.2) i = min (at' p.2 i) (at' q.2 i) := mins_at (by omega)
  rw [h5, h6]
  have := box_bd hp hi
  have := box_bd hq (i := i) (by omega)
  omega
theorem meetR_some {p q : Pair} (h : balike p q = true) (hb : IsBox (meet p q)) : meetR p q = (meet p q, true, 0) := by
  rw [meetR, if_pos h, bvalid_iff.2 hb]; rfl
set_option maxRecDepth 100000 in
set_option maxHeartbeats 8000000 in
theorem refmeet_calls (v u : Value) (p q : Pair) (w : World) (h : IsX w v p) (h2 : IsX w u q) :
    Calls Try.prog 13 #[v, u] w fun e w' => ∃ x, e = .returned x ∧ IsF w.heap.size w' x (meetR p q) ∧ Below w.heap.size w w' := by
  obtain ⟨i0, hi0, hz0, hz1, hz2⟩ := info_parts wi.infoI
  have HA := Lib.hid (fun w' hb => refalike_calls v u p q w' (h.below hb) (h2.below hb))
  obtain ⟨A, n, c, A', n', c', rfl, hi, hi'⟩ := h
  obtain ⟨A2, n2, c2, A2', n2', c2', rfl, hi2, hi2'⟩ := h2
  have HB0 := Lib.hid (Below.andThen (Below.andThen (below_new w (.cells #[.slice A n c, .slice A' n' c'] 25)) (below_new _ (.cells #[.slice A2 n2 c2, .slice A2' n2' c2'] 25))) (below_new _ (.cells #[.slice none 0 0, .slice none 0 0, .bool false, .int .i64 0] 36)))
  have HT1 := Lib.hid (((TwoX.new w (.slice A n c) (.slice A' n' c')).below (below_new _ (.cells #[.slice A2 n2 c2, .slice A2' n2' c2'] 25))).below (below_new _ (.cells #[.slice none 0 0, .slice none 0 0, .bool false, .int .i64 0] 36)))
  have HT2 := Lib.hid ((TwoX.new (w.alloc (.cells #[.slice A n c, .slice A' n' c'] 25)) (.slice A2 n2 c2) (.slice A2' n2' c2')).below (below_new _ (.cells #[.slice none 0 0, .slice none 0 0, .bool false, .int .i64 0] 36)))
  have HF := Lib.hid (FourX.new ((w.alloc (.cells #[.slice A n c, .slice A' n' c'] 25)).alloc (.cells #[.slice A2 n2 c2, .slice A2' n2' c2'] 25)) (.slice none 0 0) (.slice none 0 0) (.bool false) (.int .i64 0))
  rw [size_new] at HT2
  rw [size_new, size_new] at HF
  have H1 := Lib.hid hi
  have H1' := Lib.hid hi'
  have H2 := Lib.hid hi2
  have H2' := Lib.hid hi2'
  have hc0 := HT1.out.two.c0
  have hc1 := HT1.out.two.c1
  have hd0 := HT2.out.two.c0
  have hd1 := HT2.out.two.c1
  clear hi hi' hi2 hi2'
  obtain ⟨R, hR⟩ : ∃ R, meetR p q = R := ⟨_, rfl⟩
  rw [hR]
  have HR := Lib.hid hR
  clear hR
  go_enter Try.func13, Try.ntmps13
  go_wp2_with fail
  clear hc0 hc1 hd0 hd1
  refine (HA.out _ HB0.out).mono ?_
  rintro e w1 ⟨rfl, hb⟩
  replace HT1 := Lib.hid (HT1.out.below hb)
  replace HT2 := Lib.hid (HT2.out.below hb)
  replace HF := Lib.hid (HF.out.below hb)
  have HB1 := Lib.hid (Below.andThen HB0.out hb)
  clear hb
  generalize hG : w.heap.size = G at *
  have HG := Lib.hid hG
  clear hG
  cases hal : balike p q
  · obtain rfl : R = (([], []), false, 1) := by rw [← HR.out, meetR, hal]; rfl
    have hF := HF.out
    have hg0 := hF.c0
    have hg1 := hF.c1
    have hg2 := hF.c2
    have hg3 := hF.c3
    have hh0 := hF.f0 0
    have hh1 := hF.f0 1
    have hh2 := hF.f0 2
    have hh3 := hF.f0 3
    have HF2 := Lib.hid (hF.set (.slice none 0 0) (.slice none 0 0) (.bool false) (.int .i64 1))
    have HB2 := Lib.hid (below_set4 HB1.out (show G ≤ G + 1 + 1 by omega) (.slice none 0 0) (.slice none 0 0) (.bool false) (.int .i64 1))
    clear hF
    go_wp2_with fail
    exact bodyPost_ret (v := .agg #[.slice none 0 0, .slice none 0 0, .bool false, .int .i64 1]) (res_f (fn := Try.f13) rfl _ _ (G + 1 + 1) _ _ _ _ rfl HF2.out) rfl ⟨_, rfl, isF_nil _ _ _ _, by rw [HG.out]; exact HB2.out⟩
  · have HAL := Lib.hid hal
    obtain ⟨hl, hp, hq⟩ := balike_iff.1 hal
    have hlen := hp.len
    have hlen2 := hq.len
    obtain rfl : n' = n := by rw [← H1.out.1, ← H1'.out.1, hlen]
    obtain rfl : n2 = n' := by rw [← H1.out.1, ← H2.out.1, hl]
    obtain rfl : n2' = n2 := by rw [← H2.out.1, ← H2'.out.1, hlen2]
    have hn32 : n2' ≤ 32 := by rw [← H1.out.1]; exact hp.lo.le
    have HRW0 := Lib.hid (Rows.new w1)
    have HBN := Lib.hid (below_new w1 (.cells #[.slice none 0 0, .slice none 0 0] 25))
    have hGw : G + 1 + 1 < w1.heap.size := HF.out.lt
    have HBGN := Lib.hid (HB1.out.trans (HBN.out.mono (by omega)))
    have HF0 := Lib.hid (HF.out.below HBN.out)
    have HT10 := Lib.hid (HT1.out.below HBN.out)
    have HT20 := Lib.hid (HT2.out.below HBN.out)
    have HI1 := Lib.hid (fun w' (hb : Below w1.heap.size w1 w') => isI_below H1.out (by rw [HG.out]; exact HB1.out.trans (hb.mono (by omega))))
    have HI1' := Lib.hid (fun w' (hb : Below w1.heap.size w1 w') => isI_below H1'.out (by rw [HG.out]; exact HB1.out.trans (hb.mono (by omega))))
    have HI2 := Lib.hid (fun w' (hb : Below w1.heap.size w1 w') => isI_below H2.out (by rw [HG.out]; exact HB1.out.trans (hb.mono (by omega))))
    have HI2' := Lib.hid (fun w' (hb : Below w1.heap.size w1 w') => isI_below H2'.out (by rw [HG.out]; exact HB1.out.trans (hb.mono (by omega))))
    have HN : Hid (p.1.length = n2') := H1.out.1
    have hm1 := H1.out.2.2.1
    have hm1' := H1'.out.2.2.1
    have hm2 := H2.out.2.2.1
    have hm2' := H2'.out.2.2.1
    have hnc1 := H1.out.2.1
    have hnc1' := H1'.out.2.1
    have hnc2 := H2.out.2.1
    have hnc2' := H2'.out.2.1
    have HAL' : Hid (p.1.length = p.2.length) := hlen
    clear hal hl hp hq hlen hlen2
    go_wp2_with fail
    clear HF HT1 HT2
    generalize hS : w1.heap.size = S at *
    have HS := Lib.hid hS
    clear hS
    go_loopg [7] n2' (fun g x wr => ∃ (k : Nat) (va vb : Value), k + g = n2' ∧ x = .int .i64 (k : Int) ∧ Rows wr S va vb k k (iv ((meet p q).1.take k)) (iv ((meet p q).2.take k)) ∧ FourX wr (G + 1 + 1) (.slice none 0 0) (.slice none 0 0) (.bool false) (.int .i64 0) ∧ TwoX wr G (.slice A n2' c) (.slice A' n2' c') ∧ TwoX wr (G + 1) (.slice A2 n2' c2) (.slice A2' n2' c2') ∧ Below S w1 wr ∧ Below G w wr ∧ ∀ i, i < k → at' (meet p q).1 i ≤ at' (meet p q).2 i)
    case atStart => exact ⟨0, _, _, by omega, rfl, HRW0.out, HF0.out, HT10.out, HT20.out, HBN.out, HBGN.out, fun i hi => by omega⟩
    case round =>
      obtain ⟨k, va, vb, hk, rfl, hrw, hF, hT1, hT2, hbS, hbG, hle⟩ := hrel
      have HK := Lib.hid hk
      have HRW := Lib.hid hrw
      have HF := Lib.hid hF
      have HT1 := Lib.hid hT1
      have HT2 := Lib.hid hT2
      have HBS := Lib.hid hbS
      have HBG := Lib.hid hbG
      have HLE := Lib.hid hle
      have hkn : k ≤ n2' := by omega
      have he0 := hT1.two.c0
      have he1 := hT1.two.c1
      clear hk hrw hF hT1 hT2 hbG hle
      by_cases hlt : k < n2'
      · have hlt0 : (k : Int) < (n2' : Int) := by omega
        have hlt0' : k < p.1.length := by rw [HN.out]; exact hlt
        obtain ⟨bl1, ol1, rfl, hx1, hy1⟩ := isI_get (HI1.out wr hbS) hlt
        obtain ⟨bh1, oh1, rfl, hx2, hy2⟩ := isI_get (HI1'.out wr hbS) hlt
        obtain ⟨bl2, ol2, rfl, hx3, hy3⟩ := isI_get (HI2.out wr hbS) hlt
        obtain ⟨bh2, oh2, rfl, hx4, hy4⟩ := isI_get (HI2'.out wr hbS) hlt
        have HS1 : Hid ((meet p q).1.take (k + 1) = (meet p q).1.take k ++ [max (at' p.1 k) (at' q.1 k)]) := map_snoc' _ _ hlt0'
        have HS2 : Hid ((meet p q).2.take (k + 1) = (meet p q).2.take k ++ [min (at' p.2 k) (at' q.2 k)]) := map_snoc' _ _ (by rw [← HAL'.out]; exact hlt0')
        have HZ1 : Hid (at' (meet p q).1 k = max (at' p.1 k) (at' q.1 k)) := maxs_at hlt0'
        have HZ2 : Hid (at' (meet p q).2 k = min (at' p.2 k) (at' q.2 k)) := mins_at (by rw [← HAL'.out]; exact hlt0')
        have HCl1 := Lib.hid (fun w' (hb : Below wr.heap.size wr w') => (hb.cell (p := ⟨bl1, ol1 + k, none⟩) hy1).trans hx1)
        have HCh1 := Lib.hid (fun w' (hb : Below wr.heap.size wr w') => (hb.cell (p := ⟨bh1, oh1 + k, none⟩) hy2).trans hx2)
        have HCl2 := Lib.hid (fun w' (hb : Below wr.heap.size wr w') => (hb.cell (p := ⟨bl2, ol2 + k, none⟩) hy3).trans hx3)
        have HCh2 := Lib.hid (fun w' (hb : Below wr.heap.size wr w') => (hb.cell (p := ⟨bh2, oh2 + k, none⟩) hy4).trans hx4)
        clear hx1 hx2 hx3 hx4 hy1 hy2 hy3 hy4 hbS
        generalize at' p.1 k = xl at *
        generalize at' p.2 k = xh at *
        generalize at' q.1 k = yl at *
        generalize at' q.2 k = yh at *
        obtain ⟨z1, hq1⟩ : ∃ z1, max xl yl = z1 := ⟨_, rfl⟩
        obtain ⟨z2, hq2⟩ : ∃ z2, min xh yh = z2 := ⟨_, rfl⟩
        rw [hq1] at HS1 HZ1
        rw [hq2] at HS2 HZ2
        go_wp2_with fail
        refine wk.region_tailS 12 [.is (.pointer (some ⟨G, 0, none⟩)), .is (.slice (some ⟨bl1, ol1, none⟩) n2' c), .is (.int .i64 (k : Int)), .is (.pointer (some ⟨bl1, ol1 + k, none⟩)), .is (.int .i64 xl), .is (.pointer (some ⟨G + 1, 0, none⟩)), .is (.slice (some ⟨bl2, ol2, none⟩) n2' c2), .is (.int .i64 (k : Int)), .is (.pointer (some ⟨bl2, ol2 + k, none⟩)), .is (.int .i64 yl), .is (.int .i64 z1), .is (.int .i64 z1)] [some 23, some 24, some 25, some 26, some 27, some 28, some 29, some 30, some 31, some 32, some 33, some 8] (by kernel_rfl) (by kernel_rfl) (by kernel_rfl) (by kernel_rfl) [] (by kernel_rfl) (by intro p hp; cases hp) (by kernel_rfl) (by kernel_rfl) ?hstep ?hdone
        case hstep =>
          intro i o ho hi hns E w4 hb4 D
          have hi2 : i = 0 ∨ i = 1 ∨ i = 2 ∨ i = 3 ∨ i = 4 ∨ i = 5 ∨ i = 6 ∨ i = 7 ∨ i = 8 ∨ i = 9 ∨ i = 10 ∨ i = 11 := by omega
          clear hi
          rcases hi2 with rfl | rfl | rfl | rfl | rfl | rfl | rfl | rfl | rfl | rfl | rfl | rfl
          ·
            have ho2 := (Array.getElem?_eq_some_iff.1 ho).2
            simp only [List.getElem_toArray, List.getElem_cons_zero] at ho2
            subst ho2
            clear ho
            have e2 := D.old 2 (by kernel_rfl)
            exact wk.does_run (by simp only [execOp]; rw [show E (.tmp 2) = .pointer (some ⟨G, 0, none⟩) by rw [e2]; rfl]; go_simp) rfl
          ·
            have ho2 := (Array.getElem?_eq_some_iff.1 ho).2
            simp only [List.getElem_toArray, List.getElem_cons_succ, List.getElem_cons_zero] at ho2
            subst ho2
            clear ho
            have e23 := D.is { on := 0, ground := .data } (by simp) rfl rfl 23 rfl
            exact wk.does_load1 rfl e23 ((HT1.out.below ((Below.refl _ _).drew.trans hb4)).two.c0) Try.underlying23 rfl rfl
          ·
            have ho2 := (Array.getElem?_eq_some_iff.1 ho).2
            simp only [List.getElem_toArray, List.getElem_cons_succ, List.getElem_cons_zero] at ho2
            subst ho2
            clear ho
            have e7 := D.old 7 (by kernel_rfl)
            exact wk.does_move rfl (by rw [e7]; rfl)
          ·
            have ho2 := (Array.getElem?_eq_some_iff.1 ho).2
            simp only [List.getElem_toArray, List.getElem_cons_succ, List.getElem_cons_zero] at ho2
            subst ho2
            clear ho
            have e24 := D.is { on := 1, ground := .data } (by simp) rfl rfl 24 rfl
            have e25 := D.is { on := 2, ground := .data } (by simp) rfl rfl 25 rfl
            exact wk.does_run (by simp only [execOp]; rw [e24, e25]; go_simp) rfl
          ·
            have ho2 := (Array.getElem?_eq_some_iff.1 ho).2
            simp only [List.getElem_toArray, List.getElem_cons_succ, List.getElem_cons_zero] at ho2
            subst ho2
            clear ho
            have e26 := D.is { on := 3, ground := .data } (by simp) rfl rfl 26 rfl
            exact wk.does_load1 rfl e26 (HCl1.out w4 ((Below.refl _ _).drew.trans hb4)) Try.underlying3 rfl rfl
          ·
            have ho2 := (Array.getElem?_eq_some_iff.1 ho).2
            simp only [List.getElem_toArray, List.getElem_cons_succ, List.getElem_cons_zero] at ho2
            subst ho2
            clear ho
            have e3 := D.old 3 (by kernel_rfl)
            exact wk.does_run (by simp only [execOp]; rw [show E (.tmp 3) = .pointer (some ⟨G + 1, 0, none⟩) by rw [e3]; rfl]; go_simp) rfl
          ·
            have ho2 := (Array.getElem?_eq_some_iff.1 ho).2
            simp only [List.getElem_toArray, List.getElem_cons_succ, List.getElem_cons_zero] at ho2
            subst ho2
            clear ho
            have e28 := D.is { on := 5, ground := .data } (by simp) rfl rfl 28 rfl
            exact wk.does_load1 rfl e28 ((HT2.out.below ((Below.refl _ _).drew.trans hb4)).two.c0) Try.underlying23 rfl rfl
          ·
            have ho2 := (Array.getElem?_eq_some_iff.1 ho).2
            simp only [List.getElem_toArray, List.getElem_cons_succ, List.getElem_cons_zero] at ho2
            subst ho2
            clear ho
            have e7 := D.old 7 (by kernel_rfl)
            exact wk.does_move rfl (by rw [e7]; rfl)
          ·
            have ho2 := (Array.getElem?_eq_some_iff.1 ho).2
            simp only [List.getElem_toArray, List.getElem_cons_succ, List.getElem_cons_zero] at ho2
            subst ho2
            clear ho
            have e29 := D.is { on := 6, ground := .data } (by simp) rfl rfl 29 rfl
            have e30 := D.is { on := 7, ground := .data } (by simp) rfl rfl 30 rfl
            exact wk.does_run (by simp only [execOp]; rw [e29, e30]; go_simp) rfl
          ·
            have ho2 := (Array.getElem?_eq_some_iff.1 ho).2
            simp only [List.getElem_toArray, List.getElem_cons_succ, List.getElem_cons_zero] at ho2
            subst ho2
            clear ho
            have e31 := D.is { on := 8, ground := .data } (by simp) rfl rfl 31 rfl
            exact wk.does_load1 rfl e31 (HCl2.out w4 ((Below.refl _ _).drew.trans hb4)) Try.underlying3 rfl rfl
          ·
            have ho2 := (Array.getElem?_eq_some_iff.1 ho).2
            simp only [List.getElem_toArray, List.getElem_cons_succ, List.getElem_cons_zero] at ho2
            subst ho2
            clear ho
            have e27 := D.is { on := 4, ground := .data } (by simp) rfl rfl 27 rfl
            have e32 := D.is { on := 9, ground := .data } (by simp) rfl rfl 32 rfl
            exact wk.does_run (by simp only [execOp, resolve, List.map_toArray, List.map_cons, List.map_nil]; rw [e27, e32]; go_simp) rfl
          ·
            have ho2 := (Array.getElem?_eq_some_iff.1 ho).2
            simp only [List.getElem_toArray, List.getElem_cons_succ, List.getElem_cons_zero] at ho2
            subst ho2
            clear ho
            have e33 := D.is { on := 10, ground := .data } (by simp) rfl rfl 33 rfl
            exact wk.does_assign rfl e33
        case hdone =>
          intro vals w4 hb4 hv
          have h11 := hv 11 (by omega)
          clear hv
          replace h11 : vals 11 = (.int .i64 z1) := h11
          simp only [List.drop_succ_cons, List.drop_zero, wpList, wk.setL, List.setIfInBounds_toArray, List.set_cons_zero, List.set_cons_succ, Nat.zero_add, Nat.reduceAdd, h11]
          generalize vals 0 = x0
          generalize vals 1 = x1
          generalize vals 2 = x2
          generalize vals 3 = x3
          generalize vals 4 = x4
          generalize vals 5 = x5
          generalize vals 6 = x6
          generalize vals 7 = x7
          generalize vals 8 = x8
          generalize vals 9 = x9
          generalize vals 10 = x10
          have h48 := ((Below.refl _ _).drew.trans hb4 : Below wr.heap.size wr w4)
          have H48 := Lib.hid h48
          clear hb4 h48
          go_wp2_with fail
          refine wk.region_tailS 12 [.is (.pointer (some ⟨G, 1, none⟩)), .is (.slice (some ⟨bh1, oh1, none⟩) n2' c'), .is (.int .i64 (k : Int)), .is (.pointer (some ⟨bh1, oh1 + k, none⟩)), .is (.int .i64 xh), .is (.pointer (some ⟨G + 1, 1, none⟩)), .is (.slice (some ⟨bh2, oh2, none⟩) n2' c2'), .is (.int .i64 (k : Int)), .is (.pointer (some ⟨bh2, oh2 + k, none⟩)), .is (.int .i64 yh), .is (.int .i64 z2), .is (.int .i64 z2)] [some 34, some 35, some 36, some 37, some 38, some 39, some 40, some 41, some 42, some 43, some 44, some 9] (by kernel_rfl) (by kernel_rfl) (by kernel_rfl) (by kernel_rfl) [] (by kernel_rfl) (by intro p hp; cases hp) (by kernel_rfl) (by kernel_rfl) ?hstep ?hdone
          case hstep =>
            intro i o ho hi hns E w8 hb4 D
            have hi2 : i = 0 ∨ i = 1 ∨ i = 2 ∨ i = 3 ∨ i = 4 ∨ i = 5 ∨ i = 6 ∨ i = 7 ∨ i = 8 ∨ i = 9 ∨ i = 10 ∨ i = 11 := by omega
            clear hi
            rcases hi2 with rfl | rfl | rfl | rfl | rfl | rfl | rfl | rfl | rfl | rfl | rfl | rfl
            ·
              have ho2 := (Array.getElem?_eq_some_iff.1 ho).2
              simp only [List.getElem_toArray, List.getElem_cons_zero] at ho2
              subst ho2
              clear ho
              have e2 := D.old 2 (by kernel_rfl)
              exact wk.does_run (by simp only [execOp]; rw [show E (.tmp 2) = .pointer (some ⟨G, 0, none⟩) by rw [e2]; rfl]; go_simp) rfl
            ·
              have ho2 := (Array.getElem?_eq_some_iff.1 ho).2
              simp only [List.getElem_toArray, List.getElem_cons_succ, List.getElem_cons_zero] at ho2
              subst ho2
              clear ho
              have e34 := D.is { on := 0, ground := .data } (by simp) rfl rfl 34 rfl
              exact wk.does_load1 rfl e34 ((HT1.out.below (H48.out.trans (((Below.refl _ _).drew.trans hb4).mono H48.out.size))).two.c1) Try.underlying23 rfl rfl
            ·
              have ho2 := (Array.getElem?_eq_some_iff.1 ho).2
              simp only [List.getElem_toArray, List.getElem_cons_succ, List.getElem_cons_zero] at ho2
              subst ho2
              clear ho
              have e7 := D.old 7 (by kernel_rfl)
              exact wk.does_move rfl (by rw [e7]; rfl)
            ·
              have ho2 := (Array.getElem?_eq_some_iff.1 ho).2
              simp only [List.getElem_toArray, List.getElem_cons_succ, List.getElem_cons_zero] at ho2
              subst ho2
              clear ho
              have e35 := D.is { on := 1, ground := .data } (by simp) rfl rfl 35 rfl
              have e36 := D.is { on := 2, ground := .data } (by simp) rfl rfl 36 rfl
              exact wk.does_run (by simp only [execOp]; rw [e35, e36]; go_simp) rfl
            ·
              have ho2 := (Array.getElem?_eq_some_iff.1 ho).2
              simp only [List.getElem_toArray, List.getElem_cons_succ, List.getElem_cons_zero] at ho2
              subst ho2
              clear ho
              have e37 := D.is { on := 3, ground := .data } (by simp) rfl rfl 37 rfl
              exact wk.does_load1 rfl e37 (HCh1.out w8 (H48.out.trans (((Below.refl _ _).drew.trans hb4).mono H48.out.size))) Try.underlying3 rfl rfl
            ·
              have ho2 := (Array.getElem?_eq_some_iff.1 ho).2
              simp only [List.getElem_toArray, List.getElem_cons_succ, List.getElem_cons_zero] at ho2
              subst ho2
              clear ho
              have e3 := D.old 3 (by kernel_rfl)
              exact wk.does_run (by simp only [execOp]; rw [show E (.tmp 3) = .pointer (some ⟨G + 1, 0, none⟩) by rw [e3]; rfl]; go_simp) rfl
            ·
              have ho2 := (Array.getElem?_eq_some_iff.1 ho).2
              simp only [List.getElem_toArray, List.getElem_cons_succ, List.getElem_cons_zero] at ho2
              subst ho2
              clear ho
              have e39 := D.is { on := 5, ground := .data } (by simp) rfl rfl 39 rfl
              exact wk.does_load1 rfl e39 ((HT2.out.below (H48.out.trans (((Below.refl _ _).drew.trans hb4).mono H48.out.size))).two.c1) Try.underlying23 rfl rfl
            ·
              have ho2 := (Array.getElem?_eq_some_iff.1 ho).2
              simp only [List.getElem_toArray, List.getElem_cons_succ, List.getElem_cons_zero] at ho2
              subst ho2
              clear ho
              have e7 := D.old 7 (by kernel_rfl)
              exact wk.does_move rfl (by rw [e7]; rfl)
            ·
              have ho2 := (Array.getElem?_eq_some_iff.1 ho).2
              simp only [List.getElem_toArray, List.getElem_cons_succ, List.getElem_cons_zero] at ho2
              subst ho2
              clear ho
              have e40 := D.is { on := 6, ground := .data } (by simp) rfl rfl 40 rfl
              have e41 := D.is { on := 7, ground := .data } (by simp) rfl rfl 41 rfl
              exact wk.does_run (by simp only [execOp]; rw [e40, e41]; go_simp) rfl
            ·
              have ho2 := (Array.getElem?_eq_some_iff.1 ho).2
              simp only [List.getElem_toArray, List.getElem_cons_succ, List.getElem_cons_zero] at ho2
              subst ho2
              clear ho
              have e42 := D.is { on := 8, ground := .data } (by simp) rfl rfl 42 rfl
              exact wk.does_load1 rfl e42 (HCh2.out w8 (H48.out.trans (((Below.refl _ _).drew.trans hb4).mono H48.out.size))) Try.underlying3 rfl rfl
            ·
              have ho2 := (Array.getElem?_eq_some_iff.1 ho).2
              simp only [List.getElem_toArray, List.getElem_cons_succ, List.getElem_cons_zero] at ho2
              subst ho2
              clear ho
              have e38 := D.is { on := 4, ground := .data } (by simp) rfl rfl 38 rfl
              have e43 := D.is { on := 9, ground := .data } (by simp) rfl rfl 43 rfl
              exact wk.does_run (by simp only [execOp, resolve, List.map_toArray, List.map_cons, List.map_nil]; rw [e38, e43]; go_simp) rfl
            ·
              have ho2 := (Array.getElem?_eq_some_iff.1 ho).2
              simp only [List.getElem_toArray, List.getElem_cons_succ, List.getElem_cons_zero] at ho2
              subst ho2
              clear ho
              have e44 := D.is { on := 10, ground := .data } (by simp) rfl rfl 44 rfl
              exact wk.does_assign rfl e44
          case hdone =>
            intro vals w8 hb4 hv
            have h11 := hv 11 (by omega)
            clear hv
            replace h11 : vals 11 = (.int .i64 z2) := h11
            simp only [List.drop_succ_cons, List.drop_zero, wpList, wk.setL, List.setIfInBounds_toArray, List.set_cons_zero, List.set_cons_succ, Nat.zero_add, Nat.reduceAdd, h11]
            generalize vals 0 = x0
            generalize vals 1 = x1
            generalize vals 2 = x2
            generalize vals 3 = x3
            generalize vals 4 = x4
            generalize vals 5 = x5
            generalize vals 6 = x6
            generalize vals 7 = x7
            generalize vals 8 = x8
            generalize vals 9 = x9
            generalize vals 10 = x10
            have h59 := H48.out.trans ((((Below.refl _ _).drew.trans hb4 : Below w4.heap.size w4 w8)).mono H48.out.size)
            have HRWA := Lib.hid (HRW.out.below h59)
            have HFA := Lib.hid (HF.out.below h59)
            have HT1A := Lib.hid (HT1.out.below h59)
            have HT2A := Lib.hid (HT2.out.below h59)
            have HBSA := Lib.hid (HBS.out.trans (h59.mono (by have := HRW.out.lt; omega)))
            have HBGA := Lib.hid (HBG.out.trans (h59.mono (by have := HRW.out.lt; omega)))
            clear hb4 h59
            by_cases hgt : z2 < z1
            · obtain rfl : R = (([], []), false, 0) := by rw [← HR.out]; exact meetR_none HAL.out hlt0' (by rw [HZ1.out, HZ2.out]; exact hgt)
              have hF := HFA.out
              have hg0 := hF.c0
              have hg1 := hF.c1
              have hg2 := hF.c2
              have hg3 := hF.c3
              have hh0 := hF.f0 0
              have hh1 := hF.f0 1
              have hh2 := hF.f0 2
              have hh3 := hF.f0 3
              have HF2 := Lib.hid (hF.set (.slice none 0 0) (.slice none 0 0) (.bool false) (.int .i64 0))
              have HB2 := Lib.hid (below_set4 HBGA.out (show G ≤ G + 1 + 1 by omega) (.slice none 0 0) (.slice none 0 0) (.bool false) (.int .i64 0))
              clear hF
              go_wp2_with fail
              exact bodyPost_ret (v := .agg #[.slice none 0 0, .slice none 0 0, .bool false, .int .i64 0]) (res_f (fn := Try.f13) rfl _ _ (G + 1 + 1) _ _ _ _ rfl HF2.out) rfl ⟨_, rfl, isF_nil _ _ _ _, by rw [HG.out]; exact HB2.out⟩
            · clear HRW
              have HRW := HRWA
              have hc0 := HRW.out.two.two.c0
              have hc1 := HRW.out.two.two.c1
              go_wp2_with (at_builtin; refine wpList_append_own_at _ rfl _ _ 23 rfl (S + 1) 3 i0 (.int .i64 0) 1 8 Try.underlying23 hi0 hz0 hz1 hz2 rfl (by decide) _ _ _ rfl (HRW.out.a.alloc _) ⟨_, 0, none⟩ 1 1 [.int .i64 z1] rfl rfl ?p51 ?p52 ?p53 ?p54 ?p55 ?_)
              try (case p51 => exact cell_one_new _ _ _)
              case p52 => simp [Value.oneCell']
              case p53 => unfold maxLen; omega
              case p54 => omega
              case p55 => have := (Array.getElem?_eq_some_iff.1 HRW.out.two).1; first | (simp only [size_new]; omega) | omega
              intro v5 w5 hown hgrow _ hat
              obtain ⟨AA5, nn5, cc5, rfl⟩ := own_slice hown
              obtain ⟨hT, hR, hb⟩ := HRW.out.grow0 _ hown hgrow hat
              clear hc0 hc1 hown hgrow hat
              have hc0 := hT.two.c0
              have hc1 := hT.two.c1
              have hf0 := hT.f0 0
              have hf1 := hT.f0 1
              have hd0 := hR.two.two.c0
              have hd1 := hR.two.two.c1
              have HRW5 := Lib.hid hR
              have HB5 := Lib.hid hb
              clear hT hR hb
              skip
              go_wp2_with (at_builtin; refine wpList_append_own_at _ rfl _ _ 23 rfl (S + 1) 3 i0 (.int .i64 0) 1 8 Try.underlying23 hi0 hz0 hz1 hz2 rfl (by decide) _ _ _ rfl (HRW5.out.b.alloc _) ⟨_, 0, none⟩ 1 1 [.int .i64 z2] rfl rfl ?p61 ?p62 ?p63 ?p64 ?p65 ?_)
              try (case p61 => exact fun j u hj => by have h := cell_one_new (w5.setCell ⟨S, 0, none⟩ (.slice AA5 nn5 cc5)) (.int .i64 z2) 3 j u hj; rw [set1_size] at h; exact h)
              case p62 => simp [Value.oneCell']
              case p63 => unfold maxLen; omega
              case p64 => omega
              case p65 => have := (Array.getElem?_eq_some_iff.1 HRW5.out.two).1; first | (simp only [size_new]; omega) | omega
              intro v6 w6 hown hgrow _ hat
              obtain ⟨AA6, nn6, cc6, rfl⟩ := own_slice hown
              obtain ⟨hT, hR, hb⟩ := HRW5.out.grow1 _ hown hgrow (by rw [set1_size]; exact hat)
              clear hc0 hc1 hown hgrow hat
              have hc0 := hT.two.c0
              have hc1 := hT.two.c1
              have hf0 := hT.f0 0
              have hf1 := hT.f0 1
              have hd0 := hR.two.two.c0
              have hd1 := hR.two.two.c1
              have HRW6 := Lib.hid hR
              have HB6 := Lib.hid hb
              clear hT hR hb
              go_wp2_with fail
              go_roundg (gk - 1)
              case measure => have := HK.out; omega
              case rel =>
                have h66 := HB5.out.trans HB6.out
                refine ⟨k + 1, .slice AA5 nn5 cc5, .slice AA6 nn6 cc6, by have := HK.out; omega, by go_num, ?_, HFA.out.belowB h66 (by omega), HT1A.out.belowB h66 (by omega), HT2A.out.belowB h66 (by omega), HBSA.out.trans h66, HBGA.out.trans (h66.mono (by omega)), fun i hi => ?_⟩
                · rw [HS1.out, HS2.out]
                  unfold iv
                  rw [List.map_append, List.map_append, List.map_take, List.map_take]
                  have hh := HRW6.out
                  unfold iv at hh
                  exact hh
                · by_cases hik : i = k
                  · subst hik; rw [HZ1.out, HZ2.out]; omega
                  · exact HLE.out i (by omega)
          
      · obtain rfl : k = n2' := by omega
        have hbx := meet_isBox HAL.out (fun i hi => HLE.out i (by rw [← HN.out]; exact hi))
        obtain rfl : R = (meet p q, true, 0) := by rw [← HR.out]; exact meetR_some HAL.out hbx
        have hl1 : (meet p q).1.length = k := by rw [meet_length, HN.out]
        have hl2 : (meet p q).2.length = k := by rw [← hbx.len]; exact hl1
        have hrw := HRW.out
        rw [List.take_of_length_le (Nat.le_of_eq hl1), List.take_of_length_le (Nat.le_of_eq hl2)] at hrw
        obtain ⟨Aa, ca, Ab, cb, rfl, rfl, hIF⟩ := Rows.isF (lo := G) (g := G + 1 + 1) (p := meet p q) hrw (vec_bd hbx.lo) (vec_bd hbx.hi) (by omega) hGw
        have hc4 := hrw.two.two.c0
        have hc5 := hrw.two.two.c1
        have hF := HF.out
        have hg0 := hF.c0
        have hg1 := hF.c1
        have hg2 := hF.c2
        have hg3 := hF.c3
        have hh0 := hF.f0 0
        have hh1 := hF.f0 1
        have hh2 := hF.f0 2
        have hh3 := hF.f0 3
        have HF2 := Lib.hid (hF.set (.slice Aa k ca) (.slice Ab k cb) (.bool true) (.int .i64 0))
        have HB2 := Lib.hid (below_set4 HBG.out (show G ≤ G + 1 + 1 by omega) (.slice Aa k ca) (.slice Ab k cb) (.bool true) (.int .i64 0))
        have HIF := Lib.hid (hIF (.slice Aa k ca) (.slice Ab k cb) (.bool true) (.int .i64 0))
        clear hF hrw hIF hbS hl1 hl2 hbx
        go_wp2_with fail
        exact bodyPost_ret (v := .agg #[.slice Aa k ca, .slice Ab k cb, .bool true, .int .i64 0]) (res_f (fn := Try.f13) rfl _ _ (G + 1 + 1) _ _ _ _ rfl HF2.out) rfl ⟨_, rfl, by rw [HG.out]; exact HIF.out, by rw [HG.out]; exact HB2.out⟩
end Go.Proofs.Ytmnpmjioahnjoaa.bk
/- A box as an argument; a list of 16-bit numbers as an argument. -/
namespace Go.Proofs.Ytmnpmjioahnjoaa.bk

open Go Go.ChangeShapes Go.WideShapes Go.ChangeAt Go.RowKit

open Go.Proofs.Ytmnpmjioahnjoaa.bq Go.Proofs.Ytmnpmjioahnjoaa.vk Go.Proofs.Ytmnpmjioahnjoaa.wk

set_option linter.unusedVariables false
theorem open_is {H : Type} {enc : TypeId × Value → H} {w : World} {base : Nat} {sp : Nat → Bool} {held : Bool} {v : Value} {m : Nat} {y : DataW H × List MemPlace}
    (h : DataW.trod enc Try.prog w base sp held m 23 [v] = some y) : ∃ A n c l, v = .slice A n c ∧ wo.IsI w A n c l := by
  have hs : ∃ A n c, v = .slice A n c := by
    rcases DataW.trod_slice Try.underlying23 h with ⟨hcs, _⟩ | ⟨ad, len, cap, elems, rest, m, _, hcs, _⟩
    · simp only [List.cons.injEq, and_true] at hcs; exact ⟨_, _, _, hcs⟩
    · simp only [List.cons.injEq, and_true] at hcs; exact ⟨_, _, _, hcs⟩
  obtain ⟨A, n, c, rfl⟩ := hs
  obtain ⟨l, hl⟩ := wo.openI Try.underlying23 Try.underlying3 (by kernel_rfl) h
  exact ⟨A, n, c, l, rfl, hl⟩
theorem open_x {H : Type} {enc : TypeId × Value → H} {w : World} {base b0 : Nat} {sp : Nat → Bool} {held : Bool} {r : Reach} {v : Value} {d : DataW H} {ps : List MemPlace}
    (hval : Value.okWide Try.prog w r b0 25 v) (hd : DataW.Trod enc Try.prog w base sp held 25 v d ps) : ∃ p, IsX w v p := by
  obtain ⟨⟨cs⟩, rfl, hcs⟩ := okWide_struct Try.underlying25 hval
  have hcs : cs.length = 2 := hcs.trans (by kernel_rfl)
  obtain ⟨fuel, hf⟩ := hd
  match cs, hcs with
  | [c0, c1], _ =>
    obtain ⟨y0, y1, m, _, _, h0, h1⟩ := trod_struct2 Try.underlying25 hf
    have hc : Try.prog.cellsOf 23 = 1 := by kernel_rfl
    rw [hc] at h0 h1
    obtain ⟨A, n, c, l, rfl, hl⟩ := open_is (show DataW.trod enc Try.prog w base sp held m 23 [c0] = some y0 from h0)
    obtain ⟨A', n', c', l', rfl, hl'⟩ := open_is (show DataW.trod enc Try.prog w base sp held m 23 [c1] = some y1 from h1)
    exact ⟨(l, l'), A, n, c, A', n', c', rfl, hl, hl'⟩
section

variable {H : Type} {enc : TypeId × Value → H} {P : Program} {w : World} {base : Nat} {spare : Nat → Bool} {held : Bool} {t e : TypeId} {a : Option Addr} {n c fuel : Nat} {x : DataW H × List MemPlace}
theorem openU (ht : P.underlying t = some (.slice e)) (he : P.underlying e = some (.int .u16)) (hc : P.cellsOf e = 1) (h : DataW.trod enc P w base spare held fuel t [.slice a n c] = some x) : ∃ l, IsU w a n c l := by
  rcases open_ints ht he hc h with ⟨hcs, _⟩ | ⟨ad, l, c', zs, hcs, _, hl, hm, hz, _, hcell, hwz⟩
  · simp only [List.cons.injEq, Value.slice.injEq, and_true] at hcs
    obtain ⟨rfl, rfl, rfl⟩ := hcs
    exact ⟨[], rfl, Nat.le_refl _, by omega, fun h => absurd h (by simp), by simp⟩
  · simp only [List.cons.injEq, Value.slice.injEq, and_true] at hcs
    obtain ⟨rfl, rfl, rfl⟩ := hcs
    have hzl : n ≤ zs.length := by rw [hz]; split <;> omega
    refine ⟨zs.take n, by simp; omega, hl, by unfold maxLen at hm; omega, wo.rc_of fun i u hu => ?_, fun y hy => ?_⟩
    · have hi : i < n := by
        rcases Nat.lt_or_ge i n with h' | h'
        · exact h'
        · rw [List.getElem?_eq_none (by simp; omega)] at hu; cases hu
      rw [hcell i (by omega), ← hu]
      simp [List.getD, List.getElem?_take_of_lt hi, List.getElem?_eq_getElem (show i < zs.length by omega)]
    · have := hwz y (List.mem_of_mem_take hy)
      simpa [Lit.wf, IntKind.min, IntKind.max, IntKind.signed, IntKind.bits] using this
end

end Go.Proofs.Ytmnpmjioahnjoaa.bk
