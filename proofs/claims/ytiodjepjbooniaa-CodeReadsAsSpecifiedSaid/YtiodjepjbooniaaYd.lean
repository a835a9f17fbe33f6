/- The reference: Part, Sum, Bounds. -/
import Derived.Test.YtiodjepjbooniaaG12

import Derived.Test.YtiodjepjbooniaaG11

namespace Go.Proofs.Ytiodjepjbooniaa.uk

open Go.ChangeShapes Go.WideShapes Go.ChangeAt Go.RowKit

open Go.Proofs.Ytiodjepjbooniaa.cq Go.Proofs.Ytiodjepjbooniaa.vk Go.Proofs.Ytiodjepjbooniaa.bk Go.Proofs.Ytiodjepjbooniaa.wk

set_option linter.unusedVariables false
set_option maxRecDepth 100000 in
set_option maxHeartbeats 4000000 in
theorem rpart_calls (v : Value) (b : Bk) (k : Nat) (A : Option Addr) (n c : Nat) (q : List Int) (w : World) (h : IsBk w v b) (hR : Rt b) (hk : k < b.cuts.length) (h2 : wo.IsI w A n c q) (hnd : (n : Int) = b.d) :
    Calls Try.prog 47 #[v, .int .i64 (k : Int), .slice A n c] w fun e w' => ∃ A' n' c', e = .returned (.slice A' n' c') ∧ wo.IsI w' A' n' c' (pt q (spa (sp b.cuts b.d) k)) ∧ Below w.heap.size w w' := by
  obtain ⟨A0, n0, c0, AW, nW, cW, rfl, hi, hW, hd⟩ := h
  have hT0 := Three.new w (.int .i64 b.d) (.slice A0 n0 c0) (.slice AW nW cW)
  have hb0 := below_new w (.cells #[.int .i64 b.d, .slice A0 n0 c0, .slice AW nW cW] 25)
  have hi0 := isI_below hi hb0
  have hq0 := isI_below h2 hb0
  have hlt : k < n0 := by rw [← hi.1]; exact hk
  obtain ⟨b0, o0, rfl, hb7, -⟩ := hi0.2.2.2.1 (by have := hi.1; simp; omega)
  obtain ⟨b', o', y0, eA, hc7, hY, -, -⟩ := isI_at hi0 hlt
  cases eA
  have hDA := hR.div.at hY
  have d32 := hR.div.d32
  rw [spa_of (sp_at (d := b.d) hY)]
  obtain ⟨y1, hy1⟩ : ∃ y, endAt b.cuts b.d k = y := ⟨_, rfl⟩
  rw [hy1] at hDA ⊢
  obtain ⟨A5, c5, hsl, hpart⟩ := run_part hq0 hDA.1 hDA.2.1 (by rw [hnd]; exact hDA.2.2)
  have hm := hi.2.2.1
  have hnc := hi.2.1
  have hm2 := h2.2.2.1
  have hnc2 := h2.2.1
  have hlt0 : (k : Int) < (n0 : Int) := by omega
  have HSL := Lib.hid hsl
  have HP := Lib.hid hpart
  have HY1 := Lib.hid hy1
  have HI := Lib.hid hi0
  have HC7 := Lib.hid hc7
  have HB7 := Lib.hid hb7
  have HT := Lib.hid hT0
  have HB0 := Lib.hid hb0
  clear hi hi0 hq0 hW hd h2 hk hnd hR hY hDA hsl hpart hy1 hc7 hb7 hT0 hb0 d32
  go_enter Try.func47, Try.ntmps47
  go_wp2_with fail
  generalize w.alloc (.cells #[.int .i64 b.d, .slice (some ⟨b0, o0, none⟩) n0 c0, .slice AW nW cW] 25) = wE at *
  obtain ⟨g, hg⟩ : ∃ g, w.heap.size = g := ⟨_, rfl⟩
  rw [hg] at HT
  simp only [hg]
  refine wk.region_tailS 14 [.is (.slice A n c), .is (.pointer (some ⟨g, 1, none⟩)), .is (.slice (some ⟨b0, o0, none⟩) n0 c0), .is (.int .i64 (k : Int)), .is (.pointer (some ⟨b0, o0 + k, none⟩)), .is (.int .i64 y0), .is (.pointer (some ⟨g, 1, none⟩)), .is (.slice (some ⟨b0, o0, none⟩) n0 c0), .is (.pointer (some ⟨g, 0, none⟩)), .is (.int .i64 b.d), .is (.int .i64 (k : Int)), .is (.int .i64 y1), .is (.slice A5 (y1 - y0).toNat c5), .is (.slice A5 (y1 - y0).toNat c5)] [some 7, some 8, some 9, some 10, some 11, some 12, some 13, some 14, some 15, some 16, some 17, some 18, some 19, some 6] (by kernel_rfl) (by kernel_rfl) (by kernel_rfl) (by kernel_rfl) [] (by kernel_rfl) (by intro p hp; cases hp) (by kernel_rfl) (by kernel_rfl) ?hstep ?hdone
  case hstep =>
    intro i o ho hi hns E w4 hb4 D
    have hi2 : i = 0 ∨ i = 1 ∨ i = 2 ∨ i = 3 ∨ i = 4 ∨ i = 5 ∨ i = 6 ∨ i = 7 ∨ i = 8 ∨ i = 9 ∨ i = 10 ∨ i = 11 ∨ i = 12 ∨ i = 13 := by omega
    clear hi
    rcases hi2 with rfl | rfl | rfl | rfl | rfl | rfl | rfl | rfl | rfl | rfl | rfl | rfl | rfl | rfl
    ·
      have ho2 := (Array.getElem?_eq_some_iff.1 ho).2
      simp only [List.getElem_toArray, List.getElem_cons_zero] at ho2
      subst ho2
      clear ho
      have e2 := D.old 2 (by kernel_rfl)
      exact wk.does_move rfl (by rw [e2]; rfl)
    ·
      have ho2 := (Array.getElem?_eq_some_iff.1 ho).2
      simp only [List.getElem_toArray, List.getElem_cons_succ, List.getElem_cons_zero] at ho2
      subst ho2
      clear ho
      have e3 := D.old 3 (by kernel_rfl)
      exact wk.does_run (by simp only [execOp]; rw [show E (.tmp 3) = .pointer (some ⟨g, 0, none⟩) by rw [e3]; rfl]; go_simp) rfl
    ·
      have ho2 := (Array.getElem?_eq_some_iff.1 ho).2
      simp only [List.getElem_toArray, List.getElem_cons_succ, List.getElem_cons_zero] at ho2
      subst ho2
      clear ho
      have e8 := D.is { on := 1, ground := .data } (by simp) rfl rfl 8 rfl
      exact wk.does_load1 rfl e8 ((HT.out.below ((Below.refl _ _).drew.trans hb4)).c1) Try.underlying22 rfl rfl
    ·
      have ho2 := (Array.getElem?_eq_some_iff.1 ho).2
      simp only [List.getElem_toArray, List.getElem_cons_succ, List.getElem_cons_zero] at ho2
      subst ho2
      clear ho
      have e1 := D.old 1 (by kernel_rfl)
      exact wk.does_move rfl (by rw [e1]; rfl)
    ·
      have ho2 := (Array.getElem?_eq_some_iff.1 ho).2
      simp only [List.getElem_toArray, List.getElem_cons_succ, List.getElem_cons_zero] at ho2
      subst ho2
      clear ho
      have e9 := D.is { on := 2, ground := .data } (by simp) rfl rfl 9 rfl
      have e10 := D.is { on := 3, ground := .data } (by simp) rfl rfl 10 rfl
      exact wk.does_run (by simp only [execOp]; rw [show E (.tmp 9) = _ from e9, show E (.tmp 10) = _ from e10]; go_simp) rfl
    ·
      have ho2 := (Array.getElem?_eq_some_iff.1 ho).2
      simp only [List.getElem_toArray, List.getElem_cons_succ, List.getElem_cons_zero] at ho2
      subst ho2
      clear ho
      have e11 := D.is { on := 4, ground := .data } (by simp) rfl rfl 11 rfl
      exact wk.does_load1 rfl e11 ((((Below.refl _ _).drew.trans hb4).cell (p := ⟨_, _, none⟩) HB7.out).trans HC7.out) Try.underlying3 rfl rfl
    ·
      have ho2 := (Array.getElem?_eq_some_iff.1 ho).2
      simp only [List.getElem_toArray, List.getElem_cons_succ, List.getElem_cons_zero] at ho2
      subst ho2
      clear ho
      have e3 := D.old 3 (by kernel_rfl)
      exact wk.does_run (by simp only [execOp]; rw [show E (.tmp 3) = .pointer (some ⟨g, 0, none⟩) by rw [e3]; rfl]; go_simp) rfl
    ·
      have ho2 := (Array.getElem?_eq_some_iff.1 ho).2
      simp only [List.getElem_toArray, List.getElem_cons_succ, List.getElem_cons_zero] at ho2
      subst ho2
      clear ho
      have e13 := D.is { on := 6, ground := .data } (by simp) rfl rfl 13 rfl
      exact wk.does_load1 rfl e13 ((HT.out.below ((Below.refl _ _).drew.trans hb4)).c1) Try.underlying22 rfl rfl
    ·
      have ho2 := (Array.getElem?_eq_some_iff.1 ho).2
      simp only [List.getElem_toArray, List.getElem_cons_succ, List.getElem_cons_zero] at ho2
      subst ho2
      clear ho
      have e3 := D.old 3 (by kernel_rfl)
      exact wk.does_run (by simp only [execOp]; rw [show E (.tmp 3) = .pointer (some ⟨g, 0, none⟩) by rw [e3]; rfl]; go_simp) rfl
    ·
      have ho2 := (Array.getElem?_eq_some_iff.1 ho).2
      simp only [List.getElem_toArray, List.getElem_cons_succ, List.getElem_cons_zero] at ho2
      subst ho2
      clear ho
      have e15 := D.is { on := 8, ground := .data } (by simp) rfl rfl 15 rfl
      exact wk.does_load1 rfl e15 ((HT.out.below ((Below.refl _ _).drew.trans hb4)).c0) Try.underlying3 rfl rfl
    ·
      have ho2 := (Array.getElem?_eq_some_iff.1 ho).2
      simp only [List.getElem_toArray, List.getElem_cons_succ, List.getElem_cons_zero] at ho2
      subst ho2
      clear ho
      have e1 := D.old 1 (by kernel_rfl)
      exact wk.does_move rfl (by rw [e1]; rfl)
    ·
      have ho2 := (Array.getElem?_eq_some_iff.1 ho).2
      simp only [List.getElem_toArray, List.getElem_cons_succ, List.getElem_cons_zero] at ho2
      subst ho2
      clear ho
      have e14 := D.is { on := 7, ground := .data } (by simp) rfl rfl 14 rfl
      have e16 := D.is { on := 9, ground := .data } (by simp) rfl rfl 16 rfl
      have e17 := D.is { on := 10, ground := .data } (by simp) rfl rfl 17 rfl
      refine wk.does_fn (f := 43) (vs := #[.slice (some ⟨b0, o0, none⟩) n0 c0, .int .i64 b.d, .int .i64 (k : Int)]) rfl (D.fn _) (by simp [e14, e16, e17]) (by go_simp) ?_
      refine (rend_calls _ n0 c0 b.cuts b.d k w4 (isI_below HI.out ((Below.refl _ _).drew.trans hb4)) hlt).mono ?_
      rintro e w7 ⟨rfl, rfl⟩
      exact ⟨_, rfl, Below.refl _ _, by rw [HY1.out]; rfl⟩
    ·
      have ho2 := (Array.getElem?_eq_some_iff.1 ho).2
      simp only [List.getElem_toArray, List.getElem_cons_succ, List.getElem_cons_zero] at ho2
      subst ho2
      clear ho
      have e7 := D.is { on := 0, ground := .data } (by simp) rfl rfl 7 rfl
      have e12 := D.is { on := 5, ground := .data } (by simp) rfl rfl 12 rfl
      have e18 := D.is { on := 11, ground := .data } (by simp) rfl rfl 18 rfl
      have ht9 : Try.prog.underlying 22 = some (.slice (Try.prog.elem 22)) := by simp [Program.elem, Try.underlying22]
      exact wk.does_run (by simp only [execOp, Option.map_some, Option.map_none]; rw [show E (.tmp 7) = _ from e7, show E (.tmp 12) = _ from e12, show E (.tmp 18) = _ from e18]; simp only [Sem.run_bind, Sem.run_pure, run_sliceAt_slice w4 _ _ _ _ _ ht9, HSL.out w4, Result.andThen_ok]) rfl
    ·
      have ho2 := (Array.getElem?_eq_some_iff.1 ho).2
      simp only [List.getElem_toArray, List.getElem_cons_succ, List.getElem_cons_zero] at ho2
      subst ho2
      clear ho
      have e19 := D.is { on := 12, ground := .data } (by simp) rfl rfl 19 rfl
      exact wk.does_assign rfl e19
  case hdone =>
    intro vals w4 hb4 hv
    have h13 := hv 13 (by omega)
    clear hv
    replace h13 : vals 13 = (.slice A5 (y1 - y0).toNat c5) := h13
    simp only [List.drop_succ_cons, List.drop_zero, wpList, wk.setL, List.setIfInBounds_toArray, List.set_cons_zero, List.set_cons_succ, Nat.zero_add, Nat.reduceAdd, h13]
    generalize vals 0 = x0
    generalize vals 1 = x1
    generalize vals 2 = x2
    generalize vals 3 = x3
    generalize vals 4 = x4
    generalize vals 5 = x5
    generalize vals 6 = x6
    generalize vals 7 = x7
    generalize vals 8 = x8
    generalize vals 9 = x9
    generalize vals 10 = x10
    generalize vals 11 = x11
    generalize vals 12 = x12
    have hb5 : Below wE.heap.size wE w4 := ((Below.refl _ _).drew.trans hb4)
    have hI := HP.out w4 hb5
    have hB := HB0.out.trans (hb5.mono HB0.out.size)
    have HII := Lib.hid hI
    have HBB := Lib.hid hB
    clear hb4 hb5 hI hB
    go_wp2_with fail
    go_ret
    exact ⟨_, _, _, rfl, HII.out, HBB.out⟩
theorem rsum_step {m s x : Int} : put m s x = if m ≠ 3 then s + x else if s < x then x else s := by
  unfold put
  by_cases h : m = 3
  · rw [if_pos h, if_neg (by simpa using h)]
    split <;> omega
  · rw [if_neg h, if_pos h]
set_option maxRecDepth 100000 in
set_option maxHeartbeats 4000000 in
theorem rsum_calls (m : Int) (A A2 : Option Addr) (n c c2 : Nat) (T : VV) (cl : List Int) (w : World) (hm1 : 1 ≤ m) (hm3 : m ≤ 3) (h : IsVV w A n c T) (h2 : wo.IsI w A2 n c2 cl) (hn : n ≤ 1000) (hok : ∀ (k : Nat) (r : List Int) (i : Int), T[k]? = some r → cl[k]? = some i → 0 ≤ i ∧ i < (r.length : Int) ∧ ∀ x ∈ r, 0 ≤ x ∧ x ≤ 134217728) :
    Calls Try.prog 28 #[.int .i64 m, .slice A n c, .slice A2 n c2] w fun e w' => e = .returned (.int .i64 (sumc m T cl)) ∧ ∃ q, w' = w.drewN q := by
  have hmT := h.2.2.1
  have hncT := h.2.1
  have hmC := h2.2.2.1
  have hncC := h2.2.1
  have HT := Lib.hid h
  have HC := Lib.hid h2
  have HOK := Lib.hid hok
  have HE : Hid (sumk m T cl n = sumc m T cl) := by
    show _ = _
    unfold sumk sumc comb
    rw [List.take_of_length_le (by rw [List.length_zipWith, h.1, h2.1]; omega)]
  clear h h2 hok
  go_enter Try.func28, Try.ntmps28
  go_wp2_with fail
  go_loopg [7, 8] n (fun g u x wr => ∃ (k q : Nat) (s : Int), k + g = n ∧ x = .int .i64 (k : Int) ∧ u = .int .i64 s ∧ s = sumk m T cl k ∧ 0 ≤ s ∧ s ≤ 134217728 * k ∧ wr = w.drewN q)
  case atStart => exact ⟨0, 0, 0, by omega, rfl, rfl, by simp [sumk], by omega, by omega, rfl⟩
  case round =>
    obtain ⟨k, q, s, hk, rfl, rfl, hs, hs0, hs1, hw⟩ := hrel
    have HK := Lib.hid hk
    have HS := Lib.hid hs
    have hkn : k ≤ n := by omega
    have H3 : Hid (IsVV wr A n c T) := by rw [hw]; exact HT.out
    have H4 : Hid (wo.IsI wr A2 n c2 cl) := by rw [hw]; exact HC.out
    have HWQ := Lib.hid hw
    clear hk hs hw
    by_cases hlt : k < n
    · obtain ⟨b1, o1, A1, n1, c1, r, rfl, hb1, hc1, hI1, hX1⟩ := isVV_get H3.out hlt
      obtain ⟨b2, o2, i, rfl, hci, hY, -, -⟩ := isI_at H4.out hlt
      obtain ⟨hi0, hi1, hir⟩ := HOK.out k r i hX1 hY
      obtain ⟨j, rfl⟩ : ∃ j : Nat, i = (j : Int) := ⟨i.toNat, by omega⟩
      rw [hI1.1] at hi1
      obtain ⟨b3, o3, x, rfl, hcx, hZ, -, -⟩ := isI_at hI1 (show j < n1 by omega)
      have hxb := hir x (List.mem_of_getElem? hZ)
      have hm5 := hI1.2.2.1
      have hnc5 := hI1.2.1
      have hlt0 : (k : Int) < (n : Int) := by omega
      have hlt1 : (j : Int) < (n1 : Int) := by omega
      have HSN : Hid (sumk m T cl (k + 1) = put m s x) := by
        show _ = _
        rw [sumk_snoc hX1 hY, ← HS.out]
        congr 1
        unfold take1
        rw [Int.toNat_natCast, List.getD_eq_getElem?_getD, hZ]; rfl
      have hpb := put_bd (m := m) hs0 hs1 hxb.1 hxb.2
      rw [rsum_step] at HSN hpb
      have HPB := Lib.hid hpb
      obtain ⟨hx0, hx1⟩ := hxb
      have hsb : s ≤ 134217728000 := by omega
      clear hI1 hX1 hY hZ hir hpb hb1
      by_cases hm : m = 3
      · rw [if_neg (by simpa using hm)] at HSN HPB
        have hmne : (m != 3) = false := by simpa using hm
        clear hm
        by_cases hsx : s < x
        · rw [if_pos hsx] at HSN HPB
          go_wp2_with fail
          go_quiet (fail)
          go_wp2_with fail
          go_roundg (gk - 1)
          case measure => have := HK.out; omega
          case rel => exact ⟨k + 1, _, x, by have := HK.out; omega, by go_num, rfl, HSN.out.symm, HPB.out.1, HPB.out.2, by rw [HWQ.out]; simp only [drewN_add]; rfl⟩
        · rw [if_neg hsx] at HSN HPB
          go_wp2_with fail
          go_quiet (fail)
          go_wp2_with fail
          go_roundg (gk - 1)
          case measure => have := HK.out; omega
          case rel => exact ⟨k + 1, _, s, by have := HK.out; omega, by go_num, rfl, HSN.out.symm, HPB.out.1, HPB.out.2, by rw [HWQ.out]; simp only [drewN_add]; rfl⟩
      · rw [if_pos hm] at HSN HPB
        have hmne : (m != 3) = true := by simpa using hm
        go_wp2_with fail
        go_quiet (fail)
        go_wp2_with fail
        go_roundg (gk - 1)
        case measure => have := HK.out; omega
        case rel => exact ⟨k + 1, _, s + x, by have := HK.out; omega, by go_num, by go_num, HSN.out.symm, HPB.out.1, HPB.out.2, by rw [HWQ.out]; simp only [drewN_add]; rfl⟩
    · obtain rfl : k = n := by omega
      go_wp2_with fail
      go_ret
      exact ⟨by rw [← HE.out, ← HS.out]; rfl, _, HWQ.out⟩
end Go.Proofs.Ytiodjepjbooniaa.uk
