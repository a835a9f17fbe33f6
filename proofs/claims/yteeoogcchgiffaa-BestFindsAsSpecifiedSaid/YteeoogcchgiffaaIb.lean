/- The reference's place. -/
import Derived.Test.YteeoogcchgiffaaIa

namespace Go.Proofs.Yteeoogcchgiffaa.bk

open Go.ChangeShapes Go.WideShapes Go.ChangeAt Go.RowKit

open Go.Proofs.Yteeoogcchgiffaa.bq Go.Proofs.Yteeoogcchgiffaa.vk Go.Proofs.Yteeoogcchgiffaa.wk

set_option linter.unusedVariables false
attribute [local go_sem] Oper.semAt_some
/-- the place of the least hit among the first k whose ID is not in a list -/
def Pl (l out : List H) (k : Nat) (b : Int) : Prop := (b = -1 ∧ ∀ x ∈ l.take k, hasI out x = true) ∨ ∃ (j : Nat) (x : H), b = (j : Int) ∧ j < k ∧ l[j]? = some x ∧ hasI out x = false ∧ ∀ y ∈ l.take k, hasI out y = false → lt y x = false
theorem pl_skip {l out : List H} {k : Nat} {b : Int} {x : H} (h : Pl l out k b) (hx : l[k]? = some x) (hh : hasI out x = true) : Pl l out (k + 1) b := by
  unfold Pl at *
  rw [take_succ' hx]
  rcases h with ⟨h1, h2⟩ | ⟨j, y, h1, h2, h3, h4, h5⟩
  · refine .inl ⟨h1, fun z hz => ?_⟩
    rcases List.mem_append.1 hz with hz | hz
    · exact h2 z hz
    · rw [List.mem_singleton.1 hz]; exact hh
  · refine .inr ⟨j, y, h1, by omega, h3, h4, fun z hz hz2 => ?_⟩
    rcases List.mem_append.1 hz with hz | hz
    · exact h5 z hz hz2
    · rw [List.mem_singleton.1 hz, hh] at hz2; cases hz2
theorem pl_first {l out : List H} {k : Nat} {b : Int} {x : H} (h : Pl l out k b) (hb : b < 0) (hx : l[k]? = some x) (hh : hasI out x = false) : Pl l out (k + 1) (k : Int) := by
  unfold Pl at *
  rw [take_succ' hx]
  rcases h with ⟨h1, h2⟩ | ⟨j, y, h1, h2, h3, h4, h5⟩
  · refine .inr ⟨k, x, rfl, by omega, hx, hh, fun z hz hz2 => ?_⟩
    rcases List.mem_append.1 hz with hz | hz
    · rw [h2 z hz] at hz2; cases hz2
    · rw [List.mem_singleton.1 hz]; exact lt_irrefl _
  · omega
theorem pl_less {l out : List H} {k j : Nat} {x y : H} (h : Pl l out k (j : Int)) (hy : l[j]? = some y) (hx : l[k]? = some x) (hh : hasI out x = false) (hl : lt x y = true) : Pl l out (k + 1) (k : Int) := by
  unfold Pl at *
  rw [take_succ' hx]
  rcases h with ⟨h1, h2⟩ | ⟨j', y', h1, h2, h3, h4, h5⟩
  · omega
  · obtain rfl : j' = j := by omega
    rw [hy] at h3
    cases h3
    refine .inr ⟨k, x, rfl, by omega, hx, hh, fun z hz hz2 => ?_⟩
    rcases List.mem_append.1 hz with hz | hz
    · rw [← Bool.not_eq_true]
      intro hzx
      have := lt_trans hzx hl
      rw [h5 z hz hz2] at this; cases this
    · rw [List.mem_singleton.1 hz]; exact lt_irrefl _
theorem pl_keep {l out : List H} {k j : Nat} {x y : H} (h : Pl l out k (j : Int)) (hy : l[j]? = some y) (hx : l[k]? = some x) (hl : lt x y = false) : Pl l out (k + 1) (j : Int) := by
  unfold Pl at *
  rw [take_succ' hx]
  rcases h with ⟨h1, h2⟩ | ⟨j', y', h1, h2, h3, h4, h5⟩
  · omega
  · obtain rfl : j' = j := by omega
    rw [hy] at h3
    cases h3
    refine .inr ⟨j', y, rfl, by omega, hy, h4, fun z hz hz2 => ?_⟩
    rcases List.mem_append.1 hz with hz | hz
    · exact h5 z hz hz2
    · rw [List.mem_singleton.1 hz]; exact hl
set_option maxRecDepth 100000 in
set_option maxHeartbeats 4000000 in
theorem rplace_calls {l out : List H} {A A' : Option Addr} {n c n' c' : Nat} (w : World) (h : IsH w A n c l) (h' : IsH w A' n' c' out) : Calls Try.prog 46 #[.slice A n c, .slice A' n' c'] w fun e w' => ∃ i, e = .returned (.int .i64 i) ∧ Pl l out n i ∧ Below w.heap.size w w' := by
  have hm := h.2.2.1
  have hnc := h.2.1
  have hm' := h'.2.2.1
  have hnc' := h'.2.1
  have H := Lib.hid h
  have H' := Lib.hid h'
  have HLN := Lib.hid h.1
  clear h h'
  go_enter Try.func46, Try.ntmps46
  go_wp2_with fail
  go_loopg [5, 6] n (fun g y x wr => ∃ (k : Nat) (bi : Int), k + g = n ∧ x = .int .i64 (k : Int) ∧ y = .int .i64 bi ∧ Below w.heap.size w wr ∧ Pl l out k bi)
  case atStart => exact ⟨0, -1, by omega, rfl, rfl, Below.refl _ _, .inl ⟨rfl, by simp⟩⟩
  case round =>
    obtain ⟨k, bi, hk, rfl, rfl, hbel, hr⟩ := hrel
    have HK := Lib.hid hk
    have HR := Lib.hid hr
    have HBEL := Lib.hid hbel
    have hkn : k ≤ n := by omega
    clear hk hr hbel
    by_cases hlt : k < n
    · obtain ⟨b, o, x, rfl, -, -, -, hb1, hX, hwx⟩ := isH_get H.out hlt
      have hlt0 : (k : Int) < (n : Int) := by omega
      have HX := Lib.hid hX
      clear hX hwx hb1
      go_wp2_with fail
      cases hh : hasI out x with
      | true =>
        have HH := Lib.hid hh
        have HN := Lib.hid (pl_skip HR.out HX.out hh)
        refine wk.region_tailU 23 [.is (.slice A' n' c'), .is (.slice (some ⟨b, o, none⟩) n c), .is (.int .i64 (k : Int)), .is (.pointer (some ⟨b, o + k * 3, none⟩)), .is (.pointer (some ⟨b, o + k * 3, none⟩)), .is (.int .i64 x.1), .is (.bool true), .is (.bool false), .is (.bool false), .is undef, .is undef, .is undef, .is undef, .is undef, .is undef, .is undef, .is undef, .is undef, .is undef, .is undef, .is undef, .is undef, .is (Value.bool false)] [some 13, some 14, some 15, some 16, some 17, some 18, some 19, some 20, some 21, some 22, some 23, some 24, some 25, some 26, some 27, some 28, some 29, some 30, some 31, some 32, some 33, some 34, some 35] (by kernel_rfl) (by kernel_rfl) (by kernel_rfl) (by kernel_rfl) [9, 10, 11, 12, 13, 14, 15, 16, 17, 18, 19, 20, 21] (by kernel_rfl) (by intro p hp; simp only [List.mem_cons, List.not_mem_nil, or_false] at hp; rcases hp with rfl | rfl | rfl | rfl | rfl | rfl | rfl | rfl | rfl | rfl | rfl | rfl | rfl <;> rfl) (by kernel_rfl) (by kernel_rfl) ?hstep ?hdone
        case hstep =>
          intro i o ho hi hns E w4 hb4 D
          have hi2 : i = 0 ∨ i = 1 ∨ i = 2 ∨ i = 3 ∨ i = 4 ∨ i = 5 ∨ i = 6 ∨ i = 7 ∨ i = 8 ∨ i = 9 ∨ i = 10 ∨ i = 11 ∨ i = 12 ∨ i = 13 ∨ i = 14 ∨ i = 15 ∨ i = 16 ∨ i = 17 ∨ i = 18 ∨ i = 19 ∨ i = 20 ∨ i = 21 ∨ i = 22 := by omega
          clear hi
          rcases hi2 with rfl | rfl | rfl | rfl | rfl | rfl | rfl | rfl | rfl | rfl | rfl | rfl | rfl | rfl | rfl | rfl | rfl | rfl | rfl | rfl | rfl | rfl | rfl
          ·
            have ho2 := (Array.getElem?_eq_some_iff.1 ho).2
            simp only [List.getElem_toArray, List.getElem_cons_zero] at ho2
            subst ho2
            clear ho
            have e1 := D.old 1 (by kernel_rfl)
            exact wk.does_move rfl (by rw [e1]; rfl)
          ·
            have ho2 := (Array.getElem?_eq_some_iff.1 ho).2
            simp only [List.getElem_toArray, List.getElem_cons_succ, List.getElem_cons_zero] at ho2
            subst ho2
            clear ho
            have e0 := D.old 0 (by kernel_rfl)
            exact wk.does_move rfl (by rw [e0]; rfl)
          ·
            have ho2 := (Array.getElem?_eq_some_iff.1 ho).2
            simp only [List.getElem_toArray, List.getElem_cons_succ, List.getElem_cons_zero] at ho2
            subst ho2
            clear ho
            have e6 := D.old 6 (by kernel_rfl)
            exact wk.does_move rfl (by rw [e6]; rfl)
          ·
            have ho2 := (Array.getElem?_eq_some_iff.1 ho).2
            simp only [List.getElem_toArray, List.getElem_cons_succ, List.getElem_cons_zero] at ho2
            subst ho2
            clear ho
            have e14 := D.is { on := 1, ground := .data } (by simp) rfl rfl 14 rfl
            have e15 := D.is { on := 2, ground := .data } (by simp) rfl rfl 15 rfl
            exact wk.does_run (by simp only [execOp]; rw [show E (.tmp 14) = _ from e14, show E (.tmp 15) = _ from e15]; go_simp; try (intro h0; omega)) rfl
          ·
            have ho2 := (Array.getElem?_eq_some_iff.1 ho).2
            simp only [List.getElem_toArray, List.getElem_cons_succ, List.getElem_cons_zero] at ho2
            subst ho2
            clear ho
            have e16 := D.is { on := 3, ground := .data } (by simp) rfl rfl 16 rfl
            exact wk.does_run (by simp only [execOp]; rw [show E (.tmp 16) = _ from e16]; go_simp) rfl
          ·
            have ho2 := (Array.getElem?_eq_some_iff.1 ho).2
            simp only [List.getElem_toArray, List.getElem_cons_succ, List.getElem_cons_zero] at ho2
            subst ho2
            clear ho
            have e17 := D.is { on := 4, ground := .data } (by simp) rfl rfl 17 rfl
            exact wk.does_load1 rfl e17 (isH_at (H.out.below ((HBEL.out).trans (((Below.refl _ _).drew.trans hb4).mono HBEL.out.size))) HX.out 0 _ rfl) Try.underlying3 rfl rfl
          ·
            have ho2 := (Array.getElem?_eq_some_iff.1 ho).2
            simp only [List.getElem_toArray, List.getElem_cons_succ, List.getElem_cons_zero] at ho2
            subst ho2
            clear ho
            have e13 := D.is { on := 0, ground := .data } (by simp) rfl rfl 13 rfl
            have e18 := D.is { on := 5, ground := .data } (by simp) rfl rfl 18 rfl
            refine wk.does_fn (f := 40) (vs := #[.slice A' n' c', .int .i64 x.1]) rfl (D.fn _) (by simp [e13, e18]) (by go_simp) ?_
            refine (rhasB_calls x.1 _ (H'.out.below ((HBEL.out).trans (((Below.refl _ _).drew.trans hb4).mono HBEL.out.size)))).mono ?_
            rintro e w7 ⟨rfl, hb7⟩
            exact ⟨_, rfl, hb7, congrArg Value.bool HH.out⟩
          ·
            have ho2 := (Array.getElem?_eq_some_iff.1 ho).2
            simp only [List.getElem_toArray, List.getElem_cons_succ, List.getElem_cons_zero] at ho2
            subst ho2
            clear ho
            have e19 := D.is { on := 6, ground := .data } (by simp) rfl rfl 19 rfl
            exact wk.does_un rfl (by rw [show E (.tmp 19) = _ from e19]; go_simp) rfl
          ·
            have ho2 := (Array.getElem?_eq_some_iff.1 ho).2
            simp only [List.getElem_toArray, List.getElem_cons_succ, List.getElem_cons_zero] at ho2
            subst ho2
            clear ho
            have e20 := D.is { on := 7, ground := .data } (by simp) rfl rfl 20 rfl
            exact wk.does_move rfl e20
          · cases (show false = true from hns.symm.trans (by kernel_rfl))
          · cases (show false = true from hns.symm.trans (by kernel_rfl))
          · cases (show false = true from hns.symm.trans (by kernel_rfl))
          · cases (show false = true from hns.symm.trans (by kernel_rfl))
          · cases (show false = true from hns.symm.trans (by kernel_rfl))
          · cases (show false = true from hns.symm.trans (by kernel_rfl))
          · cases (show false = true from hns.symm.trans (by kernel_rfl))
          · cases (show false = true from hns.symm.trans (by kernel_rfl))
          · cases (show false = true from hns.symm.trans (by kernel_rfl))
          · cases (show false = true from hns.symm.trans (by kernel_rfl))
          · cases (show false = true from hns.symm.trans (by kernel_rfl))
          · cases (show false = true from hns.symm.trans (by kernel_rfl))
          · cases (show false = true from hns.symm.trans (by kernel_rfl))
          ·
            have ho2 := (Array.getElem?_eq_some_iff.1 ho).2
            simp only [List.getElem_toArray, List.getElem_cons_succ, List.getElem_cons_zero] at ho2
            subst ho2
            clear ho
            have e21 := D.is { on := 8, ground := .data } (by simp) rfl rfl 21 rfl
            have e34 := D.is { on := 21, ground := .data } (by simp) rfl rfl 34 rfl
            exact wk.does_pick rfl e21 (D.con _)
        case hdone =>
          intro vals w4 hb4 hv
          have h22 := hv 22 (by omega)
          clear hv
          replace h22 : vals 22 = (Value.bool false) := h22
          simp only [List.drop_succ_cons, List.drop_zero, wpList, wk.setL, List.setIfInBounds_toArray, List.set_cons_zero, List.set_cons_succ, Nat.zero_add, Nat.reduceAdd, h22]
          generalize vals 0 = x0
          generalize vals 1 = x1
          generalize vals 2 = x2
          generalize vals 3 = x3
          generalize vals 4 = x4
          generalize vals 5 = x5
          generalize vals 6 = x6
          generalize vals 7 = x7
          generalize vals 8 = x8
          generalize vals 9 = x9
          generalize vals 10 = x10
          generalize vals 11 = x11
          generalize vals 12 = x12
          generalize vals 13 = x13
          generalize vals 14 = x14
          generalize vals 15 = x15
          generalize vals 16 = x16
          generalize vals 17 = x17
          generalize vals 18 = x18
          generalize vals 19 = x19
          generalize vals 20 = x20
          generalize vals 21 = x21
          have HB4 := Lib.hid (HBEL.out.trans (((Below.refl _ _).drew.trans hb4).mono HBEL.out.size))
          clear hb4
          go_wp2_with fail
          go_roundg (gk - 1)
          case measure => have := HK.out; omega
          case rel => exact ⟨k + 1, bi, by have := HK.out; omega, by go_num, rfl, HB4.out, HN.out⟩
      | false =>
        have HH := Lib.hid hh
        by_cases hbi : bi < 0
        · have HN := Lib.hid (pl_first HR.out hbi HX.out hh)
          refine wk.region_tailU 23 [.is (.slice A' n' c'), .is (.slice (some ⟨b, o, none⟩) n c), .is (.int .i64 (k : Int)), .is (.pointer (some ⟨b, o + k * 3, none⟩)), .is (.pointer (some ⟨b, o + k * 3, none⟩)), .is (.int .i64 x.1), .is (.bool false), .is (.bool true), .is (.bool true), .is (.int .i64 bi), .is (.bool true), .is (.bool true), .is undef, .is undef, .is undef, .is undef, .is undef, .is undef, .is undef, .is undef, .is undef, .is (Value.bool true), .is (Value.bool true)] [some 13, some 14, some 15, some 16, some 17, some 18, some 19, some 20, some 21, some 22, some 23, some 24, some 25, some 26, some 27, some 28, some 29, some 30, some 31, some 32, some 33, some 34, some 35] (by kernel_rfl) (by kernel_rfl) (by kernel_rfl) (by kernel_rfl) [12, 13, 14, 15, 16, 17, 18, 19, 20] (by kernel_rfl) (by intro p hp; simp only [List.mem_cons, List.not_mem_nil, or_false] at hp; rcases hp with rfl | rfl | rfl | rfl | rfl | rfl | rfl | rfl | rfl <;> rfl) (by kernel_rfl) (by kernel_rfl) ?hstep ?hdone
          case hstep =>
            intro i o ho hi hns E w4 hb4 D
            have hi2 : i = 0 ∨ i = 1 ∨ i = 2 ∨ i = 3 ∨ i = 4 ∨ i = 5 ∨ i = 6 ∨ i = 7 ∨ i = 8 ∨ i = 9 ∨ i = 10 ∨ i = 11 ∨ i = 12 ∨ i = 13 ∨ i = 14 ∨ i = 15 ∨ i = 16 ∨ i = 17 ∨ i = 18 ∨ i = 19 ∨ i = 20 ∨ i = 21 ∨ i = 22 := by omega
            clear hi
            rcases hi2 with rfl | rfl | rfl | rfl | rfl | rfl | rfl | rfl | rfl | rfl | rfl | rfl | rfl | rfl | rfl | rfl | rfl | rfl | rfl | rfl | rfl | rfl | rfl
            ·
              have ho2 := (Array.getElem?_eq_some_iff.1 ho).2
              simp only [List.getElem_toArray, List.getElem_cons_zero] at ho2
              subst ho2
              clear ho
              have e1 := D.old 1 (by kernel_rfl)
              exact wk.does_move rfl (by rw [e1]; rfl)
            ·
              have ho2 := (Array.getElem?_eq_some_iff.1 ho).2
              simp only [List.getElem_toArray, List.getElem_cons_succ, List.getElem_cons_zero] at ho2
              subst ho2
              clear ho
              have e0 := D.old 0 (by kernel_rfl)
              exact wk.does_move rfl (by rw [e0]; rfl)
            ·
              have ho2 := (Array.getElem?_eq_some_iff.1 ho).2
              simp only [List.getElem_toArray, List.getElem_cons_succ, List.getElem_cons_zero] at ho2
              subst ho2
              clear ho
              have e6 := D.old 6 (by kernel_rfl)
              exact wk.does_move rfl (by rw [e6]; rfl)
            ·
              have ho2 := (Array.getElem?_eq_some_iff.1 ho).2
              simp only [List.getElem_toArray, List.getElem_cons_succ, List.getElem_cons_zero] at ho2
              subst ho2
              clear ho
              have e14 := D.is { on := 1, ground := .data } (by simp) rfl rfl 14 rfl
              have e15 := D.is { on := 2, ground := .data } (by simp) rfl rfl 15 rfl
              exact wk.does_run (by simp only [execOp]; rw [show E (.tmp 14) = _ from e14, show E (.tmp 15) = _ from e15]; go_simp; try (intro h0; omega)) rfl
            ·
              have ho2 := (Array.getElem?_eq_some_iff.1 ho).2
              simp only [List.getElem_toArray, List.getElem_cons_succ, List.getElem_cons_zero] at ho2
              subst ho2
              clear ho
              have e16 := D.is { on := 3, ground := .data } (by simp) rfl rfl 16 rfl
              exact wk.does_run (by simp only [execOp]; rw [show E (.tmp 16) = _ from e16]; go_simp) rfl
            ·
              have ho2 := (Array.getElem?_eq_some_iff.1 ho).2
              simp only [List.getElem_toArray, List.getElem_cons_succ, List.getElem_cons_zero] at ho2
              subst ho2
              clear ho
              have e17 := D.is { on := 4, ground := .data } (by simp) rfl rfl 17 rfl
              exact wk.does_load1 rfl e17 (isH_at (H.out.below ((HBEL.out).trans (((Below.refl _ _).drew.trans hb4).mono HBEL.out.size))) HX.out 0 _ rfl) Try.underlying3 rfl rfl
            ·
              have ho2 := (Array.getElem?_eq_some_iff.1 ho).2
              simp only [List.getElem_toArray, List.getElem_cons_succ, List.getElem_cons_zero] at ho2
              subst ho2
              clear ho
              have e13 := D.is { on := 0, ground := .data } (by simp) rfl rfl 13 rfl
              have e18 := D.is { on := 5, ground := .data } (by simp) rfl rfl 18 rfl
              refine wk.does_fn (f := 40) (vs := #[.slice A' n' c', .int .i64 x.1]) rfl (D.fn _) (by simp [e13, e18]) (by go_simp) ?_
              refine (rhasB_calls x.1 _ (H'.out.below ((HBEL.out).trans (((Below.refl _ _).drew.trans hb4).mono HBEL.out.size)))).mono ?_
              rintro e w7 ⟨rfl, hb7⟩
              exact ⟨_, rfl, hb7, congrArg Value.bool HH.out⟩
            ·
              have ho2 := (Array.getElem?_eq_some_iff.1 ho).2
              simp only [List.getElem_toArray, List.getElem_cons_succ, List.getElem_cons_zero] at ho2
              subst ho2
              clear ho
              have e19 := D.is { on := 6, ground := .data } (by simp) rfl rfl 19 rfl
              exact wk.does_un rfl (by rw [show E (.tmp 19) = _ from e19]; go_simp) rfl
            ·
              have ho2 := (Array.getElem?_eq_some_iff.1 ho).2
              simp only [List.getElem_toArray, List.getElem_cons_succ, List.getElem_cons_zero] at ho2
              subst ho2
              clear ho
              have e20 := D.is { on := 7, ground := .data } (by simp) rfl rfl 20 rfl
              exact wk.does_move rfl e20
            ·
              have ho2 := (Array.getElem?_eq_some_iff.1 ho).2
              simp only [List.getElem_toArray, List.getElem_cons_succ, List.getElem_cons_zero] at ho2
              subst ho2
              clear ho
              have e5 := D.old 5 (by kernel_rfl)
              exact wk.does_move rfl (by rw [e5]; rfl)
            ·
              have ho2 := (Array.getElem?_eq_some_iff.1 ho).2
              simp only [List.getElem_toArray, List.getElem_cons_succ, List.getElem_cons_zero] at ho2
              subst ho2
              clear ho
              have e22 := D.is { on := 9, ground := .data } (by simp) rfl rfl 22 rfl
              exact wk.does_run (by simp only [execOp]; rw [show E (.tmp 22) = _ from e22, show E (.const (.int .i64 0)) = .int .i64 0 from D.con _]; go_simp; try omega) rfl
            ·
              have ho2 := (Array.getElem?_eq_some_iff.1 ho).2
              simp only [List.getElem_toArray, List.getElem_cons_succ, List.getElem_cons_zero] at ho2
              subst ho2
              clear ho
              have e23 := D.is { on := 10, ground := .data } (by simp) rfl rfl 23 rfl
              exact wk.does_move rfl e23
            · cases (show false = true from hns.symm.trans (by kernel_rfl))
            · cases (show false = true from hns.symm.trans (by kernel_rfl))
            · cases (show false = true from hns.symm.trans (by kernel_rfl))
            · cases (show false = true from hns.symm.trans (by kernel_rfl))
            · cases (show false = true from hns.symm.trans (by kernel_rfl))
            · cases (show false = true from hns.symm.trans (by kernel_rfl))
            · cases (show false = true from hns.symm.trans (by kernel_rfl))
            · cases (show false = true from hns.symm.trans (by kernel_rfl))
            · cases (show false = true from hns.symm.trans (by kernel_rfl))
            ·
              have ho2 := (Array.getElem?_eq_some_iff.1 ho).2
              simp only [List.getElem_toArray, List.getElem_cons_succ, List.getElem_cons_zero] at ho2
              subst ho2
              clear ho
              have e24 := D.is { on := 11, ground := .data } (by simp) rfl rfl 24 rfl
              have e33 := D.is { on := 20, ground := .data } (by simp) rfl rfl 33 rfl
              exact wk.does_pick rfl e24 (D.con _)
            ·
              have ho2 := (Array.getElem?_eq_some_iff.1 ho).2
              simp only [List.getElem_toArray, List.getElem_cons_succ, List.getElem_cons_zero] at ho2
              subst ho2
              clear ho
              have e21 := D.is { on := 8, ground := .data } (by simp) rfl rfl 21 rfl
              have e34 := D.is { on := 21, ground := .data } (by simp) rfl rfl 34 rfl
              exact wk.does_pick rfl e21 e34
          case hdone =>
            intro vals w4 hb4 hv
            have h22 := hv 22 (by omega)
            clear hv
            replace h22 : vals 22 = (Value.bool true) := h22
            simp only [List.drop_succ_cons, List.drop_zero, wpList, wk.setL, List.setIfInBounds_toArray, List.set_cons_zero, List.set_cons_succ, Nat.zero_add, Nat.reduceAdd, h22]
            generalize vals 0 = x0
            generalize vals 1 = x1
            generalize vals 2 = x2
            generalize vals 3 = x3
            generalize vals 4 = x4
            generalize vals 5 = x5
            generalize vals 6 = x6
            generalize vals 7 = x7
            generalize vals 8 = x8
            generalize vals 9 = x9
            generalize vals 10 = x10
            generalize vals 11 = x11
            generalize vals 12 = x12
            generalize vals 13 = x13
            generalize vals 14 = x14
            generalize vals 15 = x15
            generalize vals 16 = x16
            generalize vals 17 = x17
            generalize vals 18 = x18
            generalize vals 19 = x19
            generalize vals 20 = x20
            generalize vals 21 = x21
            have HB4 := Lib.hid (HBEL.out.trans (((Below.refl _ _).drew.trans hb4).mono HBEL.out.size))
            clear hb4
            go_wp2_with fail
            go_roundg (gk - 1)
            case measure => have := HK.out; omega
            case rel => exact ⟨k + 1, (k : Int), by have := HK.out; omega, by go_num, rfl, HB4.out, HN.out⟩
        · obtain ⟨j, y, rfl, hjk, hy⟩ : ∃ (j : Nat) (y : Int × Int × Int), bi = (j : Int) ∧ j < k ∧ l[j]? = some y := by
            rcases HR.out with ⟨h1, _⟩ | ⟨j, y, h1, h2, h3, _⟩
            · omega
            · exact ⟨j, y, h1, h2, h3⟩
          have HY := Lib.hid hy
          have hjn : j < n := by omega
          have hji : (j : Int) < (n : Int) := by omega
          clear hy
          cases hlt3 : lt x y with
          | true =>
            have HLT := Lib.hid hlt3
            have HN := Lib.hid (pl_less HR.out HY.out HX.out hh hlt3)
            refine wk.region_tailU 23 [.is (.slice A' n' c'), .is (.slice (some ⟨b, o, none⟩) n c), .is (.int .i64 (k : Int)), .is (.pointer (some ⟨b, o + k * 3, none⟩)), .is (.pointer (some ⟨b, o + k * 3, none⟩)), .is (.int .i64 x.1), .is (.bool false), .is (.bool true), .is (.bool true), .is (.int .i64 (j : Int)), .is (.bool false), .is (.bool false), .is (.slice (some ⟨b, o, none⟩) n c), .is (.int .i64 (k : Int)), .is (.pointer (some ⟨b, o + k * 3, none⟩)), .is (.agg #[.int .i64 x.1, .int .i64 x.2.1, .int .i64 x.2.2]), .is (.slice (some ⟨b, o, none⟩) n c), .is (.int .i64 (j : Int)), .is (.pointer (some ⟨b, o + j * 3, none⟩)), .is (.agg #[.int .i64 y.1, .int .i64 y.2.1, .int .i64 y.2.2]), .is (.bool true), .is (.bool true), .is (.bool true)] [some 13, some 14, some 15, some 16, some 17, some 18, some 19, some 20, some 21, some 22, some 23, some 24, some 25, some 26, some 27, some 28, some 29, some 30, some 31, some 32, some 33, some 34, some 35] (by kernel_rfl) (by kernel_rfl) (by kernel_rfl) (by kernel_rfl) [] (by kernel_rfl) (by intro p hp; cases hp) (by kernel_rfl) (by kernel_rfl) ?hstep ?hdone
            case hstep =>
              intro i o ho hi hns E w4 hb4 D
              have hi2 : i = 0 ∨ i = 1 ∨ i = 2 ∨ i = 3 ∨ i = 4 ∨ i = 5 ∨ i = 6 ∨ i = 7 ∨ i = 8 ∨ i = 9 ∨ i = 10 ∨ i = 11 ∨ i = 12 ∨ i = 13 ∨ i = 14 ∨ i = 15 ∨ i = 16 ∨ i = 17 ∨ i = 18 ∨ i = 19 ∨ i = 20 ∨ i = 21 ∨ i = 22 := by omega
              clear hi
              rcases hi2 with rfl | rfl | rfl | rfl | rfl | rfl | rfl | rfl | rfl | rfl | rfl | rfl | rfl | rfl | rfl | rfl | rfl | rfl | rfl | rfl | rfl | rfl | rfl
              ·
                have ho2 := (Array.getElem?_eq_some_iff.1 ho).2
                simp only [List.getElem_toArray, List.getElem_cons_zero] at ho2
                subst ho2
                clear ho
                have e1 := D.old 1 (by kernel_rfl)
                exact wk.does_move rfl (by rw [e1]; rfl)
              ·
                have ho2 := (Array.getElem?_eq_some_iff.1 ho).2
                simp only [List.getElem_toArray, List.getElem_cons_succ, List.getElem_cons_zero] at ho2
                subst ho2
                clear ho
                have e0 := D.old 0 (by kernel_rfl)
                exact wk.does_move rfl (by rw [e0]; rfl)
              ·
                have ho2 := (Array.getElem?_eq_some_iff.1 ho).2
                simp only [List.getElem_toArray, List.getElem_cons_succ, List.getElem_cons_zero] at ho2
                subst ho2
                clear ho
                have e6 := D.old 6 (by kernel_rfl)
                exact wk.does_move rfl (by rw [e6]; rfl)
              ·
                have ho2 := (Array.getElem?_eq_some_iff.1 ho).2
                simp only [List.getElem_toArray, List.getElem_cons_succ, List.getElem_cons_zero] at ho2
                subst ho2
                clear ho
                have e14 := D.is { on := 1, ground := .data } (by simp) rfl rfl 14 rfl
                have e15 := D.is { on := 2, ground := .data } (by simp) rfl rfl 15 rfl
                exact wk.does_run (by simp only [execOp]; rw [show E (.tmp 14) = _ from e14, show E (.tmp 15) = _ from e15]; go_simp; try (intro h0; omega)) rfl
              ·
                have ho2 := (Array.getElem?_eq_some_iff.1 ho).2
                simp only [List.getElem_toArray, List.getElem_cons_succ, List.getElem_cons_zero] at ho2
                subst ho2
                clear ho
                have e16 := D.is { on := 3, ground := .data } (by simp) rfl rfl 16 rfl
                exact wk.does_run (by simp only [execOp]; rw [show E (.tmp 16) = _ from e16]; go_simp) rfl
              ·
                have ho2 := (Array.getElem?_eq_some_iff.1 ho).2
                simp only [List.getElem_toArray, List.getElem_cons_succ, List.getElem_cons_zero] at ho2
                subst ho2
                clear ho
                have e17 := D.is { on := 4, ground := .data } (by simp) rfl rfl 17 rfl
                exact wk.does_load1 rfl e17 (isH_at (H.out.below ((HBEL.out).trans (((Below.refl _ _).drew.trans hb4).mono HBEL.out.size))) HX.out 0 _ rfl) Try.underlying3 rfl rfl
              ·
                have ho2 := (Array.getElem?_eq_some_iff.1 ho).2
                simp only [List.getElem_toArray, List.getElem_cons_succ, List.getElem_cons_zero] at ho2
                subst ho2
                clear ho
                have e13 := D.is { on := 0, ground := .data } (by simp) rfl rfl 13 rfl
                have e18 := D.is { on := 5, ground := .data } (by simp) rfl rfl 18 rfl
                refine wk.does_fn (f := 40) (vs := #[.slice A' n' c', .int .i64 x.1]) rfl (D.fn _) (by simp [e13, e18]) (by go_simp) ?_
                refine (rhasB_calls x.1 _ (H'.out.below ((HBEL.out).trans (((Below.refl _ _).drew.trans hb4).mono HBEL.out.size)))).mono ?_
                rintro e w7 ⟨rfl, hb7⟩
                exact ⟨_, rfl, hb7, congrArg Value.bool HH.out⟩
              ·
                have ho2 := (Array.getElem?_eq_some_iff.1 ho).2
                simp only [List.getElem_toArray, List.getElem_cons_succ, List.getElem_cons_zero] at ho2
                subst ho2
                clear ho
                have e19 := D.is { on := 6, ground := .data } (by simp) rfl rfl 19 rfl
                exact wk.does_un rfl (by rw [show E (.tmp 19) = _ from e19]; go_simp) rfl
              ·
                have ho2 := (Array.getElem?_eq_some_iff.1 ho).2
                simp only [List.getElem_toArray, List.getElem_cons_succ, List.getElem_cons_zero] at ho2
                subst ho2
                clear ho
                have e20 := D.is { on := 7, ground := .data } (by simp) rfl rfl 20 rfl
                exact wk.does_move rfl e20
              ·
                have ho2 := (Array.getElem?_eq_some_iff.1 ho).2
                simp only [List.getElem_toArray, List.getElem_cons_succ, List.getElem_cons_zero] at ho2
                subst ho2
                clear ho
                have e5 := D.old 5 (by kernel_rfl)
                exact wk.does_move rfl (by rw [e5]; rfl)
              ·
                have ho2 := (Array.getElem?_eq_some_iff.1 ho).2
                simp only [List.getElem_toArray, List.getElem_cons_succ, List.getElem_cons_zero] at ho2
                subst ho2
                clear ho
                have e22 := D.is { on := 9, ground := .data } (by simp) rfl rfl 22 rfl
                exact wk.does_run (by simp only [execOp]; rw [show E (.tmp 22) = _ from e22, show E (.const (.int .i64 0)) = .int .i64 0 from D.con _]; go_simp; try omega) rfl
              ·
                have ho2 := (Array.getElem?_eq_some_iff.1 ho).2
                simp only [List.getElem_toArray, List.getElem_cons_succ, List.getElem_cons_zero] at ho2
                subst ho2
                clear ho
                have e23 := D.is { on := 10, ground := .data } (by simp) rfl rfl 23 rfl
                exact wk.does_move rfl e23
              ·
                have ho2 := (Array.getElem?_eq_some_iff.1 ho).2
                simp only [List.getElem_toArray, List.getElem_cons_succ, List.getElem_cons_zero] at ho2
                subst ho2
                clear ho
                have e0 := D.old 0 (by kernel_rfl)
                exact wk.does_move rfl (by rw [e0]; rfl)
              ·
                have ho2 := (Array.getElem?_eq_some_iff.1 ho).2
                simp only [List.getElem_toArray, List.getElem_cons_succ, List.getElem_cons_zero] at ho2
                subst ho2
                clear ho
                have e6 := D.old 6 (by kernel_rfl)
                exact wk.does_move rfl (by rw [e6]; rfl)
              ·
                have ho2 := (Array.getElem?_eq_some_iff.1 ho).2
                simp only [List.getElem_toArray, List.getElem_cons_succ, List.getElem_cons_zero] at ho2
                subst ho2
                clear ho
                have e25 := D.is { on := 12, ground := .data } (by simp) rfl rfl 25 rfl
                have e26 := D.is { on := 13, ground := .data } (by simp) rfl rfl 26 rfl
                exact wk.does_run (by simp only [execOp]; rw [show E (.tmp 25) = _ from e25, show E (.tmp 26) = _ from e26]; go_simp; try (intro h0; omega)) rfl
              ·
                have ho2 := (Array.getElem?_eq_some_iff.1 ho).2
                simp only [List.getElem_toArray, List.getElem_cons_succ, List.getElem_cons_zero] at ho2
                subst ho2
                clear ho
                have e27 := D.is { on := 14, ground := .data } (by simp) rfl rfl 27 rfl
                exact wk.does_load_agg rfl e27 (cs := rv x) (isH_at (H.out.below ((HBEL.out).trans (((Below.refl _ _).drew.trans hb4).mono HBEL.out.size))) HX.out) Try.underlying27 rfl (by kernel_rfl) rfl
              ·
                have ho2 := (Array.getElem?_eq_some_iff.1 ho).2
                simp only [List.getElem_toArray, List.getElem_cons_succ, List.getElem_cons_zero] at ho2
                subst ho2
                clear ho
                have e0 := D.old 0 (by kernel_rfl)
                exact wk.does_move rfl (by rw [e0]; rfl)
              ·
                have ho2 := (Array.getElem?_eq_some_iff.1 ho).2
                simp only [List.getElem_toArray, List.getElem_cons_succ, List.getElem_cons_zero] at ho2
                subst ho2
                clear ho
                have e5 := D.old 5 (by kernel_rfl)
                exact wk.does_move rfl (by rw [e5]; rfl)
              ·
                have ho2 := (Array.getElem?_eq_some_iff.1 ho).2
                simp only [List.getElem_toArray, List.getElem_cons_succ, List.getElem_cons_zero] at ho2
                subst ho2
                clear ho
                have e29 := D.is { on := 16, ground := .data } (by simp) rfl rfl 29 rfl
                have e30 := D.is { on := 17, ground := .data } (by simp) rfl rfl 30 rfl
                exact wk.does_run (by simp only [execOp]; rw [show E (.tmp 29) = _ from e29, show E (.tmp 30) = _ from e30]; go_simp; try (intro h0; omega)) rfl
              ·
                have ho2 := (Array.getElem?_eq_some_iff.1 ho).2
                simp only [List.getElem_toArray, List.getElem_cons_succ, List.getElem_cons_zero] at ho2
                subst ho2
                clear ho
                have e31 := D.is { on := 18, ground := .data } (by simp) rfl rfl 31 rfl
                exact wk.does_load_agg rfl e31 (cs := rv y) (isH_at (H.out.below ((HBEL.out).trans (((Below.refl _ _).drew.trans hb4).mono HBEL.out.size))) HY.out) Try.underlying27 rfl (by kernel_rfl) rfl
              ·
                have ho2 := (Array.getElem?_eq_some_iff.1 ho).2
                simp only [List.getElem_toArray, List.getElem_cons_succ, List.getElem_cons_zero] at ho2
                subst ho2
                clear ho
                have e28 := D.is { on := 15, ground := .data } (by simp) rfl rfl 28 rfl
                have e32 := D.is { on := 19, ground := .data } (by simp) rfl rfl 32 rfl
                refine wk.does_fn (f := 14) (vs := #[.agg #[.int .i64 x.1, .int .i64 x.2.1, .int .i64 x.2.2], .agg #[.int .i64 y.1, .int .i64 y.2.1, .int .i64 y.2.2]]) rfl (D.fn _) (by simp [e28, e32]) (by go_simp) ?_
                refine (rless_calls x y _).mono ?_
                rintro e w7 ⟨rfl, hb7⟩
                exact ⟨_, rfl, hb7, congrArg Value.bool HLT.out⟩
              ·
                have ho2 := (Array.getElem?_eq_some_iff.1 ho).2
                simp only [List.getElem_toArray, List.getElem_cons_succ, List.getElem_cons_zero] at ho2
                subst ho2
                clear ho
                have e24 := D.is { on := 11, ground := .data } (by simp) rfl rfl 24 rfl
                have e33 := D.is { on := 20, ground := .data } (by simp) rfl rfl 33 rfl
                exact wk.does_pick rfl e24 e33
              ·
                have ho2 := (Array.getElem?_eq_some_iff.1 ho).2
                simp only [List.getElem_toArray, List.getElem_cons_succ, List.getElem_cons_zero] at ho2
                subst ho2
                clear ho
                have e21 := D.is { on := 8, ground := .data } (by simp) rfl rfl 21 rfl
                have e34 := D.is { on := 21, ground := .data } (by simp) rfl rfl 34 rfl
                exact wk.does_pick rfl e21 e34
            case hdone =>
              intro vals w4 hb4 hv
              have h22 := hv 22 (by omega)
              clear hv
              replace h22 : vals 22 = (.bool true) := h22
              simp only [List.drop_succ_cons, List.drop_zero, wpList, wk.setL, List.setIfInBounds_toArray, List.set_cons_zero, List.set_cons_succ, Nat.zero_add, Nat.reduceAdd, h22]
              generalize vals 0 = x0
              generalize vals 1 = x1
              generalize vals 2 = x2
              generalize vals 3 = x3
              generalize vals 4 = x4
              generalize vals 5 = x5
              generalize vals 6 = x6
              generalize vals 7 = x7
              generalize vals 8 = x8
              generalize vals 9 = x9
              generalize vals 10 = x10
              generalize vals 11 = x11
              generalize vals 12 = x12
              generalize vals 13 = x13
              generalize vals 14 = x14
              generalize vals 15 = x15
              generalize vals 16 = x16
              generalize vals 17 = x17
              generalize vals 18 = x18
              generalize vals 19 = x19
              generalize vals 20 = x20
              generalize vals 21 = x21
              have HB4 := Lib.hid (HBEL.out.trans (((Below.refl _ _).drew.trans hb4).mono HBEL.out.size))
              clear hb4
              go_wp2_with fail
              go_roundg (gk - 1)
              case measure => have := HK.out; omega
              case rel => exact ⟨k + 1, (k : Int), by have := HK.out; omega, by go_num, rfl, HB4.out, HN.out⟩
          | false =>
            have HLT := Lib.hid hlt3
            have HN := Lib.hid (pl_keep HR.out HY.out HX.out hlt3)
            refine wk.region_tailU 23 [.is (.slice A' n' c'), .is (.slice (some ⟨b, o, none⟩) n c), .is (.int .i64 (k : Int)), .is (.pointer (some ⟨b, o + k * 3, none⟩)), .is (.pointer (some ⟨b, o + k * 3, none⟩)), .is (.int .i64 x.1), .is (.bool false), .is (.bool true), .is (.bool true), .is (.int .i64 (j : Int)), .is (.bool false), .is (.bool false), .is (.slice (some ⟨b, o, none⟩) n c), .is (.int .i64 (k : Int)), .is (.pointer (some ⟨b, o + k * 3, none⟩)), .is (.agg #[.int .i64 x.1, .int .i64 x.2.1, .int .i64 x.2.2]), .is (.slice (some ⟨b, o, none⟩) n c), .is (.int .i64 (j : Int)), .is (.pointer (some ⟨b, o + j * 3, none⟩)), .is (.agg #[.int .i64 y.1, .int .i64 y.2.1, .int .i64 y.2.2]), .is (.bool false), .is (.bool false), .is (.bool false)] [some 13, some 14, some 15, some 16, some 17, some 18, some 19, some 20, some 21, some 22, some 23, some 24, some 25, some 26, some 27, some 28, some 29, some 30, some 31, some 32, some 33, some 34, some 35] (by kernel_rfl) (by kernel_rfl) (by kernel_rfl) (by kernel_rfl) [] (by kernel_rfl) (by intro p hp; cases hp) (by kernel_rfl) (by kernel_rfl) ?hstep ?hdone
            case hstep =>
              intro i o ho hi hns E w4 hb4 D
              have hi2 : i = 0 ∨ i = 1 ∨ i = 2 ∨ i = 3 ∨ i = 4 ∨ i = 5 ∨ i = 6 ∨ i = 7 ∨ i = 8 ∨ i = 9 ∨ i = 10 ∨ i = 11 ∨ i = 12 ∨ i = 13 ∨ i = 14 ∨ i = 15 ∨ i = 16 ∨ i = 17 ∨ i = 18 ∨ i = 19 ∨ i = 20 ∨ i = 21 ∨ i = 22 := by omega
              clear hi
              rcases hi2 with rfl | rfl | rfl | rfl | rfl | rfl | rfl | rfl | rfl | rfl | rfl | rfl | rfl | rfl | rfl | rfl | rfl | rfl | rfl | rfl | rfl | rfl | rfl
              ·
                have ho2 := (Array.getElem?_eq_some_iff.1 ho).2
                simp only [List.getElem_toArray, List.getElem_cons_zero] at ho2
                subst ho2
                clear ho
                have e1 := D.old 1 (by kernel_rfl)
                exact wk.does_move rfl (by rw [e1]; rfl)
              ·
                have ho2 := (Array.getElem?_eq_some_iff.1 ho).2
                simp only [List.getElem_toArray, List.getElem_cons_succ, List.getElem_cons_zero] at ho2
                subst ho2
                clear ho
                have e0 := D.old 0 (by kernel_rfl)
                exact wk.does_move rfl (by rw [e0]; rfl)
              ·
                have ho2 := (Array.getElem?_eq_some_iff.1 ho).2
                simp only [List.getElem_toArray, List.getElem_cons_succ, List.getElem_cons_zero] at ho2
                subst ho2
                clear ho
                have e6 := D.old 6 (by kernel_rfl)
                exact wk.does_move rfl (by rw [e6]; rfl)
              ·
                have ho2 := (Array.getElem?_eq_some_iff.1 ho).2
                simp only [List.getElem_toArray, List.getElem_cons_succ, List.getElem_cons_zero] at ho2
                subst ho2
                clear ho
                have e14 := D.is { on := 1, ground := .data } (by simp) rfl rfl 14 rfl
                have e15 := D.is { on := 2, ground := .data } (by simp) rfl rfl 15 rfl
                exact wk.does_run (by simp only [execOp]; rw [show E (.tmp 14) = _ from e14, show E (.tmp 15) = _ from e15]; go_simp; try (intro h0; omega)) rfl
              ·
                have ho2 := (Array.getElem?_eq_some_iff.1 ho).2
                simp only [List.getElem_toArray, List.getElem_cons_succ, List.getElem_cons_zero] at ho2
                subst ho2
                clear ho
                have e16 := D.is { on := 3, ground := .data } (by simp) rfl rfl 16 rfl
                exact wk.does_run (by simp only [execOp]; rw [show E (.tmp 16) = _ from e16]; go_simp) rfl
              ·
                have ho2 := (Array.getElem?_eq_some_iff.1 ho).2
                simp only [List.getElem_toArray, List.getElem_cons_succ, List.getElem_cons_zero] at ho2
                subst ho2
                clear ho
                have e17 := D.is { on := 4, ground := .data } (by simp) rfl rfl 17 rfl
                exact wk.does_load1 rfl e17 (isH_at (H.out.below ((HBEL.out).trans (((Below.refl _ _).drew.trans hb4).mono HBEL.out.size))) HX.out 0 _ rfl) Try.underlying3 rfl rfl
              ·
                have ho2 := (Array.getElem?_eq_some_iff.1 ho).2
                simp only [List.getElem_toArray, List.getElem_cons_succ, List.getElem_cons_zero] at ho2
                subst ho2
                clear ho
                have e13 := D.is { on := 0, ground := .data } (by simp) rfl rfl 13 rfl
                have e18 := D.is { on := 5, ground := .data } (by simp) rfl rfl 18 rfl
                refine wk.does_fn (f := 40) (vs := #[.slice A' n' c', .int .i64 x.1]) rfl (D.fn _) (by simp [e13, e18]) (by go_simp) ?_
                refine (rhasB_calls x.1 _ (H'.out.below ((HBEL.out).trans (((Below.refl _ _).drew.trans hb4).mono HBEL.out.size)))).mono ?_
                rintro e w7 ⟨rfl, hb7⟩
                exact ⟨_, rfl, hb7, congrArg Value.bool HH.out⟩
              ·
                have ho2 := (Array.getElem?_eq_some_iff.1 ho).2
                simp only [List.getElem_toArray, List.getElem_cons_succ, List.getElem_cons_zero] at ho2
                subst ho2
                clear ho
                have e19 := D.is { on := 6, ground := .data } (by simp) rfl rfl 19 rfl
                exact wk.does_un rfl (by rw [show E (.tmp 19) = _ from e19]; go_simp) rfl
              ·
                have ho2 := (Array.getElem?_eq_some_iff.1 ho).2
                simp only [List.getElem_toArray, List.getElem_cons_succ, List.getElem_cons_zero] at ho2
                subst ho2
                clear ho
                have e20 := D.is { on := 7, ground := .data } (by simp) rfl rfl 20 rfl
                exact wk.does_move rfl e20
              ·
                have ho2 := (Array.getElem?_eq_some_iff.1 ho).2
                simp only [List.getElem_toArray, List.getElem_cons_succ, List.getElem_cons_zero] at ho2
                subst ho2
                clear ho
                have e5 := D.old 5 (by kernel_rfl)
                exact wk.does_move rfl (by rw [e5]; rfl)
              ·
                have ho2 := (Array.getElem?_eq_some_iff.1 ho).2
                simp only [List.getElem_toArray, List.getElem_cons_succ, List.getElem_cons_zero] at ho2
                subst ho2
                clear ho
                have e22 := D.is { on := 9, ground := .data } (by simp) rfl rfl 22 rfl
                exact wk.does_run (by simp only [execOp]; rw [show E (.tmp 22) = _ from e22, show E (.const (.int .i64 0)) = .int .i64 0 from D.con _]; go_simp; try omega) rfl
              ·
                have ho2 := (Array.getElem?_eq_some_iff.1 ho).2
                simp only [List.getElem_toArray, List.getElem_cons_succ, List.getElem_cons_zero] at ho2
                subst ho2
                clear ho
                have e23 := D.is { on := 10, ground := .data } (by simp) rfl rfl 23 rfl
                exact wk.does_move rfl e23
              ·
                have ho2 := (Array.getElem?_eq_some_iff.1 ho).2
                simp only [List.getElem_toArray, List.getElem_cons_succ, List.getElem_cons_zero] at ho2
                subst ho2
                clear ho
                have e0 := D.old 0 (by kernel_rfl)
                exact wk.does_move rfl (by rw [e0]; rfl)
              ·
                have ho2 := (Array.getElem?_eq_some_iff.1 ho).2
                simp only [List.getElem_toArray, List.getElem_cons_succ, List.getElem_cons_zero] at ho2
                subst ho2
                clear ho
                have e6 := D.old 6 (by kernel_rfl)
                exact wk.does_move rfl (by rw [e6]; rfl)
              ·
                have ho2 := (Array.getElem?_eq_some_iff.1 ho).2
                simp only [List.getElem_toArray, List.getElem_cons_succ, List.getElem_cons_zero] at ho2
                subst ho2
                clear ho
                have e25 := D.is { on := 12, ground := .data } (by simp) rfl rfl 25 rfl
                have e26 := D.is { on := 13, ground := .data } (by simp) rfl rfl 26 rfl
                exact wk.does_run (by simp only [execOp]; rw [show E (.tmp 25) = _ from e25, show E (.tmp 26) = _ from e26]; go_simp; try (intro h0; omega)) rfl
              ·
                have ho2 := (Array.getElem?_eq_some_iff.1 ho).2
                simp only [List.getElem_toArray, List.getElem_cons_succ, List.getElem_cons_zero] at ho2
                subst ho2
                clear ho
                have e27 := D.is { on := 14, ground := .data } (by simp) rfl rfl 27 rfl
                exact wk.does_load_agg rfl e27 (cs := rv x) (isH_at (H.out.below ((HBEL.out).trans (((Below.refl _ _).drew.trans hb4).mono HBEL.out.size))) HX.out) Try.underlying27 rfl (by kernel_rfl) rfl
              ·
                have ho2 := (Array.getElem?_eq_some_iff.1 ho).2
                simp only [List.getElem_toArray, List.getElem_cons_succ, List.getElem_cons_zero] at ho2
                subst ho2
                clear ho
                have e0 := D.old 0 (by kernel_rfl)
                exact wk.does_move rfl (by rw [e0]; rfl)
              ·
                have ho2 := (Array.getElem?_eq_some_iff.1 ho).2
                simp only [List.getElem_toArray, List.getElem_cons_succ, List.getElem_cons_zero] at ho2
                subst ho2
                clear ho
                have e5 := D.old 5 (by kernel_rfl)
                exact wk.does_move rfl (by rw [e5]; rfl)
              ·
                have ho2 := (Array.getElem?_eq_some_iff.1 ho).2
                simp only [List.getElem_toArray, List.getElem_cons_succ, List.getElem_cons_zero] at ho2
                subst ho2
                clear ho
                have e29 := D.is { on := 16, ground := .data } (by simp) rfl rfl 29 rfl
                have e30 := D.is { on := 17, ground := .data } (by simp) rfl rfl 30 rfl
                exact wk.does_run (by simp only [execOp]; rw [show E (.tmp 29) = _ from e29, show E (.tmp 30) = _ from e30]; go_simp; try (intro h0; omega)) rfl
              ·
                have ho2 := (Array.getElem?_eq_some_iff.1 ho).2
                simp only [List.getElem_toArray, List.getElem_cons_succ, List.getElem_cons_zero] at ho2
                subst ho2
                clear ho
                have e31 := D.is { on := 18, ground := .data } (by simp) rfl rfl 31 rfl
                exact wk.does_load_agg rfl e31 (cs := rv y) (isH_at (H.out.below ((HBEL.out).trans (((Below.refl _ _).drew.trans hb4).mono HBEL.out.size))) HY.out) Try.underlying27 rfl (by kernel_rfl) rfl
              ·
                have ho2 := (Array.getElem?_eq_some_iff.1 ho).2
                simp only [List.getElem_toArray, List.getElem_cons_succ, List.getElem_cons_zero] at ho2
                subst ho2
                clear ho
                have e28 := D.is { on := 15, ground := .data } (by simp) rfl rfl 28 rfl
                have e32 := D.is { on := 19, ground := .data } (by simp) rfl rfl 32 rfl
                refine wk.does_fn (f := 14) (vs := #[.agg #[.int .i64 x.1, .int .i64 x.2.1, .int .i64 x.2.2], .agg #[.int .i64 y.1, .int .i64 y.2.1, .int .i64 y.2.2]]) rfl (D.fn _) (by simp [e28, e32]) (by go_simp) ?_
                refine (rless_calls x y _).mono ?_
                rintro e w7 ⟨rfl, hb7⟩
                exact ⟨_, rfl, hb7, congrArg Value.bool HLT.out⟩
              ·
                have ho2 := (Array.getElem?_eq_some_iff.1 ho).2
                simp only [List.getElem_toArray, List.getElem_cons_succ, List.getElem_cons_zero] at ho2
                subst ho2
                clear ho
                have e24 := D.is { on := 11, ground := .data } (by simp) rfl rfl 24 rfl
                have e33 := D.is { on := 20, ground := .data } (by simp) rfl rfl 33 rfl
                exact wk.does_pick rfl e24 e33
              ·
                have ho2 := (Array.getElem?_eq_some_iff.1 ho).2
                simp only [List.getElem_toArray, List.getElem_cons_succ, List.getElem_cons_zero] at ho2
                subst ho2
                clear ho
                have e21 := D.is { on := 8, ground := .data } (by simp) rfl rfl 21 rfl
                have e34 := D.is { on := 21, ground := .data } (by simp) rfl rfl 34 rfl
                exact wk.does_pick rfl e21 e34
            case hdone =>
              intro vals w4 hb4 hv
              have h22 := hv 22 (by omega)
              clear hv
              replace h22 : vals 22 = (.bool false) := h22
              simp only [List.drop_succ_cons, List.drop_zero, wpList, wk.setL, List.setIfInBounds_toArray, List.set_cons_zero, List.set_cons_succ, Nat.zero_add, Nat.reduceAdd, h22]
              generalize vals 0 = x0
              generalize vals 1 = x1
              generalize vals 2 = x2
              generalize vals 3 = x3
              generalize vals 4 = x4
              generalize vals 5 = x5
              generalize vals 6 = x6
              generalize vals 7 = x7
              generalize vals 8 = x8
              generalize vals 9 = x9
              generalize vals 10 = x10
              generalize vals 11 = x11
              generalize vals 12 = x12
              generalize vals 13 = x13
              generalize vals 14 = x14
              generalize vals 15 = x15
              generalize vals 16 = x16
              generalize vals 17 = x17
              generalize vals 18 = x18
              generalize vals 19 = x19
              generalize vals 20 = x20
              generalize vals 21 = x21
              have HB4 := Lib.hid (HBEL.out.trans (((Below.refl _ _).drew.trans hb4).mono HBEL.out.size))
              clear hb4
              go_wp2_with fail
              go_roundg (gk - 1)
              case measure => have := HK.out; omega
              case rel => exact ⟨k + 1, (j : Int), by have := HK.out; omega, by go_num, rfl, HB4.out, HN.out⟩
    · obtain rfl : k = n := by omega
      go_wp2_with fail
      go_ret
      exact ⟨_, rfl, HR.out, HBEL.out⟩
end Go.Proofs.Yteeoogcchgiffaa.bk
