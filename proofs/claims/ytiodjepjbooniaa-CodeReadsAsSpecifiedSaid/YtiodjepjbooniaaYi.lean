/- The reference: Decode. -/
import Derived.Test.YtiodjepjbooniaaU7

import Derived.Test.YtiodjepjbooniaaG7

import Derived.Test.YtiodjepjbooniaaG8

namespace Go.Proofs.Ytiodjepjbooniaa.uk

open Go.ChangeShapes Go.WideShapes Go.ChangeAt Go.RowKit

open Go.Proofs.Ytiodjepjbooniaa.cq Go.Proofs.Ytiodjepjbooniaa.vk Go.Proofs.Ytiodjepjbooniaa.bk Go.Proofs.Ytiodjepjbooniaa.wk

set_option linter.unusedVariables false
/-- a variable of the reference's type Vector -/
def VecC (w : World) (g : Nat) (a b : Value) : Prop := w.heap[g]? = some (.cells #[a, b] 34 (0, 0))
theorem VecC.lt {w : World} {g : Nat} {a b : Value} (h : VecC w g a b) : g < w.heap.size := (Array.getElem?_eq_some_iff.1 h).1
theorem VecC.below {w w' : World} {g : Nat} {a b : Value} (h : VecC w g a b) (hb : Below w.heap.size w w') : VecC w' g a b := (hb.block g h.lt).trans h
theorem VecC.c0 {w : World} {g : Nat} {a b : Value} (h : VecC w g a b) : w.cell? ⟨g, 0, none⟩ = some a := by rw [cell_of_row _ _ _ _ _ _ h]; rfl
theorem VecC.c1 {w : World} {g : Nat} {a b : Value} (h : VecC w g a b) : w.cell? ⟨g, 1, none⟩ = some b := by rw [cell_of_row _ _ _ _ _ _ h]; rfl
theorem VecC.f {w : World} {g : Nat} {a b : Value} (h : VecC w g a b) (j : Nat) : w.frozen? ⟨g, j, none⟩ = false := frozen_of_row _ _ _ _ _ h
theorem VecC.set0 {w : World} {g : Nat} {a b : Value} (h : VecC w g a b) (u : Value) : VecC (w.setCell ⟨g, 0, none⟩ u) g u b := heap_setCell_same w g 0 #[a, b] 34 u h
theorem VecC.set1 {w : World} {g : Nat} {a b : Value} (h : VecC w g a b) (u : Value) : VecC (w.setCell ⟨g, 1, none⟩ u) g a u := heap_setCell_same w g 1 #[a, b] 34 u h
set_option maxRecDepth 100000 in
set_option maxHeartbeats 3000000 in
theorem rdecode_calls (v : Value) (b : Bk) (A : Option Addr) (n c : Nat) (cl : List Int) (w : World) (h : IsBk w v b) (hR : Rt b) (h2 : wo.IsI w A n c cl) :
    Calls Try.prog 16 #[v, .slice A n c] w fun e w' => ∃ u, e = .returned (.agg #[u, okD (cok b cl)]) ∧ IsV w' u (dec b cl) ∧ Below w.heap.size w w' := by
  obtain ⟨i0, hi9, hz0, hz1, hz2⟩ := info_parts infoIz
  obtain ⟨A0, n0, c0, AW, nW, cW, rfl, hi, hW, hd⟩ := h
  obtain rfl : nW = n0 := by rw [← hW.1, ← hi.1]; exact hR.wl
  have hn8 : nW ≤ 8 := by rw [← hi.1]; exact hR.div.n8
  have hmW := hW.2.2.1
  have hncW := hW.2.1
  have hm0 := hi.2.2.1
  have hnc0 := hi.2.1
  have hnm := h2.2.2.1
  have hnc := h2.2.1
  have hb0 := Below.andThen (below_new w (.cells #[.int .i64 b.d, .slice A0 nW c0, .slice AW nW cW] 25)) (below_new _ (.cells #[.slice none 0 0, .int .i64 0] 34))
  have hT0 := (Three.new w (.int .i64 b.d) (.slice A0 nW c0) (.slice AW nW cW)).below (below_new _ (.cells #[.slice none 0 0, .int .i64 0] 34))
  have HWL := Lib.hid hW.1
  have HCL := Lib.hid h2.1
  by_cases hn : n = nW
  · subst hn
    have HW := Lib.hid (isW_below hW hb0)
    have HI := Lib.hid (isI_below h2 hb0)
    have HR := Lib.hid hR
    have HB0 := Lib.hid hb0
    have HT := Lib.hid hT0
    have hz := heap_alloc_new (w.alloc (.cells #[.int .i64 b.d, .slice A0 n c0, .slice AW n cW] 25)) (.cells #[.slice none 0 0, .int .i64 0] 34)
    rw [size_new] at hz
    have HZ : Hid (VecC _ _ _ _) := hz
    clear hz
    have hc00 := (Three.new w (.int .i64 b.d) (.slice A0 n c0) (.slice AW n cW)).c1
    have hc01 := hT0.c1
    have HG := Lib.hid (show w.heap.size + 1 < ((w.alloc (.cells #[.int .i64 b.d, .slice A0 n c0, .slice AW n cW] 25)).alloc (.cells #[.slice none 0 0, .int .i64 0] 34)).heap.size by simp only [size_new]; omega)
    clear hi hW hd h2 hb0 hT0 hR
    go_enter Try.func16, Try.ntmps16
    go_wp2_with fail
    generalize ((w.alloc (.cells #[.int .i64 b.d, .slice A0 n c0, .slice AW n cW] 25)).alloc (.cells #[.slice none 0 0, .int .i64 0] 34)) = wE at *
    clear hc00 hc01
    go_loopg [5, 6] n (fun gk u x wr => ∃ (k : Nat) (v0 : Value), k + gk = n ∧ v0 = u ∧ x = .int .i64 (k : Int) ∧ wr.ownsRow wE.heap.size 3 1 v0 (flk (chosen b cl) k).length (iv (flk (chosen b cl) k)) ∧ Below wE.heap.size wE wr ∧ (flk (chosen b cl) k).length ≤ 32 * k ∧ ∀ (j : Nat) (l : VV) (i : Int), j < k → b.W[j]? = some l → cl[j]? = some i → 0 ≤ i ∧ i < (l.length : Int))
    case atStart => exact ⟨0, _, by omega, rfl, rfl, by simpa [iv, flk] using World.ownsRow_nil _ _ _ _, Below.refl _ _, by simp [flk], fun j l i hj => by omega⟩
    case round =>
      obtain ⟨k, v0, hk, hv0, rfl, hown, hbel, hfl, hpre⟩ := hrel
      subst hv0
      have HK := Lib.hid hk
      have HOWN := Lib.hid hown
      have HBEL := Lib.hid hbel
      have HPRE := Lib.hid hpre
      have hkn : k ≤ n := by omega
      have HTR := Lib.hid (HT.out.below hbel)
      have HZR := Lib.hid (HZ.out.below hbel)
      have HBR : Hid (Below w.heap.size w wr) := HB0.out.trans (hbel.mono HB0.out.size)
      clear hk hown hpre
      by_cases hlt : k < n
      · obtain ⟨b7, o7, A8, n8, c8, l8, rfl, hb7, hc7, hI8, hX8⟩ := isW_get (isW_below HW.out hbel) hlt
        have hIr := isI_below HI.out hbel
        obtain ⟨b2, o2, rfl, hb2, -⟩ := hIr.2.2.2.1 (by have := HCL.out; simp; omega)
        obtain ⟨b2', o2', i, eA, hcy, hY, -, -⟩ := isI_at hIr hlt
        cases eA
        have hcut := List.getElem?_eq_getElem (show k < b.cuts.length by rw [← HR.out.wl, HWL.out]; exact hlt)
        have hok := HR.out.ok _ _ _ hX8 hcut
        have hl8 := hI8.1
        have hn81 : 1 ≤ n8 := by rw [← hl8]; exact hok.1.1
        obtain ⟨b8, o8, -, -, -, -, rfl, hb8, -, -, -⟩ := isVV_get hI8 (k := 0) (by omega)
        have hm8 := hI8.2.2.1
        have hnc8 := hI8.2.1
        have hlt0 : (k : Int) < (n : Int) := by omega
        have HC7 := Lib.hid hc7
        have HB7 := Lib.hid hb7
        have HB2 := Lib.hid hb2
        have HB8 := Lib.hid hb8
        have HCY := Lib.hid hcy
        have HIV := Lib.hid hI8
        have HOKW := Lib.hid hok.2
        have HX8 := Lib.hid hX8
        have HY := Lib.hid hY
        have HL8 := Lib.hid hl8
        have HBAD : Hid (i < 0 ∨ (n8 : Int) ≤ i → cok b cl = false) := fun hh => by
          cases hc : cok b cl
          · rfl
          · have := (cok_iff.1 hc).2 k l8 i HX8.out HY.out
            have := HL8.out
            omega
        clear hc7 hb7 hb2 hb8 hcy hI8 hok hX8 hY hl8 hIr hcut hbel
        by_cases hneg : i < 0
        · have hk2 := HBAD.out (Or.inl hneg)
          have hdd : dec b cl = [] := by unfold dec; rw [hk2]; rfl
          have HK2 := Lib.hid hk2
          have HDD := Lib.hid hdd
          clear hk2 hdd
          go_wp2_with fail
          refine wk.region_tailS 18 [.is (.slice (some ⟨b2, o2, none⟩) n c), .is (.int .i64 (k : Int)), .is (.pointer (some ⟨b2, o2 + k, none⟩)), .is (.int .i64 i), .is (.bool true), .is (.bool true), .is undef, .is undef, .is undef, .is undef, .is undef, .is undef, .is undef, .is undef, .is undef, .is undef, .is undef, .is (.bool true)] [some 20, some 21, some 22, some 23, some 24, some 25, some 26, some 27, some 28, some 29, some 30, some 31, some 32, some 33, some 34, some 35, some 36, some 37] (by kernel_rfl) (by kernel_rfl) (by kernel_rfl) (by kernel_rfl) [6, 7, 8, 9, 10, 11, 12, 13, 14, 15, 16] (by kernel_rfl) (by intro p hp; simp only [List.mem_cons, List.not_mem_nil, or_false] at hp; rcases hp with rfl | rfl | rfl | rfl | rfl | rfl | rfl | rfl | rfl | rfl | rfl <;> rfl) (by kernel_rfl) (by kernel_rfl) ?hstep ?hdone
          case hstep =>
            intro i o ho hi hns E w4 hb4 D
            have hi2 : i = 0 ∨ i = 1 ∨ i = 2 ∨ i = 3 ∨ i = 4 ∨ i = 5 ∨ i = 6 ∨ i = 7 ∨ i = 8 ∨ i = 9 ∨ i = 10 ∨ i = 11 ∨ i = 12 ∨ i = 13 ∨ i = 14 ∨ i = 15 ∨ i = 16 ∨ i = 17 := by omega
            clear hi
            rcases hi2 with rfl | rfl | rfl | rfl | rfl | rfl | rfl | rfl | rfl | rfl | rfl | rfl | rfl | rfl | rfl | rfl | rfl | rfl
            ·
              have ho2 := (Array.getElem?_eq_some_iff.1 ho).2
              simp only [List.getElem_toArray, List.getElem_cons_zero] at ho2
              subst ho2
              clear ho
              have e1 := D.old 1 (by kernel_rfl)
              exact wk.does_move rfl (by rw [e1]; rfl)
            ·
              have ho2 := (Array.getElem?_eq_some_iff.1 ho).2
              simp only [List.getElem_toArray, List.getElem_cons_succ, List.getElem_cons_zero] at ho2
              subst ho2
              clear ho
              have e6 := D.old 6 (by kernel_rfl)
              exact wk.does_move rfl (by rw [e6]; rfl)
            ·
              have ho2 := (Array.getElem?_eq_some_iff.1 ho).2
              simp only [List.getElem_toArray, List.getElem_cons_succ, List.getElem_cons_zero] at ho2
              subst ho2
              clear ho
              have e20 := D.is { on := 0, ground := .data } (by simp) rfl rfl 20 rfl
              have e21 := D.is { on := 1, ground := .data } (by simp) rfl rfl 21 rfl
              exact wk.does_run (by simp only [execOp]; rw [show E (.tmp 20) = _ from e20, show E (.tmp 21) = _ from e21]; go_simp) rfl
            ·
              have ho2 := (Array.getElem?_eq_some_iff.1 ho).2
              simp only [List.getElem_toArray, List.getElem_cons_succ, List.getElem_cons_zero] at ho2
              subst ho2
              clear ho
              have e22 := D.is { on := 2, ground := .data } (by simp) rfl rfl 22 rfl
              exact wk.does_load1 rfl e22 ((((Below.refl _ _).drew.trans hb4).cell (p := ⟨_, _, none⟩) HB2.out).trans HCY.out) Try.underlying3 rfl rfl
            ·
              have ho2 := (Array.getElem?_eq_some_iff.1 ho).2
              simp only [List.getElem_toArray, List.getElem_cons_succ, List.getElem_cons_zero] at ho2
              subst ho2
              clear ho
              have e23 := D.is { on := 3, ground := .data } (by simp) rfl rfl 23 rfl
              exact wk.does_run (by simp only [execOp]; rw [show E (.tmp 23) = _ from e23, show E (.const (.int .i64 0)) = .int .i64 0 from D.con _]; go_simp) rfl
            ·
              have ho2 := (Array.getElem?_eq_some_iff.1 ho).2
              simp only [List.getElem_toArray, List.getElem_cons_succ, List.getElem_cons_zero] at ho2
              subst ho2
              clear ho
              have e24 := D.is { on := 4, ground := .data } (by simp) rfl rfl 24 rfl
              exact wk.does_move rfl e24
            · cases (show false = true from hns.symm.trans (by kernel_rfl))
            · cases (show false = true from hns.symm.trans (by kernel_rfl))
            · cases (show false = true from hns.symm.trans (by kernel_rfl))
            · cases (show false = true from hns.symm.trans (by kernel_rfl))
            · cases (show false = true from hns.symm.trans (by kernel_rfl))
            · cases (show false = true from hns.symm.trans (by kernel_rfl))
            · cases (show false = true from hns.symm.trans (by kernel_rfl))
            · cases (show false = true from hns.symm.trans (by kernel_rfl))
            · cases (show false = true from hns.symm.trans (by kernel_rfl))
            · cases (show false = true from hns.symm.trans (by kernel_rfl))
            · cases (show false = true from hns.symm.trans (by kernel_rfl))
            ·
              have ho2 := (Array.getElem?_eq_some_iff.1 ho).2
              simp only [List.getElem_toArray, List.getElem_cons_succ, List.getElem_cons_zero] at ho2
              subst ho2
              clear ho
              have e25 := D.is { on := 5, ground := .data } (by simp) rfl rfl 25 rfl
              have e36 := D.is { on := 16, ground := .data } (by simp) rfl rfl 36 rfl
              exact wk.does_pick rfl e25 (D.con _)
          case hdone =>
            intro vals w4 hb4 hv
            have h17 := hv 17 (by omega)
            clear hv
            replace h17 : vals 17 = (.bool true) := h17
            simp only [List.drop_succ_cons, List.drop_zero, wpList, wk.setL, List.setIfInBounds_toArray, List.set_cons_zero, List.set_cons_succ, Nat.zero_add, Nat.reduceAdd, h17]
            generalize vals 0 = x0
            generalize vals 1 = x1
            generalize vals 2 = x2
            generalize vals 3 = x3
            generalize vals 4 = x4
            generalize vals 5 = x5
            generalize vals 6 = x6
            generalize vals 7 = x7
            generalize vals 8 = x8
            generalize vals 9 = x9
            generalize vals 10 = x10
            generalize vals 11 = x11
            generalize vals 12 = x12
            generalize vals 13 = x13
            generalize vals 14 = x14
            generalize vals 15 = x15
            generalize vals 16 = x16
            have hb5 : Below wr.heap.size wr w4 := ((Below.refl _ _).drew.trans hb4)
            have HZ5 := Lib.hid (HZR.out.below hb5)
            have HB5 := Lib.hid (HBR.out.trans (hb5.mono HBR.out.size))
            have hzr0 := HZ5.out.c0
            have hzr1 := HZ5.out.f 0
            have hzr2 := (HZ5.out.set0 (.slice none 0 0)).c1
            have hzr3 := (HZ5.out.set0 (.slice none 0 0)).f 1
            clear hb4 hb5
            go_wp2_with fail
            exact bodyPost_ret (v := .agg #[.slice none 0 0, .int .i64 1]) (results_cell_row (fn := Try.f16) rfl _ _ (w.heap.size + 1) 34 #[.slice none 0 0, .int .i64 1] (0, 0) _ rfl ((HZ5.out.set0 _).set1 _) Try.underlying34 rfl (by kernel_rfl)) rfl ⟨_, by rw [HK2.out]; rfl, by rw [HDD.out]; exact isV_nil _, (HB5.out.setCell (p := ⟨w.heap.size + 1, 0, none⟩) (by show w.heap.size ≤ w.heap.size + 1; omega) _).setCell (p := ⟨w.heap.size + 1, 1, none⟩) (by show w.heap.size ≤ w.heap.size + 1; omega) _⟩
        · obtain ⟨j, rfl⟩ : ∃ j : Nat, i = (j : Int) := ⟨i.toNat, by omega⟩
          by_cases hbig : n8 ≤ j
          · have hk2 := HBAD.out (Or.inr (by omega))
            have hdd : dec b cl = [] := by unfold dec; rw [hk2]; rfl
            have HK2 := Lib.hid hk2
            have HDD := Lib.hid hdd
            clear hk2 hdd
            go_wp2_with fail
            refine wk.region_tailS 18 [.is (.slice (some ⟨b2, o2, none⟩) n c), .is (.int .i64 (k : Int)), .is (.pointer (some ⟨b2, o2 + k, none⟩)), .is (.int .i64 (j : Int)), .is (.bool false), .is (.bool false), .is (.slice (some ⟨b2, o2, none⟩) n c), .is (.int .i64 (k : Int)), .is (.pointer (some ⟨b2, o2 + k, none⟩)), .is (.int .i64 (j : Int)), .is (.pointer (some ⟨w.heap.size, 2, none⟩)), .is (.slice (some ⟨b7, o7, none⟩) n cW), .is (.int .i64 (k : Int)), .is (.pointer (some ⟨b7, o7 + k, none⟩)), .is (.slice (some ⟨b8, o8, none⟩) n8 c8), .is (.int .i64 (n8 : Int)), .is (.bool true), .is (.bool true)] [some 20, some 21, some 22, some 23, some 24, some 25, some 26, some 27, some 28, some 29, some 30, some 31, some 32, some 33, some 34, some 35, some 36, some 37] (by kernel_rfl) (by kernel_rfl) (by kernel_rfl) (by kernel_rfl) [] (by kernel_rfl) (by intro p hp; cases hp) (by kernel_rfl) (by kernel_rfl) ?hstep ?hdone
            case hstep =>
              intro i o ho hi hns E w4 hb4 D
              have hi2 : i = 0 ∨ i = 1 ∨ i = 2 ∨ i = 3 ∨ i = 4 ∨ i = 5 ∨ i = 6 ∨ i = 7 ∨ i = 8 ∨ i = 9 ∨ i = 10 ∨ i = 11 ∨ i = 12 ∨ i = 13 ∨ i = 14 ∨ i = 15 ∨ i = 16 ∨ i = 17 := by omega
              clear hi
              rcases hi2 with rfl | rfl | rfl | rfl | rfl | rfl | rfl | rfl | rfl | rfl | rfl | rfl | rfl | rfl | rfl | rfl | rfl | rfl
              ·
                have ho2 := (Array.getElem?_eq_some_iff.1 ho).2
                simp only [List.getElem_toArray, List.getElem_cons_zero] at ho2
                subst ho2
                clear ho
                have e1 := D.old 1 (by kernel_rfl)
                exact wk.does_move rfl (by rw [e1]; rfl)
              ·
                have ho2 := (Array.getElem?_eq_some_iff.1 ho).2
                simp only [List.getElem_toArray, List.getElem_cons_succ, List.getElem_cons_zero] at ho2
                subst ho2
                clear ho
                have e6 := D.old 6 (by kernel_rfl)
                exact wk.does_move rfl (by rw [e6]; rfl)
              ·
                have ho2 := (Array.getElem?_eq_some_iff.1 ho).2
                simp only [List.getElem_toArray, List.getElem_cons_succ, List.getElem_cons_zero] at ho2
                subst ho2
                clear ho
                have e20 := D.is { on := 0, ground := .data } (by simp) rfl rfl 20 rfl
                have e21 := D.is { on := 1, ground := .data } (by simp) rfl rfl 21 rfl
                exact wk.does_run (by simp only [execOp]; rw [show E (.tmp 20) = _ from e20, show E (.tmp 21) = _ from e21]; go_simp) rfl
              ·
                have ho2 := (Array.getElem?_eq_some_iff.1 ho).2
                simp only [List.getElem_toArray, List.getElem_cons_succ, List.getElem_cons_zero] at ho2
                subst ho2
                clear ho
                have e22 := D.is { on := 2, ground := .data } (by simp) rfl rfl 22 rfl
                exact wk.does_load1 rfl e22 ((((Below.refl _ _).drew.trans hb4).cell (p := ⟨_, _, none⟩) HB2.out).trans HCY.out) Try.underlying3 rfl rfl
              ·
                have ho2 := (Array.getElem?_eq_some_iff.1 ho).2
                simp only [List.getElem_toArray, List.getElem_cons_succ, List.getElem_cons_zero] at ho2
                subst ho2
                clear ho
                have e23 := D.is { on := 3, ground := .data } (by simp) rfl rfl 23 rfl
                exact wk.does_run (by simp only [execOp]; rw [show E (.tmp 23) = _ from e23, show E (.const (.int .i64 0)) = .int .i64 0 from D.con _]; go_simp) rfl
              ·
                have ho2 := (Array.getElem?_eq_some_iff.1 ho).2
                simp only [List.getElem_toArray, List.getElem_cons_succ, List.getElem_cons_zero] at ho2
                subst ho2
                clear ho
                have e24 := D.is { on := 4, ground := .data } (by simp) rfl rfl 24 rfl
                exact wk.does_move rfl e24
              ·
                have ho2 := (Array.getElem?_eq_some_iff.1 ho).2
                simp only [List.getElem_toArray, List.getElem_cons_succ, List.getElem_cons_zero] at ho2
                subst ho2
                clear ho
                have e1 := D.old 1 (by kernel_rfl)
                exact wk.does_move rfl (by rw [e1]; rfl)
              ·
                have ho2 := (Array.getElem?_eq_some_iff.1 ho).2
                simp only [List.getElem_toArray, List.getElem_cons_succ, List.getElem_cons_zero] at ho2
                subst ho2
                clear ho
                have e6 := D.old 6 (by kernel_rfl)
                exact wk.does_move rfl (by rw [e6]; rfl)
              ·
                have ho2 := (Array.getElem?_eq_some_iff.1 ho).2
                simp only [List.getElem_toArray, List.getElem_cons_succ, List.getElem_cons_zero] at ho2
                subst ho2
                clear ho
                have e26 := D.is { on := 6, ground := .data } (by simp) rfl rfl 26 rfl
                have e27 := D.is { on := 7, ground := .data } (by simp) rfl rfl 27 rfl
                exact wk.does_run (by simp only [execOp]; rw [show E (.tmp 26) = _ from e26, show E (.tmp 27) = _ from e27]; go_simp) rfl
              ·
                have ho2 := (Array.getElem?_eq_some_iff.1 ho).2
                simp only [List.getElem_toArray, List.getElem_cons_succ, List.getElem_cons_zero] at ho2
                subst ho2
                clear ho
                have e28 := D.is { on := 8, ground := .data } (by simp) rfl rfl 28 rfl
                exact wk.does_load1 rfl e28 ((((Below.refl _ _).drew.trans hb4).cell (p := ⟨_, _, none⟩) HB2.out).trans HCY.out) Try.underlying3 rfl rfl
              ·
                have ho2 := (Array.getElem?_eq_some_iff.1 ho).2
                simp only [List.getElem_toArray, List.getElem_cons_succ, List.getElem_cons_zero] at ho2
                subst ho2
                clear ho
                have e2 := D.old 2 (by kernel_rfl)
                exact wk.does_run (by simp only [execOp]; rw [show E (.tmp 2) = .pointer (some ⟨w.heap.size, 0, none⟩) by rw [e2]; rfl]; go_simp) rfl
              ·
                have ho2 := (Array.getElem?_eq_some_iff.1 ho).2
                simp only [List.getElem_toArray, List.getElem_cons_succ, List.getElem_cons_zero] at ho2
                subst ho2
                clear ho
                have e30 := D.is { on := 10, ground := .data } (by simp) rfl rfl 30 rfl
                exact wk.does_load1 rfl e30 ((HTR.out.below ((Below.refl _ _).drew.trans hb4)).c2) Try.underlying23 rfl rfl
              ·
                have ho2 := (Array.getElem?_eq_some_iff.1 ho).2
                simp only [List.getElem_toArray, List.getElem_cons_succ, List.getElem_cons_zero] at ho2
                subst ho2
                clear ho
                have e6 := D.old 6 (by kernel_rfl)
                exact wk.does_move rfl (by rw [e6]; rfl)
              ·
                have ho2 := (Array.getElem?_eq_some_iff.1 ho).2
                simp only [List.getElem_toArray, List.getElem_cons_succ, List.getElem_cons_zero] at ho2
                subst ho2
                clear ho
                have e31 := D.is { on := 11, ground := .data } (by simp) rfl rfl 31 rfl
                have e32 := D.is { on := 12, ground := .data } (by simp) rfl rfl 32 rfl
                exact wk.does_run (by simp only [execOp]; rw [show E (.tmp 31) = _ from e31, show E (.tmp 32) = _ from e32]; go_simp) rfl
              ·
                have ho2 := (Array.getElem?_eq_some_iff.1 ho).2
                simp only [List.getElem_toArray, List.getElem_cons_succ, List.getElem_cons_zero] at ho2
                subst ho2
                clear ho
                have e33 := D.is { on := 13, ground := .data } (by simp) rfl rfl 33 rfl
                exact wk.does_load1 rfl e33 ((((Below.refl _ _).drew.trans hb4).cell (p := ⟨_, _, none⟩) HB7.out).trans HC7.out) Try.underlying39 rfl rfl
              ·
                have ho2 := (Array.getElem?_eq_some_iff.1 ho).2
                simp only [List.getElem_toArray, List.getElem_cons_succ, List.getElem_cons_zero] at ho2
                subst ho2
                clear ho
                have e34 := D.is { on := 14, ground := .data } (by simp) rfl rfl 34 rfl
                exact wk.does_run (by simp only [execOp, resolve, invoke, builtin, Sem.run_bind, Sem.run_pure, Result.andThen_ok, List.map_toArray, List.map_cons, List.map_nil]; rw [show E (.tmp 34) = _ from e34]; go_simp) rfl
              ·
                have ho2 := (Array.getElem?_eq_some_iff.1 ho).2
                simp only [List.getElem_toArray, List.getElem_cons_succ, List.getElem_cons_zero] at ho2
                subst ho2
                clear ho
                have e29 := D.is { on := 9, ground := .data } (by simp) rfl rfl 29 rfl
                have e35 := D.is { on := 15, ground := .data } (by simp) rfl rfl 35 rfl
                exact wk.does_run (by simp only [execOp]; rw [show E (.tmp 29) = _ from e29, show E (.tmp 35) = _ from e35]; go_simp) rfl
              ·
                have ho2 := (Array.getElem?_eq_some_iff.1 ho).2
                simp only [List.getElem_toArray, List.getElem_cons_succ, List.getElem_cons_zero] at ho2
                subst ho2
                clear ho
                have e25 := D.is { on := 5, ground := .data } (by simp) rfl rfl 25 rfl
                have e36 := D.is { on := 16, ground := .data } (by simp) rfl rfl 36 rfl
                exact wk.does_pick rfl e25 e36
            case hdone =>
              intro vals w4 hb4 hv
              have h17 := hv 17 (by omega)
              clear hv
              replace h17 : vals 17 = (.bool true) := h17
              simp only [List.drop_succ_cons, List.drop_zero, wpList, wk.setL, List.setIfInBounds_toArray, List.set_cons_zero, List.set_cons_succ, Nat.zero_add, Nat.reduceAdd, h17]
              generalize vals 0 = x0
              generalize vals 1 = x1
              generalize vals 2 = x2
              generalize vals 3 = x3
              generalize vals 4 = x4
              generalize vals 5 = x5
              generalize vals 6 = x6
              generalize vals 7 = x7
              generalize vals 8 = x8
              generalize vals 9 = x9
              generalize vals 10 = x10
              generalize vals 11 = x11
              generalize vals 12 = x12
              generalize vals 13 = x13
              generalize vals 14 = x14
              generalize vals 15 = x15
              generalize vals 16 = x16
              have hb5 : Below wr.heap.size wr w4 := ((Below.refl _ _).drew.trans hb4)
              have HZ5 := Lib.hid (HZR.out.below hb5)
              have HB5 := Lib.hid (HBR.out.trans (hb5.mono HBR.out.size))
              have hzr0 := HZ5.out.c0
              have hzr1 := HZ5.out.f 0
              have hzr2 := (HZ5.out.set0 (.slice none 0 0)).c1
              have hzr3 := (HZ5.out.set0 (.slice none 0 0)).f 1
              clear hb4 hb5
              go_wp2_with fail
              exact bodyPost_ret (v := .agg #[.slice none 0 0, .int .i64 1]) (results_cell_row (fn := Try.f16) rfl _ _ (w.heap.size + 1) 34 #[.slice none 0 0, .int .i64 1] (0, 0) _ rfl ((HZ5.out.set0 _).set1 _) Try.underlying34 rfl (by kernel_rfl)) rfl ⟨_, by rw [HK2.out]; rfl, by rw [HDD.out]; exact isV_nil _, (HB5.out.setCell (p := ⟨w.heap.size + 1, 0, none⟩) (by show w.heap.size ≤ w.heap.size + 1; omega) _).setCell (p := ⟨w.heap.size + 1, 1, none⟩) (by show w.heap.size ≤ w.heap.size + 1; omega) _⟩
          · go_wp2_with fail
            refine wk.region_tailS 18 [.is (.slice (some ⟨b2, o2, none⟩) n c), .is (.int .i64 (k : Int)), .is (.pointer (some ⟨b2, o2 + k, none⟩)), .is (.int .i64 (j : Int)), .is (.bool false), .is (.bool false), .is (.slice (some ⟨b2, o2, none⟩) n c), .is (.int .i64 (k : Int)), .is (.pointer (some ⟨b2, o2 + k, none⟩)), .is (.int .i64 (j : Int)), .is (.pointer (some ⟨w.heap.size, 2, none⟩)), .is (.slice (some ⟨b7, o7, none⟩) n cW), .is (.int .i64 (k : Int)), .is (.pointer (some ⟨b7, o7 + k, none⟩)), .is (.slice (some ⟨b8, o8, none⟩) n8 c8), .is (.int .i64 (n8 : Int)), .is (.bool false), .is (.bool false)] [some 20, some 21, some 22, some 23, some 24, some 25, some 26, some 27, some 28, some 29, some 30, some 31, some 32, some 33, some 34, some 35, some 36, some 37] (by kernel_rfl) (by kernel_rfl) (by kernel_rfl) (by kernel_rfl) [] (by kernel_rfl) (by intro p hp; cases hp) (by kernel_rfl) (by kernel_rfl) ?hstep ?hdone
            case hstep =>
              intro i o ho hi hns E w6 hb6x D
              have hi2 : i = 0 ∨ i = 1 ∨ i = 2 ∨ i = 3 ∨ i = 4 ∨ i = 5 ∨ i = 6 ∨ i = 7 ∨ i = 8 ∨ i = 9 ∨ i = 10 ∨ i = 11 ∨ i = 12 ∨ i = 13 ∨ i = 14 ∨ i = 15 ∨ i = 16 ∨ i = 17 := by omega
              clear hi
              rcases hi2 with rfl | rfl | rfl | rfl | rfl | rfl | rfl | rfl | rfl | rfl | rfl | rfl | rfl | rfl | rfl | rfl | rfl | rfl
              ·
                have ho2 := (Array.getElem?_eq_some_iff.1 ho).2
                simp only [List.getElem_toArray, List.getElem_cons_zero] at ho2
                subst ho2
                clear ho
                have e1 := D.old 1 (by kernel_rfl)
                exact wk.does_move rfl (by rw [e1]; rfl)
              ·
                have ho2 := (Array.getElem?_eq_some_iff.1 ho).2
                simp only [List.getElem_toArray, List.getElem_cons_succ, List.getElem_cons_zero] at ho2
                subst ho2
                clear ho
                have e6 := D.old 6 (by kernel_rfl)
                exact wk.does_move rfl (by rw [e6]; rfl)
              ·
                have ho2 := (Array.getElem?_eq_some_iff.1 ho).2
                simp only [List.getElem_toArray, List.getElem_cons_succ, List.getElem_cons_zero] at ho2
                subst ho2
                clear ho
                have e20 := D.is { on := 0, ground := .data } (by simp) rfl rfl 20 rfl
                have e21 := D.is { on := 1, ground := .data } (by simp) rfl rfl 21 rfl
                exact wk.does_run (by simp only [execOp]; rw [show E (.tmp 20) = _ from e20, show E (.tmp 21) = _ from e21]; go_simp) rfl
              ·
                have ho2 := (Array.getElem?_eq_some_iff.1 ho).2
                simp only [List.getElem_toArray, List.getElem_cons_succ, List.getElem_cons_zero] at ho2
                subst ho2
                clear ho
                have e22 := D.is { on := 2, ground := .data } (by simp) rfl rfl 22 rfl
                exact wk.does_load1 rfl e22 ((((Below.refl _ _).drew.trans hb6x).cell (p := ⟨_, _, none⟩) HB2.out).trans HCY.out) Try.underlying3 rfl rfl
              ·
                have ho2 := (Array.getElem?_eq_some_iff.1 ho).2
                simp only [List.getElem_toArray, List.getElem_cons_succ, List.getElem_cons_zero] at ho2
                subst ho2
                clear ho
                have e23 := D.is { on := 3, ground := .data } (by simp) rfl rfl 23 rfl
                exact wk.does_run (by simp only [execOp]; rw [show E (.tmp 23) = _ from e23, show E (.const (.int .i64 0)) = .int .i64 0 from D.con _]; go_simp) rfl
              ·
                have ho2 := (Array.getElem?_eq_some_iff.1 ho).2
                simp only [List.getElem_toArray, List.getElem_cons_succ, List.getElem_cons_zero] at ho2
                subst ho2
                clear ho
                have e24 := D.is { on := 4, ground := .data } (by simp) rfl rfl 24 rfl
                exact wk.does_move rfl e24
              ·
                have ho2 := (Array.getElem?_eq_some_iff.1 ho).2
                simp only [List.getElem_toArray, List.getElem_cons_succ, List.getElem_cons_zero] at ho2
                subst ho2
                clear ho
                have e1 := D.old 1 (by kernel_rfl)
                exact wk.does_move rfl (by rw [e1]; rfl)
              ·
                have ho2 := (Array.getElem?_eq_some_iff.1 ho).2
                simp only [List.getElem_toArray, List.getElem_cons_succ, List.getElem_cons_zero] at ho2
                subst ho2
                clear ho
                have e6 := D.old 6 (by kernel_rfl)
                exact wk.does_move rfl (by rw [e6]; rfl)
              ·
                have ho2 := (Array.getElem?_eq_some_iff.1 ho).2
                simp only [List.getElem_toArray, List.getElem_cons_succ, List.getElem_cons_zero] at ho2
                subst ho2
                clear ho
                have e26 := D.is { on := 6, ground := .data } (by simp) rfl rfl 26 rfl
                have e27 := D.is { on := 7, ground := .data } (by simp) rfl rfl 27 rfl
                exact wk.does_run (by simp only [execOp]; rw [show E (.tmp 26) = _ from e26, show E (.tmp 27) = _ from e27]; go_simp) rfl
              ·
                have ho2 := (Array.getElem?_eq_some_iff.1 ho).2
                simp only [List.getElem_toArray, List.getElem_cons_succ, List.getElem_cons_zero] at ho2
                subst ho2
                clear ho
                have e28 := D.is { on := 8, ground := .data } (by simp) rfl rfl 28 rfl
                exact wk.does_load1 rfl e28 ((((Below.refl _ _).drew.trans hb6x).cell (p := ⟨_, _, none⟩) HB2.out).trans HCY.out) Try.underlying3 rfl rfl
              ·
                have ho2 := (Array.getElem?_eq_some_iff.1 ho).2
                simp only [List.getElem_toArray, List.getElem_cons_succ, List.getElem_cons_zero] at ho2
                subst ho2
                clear ho
                have e2 := D.old 2 (by kernel_rfl)
                exact wk.does_run (by simp only [execOp]; rw [show E (.tmp 2) = .pointer (some ⟨w.heap.size, 0, none⟩) by rw [e2]; rfl]; go_simp) rfl
              ·
                have ho2 := (Array.getElem?_eq_some_iff.1 ho).2
                simp only [List.getElem_toArray, List.getElem_cons_succ, List.getElem_cons_zero] at ho2
                subst ho2
                clear ho
                have e30 := D.is { on := 10, ground := .data } (by simp) rfl rfl 30 rfl
                exact wk.does_load1 rfl e30 ((HTR.out.below ((Below.refl _ _).drew.trans hb6x)).c2) Try.underlying23 rfl rfl
              ·
                have ho2 := (Array.getElem?_eq_some_iff.1 ho).2
                simp only [List.getElem_toArray, List.getElem_cons_succ, List.getElem_cons_zero] at ho2
                subst ho2
                clear ho
                have e6 := D.old 6 (by kernel_rfl)
                exact wk.does_move rfl (by rw [e6]; rfl)
              ·
                have ho2 := (Array.getElem?_eq_some_iff.1 ho).2
                simp only [List.getElem_toArray, List.getElem_cons_succ, List.getElem_cons_zero] at ho2
                subst ho2
                clear ho
                have e31 := D.is { on := 11, ground := .data } (by simp) rfl rfl 31 rfl
                have e32 := D.is { on := 12, ground := .data } (by simp) rfl rfl 32 rfl
                exact wk.does_run (by simp only [execOp]; rw [show E (.tmp 31) = _ from e31, show E (.tmp 32) = _ from e32]; go_simp) rfl
              ·
                have ho2 := (Array.getElem?_eq_some_iff.1 ho).2
                simp only [List.getElem_toArray, List.getElem_cons_succ, List.getElem_cons_zero] at ho2
                subst ho2
                clear ho
                have e33 := D.is { on := 13, ground := .data } (by simp) rfl rfl 33 rfl
                exact wk.does_load1 rfl e33 ((((Below.refl _ _).drew.trans hb6x).cell (p := ⟨_, _, none⟩) HB7.out).trans HC7.out) Try.underlying39 rfl rfl
              ·
                have ho2 := (Array.getElem?_eq_some_iff.1 ho).2
                simp only [List.getElem_toArray, List.getElem_cons_succ, List.getElem_cons_zero] at ho2
                subst ho2
                clear ho
                have e34 := D.is { on := 14, ground := .data } (by simp) rfl rfl 34 rfl
                exact wk.does_run (by simp only [execOp, resolve, invoke, builtin, Sem.run_bind, Sem.run_pure, Result.andThen_ok, List.map_toArray, List.map_cons, List.map_nil]; rw [show E (.tmp 34) = _ from e34]; go_simp) rfl
              ·
                have ho2 := (Array.getElem?_eq_some_iff.1 ho).2
                simp only [List.getElem_toArray, List.getElem_cons_succ, List.getElem_cons_zero] at ho2
                subst ho2
                clear ho
                have e29 := D.is { on := 9, ground := .data } (by simp) rfl rfl 29 rfl
                have e35 := D.is { on := 15, ground := .data } (by simp) rfl rfl 35 rfl
                exact wk.does_run (by simp only [execOp]; rw [show E (.tmp 29) = _ from e29, show E (.tmp 35) = _ from e35]; go_simp) rfl
              ·
                have ho2 := (Array.getElem?_eq_some_iff.1 ho).2
                simp only [List.getElem_toArray, List.getElem_cons_succ, List.getElem_cons_zero] at ho2
                subst ho2
                clear ho
                have e25 := D.is { on := 5, ground := .data } (by simp) rfl rfl 25 rfl
                have e36 := D.is { on := 16, ground := .data } (by simp) rfl rfl 36 rfl
                exact wk.does_pick rfl e25 e36
            case hdone =>
              intro vals w6 hb6x hv
              have h17 := hv 17 (by omega)
              clear hv
              replace h17 : vals 17 = (.bool false) := h17
              simp only [List.drop_succ_cons, List.drop_zero, wpList, wk.setL, List.setIfInBounds_toArray, List.set_cons_zero, List.set_cons_succ, Nat.zero_add, Nat.reduceAdd, h17]
              generalize vals 0 = x0
              generalize vals 1 = x1
              generalize vals 2 = x2
              generalize vals 3 = x3
              generalize vals 4 = x4
              generalize vals 5 = x5
              generalize vals 6 = x6
              generalize vals 7 = x7
              generalize vals 8 = x8
              generalize vals 9 = x9
              generalize vals 10 = x10
              generalize vals 11 = x11
              generalize vals 12 = x12
              generalize vals 13 = x13
              generalize vals 14 = x14
              generalize vals 15 = x15
              generalize vals 16 = x16
              have hb6 : Below wr.heap.size wr w6 := ((Below.refl _ _).drew.trans hb6x)
              have HB6 : Hid (Below wE.heap.size wE w6) := HBEL.out.trans (hb6.mono HBEL.out.size)
              have HOW6 := Lib.hid (keptB HOWN.out hb6)
              have HS66 := Lib.hid hb6
              have HS6 : Hid (wr.heap.size ≤ w6.heap.size) := hb6.size
              replace HTR := Lib.hid (HTR.out.below hb6)
              replace HC7 : Hid (w6.cell? ⟨b7, o7 + k, none⟩ = some (.slice (some ⟨b8, o8, none⟩) n8 c8)) := (hb6.cell (p := ⟨b7, o7 + k, none⟩) HB7.out).trans HC7.out
              replace HCY : Hid (w6.cell? ⟨b2, o2 + k, none⟩ = some (.int .i64 (j : Int))) := (hb6.cell (p := ⟨b2, o2 + k, none⟩) HB2.out).trans HCY.out
              obtain ⟨bb, oo, A1, n1, c1, l1, eA, -, hc1, hI1, hX1⟩ := isVV_get HIV.out (show j < n8 by omega)
              cases eA
              have HC1 : Hid (w6.cell? ⟨b8, o8 + j, none⟩ = some (.slice A1 n1 c1)) := (hb6.cell (p := ⟨b8, o8 + j, none⟩) HB8.out).trans hc1
              have hw1 := HOKW.out l1 (List.mem_of_getElem? hX1)
              have hn1 := hI1.1
              have h1p := hw1.2.pos
              have h1m := hw1.2.le
              obtain ⟨b1, o1, rfl, hb1, hcell1⟩ := hI1.2.2.2.1 (by simp; omega)
              have HB1 := Lib.hid hb1
              have HC9 : Hid (∀ i u, (iv l1)[i]? = some u → wr.cell? ⟨b1, o1 + i, none⟩ = some u) := hcell1
              have HN1 := Lib.hid hn1
              have hch : (chosen b cl)[k]? = some l1 := by
                rw [chosen_at HX8.out HY.out, Int.toNat_natCast, List.getD_eq_getElem?_getD, hX1]; rfl
              have HFS := Lib.hid (flk_succ hch)
              have HFL5 : Hid ((flk (chosen b cl) (k + 1)).length ≤ 32 * (k + 1)) := by
                show _ ≤ _
                rw [HFS.out, List.length_append]
                omega
              have HPN : Hid (∀ (j : Nat) (l : VV) (i : Int), j < k + 1 → b.W[j]? = some l → cl[j]? = some i → 0 ≤ i ∧ i < (l.length : Int)) := fun j' l' i' hj' hl' hi' => by
                rcases Nat.lt_or_ge j' k with h | h
                · exact HPRE.out j' l' i' h hl' hi'
                · obtain rfl : j' = k := by omega
                  rw [HX8.out] at hl'
                  rw [HY.out] at hi'
                  injection hl' with hl'
                  injection hi' with hi'
                  subst hl'
                  subst hi'
                  have := HL8.out
                  omega
              replace HB7 : Hid (b7 < w6.heap.size) := Nat.lt_of_lt_of_le HB7.out hb6.size
              replace HB2 : Hid (b2 < w6.heap.size) := Nat.lt_of_lt_of_le HB2.out hb6.size
              replace HB8 : Hid (b8 < w6.heap.size) := Nat.lt_of_lt_of_le HB8.out hb6.size
              have hltj : (j : Int) < (n8 : Int) := by omega
              have hfl5 := HFL5.out
              clear hb6x hb6 hc1 hI1 hX1 hw1 hn1 hb1 hcell1 hch
              go_wp2_with fail
              refine wk.region_tailK 12 [.is v0, .is (.pointer (some ⟨w.heap.size, 2, none⟩)), .is (.slice (some ⟨b7, o7, none⟩) n cW), .is (.int .i64 (k : Int)), .is (.pointer (some ⟨b7, o7 + k, none⟩)), .is (.slice (some ⟨b8, o8, none⟩) n8 c8), .is (.slice (some ⟨b2, o2, none⟩) n c), .is (.int .i64 (k : Int)), .is (.pointer (some ⟨b2, o2 + k, none⟩)), .is (.int .i64 (j : Int)), .is (.pointer (some ⟨b8, o8 + j, none⟩)), .is (.slice (some ⟨b1, o1, none⟩) n1 c1)] [some 39, some 40, some 41, some 42, some 43, some 44, some 45, some 46, some 47, some 48, some 49, some 50] (by kernel_rfl) (by kernel_rfl) (by kernel_rfl) (by kernel_rfl) [] (by kernel_rfl) (by intro p hp; cases hp) (by kernel_rfl) (by kernel_rfl) ?hstep ?hdone
              case hstep =>
                intro i o ho hi hns E w4 hb4 D hold
                have hi2 : i = 0 ∨ i = 1 ∨ i = 2 ∨ i = 3 ∨ i = 4 ∨ i = 5 ∨ i = 6 ∨ i = 7 ∨ i = 8 ∨ i = 9 ∨ i = 10 ∨ i = 11 := by omega
                clear hi
                rcases hi2 with rfl | rfl | rfl | rfl | rfl | rfl | rfl | rfl | rfl | rfl | rfl | rfl
                ·
                  have ho2 := (Array.getElem?_eq_some_iff.1 ho).2
                  simp only [List.getElem_toArray, List.getElem_cons_zero] at ho2
                  subst ho2
                  clear ho
                  have e5 := hold 5 (by kernel_rfl)
                  exact wk.does_move rfl (by rw [e5]; rfl)
                ·
                  have ho2 := (Array.getElem?_eq_some_iff.1 ho).2
                  simp only [List.getElem_toArray, List.getElem_cons_succ, List.getElem_cons_zero] at ho2
                  subst ho2
                  clear ho
                  have e2 := D.old 2 (by kernel_rfl)
                  exact wk.does_run (by simp only [execOp]; rw [show E (.tmp 2) = .pointer (some ⟨w.heap.size, 0, none⟩) by rw [e2]; rfl]; go_simp) rfl
                ·
                  have ho2 := (Array.getElem?_eq_some_iff.1 ho).2
                  simp only [List.getElem_toArray, List.getElem_cons_succ, List.getElem_cons_zero] at ho2
                  subst ho2
                  clear ho
                  have e40 := D.is { on := 1, ground := .data } (by simp) rfl rfl 40 rfl
                  exact wk.does_load1 rfl e40 ((HTR.out.below ((Below.refl _ _).drew.trans hb4)).c2) Try.underlying23 rfl rfl
                ·
                  have ho2 := (Array.getElem?_eq_some_iff.1 ho).2
                  simp only [List.getElem_toArray, List.getElem_cons_succ, List.getElem_cons_zero] at ho2
                  subst ho2
                  clear ho
                  have e6 := D.old 6 (by kernel_rfl)
                  exact wk.does_move rfl (by rw [e6]; rfl)
                ·
                  have ho2 := (Array.getElem?_eq_some_iff.1 ho).2
                  simp only [List.getElem_toArray, List.getElem_cons_succ, List.getElem_cons_zero] at ho2
                  subst ho2
                  clear ho
                  have e41 := D.is { on := 2, ground := .data } (by simp) rfl rfl 41 rfl
                  have e42 := D.is { on := 3, ground := .data } (by simp) rfl rfl 42 rfl
                  exact wk.does_run (by simp only [execOp]; rw [show E (.tmp 41) = _ from e41, show E (.tmp 42) = _ from e42]; go_simp) rfl
                ·
                  have ho2 := (Array.getElem?_eq_some_iff.1 ho).2
                  simp only [List.getElem_toArray, List.getElem_cons_succ, List.getElem_cons_zero] at ho2
                  subst ho2
                  clear ho
                  have e43 := D.is { on := 4, ground := .data } (by simp) rfl rfl 43 rfl
                  exact wk.does_load1 rfl e43 ((((Below.refl _ _).drew.trans hb4).cell (p := ⟨_, _, none⟩) HB7.out).trans HC7.out) Try.underlying39 rfl rfl
                ·
                  have ho2 := (Array.getElem?_eq_some_iff.1 ho).2
                  simp only [List.getElem_toArray, List.getElem_cons_succ, List.getElem_cons_zero] at ho2
                  subst ho2
                  clear ho
                  have e1 := D.old 1 (by kernel_rfl)
                  exact wk.does_move rfl (by rw [e1]; rfl)
                ·
                  have ho2 := (Array.getElem?_eq_some_iff.1 ho).2
                  simp only [List.getElem_toArray, List.getElem_cons_succ, List.getElem_cons_zero] at ho2
                  subst ho2
                  clear ho
                  have e6 := D.old 6 (by kernel_rfl)
                  exact wk.does_move rfl (by rw [e6]; rfl)
                ·
                  have ho2 := (Array.getElem?_eq_some_iff.1 ho).2
                  simp only [List.getElem_toArray, List.getElem_cons_succ, List.getElem_cons_zero] at ho2
                  subst ho2
                  clear ho
                  have e45 := D.is { on := 6, ground := .data } (by simp) rfl rfl 45 rfl
                  have e46 := D.is { on := 7, ground := .data } (by simp) rfl rfl 46 rfl
                  exact wk.does_run (by simp only [execOp]; rw [show E (.tmp 45) = _ from e45, show E (.tmp 46) = _ from e46]; go_simp) rfl
                ·
                  have ho2 := (Array.getElem?_eq_some_iff.1 ho).2
                  simp only [List.getElem_toArray, List.getElem_cons_succ, List.getElem_cons_zero] at ho2
                  subst ho2
                  clear ho
                  have e47 := D.is { on := 8, ground := .data } (by simp) rfl rfl 47 rfl
                  exact wk.does_load1 rfl e47 ((((Below.refl _ _).drew.trans hb4).cell (p := ⟨_, _, none⟩) HB2.out).trans HCY.out) Try.underlying3 rfl rfl
                ·
                  have ho2 := (Array.getElem?_eq_some_iff.1 ho).2
                  simp only [List.getElem_toArray, List.getElem_cons_succ, List.getElem_cons_zero] at ho2
                  subst ho2
                  clear ho
                  have e44 := D.is { on := 5, ground := .data } (by simp) rfl rfl 44 rfl
                  have e48 := D.is { on := 9, ground := .data } (by simp) rfl rfl 48 rfl
                  exact wk.does_run (by simp only [execOp]; rw [show E (.tmp 44) = _ from e44, show E (.tmp 48) = _ from e48]; go_simp) rfl
                ·
                  have ho2 := (Array.getElem?_eq_some_iff.1 ho).2
                  simp only [List.getElem_toArray, List.getElem_cons_succ, List.getElem_cons_zero] at ho2
                  subst ho2
                  clear ho
                  have e49 := D.is { on := 10, ground := .data } (by simp) rfl rfl 49 rfl
                  exact wk.does_load1 rfl e49 ((((Below.refl _ _).drew.trans hb4).cell (p := ⟨_, _, none⟩) HB8.out).trans HC1.out) Try.underlying22 rfl rfl
              case hdone =>
                intro vals w4 hb4 hv
                have h0 := hv 0 (by omega)
                have h11 := hv 11 (by omega)
                clear hv
                replace h0 : vals 0 = v0 := h0
                replace h11 : vals 11 = (.slice (some ⟨b1, o1, none⟩) n1 c1) := h11
                simp only [List.drop_succ_cons, List.drop_zero, wk.setL, List.setIfInBounds_toArray, List.set_cons_zero, List.set_cons_succ, Nat.zero_add, Nat.reduceAdd, h0, h11]
                generalize vals 1 = x1
                generalize vals 2 = x2
                generalize vals 3 = x3
                generalize vals 4 = x4
                generalize vals 5 = x5
                generalize vals 6 = x6
                generalize vals 7 = x7
                generalize vals 8 = x8
                generalize vals 9 = x9
                generalize vals 10 = x10
                have hb7 : Below w6.heap.size w6 w4 := ((Below.refl _ _).drew.trans hb4)
                have hbe5 := HB6.out.trans (hb7.mono HB6.out.size)
                have HOW := Lib.hid (keptB HOW6.out hb7)
                have hc9 : ∀ i u, (iv l1)[i]? = some u → w4.cell? ((⟨b1, o1, none⟩ : Addr).add i) = some u := fun i u hu => by
                  rw [wk.add_at, hb7.cell (p := ⟨b1, o1 + i, none⟩) (Nat.lt_of_lt_of_le HB1.out HS6.out)]
                  exact (HS66.out.cell (p := ⟨b1, o1 + i, none⟩) HB1.out).trans (HC9.out i u hu)
                have hB4 : wE.heap.size ≤ w4.heap.size := hbe5.size
                have HBE5 := Lib.hid hbe5
                have HC10 := Lib.hid hc9
                clear hb4 hb7 hbe5 hc9
                go_wp2_with (at_builtin; refine wpList_append_own _ rfl _ _ 22 rfl wE.heap.size 3 i0 (.int .i64 0) 1 8 Try.underlying22 hi9 hz0 hz1 hz2 rfl (by decide) _ _ _ rfl HOW.out ⟨b1, o1, none⟩ n1 c1 (iv l1) rfl ?cc0 HC10.out ?cc2 ?cc3 ?cc4 ?cc5 ?_)
                case cc0 => simp [iv, HN1.out]
                case cc2 => intro u hu; simp [iv] at hu; obtain ⟨y, _, rfl⟩ := hu; rfl
                case cc3 => have := HN1.out; unfold maxLen; omega
                case cc4 => have := HN1.out; omega
                case cc5 => omega
                intro v' w5 hown5 hgrow5 _
                have hbe : Below wE.heap.size wE w5 := HBE5.out.grown hgrow5 hB4 (fun q hq => (HOW.out.lt q hq).1)
                have HB5 := Lib.hid hbe
                have HO5 := Lib.hid hown5
                clear hown5 hgrow5 hbe
                go_wp2_with fail
                go_roundg (gk - 1)
                case measure => have := HK.out; omega
                case rel =>
                  refine ⟨k + 1, _, by have := HK.out; omega, rfl, by go_num, ?_, HB5.out, HFL5.out, HPN.out⟩
                  have hO := HO5.out
                  rw [HFS.out, List.length_append, HN1.out]
                  unfold iv at hO ⊢
                  rw [List.map_append]
                  exact hO
      · obtain rfl : k = n := by omega
        have hck : cok b cl = true := cok_iff.2 ⟨by rw [HCL.out, HWL.out], fun j l i hl hi => HPRE.out j l i (by rw [← HCL.out]; exact (List.getElem?_eq_some_iff.1 hi).1) hl hi⟩
        have hdd : dec b cl = flk (chosen b cl) k := by unfold dec flk; rw [hck, if_pos rfl, List.take_of_length_le (by rw [chosen_len (by rw [HCL.out, HWL.out]), HWL.out]; omega)]
        obtain ⟨A9, c9, rfl, hV⟩ := isI_own_sq (B := wE.heap.size) (es := []) HOWN.out (Nat.le_refl _) (fun x hx => by rw [← hdd] at hx; exact vec_i64 (dec_vec HR.out hck) x hx) (by simp)
        have HK2 := Lib.hid hck
        have HDD := Lib.hid hdd
        have HV := Lib.hid hV
        generalize (flk (chosen b cl) k).length = nf at *
        have hz0 := HZR.out.c0
        have hz1 := HZR.out.f 0
        have hz2 := (HZR.out.set0 (.slice A9 nf c9)).c1
        have hz3 := (HZR.out.set0 (.slice A9 nf c9)).f 1
        clear hck hdd hV hbel
        go_wp2_with fail
        refine bodyPost_ret (v := .agg #[.slice A9 nf c9, .int .i64 0]) (results_cell_row (fn := Try.f16) rfl _ _ (w.heap.size + 1) 34 #[.slice A9 nf c9, .int .i64 0] (0, 0) _ rfl ((HZR.out.set0 _).set1 _) Try.underlying34 rfl (by kernel_rfl)) rfl ⟨_, by rw [HK2.out]; rfl, ?_, (HBR.out.setCell (p := ⟨w.heap.size + 1, 0, none⟩) (by show w.heap.size ≤ w.heap.size + 1; omega) _).setCell (p := ⟨w.heap.size + 1, 1, none⟩) (by show w.heap.size ≤ w.heap.size + 1; omega) _⟩
        rw [HDD.out]
        have hkq := (Kq.of_set (B := wE.heap.size) (es := []) (i := 0) (.slice A9 nf c9) HZR.out (Or.inr HG.out)).trans (Kq.of_set (B := wE.heap.size) (es := []) (i := 1) (.int .i64 0) (HZR.out.set0 (.slice A9 nf c9)) (Or.inr HG.out))
        exact ⟨_, _, _, rfl, (HV.out.keep hkq).now⟩
  · have hne : ((n : Int) != (nW : Int)) = true := by simp; omega
    have hk : cok b cl = false := by
      cases hh : cok b cl
      · rfl
      · exact absurd (by rw [← HCL.out, ← HWL.out]; exact (cok_iff.1 hh).1) hn
    have hdd : dec b cl = [] := by unfold dec; rw [hk]; rfl
    rw [hk, hdd]
    have hc0 := (Three.new w (.int .i64 b.d) (.slice A0 nW c0) (.slice AW nW cW)).c1
    have hc1 := hT0.c1
    clear hi hW hd h2 hb0 hT0
    go_enter Try.func16, Try.ntmps16
    go_wp2_with fail
    have hz9 := heap_alloc_new (w.alloc (.cells #[.int .i64 b.d, .slice A0 nW c0, .slice AW nW cW] 25)) (.cells #[.slice none 0 0, .int .i64 1] 34)
    rw [size_new] at hz9
    exact bodyPost_ret (v := .agg #[.slice none 0 0, .int .i64 1]) (results_cell_row (fn := Try.f16) rfl _ _ (w.heap.size + 1) 34 #[.slice none 0 0, .int .i64 1] (0, 0) _ rfl hz9 Try.underlying34 rfl (by kernel_rfl)) rfl ⟨_, rfl, isV_nil _, Below.andThen (below_new _ _) (below_new _ _)⟩
end Go.Proofs.Ytiodjepjbooniaa.uk
