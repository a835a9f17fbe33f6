/- BestJoinsAsSpecified. -/
import Derived.Test.YtckipafciomklaaG15

namespace Go.Proofs.Ytckipafciomklaa.bestJoinsAsSpecified

open Go.ChangeShapes Go.WideShapes Go.ChangeAt Go.RowKit

open Go.Proofs.Ytckipafciomklaa.bk Go.Proofs.Ytckipafciomklaa.bq Go.Proofs.Ytckipafciomklaa.vk Go.Proofs.Ytckipafciomklaa.wk

set_option linter.unusedVariables false
attribute [local go_sem] Oper.semAt_some
set_option maxRecDepth 100000 in
set_option maxHeartbeats 16000000 in
theorem putc {a : List (Int × Int × Int)} {x : Int × Int × Int} {A : Option Addr} {n c : Nat} (k : Int) (w : World) (h : IsH w A n c a) (hx : Wd x) (hn : n ≤ 900) (hl : Lst a) : Calls Try.prog 21 #[.slice A n c, .int .i64 k, .agg #[.int .i64 x.1, .int .i64 x.2.1, .int .i64 x.2.2]] w fun e w' => ∃ A2 n2 c2, e = .returned (.slice A2 n2 c2) ∧ IsH w' A2 n2 c2 (ofL (a ++ [x]) k.toNat) ∧ Below w.heap.size w w' := by
  refine (put_calls k w h hx hn).mono ?_
  rintro e w' ⟨A2, n2, c2, rfl, h2, hb⟩
  rw [mergeL_eq hl (lst_one x)] at h2
  exact ⟨_, _, _, rfl, h2, hb⟩
set_option maxHeartbeats 400000 in
theorem entc {a : List (Int × Int × Int)} {x : Int × Int × Int} {EN : Bool} {A : Option Addr} {n c : Nat} (k : Int) (w : World) (h : IsH w A n c a) (hx : Wd x) (hn : n ≤ 900) (hl : Lst a) (he : (!(a == ofL (a ++ [x]) k.toNat)) = EN) : Calls Try.prog 23 #[.slice A n c, .int .i64 k, .agg #[.int .i64 x.1, .int .i64 x.2.1, .int .i64 x.2.2]] w fun e w' => e = .returned (.bool EN) ∧ Below w.heap.size w w' := by
  refine (enters_calls k w h hx hn).mono ?_
  rintro e w' ⟨rfl, hb⟩
  rw [mergeL_eq hl (lst_one x), he]
  exact ⟨rfl, hb⟩
theorem rentc {a : List (Int × Int × Int)} {x : Int × Int × Int} {EN : Bool} {A : Option Addr} {n c : Nat} (k : Int) (w : World) (h : IsH w A n c a) (hx : Wd x) (hn : n ≤ 900) (hk : k ≤ 1000000) (he : (!(a == ofL (a ++ [x]) k.toNat)) = EN) : Calls Try.prog 24 #[.slice A n c, .int .i64 k, .agg #[.int .i64 x.1, .int .i64 x.2.1, .int .i64 x.2.2]] w fun e w' => e = .returned (.bool EN) ∧ Below w.heap.size w w' := by
  refine (renters_calls k w h hx hn hk).mono ?_
  rintro e w' ⟨rfl, hb⟩
  rw [he]
  exact ⟨rfl, hb⟩
set_option maxRecDepth 100000 in
set_option maxHeartbeats 16000000 in
theorem walk (w : World) {A1 A2 : Option Addr} {n1 c1 n2 c2 : Nat} {a b : List (Int × Int × Int)} {k : Int} {x : Int × Int × Int} (w0 : IsH w A1 n1 c1 a) (w1 : IsH w A2 n2 c2 b) (w2 : (Lit.int .i64 k).wf = true) (w3 : Wd x) :
    Calls Try.prog 4 #[.slice A1 n1 c1, .slice A2 n2 c2, .int .i64 k, .agg #[.int .i64 x.1, .int .i64 x.2.1, .int .i64 x.2.2]] w fun e w' => e = .returned (.bool true) ∧ Below w.heap.size w w' := by
  have hb0 := below_new w (.cells #[.int .i64 x.1, .int .i64 x.2.1, .int .i64 x.2.2] 27)
  have HA := Lib.hid (w0.below hb0)
  have HC := Lib.hid (w1.below hb0)
  have HR := Lib.hid (RowH.new w x)
  have HB := Lib.hid hb0
  have HWX := Lib.hid w3
  have HN1 := Lib.hid w0.1
  have HN2 := Lib.hid w1.1
  clear w0 w1 hb0
  go_enter Try.func4, Try.ntmps4
  go_wp2_with fail
  generalize w.alloc (.cells #[.int .i64 x.1, .int .i64 x.2.1, .int .i64 x.2.2] 27) = wE at *
  refine (rvalid_calls k _ HA.out).mono ?_
  rintro e w3 ⟨rfl, hb⟩
  replace HA := Lib.hid (HA.out.below hb)
  replace HC := Lib.hid (HC.out.below hb)
  replace HR := Lib.hid (HR.out.below hb)
  replace HB := Lib.hid (HB.out.trans (hb.mono HB.out.size))
  clear hb
  cases hva : vld a k with
  | false =>
    go_wp2_with fail
    refine (san10_calls _).mono ?_
    rintro e w9 ⟨rfl, hb⟩
    replace HB := Lib.hid (HB.out.trans (hb.mono HB.out.size))
    clear hb
    go_wp2_with fail
    go_ret
    exact ⟨rfl, HB.out⟩
  | true =>
    have hia := vld_iff.1 hva
    have HVA := Lib.hid hia
    have HN9 : Hid (n1 ≤ 900) := by have := hia.1; have := hia.2.1; rw [HN1.out] at this; show _ ≤ _; omega
    have HLA : Hid (Lst a) := hia.2.2.2
    have HK6 : Hid (k ≤ 1000000) := by have := hia.1; show _ ≤ _; omega
    have HK1 : Hid (1 ≤ k) := hia.1.1
    have HKA : Hid (∀ y ∈ a, 0 ≤ y.2.2) := fun y hy => (right_key (hia.2.2.1 y hy)).1
    clear hia
    go_wp2_with fail
    refine (rvalid_calls k _ HC.out).mono ?_
    rintro e w4 ⟨rfl, hb⟩
    replace HA := Lib.hid (HA.out.below hb)
    replace HC := Lib.hid (HC.out.below hb)
    replace HR := Lib.hid (HR.out.below hb)
    replace HB := Lib.hid (HB.out.trans (hb.mono HB.out.size))
    clear hb
    cases hvb : vld b k with
    | false =>
      go_wp2_with fail
      refine (san10_calls _).mono ?_
      rintro e w9 ⟨rfl, hb⟩
      replace HB := Lib.hid (HB.out.trans (hb.mono HB.out.size))
      clear hb
      go_wp2_with fail
      go_ret
      exact ⟨rfl, HB.out⟩
    | true =>
      have hib := vld_iff.1 hvb
      have HLB : Hid (Lst b) := hib.2.2.2
      have HNN5 : Hid (n1 + n2 ≤ 200) := by
        have h1 := HVA.out.1
        have h2 := HVA.out.2.1
        have h3 := hib.2.1
        rw [HN1.out] at h2
        rw [HN2.out] at h3
        show _ ≤ _
        omega
      have HNN : Hid (n1 + n2 ≤ 1000) := by have := HNN5.out; show _ ≤ _; omega
      have HNN6 : Hid (n1 ≤ 1000000) := by have := HNN5.out; show _ ≤ _; omega
      have HCOM := Lib.hid (com_eq HLA.out.2 HLB.out.2)
      clear hib
      have hx0 := HR.out.c0
      have hx1 := HR.out.c1
      have hx2 := HR.out.c2
      go_wp2_with fail
      refine (rright_calls x _).mono ?_
      rintro e w5 ⟨rfl, hb⟩
      clear hx0 hx1 hx2
      replace HA := Lib.hid (HA.out.below hb)
      replace HC := Lib.hid (HC.out.below hb)
      replace HR := Lib.hid (HR.out.below hb)
      replace HB := Lib.hid (HB.out.trans (hb.mono HB.out.size))
      clear hb
      cases hr : right x with
      | false =>
        go_wp2_with fail
        refine (san10_calls _).mono ?_
        rintro e w9 ⟨rfl, hb⟩
        replace HB := Lib.hid (HB.out.trans (hb.mono HB.out.size))
        clear hb
        go_wp2_with fail
        go_ret
        exact ⟨rfl, HB.out⟩
      | true =>
        obtain ⟨EN, hen⟩ : ∃ EN, (!(a == ofL (a ++ [x]) k.toNat)) = EN := ⟨_, rfl⟩
        have HEN := Lib.hid hen
        clear hen
        go_wp2_with fail
        refine wk.region_tailS 32 [.is (.slice A1 n1 c1), .is (.int .i64 k), .is (.agg #[.int .i64 x.1, .int .i64 x.2.1, .int .i64 x.2.2]), .st (SH (ofL (a ++ [x]) k.toNat)) (fun u u2 x h hb => h.below hb), .is (.slice A1 n1 c1), .is (.int .i64 k), .is (.agg #[.int .i64 x.1, .int .i64 x.2.1, .int .i64 x.2.2]), .st (SH (ofL (a ++ [x]) k.toNat)) (fun u u2 x h hb => h.below hb), .is (.bool true), .is (.bool true), .is (.slice A1 n1 c1), .is (.int .i64 k), .is (.agg #[.int .i64 x.1, .int .i64 x.2.1, .int .i64 x.2.2]), .is (.bool EN), .is (.slice A1 n1 c1), .is (.int .i64 k), .is (.agg #[.int .i64 x.1, .int .i64 x.2.1, .int .i64 x.2.2]), .is (.bool EN), .is (.bool true), .is (.bool true), .is (.bool true), .is (.slice A1 n1 c1), .is (.slice A2 n2 c2), .is (.int .i64 k), .st (SH (ofL (a ++ b) k.toNat)) (fun u u2 x h hb => h.below hb), .is (.slice A1 n1 c1), .is (.slice A2 n2 c2), .is (.int .i64 k), .st (SH (ofL (a ++ b) k.toNat)) (fun u u2 x h hb => h.below hb), .is (.bool true), .is (.bool true), .is (.bool true)] [some 26, some 27, some 28, some 29, some 30, some 31, some 32, some 33, some 34, some 35, some 36, some 37, some 38, some 39, some 40, some 41, some 42, some 43, some 44, some 45, some 46, some 47, some 48, some 49, some 50, some 51, some 52, some 53, some 54, some 55, some 56, some 9] (by kernel_rfl) (by kernel_rfl) (by kernel_rfl) (by kernel_rfl) [] (by kernel_rfl) (by intro p hp; cases hp) (by kernel_rfl) (by kernel_rfl) ?hstep ?hdone
        case hstep =>
          intro i o ho hi hns E w4 hb4 D
          have hi2 : i = 0 ∨ i = 1 ∨ i = 2 ∨ i = 3 ∨ i = 4 ∨ i = 5 ∨ i = 6 ∨ i = 7 ∨ i = 8 ∨ i = 9 ∨ i = 10 ∨ i = 11 ∨ i = 12 ∨ i = 13 ∨ i = 14 ∨ i = 15 ∨ i = 16 ∨ i = 17 ∨ i = 18 ∨ i = 19 ∨ i = 20 ∨ i = 21 ∨ i = 22 ∨ i = 23 ∨ i = 24 ∨ i = 25 ∨ i = 26 ∨ i = 27 ∨ i = 28 ∨ i = 29 ∨ i = 30 ∨ i = 31 := by omega
          clear hi
          rcases hi2 with rfl | rfl | rfl | rfl | rfl | rfl | rfl | rfl | rfl | rfl | rfl | rfl | rfl | rfl | rfl | rfl | rfl | rfl | rfl | rfl | rfl | rfl | rfl | rfl | rfl | rfl | rfl | rfl | rfl | rfl | rfl | rfl
          ·
            have ho2 := (Array.getElem?_eq_some_iff.1 ho).2
            simp only [List.getElem_toArray, List.getElem_cons_zero] at ho2
            subst ho2
            clear ho
            have e0 := D.old 0 (by kernel_rfl)
            exact wk.does_move rfl (by rw [e0]; rfl)
          ·
            have ho2 := (Array.getElem?_eq_some_iff.1 ho).2
            simp only [List.getElem_toArray, List.getElem_cons_succ, List.getElem_cons_zero] at ho2
            subst ho2
            clear ho
            have e2 := D.old 2 (by kernel_rfl)
            exact wk.does_move rfl (by rw [e2]; rfl)
          ·
            have ho2 := (Array.getElem?_eq_some_iff.1 ho).2
            simp only [List.getElem_toArray, List.getElem_cons_succ, List.getElem_cons_zero] at ho2
            subst ho2
            clear ho
            have e7 := D.old 7 (by kernel_rfl)
            exact wk.does_load_agg rfl (show E (.tmp 7) = .pointer (some ⟨w.heap.size, 0, none⟩) by rw [e7]; rfl) (cs := rv x) (RowH.cells (HR.out.below ((Below.refl _ _).drew.trans hb4))) Try.underlying27 rfl (by kernel_rfl) rfl
          ·
            have ho2 := (Array.getElem?_eq_some_iff.1 ho).2
            simp only [List.getElem_toArray, List.getElem_cons_succ, List.getElem_cons_zero] at ho2
            subst ho2
            clear ho
            have e26 := D.is { on := 0, ground := .data } (by simp) rfl rfl 26 rfl
            have e27 := D.is { on := 1, ground := .data } (by simp) rfl rfl 27 rfl
            have e28 := D.is { on := 2, ground := .data } (by simp) rfl rfl 28 rfl
            refine wk.does_fn (f := 21) (vs := #[.slice A1 n1 c1, .int .i64 k, .agg #[.int .i64 x.1, .int .i64 x.2.1, .int .i64 x.2.2]]) rfl (D.fn _) (by simp [e26, e27, e28]) (by go_simp) ?_
            refine (putc k _ (HA.out.below ((Below.refl _ _).drew.trans hb4)) HWX.out HN9.out HLA.out).mono ?_
            rintro e w7 ⟨A3, n3, c3, rfl, hs, hb7⟩
            exact ⟨_, rfl, hb7, ⟨A3, n3, c3, rfl, hs⟩⟩
          ·
            have ho2 := (Array.getElem?_eq_some_iff.1 ho).2
            simp only [List.getElem_toArray, List.getElem_cons_succ, List.getElem_cons_zero] at ho2
            subst ho2
            clear ho
            have e0 := D.old 0 (by kernel_rfl)
            exact wk.does_move rfl (by rw [e0]; rfl)
          ·
            have ho2 := (Array.getElem?_eq_some_iff.1 ho).2
            simp only [List.getElem_toArray, List.getElem_cons_succ, List.getElem_cons_zero] at ho2
            subst ho2
            clear ho
            have e2 := D.old 2 (by kernel_rfl)
            exact wk.does_move rfl (by rw [e2]; rfl)
          ·
            have ho2 := (Array.getElem?_eq_some_iff.1 ho).2
            simp only [List.getElem_toArray, List.getElem_cons_succ, List.getElem_cons_zero] at ho2
            subst ho2
            clear ho
            have e7 := D.old 7 (by kernel_rfl)
            exact wk.does_load_agg rfl (show E (.tmp 7) = .pointer (some ⟨w.heap.size, 0, none⟩) by rw [e7]; rfl) (cs := rv x) (RowH.cells (HR.out.below ((Below.refl _ _).drew.trans hb4))) Try.underlying27 rfl (by kernel_rfl) rfl
          ·
            have ho2 := (Array.getElem?_eq_some_iff.1 ho).2
            simp only [List.getElem_toArray, List.getElem_cons_succ, List.getElem_cons_zero] at ho2
            subst ho2
            clear ho
            have e30 := D.is { on := 4, ground := .data } (by simp) rfl rfl 30 rfl
            have e31 := D.is { on := 5, ground := .data } (by simp) rfl rfl 31 rfl
            have e32 := D.is { on := 6, ground := .data } (by simp) rfl rfl 32 rfl
            refine wk.does_fn (f := 22) (vs := #[.slice A1 n1 c1, .int .i64 k, .agg #[.int .i64 x.1, .int .i64 x.2.1, .int .i64 x.2.2]]) rfl (D.fn _) (by simp [e30, e31, e32]) (by go_simp) ?_
            refine (rput_calls k _ (HA.out.below ((Below.refl _ _).drew.trans hb4)) HWX.out HN9.out HK6.out).mono ?_
            rintro e w7 ⟨A3, n3, c3, rfl, hs, hb7⟩
            exact ⟨_, rfl, hb7, ⟨A3, n3, c3, rfl, hs⟩⟩
          ·
            have ho2 := (Array.getElem?_eq_some_iff.1 ho).2
            simp only [List.getElem_toArray, List.getElem_cons_succ, List.getElem_cons_zero] at ho2
            subst ho2
            clear ho
            have s29 := D.st { on := 3, ground := .data } (by simp) rfl rfl 29 rfl
            have s33 := D.st { on := 7, ground := .data } (by simp) rfl rfl 33 rfl
            refine wk.does_fn (f := 17) (vs := #[E (.tmp 29), E (.tmp 33)]) rfl (D.fn _) (by simp) (by go_simp) ?_
            refine (cSame (r := true) _ s29 s33 (by simp)).mono ?_
            rintro e w7 ⟨rfl, hb7⟩
            exact ⟨_, rfl, hb7, rfl⟩
          ·
            have ho2 := (Array.getElem?_eq_some_iff.1 ho).2
            simp only [List.getElem_toArray, List.getElem_cons_succ, List.getElem_cons_zero] at ho2
            subst ho2
            clear ho
            have e34 := D.is { on := 8, ground := .data } (by simp) rfl rfl 34 rfl
            exact wk.does_move rfl e34
          ·
            have ho2 := (Array.getElem?_eq_some_iff.1 ho).2
            simp only [List.getElem_toArray, List.getElem_cons_succ, List.getElem_cons_zero] at ho2
            subst ho2
            clear ho
            have e0 := D.old 0 (by kernel_rfl)
            exact wk.does_move rfl (by rw [e0]; rfl)
          ·
            have ho2 := (Array.getElem?_eq_some_iff.1 ho).2
            simp only [List.getElem_toArray, List.getElem_cons_succ, List.getElem_cons_zero] at ho2
            subst ho2
            clear ho
            have e2 := D.old 2 (by kernel_rfl)
            exact wk.does_move rfl (by rw [e2]; rfl)
          ·
            have ho2 := (Array.getElem?_eq_some_iff.1 ho).2
            simp only [List.getElem_toArray, List.getElem_cons_succ, List.getElem_cons_zero] at ho2
            subst ho2
            clear ho
            have e7 := D.old 7 (by kernel_rfl)
            exact wk.does_load_agg rfl (show E (.tmp 7) = .pointer (some ⟨w.heap.size, 0, none⟩) by rw [e7]; rfl) (cs := rv x) (RowH.cells (HR.out.below ((Below.refl _ _).drew.trans hb4))) Try.underlying27 rfl (by kernel_rfl) rfl
          ·
            have ho2 := (Array.getElem?_eq_some_iff.1 ho).2
            simp only [List.getElem_toArray, List.getElem_cons_succ, List.getElem_cons_zero] at ho2
            subst ho2
            clear ho
            have e36 := D.is { on := 10, ground := .data } (by simp) rfl rfl 36 rfl
            have e37 := D.is { on := 11, ground := .data } (by simp) rfl rfl 37 rfl
            have e38 := D.is { on := 12, ground := .data } (by simp) rfl rfl 38 rfl
            refine wk.does_fn (f := 23) (vs := #[.slice A1 n1 c1, .int .i64 k, .agg #[.int .i64 x.1, .int .i64 x.2.1, .int .i64 x.2.2]]) rfl (D.fn _) (by simp [e36, e37, e38]) (by go_simp) ?_
            refine (entc k _ (HA.out.below ((Below.refl _ _).drew.trans hb4)) HWX.out HN9.out HLA.out HEN.out).mono ?_
            rintro e w7 ⟨rfl, hb7⟩
            exact ⟨_, rfl, hb7, rfl⟩
          ·
            have ho2 := (Array.getElem?_eq_some_iff.1 ho).2
            simp only [List.getElem_toArray, List.getElem_cons_succ, List.getElem_cons_zero] at ho2
            subst ho2
            clear ho
            have e0 := D.old 0 (by kernel_rfl)
            exact wk.does_move rfl (by rw [e0]; rfl)
          ·
            have ho2 := (Array.getElem?_eq_some_iff.1 ho).2
            simp only [List.getElem_toArray, List.getElem_cons_succ, List.getElem_cons_zero] at ho2
            subst ho2
            clear ho
            have e2 := D.old 2 (by kernel_rfl)
            exact wk.does_move rfl (by rw [e2]; rfl)
          ·
            have ho2 := (Array.getElem?_eq_some_iff.1 ho).2
            simp only [List.getElem_toArray, List.getElem_cons_succ, List.getElem_cons_zero] at ho2
            subst ho2
            clear ho
            have e7 := D.old 7 (by kernel_rfl)
            exact wk.does_load_agg rfl (show E (.tmp 7) = .pointer (some ⟨w.heap.size, 0, none⟩) by rw [e7]; rfl) (cs := rv x) (RowH.cells (HR.out.below ((Below.refl _ _).drew.trans hb4))) Try.underlying27 rfl (by kernel_rfl) rfl
          ·
            have ho2 := (Array.getElem?_eq_some_iff.1 ho).2
            simp only [List.getElem_toArray, List.getElem_cons_succ, List.getElem_cons_zero] at ho2
            subst ho2
            clear ho
            have e40 := D.is { on := 14, ground := .data } (by simp) rfl rfl 40 rfl
            have e41 := D.is { on := 15, ground := .data } (by simp) rfl rfl 41 rfl
            have e42 := D.is { on := 16, ground := .data } (by simp) rfl rfl 42 rfl
            refine wk.does_fn (f := 24) (vs := #[.slice A1 n1 c1, .int .i64 k, .agg #[.int .i64 x.1, .int .i64 x.2.1, .int .i64 x.2.2]]) rfl (D.fn _) (by simp [e40, e41, e42]) (by go_simp) ?_
            refine (rentc k _ (HA.out.below ((Below.refl _ _).drew.trans hb4)) HWX.out HN9.out HK6.out HEN.out).mono ?_
            rintro e w7 ⟨rfl, hb7⟩
            exact ⟨_, rfl, hb7, rfl⟩
          ·
            have ho2 := (Array.getElem?_eq_some_iff.1 ho).2
            simp only [List.getElem_toArray, List.getElem_cons_succ, List.getElem_cons_zero] at ho2
            subst ho2
            clear ho
            have e39 := D.is { on := 13, ground := .data } (by simp) rfl rfl 39 rfl
            have e43 := D.is { on := 17, ground := .data } (by simp) rfl rfl 43 rfl
            exact wk.does_run (by simp only [execOp]; rw [show E (.tmp 39) = _ from e39, show E (.tmp 43) = _ from e43]; go_simp; try simp) rfl
          ·
            have ho2 := (Array.getElem?_eq_some_iff.1 ho).2
            simp only [List.getElem_toArray, List.getElem_cons_succ, List.getElem_cons_zero] at ho2
            subst ho2
            clear ho
            have e35 := D.is { on := 9, ground := .data } (by simp) rfl rfl 35 rfl
            have e44 := D.is { on := 18, ground := .data } (by simp) rfl rfl 44 rfl
            exact wk.does_pick rfl e35 e44
          ·
            have ho2 := (Array.getElem?_eq_some_iff.1 ho).2
            simp only [List.getElem_toArray, List.getElem_cons_succ, List.getElem_cons_zero] at ho2
            subst ho2
            clear ho
            have e45 := D.is { on := 19, ground := .data } (by simp) rfl rfl 45 rfl
            exact wk.does_move rfl e45
          ·
            have ho2 := (Array.getElem?_eq_some_iff.1 ho).2
            simp only [List.getElem_toArray, List.getElem_cons_succ, List.getElem_cons_zero] at ho2
            subst ho2
            clear ho
            have e0 := D.old 0 (by kernel_rfl)
            exact wk.does_move rfl (by rw [e0]; rfl)
          ·
            have ho2 := (Array.getElem?_eq_some_iff.1 ho).2
            simp only [List.getElem_toArray, List.getElem_cons_succ, List.getElem_cons_zero] at ho2
            subst ho2
            clear ho
            have e1 := D.old 1 (by kernel_rfl)
            exact wk.does_move rfl (by rw [e1]; rfl)
          ·
            have ho2 := (Array.getElem?_eq_some_iff.1 ho).2
            simp only [List.getElem_toArray, List.getElem_cons_succ, List.getElem_cons_zero] at ho2
            subst ho2
            clear ho
            have e2 := D.old 2 (by kernel_rfl)
            exact wk.does_move rfl (by rw [e2]; rfl)
          ·
            have ho2 := (Array.getElem?_eq_some_iff.1 ho).2
            simp only [List.getElem_toArray, List.getElem_cons_succ, List.getElem_cons_zero] at ho2
            subst ho2
            clear ho
            have e47 := D.is { on := 21, ground := .data } (by simp) rfl rfl 47 rfl
            have e48 := D.is { on := 22, ground := .data } (by simp) rfl rfl 48 rfl
            have e49 := D.is { on := 23, ground := .data } (by simp) rfl rfl 49 rfl
            refine wk.does_fn (f := 25) (vs := #[.slice A1 n1 c1, .slice A2 n2 c2, .int .i64 k]) rfl (D.fn _) (by simp [e47, e48, e49]) (by go_simp) ?_
            refine (mrg_calls k _ (HA.out.below ((Below.refl _ _).drew.trans hb4)) (HC.out.below ((Below.refl _ _).drew.trans hb4)) HLA.out HLB.out HNN.out).mono ?_
            rintro e w7 ⟨A3, n3, c3, rfl, hs, hb7⟩
            exact ⟨_, rfl, hb7, ⟨A3, n3, c3, rfl, hs⟩⟩
          ·
            have ho2 := (Array.getElem?_eq_some_iff.1 ho).2
            simp only [List.getElem_toArray, List.getElem_cons_succ, List.getElem_cons_zero] at ho2
            subst ho2
            clear ho
            have e0 := D.old 0 (by kernel_rfl)
            exact wk.does_move rfl (by rw [e0]; rfl)
          ·
            have ho2 := (Array.getElem?_eq_some_iff.1 ho).2
            simp only [List.getElem_toArray, List.getElem_cons_succ, List.getElem_cons_zero] at ho2
            subst ho2
            clear ho
            have e1 := D.old 1 (by kernel_rfl)
            exact wk.does_move rfl (by rw [e1]; rfl)
          ·
            have ho2 := (Array.getElem?_eq_some_iff.1 ho).2
            simp only [List.getElem_toArray, List.getElem_cons_succ, List.getElem_cons_zero] at ho2
            subst ho2
            clear ho
            have e2 := D.old 2 (by kernel_rfl)
            exact wk.does_move rfl (by rw [e2]; rfl)
          ·
            have ho2 := (Array.getElem?_eq_some_iff.1 ho).2
            simp only [List.getElem_toArray, List.getElem_cons_succ, List.getElem_cons_zero] at ho2
            subst ho2
            clear ho
            have e51 := D.is { on := 25, ground := .data } (by simp) rfl rfl 51 rfl
            have e52 := D.is { on := 26, ground := .data } (by simp) rfl rfl 52 rfl
            have e53 := D.is { on := 27, ground := .data } (by simp) rfl rfl 53 rfl
            refine wk.does_fn (f := 26) (vs := #[.slice A1 n1 c1, .slice A2 n2 c2, .int .i64 k]) rfl (D.fn _) (by simp [e51, e52, e53]) (by go_simp) ?_
            refine (rmerge_calls k _ (HA.out.below ((Below.refl _ _).drew.trans hb4)) (HC.out.below ((Below.refl _ _).drew.trans hb4)) HNN.out HK6.out).mono ?_
            rintro e w7 ⟨A3, n3, c3, rfl, hs, hb7⟩
            exact ⟨_, rfl, hb7, ⟨A3, n3, c3, rfl, hs⟩⟩
          ·
            have ho2 := (Array.getElem?_eq_some_iff.1 ho).2
            simp only [List.getElem_toArray, List.getElem_cons_succ, List.getElem_cons_zero] at ho2
            subst ho2
            clear ho
            have s50 := D.st { on := 24, ground := .data } (by simp) rfl rfl 50 rfl
            have s54 := D.st { on := 28, ground := .data } (by simp) rfl rfl 54 rfl
            refine wk.does_fn (f := 17) (vs := #[E (.tmp 50), E (.tmp 54)]) rfl (D.fn _) (by simp) (by go_simp) ?_
            refine (cSame (r := true) _ s50 s54 (by simp)).mono ?_
            rintro e w7 ⟨rfl, hb7⟩
            exact ⟨_, rfl, hb7, rfl⟩
          ·
            have ho2 := (Array.getElem?_eq_some_iff.1 ho).2
            simp only [List.getElem_toArray, List.getElem_cons_succ, List.getElem_cons_zero] at ho2
            subst ho2
            clear ho
            have e46 := D.is { on := 20, ground := .data } (by simp) rfl rfl 46 rfl
            have e55 := D.is { on := 29, ground := .data } (by simp) rfl rfl 55 rfl
            exact wk.does_pick rfl e46 e55
          ·
            have ho2 := (Array.getElem?_eq_some_iff.1 ho).2
            simp only [List.getElem_toArray, List.getElem_cons_succ, List.getElem_cons_zero] at ho2
            subst ho2
            clear ho
            have e56 := D.is { on := 30, ground := .data } (by simp) rfl rfl 56 rfl
            exact wk.does_assign rfl e56
        case hdone =>
          intro vals w4 hb4 hv
          have h31 := hv 31 (by omega)
          clear hv
          replace h31 : vals 31 = (.bool true) := h31
          simp only [List.drop_succ_cons, List.drop_zero, wpList, wk.setL, List.setIfInBounds_toArray, List.set_cons_zero, List.set_cons_succ, Nat.zero_add, Nat.reduceAdd, h31]
          generalize vals 0 = x0
          generalize vals 1 = x1
          generalize vals 2 = x2
          generalize vals 3 = x3
          generalize vals 4 = x4
          generalize vals 5 = x5
          generalize vals 6 = x6
          generalize vals 7 = x7
          generalize vals 8 = x8
          generalize vals 9 = x9
          generalize vals 10 = x10
          generalize vals 11 = x11
          generalize vals 12 = x12
          generalize vals 13 = x13
          generalize vals 14 = x14
          generalize vals 15 = x15
          generalize vals 16 = x16
          generalize vals 17 = x17
          generalize vals 18 = x18
          generalize vals 19 = x19
          generalize vals 20 = x20
          generalize vals 21 = x21
          generalize vals 22 = x22
          generalize vals 23 = x23
          generalize vals 24 = x24
          generalize vals 25 = x25
          generalize vals 26 = x26
          generalize vals 27 = x27
          generalize vals 28 = x28
          generalize vals 29 = x29
          generalize vals 30 = x30
          have hb : Below _ _ w4 := (Below.refl _ _).drew.trans hb4
          clear hb4
          replace HA := Lib.hid (HA.out.below hb)
          replace HC := Lib.hid (HC.out.below hb)
          replace HR := Lib.hid (HR.out.below hb)
          replace HB := Lib.hid (HB.out.trans (hb.mono HB.out.size))
          clear hb
          go_wp2_with fail
          refine (san10_calls _).mono ?_
          rintro e w6 ⟨rfl, hb⟩
          replace HA := Lib.hid (HA.out.below hb)
          replace HC := Lib.hid (HC.out.below hb)
          replace HR := Lib.hid (HR.out.below hb)
          replace HB := Lib.hid (HB.out.trans (hb.mono HB.out.size))
          clear hb
          go_wp2_with fail
          refine (worst_calls k _ HA.out HKA.out).mono ?_
          rintro e wx ⟨rfl, hwx⟩
          rw [hwx]
          clear hwx wx
          go_wp2_with fail
          refine (rworst_calls k _ HA.out HK1.out HKA.out).mono ?_
          rintro e wx ⟨rfl, hwx⟩
          rw [hwx]
          clear hwx wx
          generalize worst a k = WO at *
          go_wp2_with fail
          refine (common_calls _ HA.out HC.out HNN.out).mono ?_
          rintro e w7 ⟨rfl, hb⟩
          replace HA := Lib.hid (HA.out.below hb)
          replace HC := Lib.hid (HC.out.below hb)
          replace HR := Lib.hid (HR.out.below hb)
          replace HB := Lib.hid (HB.out.trans (hb.mono HB.out.size))
          clear hb
          go_wp2_with fail
          refine (rcommon_calls _ HA.out HC.out HNN6.out).mono ?_
          rintro e wx ⟨rfl, hwx⟩
          rw [hwx]
          clear hwx wx
          rw [← HCOM.out]
          generalize com a b = CM at *
          go_wp2_with fail
          go_ret
          exact ⟨rfl, HB.out⟩
end Go.Proofs.Ytckipafciomklaa.bestJoinsAsSpecified
