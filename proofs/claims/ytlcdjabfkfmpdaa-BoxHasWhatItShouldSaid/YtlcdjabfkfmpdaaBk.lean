/- Near, Far, Apart. -/
import Derived.Test.YtlcdjabfkfmpdaaBj

namespace Go.Proofs.Ytlcdjabfkfmpdaa.bk

open Go.ChangeShapes Go.WideShapes Go.ChangeAt Go.RowKit

open Go.Proofs.Ytlcdjabfkfmpdaa.bq Go.Proofs.Ytlcdjabfkfmpdaa.vk Go.Proofs.Ytlcdjabfkfmpdaa.wk

set_option linter.unusedVariables false
set_option maxRecDepth 100000 in
theorem near_calls (m : Int) (v : Value) (p : Pair) (A : Option Addr) (n c : Nat) (l : List Int) (w : World) (h : IsX w v p) (h2 : wo.IsI w A n c l) :
    Calls Try.prog 23 #[.int .i64 m, v, .slice A n c] w fun e w' => e = .returned (.tuple #[.int .i64 (if asked m p (l, l) then keyf m (difs bq.gap p (l, l)) else 0), .int .i64 (if asked m p (l, l) then 0 else 1)]) ∧ Below w.heap.size w w' := by
  have HK := Lib.hid (fun w' hb => key_calls m v (.agg #[.slice A n c, .slice A n c]) p (l, l) 52 (.inl rfl) w' (h.below hb) ⟨A, n, c, A, n, c, rfl, isI_below h2 hb, isI_below h2 hb⟩)
  have hd : df 52 = bq.gap := rfl
  rw [hd] at HK
  obtain ⟨kv, hkv⟩ : ∃ kv : Int, (if asked m p (l, l) then keyf m (difs bq.gap p (l, l)) else 0) = kv := ⟨_, rfl⟩
  obtain ⟨ke, hke⟩ : ∃ ke : Int, (if asked m p (l, l) then 0 else 1) = ke := ⟨_, rfl⟩
  rw [hkv, hke] at HK ⊢
  clear hkv hke hd
  obtain ⟨A1, n1, c1, A1', n1', c1', rfl, hi, hi'⟩ := h
  have HB0 := Lib.hid (below_new w (.cells #[.slice A1 n1 c1, .slice A1' n1' c1'] 25))
  have HT := Lib.hid (TwoX.new w (.slice A1 n1 c1) (.slice A1' n1' c1'))
  clear hi hi' h2
  go_enter Try.func23, Try.ntmps23
  go_wp2_with fail
  refine wk.region_tailS 9 [.is (.int .i64 m), .is (.agg #[.slice A1 n1 c1, .slice A1' n1' c1']), .is (.slice A n c), .is (.agg #[.slice A n c, .slice A n c]), .is (.tuple #[.int .i64 kv, .int .i64 ke]), .is (.int .i64 kv), .is (.int .i64 ke), .is (.int .i64 kv), .is (.int .i64 ke)] [some 8, some 9, some 10, some 11, some 12, some 13, some 14, some 6, some 7] (by kernel_rfl) (by kernel_rfl) (by kernel_rfl) (by kernel_rfl) [] (by kernel_rfl) (by intro p hp; cases hp) (by kernel_rfl) (by kernel_rfl) ?hstep ?hdone
  case hstep =>
    intro i o ho hi hns E w4 hb4 D
    have hi2 : i = 0 ∨ i = 1 ∨ i = 2 ∨ i = 3 ∨ i = 4 ∨ i = 5 ∨ i = 6 ∨ i = 7 ∨ i = 8 := by omega
    clear hi
    rcases hi2 with rfl | rfl | rfl | rfl | rfl | rfl | rfl | rfl | rfl
    ·
      have ho2 := (Array.getElem?_eq_some_iff.1 ho).2
      simp only [List.getElem_toArray, List.getElem_cons_zero] at ho2
      subst ho2
      clear ho
      have e0 := D.old 0 (by kernel_rfl)
      exact wk.does_move rfl (by rw [e0]; rfl)
    ·
      have ho2 := (Array.getElem?_eq_some_iff.1 ho).2
      simp only [List.getElem_toArray, List.getElem_cons_succ, List.getElem_cons_zero] at ho2
      subst ho2
      clear ho
      have e4 := D.old 4 (by kernel_rfl)
      exact wk.does_load_row rfl (by rw [e4]; rfl) (HT.out.below ((Below.refl _ _).drew.trans hb4)) Try.underlying25 rfl (by kernel_rfl) rfl
    ·
      have ho2 := (Array.getElem?_eq_some_iff.1 ho).2
      simp only [List.getElem_toArray, List.getElem_cons_succ, List.getElem_cons_zero] at ho2
      subst ho2
      clear ho
      have e2 := D.old 2 (by kernel_rfl)
      exact wk.does_move rfl (by rw [e2]; rfl)
    ·
      have ho2 := (Array.getElem?_eq_some_iff.1 ho).2
      simp only [List.getElem_toArray, List.getElem_cons_succ, List.getElem_cons_zero] at ho2
      subst ho2
      clear ho
      have e10 := D.is { on := 2, ground := .data } (by simp) rfl rfl 10 rfl
      refine wk.does_fn (f := 41) (vs := #[.slice A n c]) rfl (D.fn _) (by simp [e10]) (by go_simp) ?_
      refine (point_calls A n c w4).mono ?_
      rintro e w7 ⟨rfl, hb7⟩
      exact ⟨_, rfl, hb7, rfl⟩
    ·
      have ho2 := (Array.getElem?_eq_some_iff.1 ho).2
      simp only [List.getElem_toArray, List.getElem_cons_succ, List.getElem_cons_zero] at ho2
      subst ho2
      clear ho
      have e8 := D.is { on := 0, ground := .data } (by simp) rfl rfl 8 rfl
      have e9 := D.is { on := 1, ground := .data } (by simp) rfl rfl 9 rfl
      have e11 := D.is { on := 3, ground := .data } (by simp) rfl rfl 11 rfl
      refine wk.does_fn (f := 51) (vs := #[.int .i64 m, .agg #[.slice A1 n1 c1, .slice A1' n1' c1'], .agg #[.slice A n c, .slice A n c], .func (.func 52) #[] #[]]) rfl (D.fn _) (by simp [e8, e9, e11, D.fn _]) (by go_simp) ?_
      refine (HK.out w4 (Below.andThen HB0.out ((Below.refl _ _).drew.trans hb4))).mono ?_
      rintro e w7 ⟨rfl, hb7⟩
      exact ⟨_, rfl, hb7, rfl⟩
    ·
      have ho2 := (Array.getElem?_eq_some_iff.1 ho).2
      simp only [List.getElem_toArray, List.getElem_cons_succ, List.getElem_cons_zero] at ho2
      subst ho2
      clear ho
      have e12 := D.is { on := 4, ground := .data } (by simp) rfl rfl 12 rfl
      exact wk.does_extract rfl e12 rfl rfl
    ·
      have ho2 := (Array.getElem?_eq_some_iff.1 ho).2
      simp only [List.getElem_toArray, List.getElem_cons_succ, List.getElem_cons_zero] at ho2
      subst ho2
      clear ho
      have e12 := D.is { on := 4, ground := .data } (by simp) rfl rfl 12 rfl
      exact wk.does_extract rfl e12 rfl rfl
    ·
      have ho2 := (Array.getElem?_eq_some_iff.1 ho).2
      simp only [List.getElem_toArray, List.getElem_cons_succ, List.getElem_cons_zero] at ho2
      subst ho2
      clear ho
      have e13 := D.is { on := 5, ground := .data } (by simp) rfl rfl 13 rfl
      exact wk.does_assign rfl e13
    ·
      have ho2 := (Array.getElem?_eq_some_iff.1 ho).2
      simp only [List.getElem_toArray, List.getElem_cons_succ, List.getElem_cons_zero] at ho2
      subst ho2
      clear ho
      have e14 := D.is { on := 6, ground := .data } (by simp) rfl rfl 14 rfl
      exact wk.does_assign rfl e14
  case hdone =>
    intro vals w4 hb4 hv
    have h7 := hv 7 (by omega)
    have h8 := hv 8 (by omega)
    clear hv
    replace h7 : vals 7 = (.int .i64 kv) := h7
    replace h8 : vals 8 = (.int .i64 ke) := h8
    simp only [List.drop_succ_cons, List.drop_zero, wpList, wk.setL, List.setIfInBounds_toArray, List.set_cons_zero, List.set_cons_succ, Nat.zero_add, Nat.reduceAdd, h7, h8]
    generalize vals 0 = x0
    generalize vals 1 = x1
    generalize vals 2 = x2
    generalize vals 3 = x3
    generalize vals 4 = x4
    generalize vals 5 = x5
    generalize vals 6 = x6
    have HB1 := Lib.hid (Below.andThen HB0.out ((Below.refl _ _).drew.trans hb4))
    clear hb4
    go_wp2_with fail
    exact bodyPost_ret (results_tmp2 rfl _ _ _) rfl ⟨rfl, HB1.out⟩
set_option maxRecDepth 100000 in
theorem far_calls (m : Int) (v : Value) (p : Pair) (A : Option Addr) (n c : Nat) (l : List Int) (w : World) (h : IsX w v p) (h2 : wo.IsI w A n c l) :
    Calls Try.prog 24 #[.int .i64 m, v, .slice A n c] w fun e w' => e = .returned (.tuple #[.int .i64 (if asked m p (l, l) then keyf m (difs bq.reach p (l, l)) else 0), .int .i64 (if asked m p (l, l) then 0 else 1)]) ∧ Below w.heap.size w w' := by
  have HK := Lib.hid (fun w' hb => key_calls m v (.agg #[.slice A n c, .slice A n c]) p (l, l) 53 (.inr rfl) w' (h.below hb) ⟨A, n, c, A, n, c, rfl, isI_below h2 hb, isI_below h2 hb⟩)
  have hd : df 53 = bq.reach := rfl
  rw [hd] at HK
  obtain ⟨kv, hkv⟩ : ∃ kv : Int, (if asked m p (l, l) then keyf m (difs bq.reach p (l, l)) else 0) = kv := ⟨_, rfl⟩
  obtain ⟨ke, hke⟩ : ∃ ke : Int, (if asked m p (l, l) then 0 else 1) = ke := ⟨_, rfl⟩
  rw [hkv, hke] at HK ⊢
  clear hkv hke hd
  obtain ⟨A1, n1, c1, A1', n1', c1', rfl, hi, hi'⟩ := h
  have HB0 := Lib.hid (below_new w (.cells #[.slice A1 n1 c1, .slice A1' n1' c1'] 25))
  have HT := Lib.hid (TwoX.new w (.slice A1 n1 c1) (.slice A1' n1' c1'))
  clear hi hi' h2
  go_enter Try.func24, Try.ntmps24
  go_wp2_with fail
  refine wk.region_tailS 9 [.is (.int .i64 m), .is (.agg #[.slice A1 n1 c1, .slice A1' n1' c1']), .is (.slice A n c), .is (.agg #[.slice A n c, .slice A n c]), .is (.tuple #[.int .i64 kv, .int .i64 ke]), .is (.int .i64 kv), .is (.int .i64 ke), .is (.int .i64 kv), .is (.int .i64 ke)] [some 8, some 9, some 10, some 11, some 12, some 13, some 14, some 6, some 7] (by kernel_rfl) (by kernel_rfl) (by kernel_rfl) (by kernel_rfl) [] (by kernel_rfl) (by intro p hp; cases hp) (by kernel_rfl) (by kernel_rfl) ?hstep ?hdone
  case hstep =>
    intro i o ho hi hns E w4 hb4 D
    have hi2 : i = 0 ∨ i = 1 ∨ i = 2 ∨ i = 3 ∨ i = 4 ∨ i = 5 ∨ i = 6 ∨ i = 7 ∨ i = 8 := by omega
    clear hi
    rcases hi2 with rfl | rfl | rfl | rfl | rfl | rfl | rfl | rfl | rfl
    ·
      have ho2 := (Array.getElem?_eq_some_iff.1 ho).2
      simp only [List.getElem_toArray, List.getElem_cons_zero] at ho2
      subst ho2
      clear ho
      have e0 := D.old 0 (by kernel_rfl)
      exact wk.does_move rfl (by rw [e0]; rfl)
    ·
      have ho2 := (Array.getElem?_eq_some_iff.1 ho).2
      simp only [List.getElem_toArray, List.getElem_cons_succ, List.getElem_cons_zero] at ho2
      subst ho2
      clear ho
      have e4 := D.old 4 (by kernel_rfl)
      exact wk.does_load_row rfl (by rw [e4]; rfl) (HT.out.below ((Below.refl _ _).drew.trans hb4)) Try.underlying25 rfl (by kernel_rfl) rfl
    ·
      have ho2 := (Array.getElem?_eq_some_iff.1 ho).2
      simp only [List.getElem_toArray, List.getElem_cons_succ, List.getElem_cons_zero] at ho2
      subst ho2
      clear ho
      have e2 := D.old 2 (by kernel_rfl)
      exact wk.does_move rfl (by rw [e2]; rfl)
    ·
      have ho2 := (Array.getElem?_eq_some_iff.1 ho).2
      simp only [List.getElem_toArray, List.getElem_cons_succ, List.getElem_cons_zero] at ho2
      subst ho2
      clear ho
      have e10 := D.is { on := 2, ground := .data } (by simp) rfl rfl 10 rfl
      refine wk.does_fn (f := 41) (vs := #[.slice A n c]) rfl (D.fn _) (by simp [e10]) (by go_simp) ?_
      refine (point_calls A n c w4).mono ?_
      rintro e w7 ⟨rfl, hb7⟩
      exact ⟨_, rfl, hb7, rfl⟩
    ·
      have ho2 := (Array.getElem?_eq_some_iff.1 ho).2
      simp only [List.getElem_toArray, List.getElem_cons_succ, List.getElem_cons_zero] at ho2
      subst ho2
      clear ho
      have e8 := D.is { on := 0, ground := .data } (by simp) rfl rfl 8 rfl
      have e9 := D.is { on := 1, ground := .data } (by simp) rfl rfl 9 rfl
      have e11 := D.is { on := 3, ground := .data } (by simp) rfl rfl 11 rfl
      refine wk.does_fn (f := 51) (vs := #[.int .i64 m, .agg #[.slice A1 n1 c1, .slice A1' n1' c1'], .agg #[.slice A n c, .slice A n c], .func (.func 53) #[] #[]]) rfl (D.fn _) (by simp [e8, e9, e11, D.fn _]) (by go_simp) ?_
      refine (HK.out w4 (Below.andThen HB0.out ((Below.refl _ _).drew.trans hb4))).mono ?_
      rintro e w7 ⟨rfl, hb7⟩
      exact ⟨_, rfl, hb7, rfl⟩
    ·
      have ho2 := (Array.getElem?_eq_some_iff.1 ho).2
      simp only [List.getElem_toArray, List.getElem_cons_succ, List.getElem_cons_zero] at ho2
      subst ho2
      clear ho
      have e12 := D.is { on := 4, ground := .data } (by simp) rfl rfl 12 rfl
      exact wk.does_extract rfl e12 rfl rfl
    ·
      have ho2 := (Array.getElem?_eq_some_iff.1 ho).2
      simp only [List.getElem_toArray, List.getElem_cons_succ, List.getElem_cons_zero] at ho2
      subst ho2
      clear ho
      have e12 := D.is { on := 4, ground := .data } (by simp) rfl rfl 12 rfl
      exact wk.does_extract rfl e12 rfl rfl
    ·
      have ho2 := (Array.getElem?_eq_some_iff.1 ho).2
      simp only [List.getElem_toArray, List.getElem_cons_succ, List.getElem_cons_zero] at ho2
      subst ho2
      clear ho
      have e13 := D.is { on := 5, ground := .data } (by simp) rfl rfl 13 rfl
      exact wk.does_assign rfl e13
    ·
      have ho2 := (Array.getElem?_eq_some_iff.1 ho).2
      simp only [List.getElem_toArray, List.getElem_cons_succ, List.getElem_cons_zero] at ho2
      subst ho2
      clear ho
      have e14 := D.is { on := 6, ground := .data } (by simp) rfl rfl 14 rfl
      exact wk.does_assign rfl e14
  case hdone =>
    intro vals w4 hb4 hv
    have h7 := hv 7 (by omega)
    have h8 := hv 8 (by omega)
    clear hv
    replace h7 : vals 7 = (.int .i64 kv) := h7
    replace h8 : vals 8 = (.int .i64 ke) := h8
    simp only [List.drop_succ_cons, List.drop_zero, wpList, wk.setL, List.setIfInBounds_toArray, List.set_cons_zero, List.set_cons_succ, Nat.zero_add, Nat.reduceAdd, h7, h8]
    generalize vals 0 = x0
    generalize vals 1 = x1
    generalize vals 2 = x2
    generalize vals 3 = x3
    generalize vals 4 = x4
    generalize vals 5 = x5
    generalize vals 6 = x6
    have HB1 := Lib.hid (Below.andThen HB0.out ((Below.refl _ _).drew.trans hb4))
    clear hb4
    go_wp2_with fail
    exact bodyPost_ret (results_tmp2 rfl _ _ _) rfl ⟨rfl, HB1.out⟩
set_option maxRecDepth 100000 in
theorem apart_calls (m : Int) (v u : Value) (p q : Pair) (w : World) (h : IsX w v p) (h2 : IsX w u q) :
    Calls Try.prog 25 #[.int .i64 m, v, u] w fun e w' => e = .returned (.tuple #[.int .i64 (if asked m p q then keyf m (difs bq.gap p q) else 0), .int .i64 (if asked m p q then 0 else 1)]) ∧ Below w.heap.size w w' := by
  have HK := Lib.hid (fun w' hb => key_calls m v u p q 52 (.inl rfl) w' (h.below hb) (h2.below hb))
  have hd : df 52 = bq.gap := rfl
  rw [hd] at HK
  obtain ⟨kv, hkv⟩ : ∃ kv : Int, (if asked m p q then keyf m (difs bq.gap p q) else 0) = kv := ⟨_, rfl⟩
  obtain ⟨ke, hke⟩ : ∃ ke : Int, (if asked m p q then 0 else 1) = ke := ⟨_, rfl⟩
  rw [hkv, hke] at HK ⊢
  clear hkv hke hd
  obtain ⟨A1, n1, c1, A1', n1', c1', rfl, hi, hi'⟩ := h
  obtain ⟨A2, n2, c2, A2', n2', c2', rfl, hi2, hi2'⟩ := h2
  have HB0 := Lib.hid (Below.andThen (below_new w (.cells #[.slice A1 n1 c1, .slice A1' n1' c1'] 25)) (below_new _ (.cells #[.slice A2 n2 c2, .slice A2' n2' c2'] 25)))
  clear hi hi' hi2 hi2'
  go_enter Try.func25, Try.ntmps25
  go_wp2_with fail
  refine (HK.out _ HB0.out).mono ?_
  rintro e w1 ⟨rfl, hb⟩
  have HB1 := Lib.hid (HB0.out.trans (hb.mono HB0.out.size))
  clear hb
  go_wp2_with fail
  exact bodyPost_ret (results_tmp2 rfl _ _ _) rfl ⟨rfl, HB1.out⟩
end Go.Proofs.Ytlcdjabfkfmpdaa.bk
