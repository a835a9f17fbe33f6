/- Has; the adders; keys. -/
import Derived.Test.YtlcdjabfkfmpdaaBh

import Derived.BigQuiet

namespace Go.Proofs.Ytlcdjabfkfmpdaa.bk

open Go.ChangeShapes Go.WideShapes Go.ChangeAt Go.RowKit

open Go.Proofs.Ytlcdjabfkfmpdaa.bq Go.Proofs.Ytlcdjabfkfmpdaa.vk Go.Proofs.Ytlcdjabfkfmpdaa.wk

set_option linter.unusedVariables false
attribute [local go_sem] Oper.semAt_some
set_option maxRecDepth 100000 in
theorem has_calls (v : Value) (p : Pair) (A : Option Addr) (n c : Nat) (l : List Int) (w : World) (h : IsX w v p) (h2 : wo.IsI w A n c l) :
    Calls Try.prog 33 #[v, .slice A n c] w fun e w' => e = .returned (.bool (has p l)) ∧ Below w.heap.size w w' := by
  have HI := Lib.hid (fun w' hb => inside_calls (.agg #[.slice A n c, .slice A n c]) v (l, l) p w' ⟨A, n, c, A, n, c, rfl, isI_below h2 hb, isI_below h2 hb⟩ (h.below hb))
  obtain ⟨A1, n1, c1, A1', n1', c1', rfl, hi, hi'⟩ := h
  have HB0 := Lib.hid (below_new w (.cells #[.slice A1 n1 c1, .slice A1' n1' c1'] 25))
  have HT := Lib.hid (TwoX.new w (.slice A1 n1 c1) (.slice A1' n1' c1'))
  clear hi hi' h2
  go_enter Try.func33, Try.ntmps33
  go_wp2_with fail
  refine wk.region_tailS 5 [.is (.slice A n c), .is (.agg #[.slice A n c, .slice A n c]), .is (.agg #[.slice A1 n1 c1, .slice A1' n1' c1']), .is (.bool (has p l)), .is (.bool (has p l))] [some 5, some 6, some 7, some 8, some 4] (by kernel_rfl) (by kernel_rfl) (by kernel_rfl) (by kernel_rfl) [] (by kernel_rfl) (by intro p hp; cases hp) (by kernel_rfl) (by kernel_rfl) ?hstep ?hdone
  case hstep =>
    intro i o ho hi hns E w4 hb4 D
    have hi2 : i = 0 ∨ i = 1 ∨ i = 2 ∨ i = 3 ∨ i = 4 := by omega
    clear hi
    rcases hi2 with rfl | rfl | rfl | rfl | rfl
    ·
      have ho2 := (Array.getElem?_eq_some_iff.1 ho).2
      simp only [List.getElem_toArray, List.getElem_cons_zero] at ho2
      subst ho2
      clear ho
      have e1 := D.old 1 (by kernel_rfl)
      exact wk.does_move rfl (by rw [e1]; rfl)
    ·
      have ho2 := (Array.getElem?_eq_some_iff.1 ho).2
      simp only [List.getElem_toArray, List.getElem_cons_succ, List.getElem_cons_zero] at ho2
      subst ho2
      clear ho
      have e5 := D.is { on := 0, ground := .data } (by simp) rfl rfl 5 rfl
      refine wk.does_fn (f := 41) (vs := #[.slice A n c]) rfl (D.fn _) (by simp [e5]) (by go_simp) ?_
      refine (point_calls A n c w4).mono ?_
      rintro e w7 ⟨rfl, hb7⟩
      exact ⟨_, rfl, hb7, rfl⟩
    ·
      have ho2 := (Array.getElem?_eq_some_iff.1 ho).2
      simp only [List.getElem_toArray, List.getElem_cons_succ, List.getElem_cons_zero] at ho2
      subst ho2
      clear ho
      have e2 := D.old 2 (by kernel_rfl)
      exact wk.does_load_row rfl (by rw [e2]; rfl) (HT.out.below ((Below.refl _ _).drew.trans hb4)) Try.underlying25 rfl (by kernel_rfl) rfl
    ·
      have ho2 := (Array.getElem?_eq_some_iff.1 ho).2
      simp only [List.getElem_toArray, List.getElem_cons_succ, List.getElem_cons_zero] at ho2
      subst ho2
      clear ho
      have e6 := D.is { on := 1, ground := .data } (by simp) rfl rfl 6 rfl
      have e7 := D.is { on := 2, ground := .data } (by simp) rfl rfl 7 rfl
      refine wk.does_fn (f := 21) (vs := #[.agg #[.slice A n c, .slice A n c], .agg #[.slice A1 n1 c1, .slice A1' n1' c1']]) rfl (D.fn _) (by simp [e6, e7]) (by go_simp) ?_
      refine (HI.out w4 (Below.andThen HB0.out ((Below.refl _ _).drew.trans hb4))).mono ?_
      rintro e w7 ⟨rfl, hb7⟩
      exact ⟨_, rfl, hb7, rfl⟩
    ·
      have ho2 := (Array.getElem?_eq_some_iff.1 ho).2
      simp only [List.getElem_toArray, List.getElem_cons_succ, List.getElem_cons_zero] at ho2
      subst ho2
      clear ho
      have e8 := D.is { on := 3, ground := .data } (by simp) rfl rfl 8 rfl
      exact wk.does_assign rfl e8
  case hdone =>
    intro vals w4 hb4 hv
    have h4 := hv 4 (by omega)
    clear hv
    replace h4 : vals 4 = (.bool (has p l)) := h4
    simp only [List.drop_succ_cons, List.drop_zero, wpList, wk.setL, List.setIfInBounds_toArray, List.set_cons_zero, List.set_cons_succ, Nat.zero_add, Nat.reduceAdd, h4]
    generalize vals 0 = x0
    generalize vals 1 = x1
    generalize vals 2 = x2
    generalize vals 3 = x3
    have HB1 := Lib.hid (Below.andThen HB0.out ((Below.refl _ _).drew.trans hb4))
    clear hb4
    go_wp2_with fail
    go_ret
    exact ⟨rfl, HB1.out⟩
/-- the adders -/
def addf (m : Int) : Nat := if m = 1 then 62 else if m = 2 then 63 else 64
set_option maxRecDepth 100000 in
theorem add_calls (m : Int) (hm : m = 1 ∨ m = 2 ∨ m = 3) (g : Nat) (s d : Int) (w : World) (h : One w g 3 (.int .i64 s)) (h0 : 0 ≤ s) (h1 : s ≤ 128000000) (h2 : 0 ≤ d) (h3 : d ≤ 2000) :
    Calls Try.prog (addf m) #[.int .i64 d, .pointer (some ⟨g, 0, none⟩)] w fun e w' => e = .returned (.int .i64 (bq.step m s d)) ∧ w' = w.setCell ⟨g, 0, none⟩ (.int .i64 (bq.step m s d)) := by
  have hc := h.cell
  have hf := h.frozen
  have hdd : 0 ≤ d * d := Int.mul_nonneg h2 h2
  have hdd2 : d * d ≤ 2000 * 2000 := Int.mul_le_mul h3 h3 h2 (by omega)
  rcases hm with rfl | rfl | rfl
  · have hs : bq.step 1 s d = s + d := rfl
    rw [hs]
    have hcell := (h.set (.int .i64 (s + d))).cell
    clear h
    simp only [addf, if_true]
    go_enter Try.func62, Try.ntmps62
    go_wp2_with fail
    go_ret
    exact ⟨rfl, rfl⟩
  · have hs : bq.step 2 s d = s + d * d := rfl
    rw [hs]
    have hcell := (h.set (.int .i64 (s + d * d))).cell
    clear h
    have ha : addf 2 = 63 := rfl
    rw [ha]
    go_enter Try.func63, Try.ntmps63
    go_wp2_with fail
    go_ret
    exact ⟨rfl, rfl⟩
  · have hs : bq.step 3 s d = max s d := rfl
    rw [hs]
    have hcell := (h.set (.int .i64 (max s d))).cell
    clear h
    have ha : addf 3 = 64 := rfl
    rw [ha]
    obtain ⟨x, hx⟩ : ∃ x, max s d = x := ⟨_, rfl⟩
    rw [hx] at hcell ⊢
    go_enter Try.func64, Try.ntmps64
    go_wp2_with fail
    go_ret
    exact ⟨rfl, rfl⟩
theorem add_enters (m : Int) (hm : m = 1 ∨ m = 2 ∨ m = 3) : ∀ args w, (callFunc (addf m) args).run Try.prog w = .ok (.enter (addf m) args) w := by
  rcases hm with rfl | rfl | rfl
  · intro args w; kernel_rfl
  · intro args w; kernel_rfl
  · intro args w; kernel_rfl
def metric (m : Int) : Bool := decide (1 ≤ m) && decide (m ≤ 3)
theorem metric_iff {m : Int} : metric m = true ↔ m = 1 ∨ m = 2 ∨ m = 3 := by simp [metric]; omega
set_option maxRecDepth 100000 in
theorem adder_calls (m : Int) (hm : m = 1 ∨ m = 2 ∨ m = 3) (w : World) :
    Calls Try.prog 59 #[.int .i64 m] w fun e w' => e = .returned (.tuple #[.func (.func (addf m)) #[] #[.pointer (some ⟨w.heap.size, 0, none⟩)], .bool true]) ∧ w' = w.alloc (.cells #[.int .i64 0] 3) := by
  rcases hm with rfl | rfl | rfl
  all_goals
    go_enter Try.func59, Try.ntmps59
    go_wp2_with fail
    exact bodyPost_ret (results_tmp2 rfl _ _ _) rfl ⟨rfl, rfl⟩
set_option maxRecDepth 100000 in
theorem adder_no (m : Int) (hm : metric m = false) (w : World) :
    Calls Try.prog 59 #[.int .i64 m] w fun e w' => e = .returned (.tuple #[Value.nilFunc, .bool false]) ∧ w' = w.alloc (.cells #[.int .i64 0] 3) := by
  have h : ¬ (m = 1 ∨ m = 2 ∨ m = 3) := fun hh => by rw [metric_iff.2 hh] at hm; cases hm
  have h1 : (m == 1) = false := by simp; omega
  have h2 : (m == 2) = false := by simp; omega
  have h3 : (m == 3) = false := by simp; omega
  go_enter Try.func59, Try.ntmps59
  go_wp2_with fail
  exact bodyPost_ret (results_tmp2 rfl _ _ _) rfl ⟨rfl, rfl⟩
end Go.Proofs.Ytlcdjabfkfmpdaa.bk
