/- The program's bounds. -/
import Derived.Test.YtngmdonlljpknaaVb

import Derived.Test.YtngmdonlljpknaaQc

import Derived.Deep.QuietTactic

import Derived.BigQuiet

import Derived.Laws.EntriesVeiled

namespace Go.Proofs.Ytngmdonlljpknaa.me

open Go.ChangeShapes Go.WideShapes Go.ChangeAt Go.RowKit

open Go.Proofs.Ytngmdonlljpknaa.vk

set_option linter.unusedVariables false
def lowF (m : Int) : Value := if m = 2 then .func (.func 46) #[] #[] else .func (.func 44) #[] #[]
def highF (m : Int) : Value := if m = 2 then .func (.func 47) #[] #[] else .func (.func 45) #[] #[]
set_option maxRecDepth 100000 in
theorem boundsOf_calls (m : Int) (w : World) (h1 : 1 ≤ m) (h3 : m ≤ 3) :
    Calls Try.prog 35 #[.int .i64 m] w fun e w' => e = .returned (.agg #[lowF m, highF m]) ∧ Below w.heap.size w w' := by
  rcases (by omega : m = 1 ∨ m = 2 ∨ m = 3) with rfl | rfl | rfl
  all_goals
    go_enter Try.func35, Try.ntmps35
    go_wp2
  · exact bodyPost_ret (v := .agg #[lowF 1, highF 1]) (by simp [results, Try.results35, go_sem, lowF, highF]) rfl ⟨rfl, (Below.refl _ _).alloc (Nat.le_refl _) _⟩
  · exact bodyPost_ret (v := .agg #[lowF 2, highF 2]) (by simp [results, Try.results35, go_sem, lowF, highF]) rfl ⟨rfl, (Below.refl _ _).alloc (Nat.le_refl _) _⟩
  · exact bodyPost_ret (v := .agg #[lowF 3, highF 3]) (by simp [results, Try.results35, go_sem, lowF, highF]) rfl ⟨rfl, (Below.refl _ _).alloc (Nat.le_refl _) _⟩
theorem run_field0 (f g : Value) (w : World) : (Instr.field 45 (.agg #[f, g]) 0).run Try.prog w = .ok f w := by kernel_rfl
theorem run_field1 (f g : Value) (w : World) : (Instr.field 45 (.agg #[f, g]) 1).run Try.prog w = .ok g w := by kernel_rfl
set_option maxRecDepth 100000 in
theorem low_calls (m a b : Int) (w : World) (h1 : 1 ≤ m) (h3 : m ≤ 3) (ha : 0 ≤ a) (hb : 0 ≤ b) (ha2 : a ≤ 134217728) (hb2 : b ≤ 134217728) :
    Calls Try.prog 17 #[.int .i64 m, .int .i64 a, .int .i64 b] w fun e w' => e = .returned (.int .i64 (low m a b)) ∧ Below w.heap.size w w' := by
  have HB := Lib.hid (fun w' => boundsOf_calls m w' h1 h3)
  by_cases hm : m = 2
  · subst hm
    simp only [lowF, highF, if_pos] at HB
    have HC := Lib.hid (fun w' => low2_calls a b w' ha hb ha2 hb2)
    have hf := run_field0 (.func (.func 46) #[] #[]) (.func (.func 47) #[] #[])
    go_enter Try.func17, Try.ntmps17
    go_wp2_with fail
    refine (HB.out _).mono ?_
    rintro e w' ⟨rfl, hb⟩
    go_wp2_with fail
    refine (HC.out _).mono ?_
    rintro e w' ⟨rfl, rfl⟩
    go_wp2
    go_ret
    exact ⟨rfl, hb⟩
  · simp only [lowF, highF, if_neg hm] at HB
    have HC := Lib.hid (fun w' => low1_calls m a b w' hm ha hb ha2 hb2)
    have hf := run_field0 (.func (.func 44) #[] #[]) (.func (.func 45) #[] #[])
    go_enter Try.func17, Try.ntmps17
    go_wp2_with fail
    refine (HB.out _).mono ?_
    rintro e w' ⟨rfl, hb⟩
    go_wp2_with fail
    refine (HC.out _).mono ?_
    rintro e w' ⟨rfl, rfl⟩
    go_wp2
    go_ret
    exact ⟨rfl, hb⟩
set_option maxRecDepth 100000 in
theorem high_calls (m a b : Int) (w : World) (h1 : 1 ≤ m) (h3 : m ≤ 3) (ha : 0 ≤ a) (hb : 0 ≤ b) (ha2 : a ≤ 134217728) (hb2 : b ≤ 134217728) :
    Calls Try.prog 19 #[.int .i64 m, .int .i64 a, .int .i64 b] w fun e w' => e = .returned (.int .i64 (high m a b)) ∧ Below w.heap.size w w' := by
  have HB := Lib.hid (fun w' => boundsOf_calls m w' h1 h3)
  by_cases hm : m = 2
  · subst hm
    simp only [lowF, highF, if_pos] at HB
    have HC := Lib.hid (fun w' => high2_calls a b w' ha hb ha2 hb2)
    have hf := run_field1 (.func (.func 46) #[] #[]) (.func (.func 47) #[] #[])
    go_enter Try.func19, Try.ntmps19
    go_wp2_with fail
    refine (HB.out _).mono ?_
    rintro e w' ⟨rfl, hb⟩
    go_wp2_with fail
    refine (HC.out _).mono ?_
    rintro e w' ⟨rfl, rfl⟩
    go_wp2
    go_ret
    exact ⟨rfl, hb⟩
  · simp only [lowF, highF, if_neg hm] at HB
    have HC := Lib.hid (fun w' => high1_calls m a b w' hm ha hb ha2 hb2)
    have hf := run_field1 (.func (.func 44) #[] #[]) (.func (.func 45) #[] #[])
    go_enter Try.func19, Try.ntmps19
    go_wp2_with fail
    refine (HB.out _).mono ?_
    rintro e w' ⟨rfl, hb⟩
    go_wp2_with fail
    refine (HC.out _).mono ?_
    rintro e w' ⟨rfl, rfl⟩
    go_wp2
    go_ret
    exact ⟨rfl, hb⟩
set_option maxRecDepth 100000 in
theorem gap_calls (m lo hi a : Int) (w : World) (h1 : 1 ≤ m) (h3 : m ≤ 3) (ha : 0 ≤ a) (hl : 0 ≤ lo) (ha2 : a ≤ 134217728) (hh : hi ≤ 134217728) (hlh : lo ≤ hi) :
    Calls Try.prog 23 #[.int .i64 m, .int .i64 lo, .int .i64 hi, .int .i64 a] w fun e w' => e = .returned (.int .i64 (gap m lo hi a)) ∧ Below w.heap.size w w' := by
  have hn : 0 ≤ near a lo hi ∧ near a lo hi ≤ 134217728 := by unfold near; omega
  have HC := Lib.hid (fun w' => low_calls m a (near a lo hi) w' h1 h3 ha hn.1 ha2 hn.2)
  have HN := Lib.hid (fun w' => nearest_calls a lo hi w')
  unfold gap
  generalize near a lo hi = x at *
  generalize low m a x = y at *
  go_enter Try.func23, Try.ntmps23
  go_wp2_with fail
  refine (HN.out _).mono ?_
  rintro e w' ⟨rfl, rfl⟩
  go_wp2_with fail
  refine (HC.out _).mono ?_
  rintro e w' ⟨rfl, hb⟩
  go_wp2
  go_ret
  exact ⟨rfl, hb⟩
set_option maxRecDepth 100000 in
theorem reach_calls (m lo hi a : Int) (w : World) (h1 : 1 ≤ m) (h3 : m ≤ 3) (ha : 0 ≤ a) (hh0 : 0 ≤ hi) (ha2 : a ≤ 134217728) (hh : hi ≤ 134217728) :
    Calls Try.prog 25 #[.int .i64 m, .int .i64 lo, .int .i64 hi, .int .i64 a] w fun e w' => e = .returned (.int .i64 (high m a hi)) ∧ Below w.heap.size w w' := by
  have HC := Lib.hid (fun w' => high_calls m a hi w' h1 h3 ha hh0 ha2 hh)
  generalize high m a hi = y at *
  go_enter Try.func25, Try.ntmps25
  go_wp2_with fail
  refine (HC.out _).mono ?_
  rintro e w' ⟨rfl, hb⟩
  go_wp2
  go_ret
  exact ⟨rfl, hb⟩
set_option maxRecDepth 100000 in
theorem ball_calls (m c r s : Int) (w : World) (h1 : 1 ≤ m) (h3 : m ≤ 3) (hr : 0 ≤ r) (hs : 0 ≤ s) (hr2 : r ≤ 134217728) (hs2 : s ≤ 134217728) :
    Calls Try.prog 27 #[.int .i64 m, .int .i64 c, .int .i64 r, .int .i64 s] w fun e w' => e = .returned (.bool (decide (c ≤ high m r s))) ∧ Below w.heap.size w w' := by
  have HC := Lib.hid (fun w' => high_calls m r s w' h1 h3 hr hs hr2 hs2)
  generalize high m r s = y at *
  go_enter Try.func27, Try.ntmps27
  go_wp2_with fail
  refine (HC.out _).mono ?_
  rintro e w' ⟨rfl, hb⟩
  go_wp2
  go_ret
  exact ⟨rfl, hb⟩
set_option maxRecDepth 100000 in
theorem triangle_calls (m a b c : Int) (w : World) (h1 : 1 ≤ m) (h3 : m ≤ 3) (ha : 0 ≤ a) (hb : 0 ≤ b) (ha2 : a ≤ 134217728) (hb2 : b ≤ 134217728) :
    Calls Try.prog 21 #[.int .i64 m, .int .i64 a, .int .i64 b, .int .i64 c] w fun e w' => e = .returned (.bool (decide (low m a b ≤ c) && decide (c ≤ high m a b))) ∧ Below w.heap.size w w' := by
  have HB := Lib.hid (fun w' => boundsOf_calls m w' h1 h3)
  have HW := Lib.hid (fun w' => within_calls c (low m a b) (high m a b) w')
  by_cases hm : m = 2
  · subst hm
    simp only [lowF, highF, if_pos] at HB
    have HL := Lib.hid (fun w' => low2_calls  a b w' ha hb ha2 hb2)
    have HH := Lib.hid (fun w' => high2_calls  a b w' ha hb ha2 hb2)
    generalize low 2 a b = x at *
    generalize high 2 a b = y at *
    go_enter Try.func21, Try.ntmps21
    go_wp2_with fail
    refine (HB.out _).mono ?_
    rintro e w1 ⟨rfl, hb1⟩
    have HB1 := Lib.hid hb1
    clear hb1
    go_wp2_with fail
    go_quiet (first | exact Calls.quiet_of_same (HL.out _) | exact Calls.quiet_of_same (HH.out _) | exact Calls.quiet_of_same (HW.out _))
    go_wp2
    go_ret
    exact ⟨rfl, below_drewN ((HB1.out.alloc HB1.out.size _)) _⟩
  · simp only [lowF, highF, if_neg hm] at HB
    have HL := Lib.hid (fun w' => low1_calls m a b w' hm ha hb ha2 hb2)
    have HH := Lib.hid (fun w' => high1_calls m a b w' hm ha hb ha2 hb2)
    generalize low m a b = x at *
    generalize high m a b = y at *
    go_enter Try.func21, Try.ntmps21
    go_wp2_with fail
    refine (HB.out _).mono ?_
    rintro e w1 ⟨rfl, hb1⟩
    have HB1 := Lib.hid hb1
    clear hb1
    go_wp2_with fail
    go_quiet (first | exact Calls.quiet_of_same (HL.out _) | exact Calls.quiet_of_same (HH.out _) | exact Calls.quiet_of_same (HW.out _))
    go_wp2
    go_ret
    exact ⟨rfl, below_drewN ((HB1.out.alloc HB1.out.size _)) _⟩
set_option maxRecDepth 100000 in
theorem turned_calls (f g : Value) (w : World) : Calls Try.prog 34 #[.agg #[f, g]] w fun e w' => e = .returned (.func (.func 43) #[] #[.pointer (some ⟨w.heap.size, 0, none⟩)]) ∧ w' = w.alloc (.cells #[f, g] 45 (0, 0)) := by
  go_enter Try.func34, Try.ntmps34
  go_wp2
  go_ret
  exact ⟨rfl, rfl⟩
set_option maxRecDepth 100000 in
theorem turned1_2a (a t : Int) (g : Nat) (w : World) (ha : 0 ≤ a) (hb : 0 ≤ t) (ha2 : a ≤ 134217728) (hb2 : t ≤ 134217728) (h : a ≤ t)
    (hc : w.heap[g]? = some (.cells #[.func (.func 46) #[] #[], .func (.func 47) #[] #[]] 45 (0, 0))) :
    Calls Try.prog 43 #[.int .i64 a, .int .i64 t, .pointer (some ⟨g, 0, none⟩)] w fun e w' => e = .returned (.tuple #[.int .i64 (rlo 2 a t), .int .i64 (high 2 a t)]) ∧ Below w.heap.size w w' := by
  have hc0 : w.cell? ⟨g, 0, none⟩ = some (.func (.func 46) #[] #[]) := by rw [cell_of_row _ _ _ _ _ _ hc]; rfl
  have hc1 : w.cell? ⟨g, 1, none⟩ = some (.func (.func 47) #[] #[]) := by rw [cell_of_row _ _ _ _ _ _ hc]; rfl
  clear hc
  rw [rlo, if_pos h]
  have HH := Lib.hid (fun w' => high2_calls a t w' ha hb ha2 hb2)
  generalize high 2 a t = y at *
  go_enter Try.func43, Try.ntmps43
  go_wp2_with fail
  refine (HH.out _).mono ?_
  rintro e w' ⟨rfl, rfl⟩
  go_wp2
  go_ret2
  exact ⟨rfl, Below.refl _ _⟩
set_option maxRecDepth 100000 in
theorem turned1_2b (a t : Int) (g : Nat) (w : World) (ha : 0 ≤ a) (hb : 0 ≤ t) (ha2 : a ≤ 134217728) (hb2 : t ≤ 134217728) (h : ¬ a ≤ t)
    (hc : w.heap[g]? = some (.cells #[.func (.func 46) #[] #[], .func (.func 47) #[] #[]] 45 (0, 0))) :
    Calls Try.prog 43 #[.int .i64 a, .int .i64 t, .pointer (some ⟨g, 0, none⟩)] w fun e w' => e = .returned (.tuple #[.int .i64 (rlo 2 a t), .int .i64 (high 2 a t)]) ∧ Below w.heap.size w w' := by
  have hc0 : w.cell? ⟨g, 0, none⟩ = some (.func (.func 46) #[] #[]) := by rw [cell_of_row _ _ _ _ _ _ hc]; rfl
  have hc1 : w.cell? ⟨g, 1, none⟩ = some (.func (.func 47) #[] #[]) := by rw [cell_of_row _ _ _ _ _ _ hc]; rfl
  clear hc
  rw [rlo, if_neg h]
  have HL := Lib.hid (fun w' => low2_calls a t w' ha hb ha2 hb2)
  generalize low 2 a t = x at *
  have HH := Lib.hid (fun w' => high2_calls a t w' ha hb ha2 hb2)
  generalize high 2 a t = y at *
  go_enter Try.func43, Try.ntmps43
  go_wp2_with fail
  go_quiet (first | exact Calls.quiet_of_same (HL.out _) | exact Calls.quiet_of_same (HH.out _))
  go_wp2
  go_ret2
  exact ⟨rfl, below_drewN (Below.refl _ _) _⟩
set_option maxRecDepth 100000 in
theorem turned1_1a (m a t : Int) (g : Nat) (w : World) (hm : m ≠ 2) (ha : 0 ≤ a) (hb : 0 ≤ t) (ha2 : a ≤ 134217728) (hb2 : t ≤ 134217728) (h : a ≤ t)
    (hc : w.heap[g]? = some (.cells #[.func (.func 44) #[] #[], .func (.func 45) #[] #[]] 45 (0, 0))) :
    Calls Try.prog 43 #[.int .i64 a, .int .i64 t, .pointer (some ⟨g, 0, none⟩)] w fun e w' => e = .returned (.tuple #[.int .i64 (rlo m a t), .int .i64 (high m a t)]) ∧ Below w.heap.size w w' := by
  have hc0 : w.cell? ⟨g, 0, none⟩ = some (.func (.func 44) #[] #[]) := by rw [cell_of_row _ _ _ _ _ _ hc]; rfl
  have hc1 : w.cell? ⟨g, 1, none⟩ = some (.func (.func 45) #[] #[]) := by rw [cell_of_row _ _ _ _ _ _ hc]; rfl
  clear hc
  rw [rlo, if_pos h]
  have HH := Lib.hid (fun w' => high1_calls m a t w' hm ha hb ha2 hb2)
  generalize high m a t = y at *
  go_enter Try.func43, Try.ntmps43
  go_wp2_with fail
  refine (HH.out _).mono ?_
  rintro e w' ⟨rfl, rfl⟩
  go_wp2
  go_ret2
  exact ⟨rfl, Below.refl _ _⟩
set_option maxRecDepth 100000 in
theorem turned1_1b (m a t : Int) (g : Nat) (w : World) (hm : m ≠ 2) (ha : 0 ≤ a) (hb : 0 ≤ t) (ha2 : a ≤ 134217728) (hb2 : t ≤ 134217728) (h : ¬ a ≤ t)
    (hc : w.heap[g]? = some (.cells #[.func (.func 44) #[] #[], .func (.func 45) #[] #[]] 45 (0, 0))) :
    Calls Try.prog 43 #[.int .i64 a, .int .i64 t, .pointer (some ⟨g, 0, none⟩)] w fun e w' => e = .returned (.tuple #[.int .i64 (rlo m a t), .int .i64 (high m a t)]) ∧ Below w.heap.size w w' := by
  have hc0 : w.cell? ⟨g, 0, none⟩ = some (.func (.func 44) #[] #[]) := by rw [cell_of_row _ _ _ _ _ _ hc]; rfl
  have hc1 : w.cell? ⟨g, 1, none⟩ = some (.func (.func 45) #[] #[]) := by rw [cell_of_row _ _ _ _ _ _ hc]; rfl
  clear hc
  rw [rlo, if_neg h]
  have HL := Lib.hid (fun w' => low1_calls m a t w' hm ha hb ha2 hb2)
  generalize low m a t = x at *
  have HH := Lib.hid (fun w' => high1_calls m a t w' hm ha hb ha2 hb2)
  generalize high m a t = y at *
  go_enter Try.func43, Try.ntmps43
  go_wp2_with fail
  go_quiet (first | exact Calls.quiet_of_same (HL.out _) | exact Calls.quiet_of_same (HH.out _))
  go_wp2
  go_ret2
  exact ⟨rfl, below_drewN (Below.refl _ _) _⟩
theorem turned1_calls (m a t : Int) (g : Nat) (w : World) (ha : 0 ≤ a) (hb : 0 ≤ t) (ha2 : a ≤ 134217728) (hb2 : t ≤ 134217728) (hc : w.heap[g]? = some (.cells #[lowF m, highF m] 45 (0, 0))) :
    Calls Try.prog 43 #[.int .i64 a, .int .i64 t, .pointer (some ⟨g, 0, none⟩)] w fun e w' => e = .returned (.tuple #[.int .i64 (rlo m a t), .int .i64 (high m a t)]) ∧ Below w.heap.size w w' := by
  by_cases hm : m = 2
  · subst hm
    simp only [lowF, highF, if_pos] at hc
    by_cases h : a ≤ t
    · exact turned1_2a a t g w ha hb ha2 hb2 h hc
    · exact turned1_2b a t g w ha hb ha2 hb2 h hc
  · simp only [lowF, highF, if_neg hm] at hc
    by_cases h : a ≤ t
    · exact turned1_1a m a t g w hm ha hb ha2 hb2 h hc
    · exact turned1_1b m a t g w hm ha hb ha2 hb2 h hc
set_option maxRecDepth 100000 in
theorem ring_calls (m a t : Int) (w : World) (h1 : 1 ≤ m) (h3 : m ≤ 3) (ha : 0 ≤ a) (hb : 0 ≤ t) (ha2 : a ≤ 134217728) (hb2 : t ≤ 134217728) :
    Calls Try.prog 15 #[.int .i64 m, .int .i64 a, .int .i64 t] w fun e w' => e = .returned (.tuple #[.int .i64 (rlo m a t), .int .i64 (high m a t)]) ∧ Below w.heap.size w w' := by
  have HB := Lib.hid (fun w' => boundsOf_calls m w' h1 h3)
  have HT := Lib.hid (fun w' => turned_calls (lowF m) (highF m) w')
  have HC := Lib.hid (fun g w' => turned1_calls m a t g w' ha hb ha2 hb2)
  generalize rlo m a t = x at *
  generalize high m a t = y at *
  generalize lowF m = f at *
  generalize highF m = f2 at *
  go_enter Try.func15, Try.ntmps15
  go_wp2_with fail
  refine (HB.out _).mono ?_
  rintro e w1 ⟨rfl, hb1⟩
  have HB1 := Lib.hid hb1
  clear hb1
  go_wp2_with fail
  refine (HT.out _).mono ?_
  rintro e w2 ⟨rfl, hw2⟩
  have HB2 := Lib.hid (show Below w.heap.size w w2 by rw [hw2]; exact HB1.out.alloc HB1.out.size _)
  have HC2 := Lib.hid (HC.out w1.heap.size w2 (by rw [hw2]; exact heap_alloc_new _ _))
  clear hw2
  go_wp2_with fail
  refine HC2.out.mono ?_
  rintro e w3 ⟨rfl, hb3⟩
  have HB3 := Lib.hid (Below.andThen HB2.out hb3)
  clear hb3
  go_wp2
  go_ret2
  exact ⟨rfl, HB3.out⟩
end Go.Proofs.Ytngmdonlljpknaa.me
