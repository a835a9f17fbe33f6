/- Boxes in memory; the program's small functions. -/
import Derived.Test.YtlcdjabfkfmpdaaBa

import Derived.Test.YtlcdjabfkfmpdaaQc

import Derived.Test.YtlcdjabfkfmpdaaRf

import Derived.Test.YtlcdjabfkfmpdaaMem

import Derived.Lib.MinMax

namespace Go.Proofs.Ytlcdjabfkfmpdaa.bk

open Go.ChangeShapes Go.WideShapes Go.ChangeAt Go.RowKit

open Go.Proofs.Ytlcdjabfkfmpdaa.bq Go.Proofs.Ytlcdjabfkfmpdaa.vk

set_option linter.unusedVariables false
/-- a box: two slices of integers -/
def IsX (w : World) (v : Value) (p : Pair) : Prop := ∃ A n c A' n' c', v = .agg #[.slice A n c, .slice A' n' c'] ∧ wo.IsI w A n c p.1 ∧ wo.IsI w A' n' c' p.2
theorem IsX.below {w w' : World} {v : Value} {p : Pair} (h : IsX w v p) (hb : Below w.heap.size w w') : IsX w' v p := by
  obtain ⟨A, n, c, A', n', c', rfl, h1, h2⟩ := h
  exact ⟨A, n, c, A', n', c', rfl, isI_below h1 hb, isI_below h2 hb⟩
def IsV (w : World) (v : Value) (l : List Int) : Prop := ∃ A n c, v = .slice A n c ∧ wo.IsI w A n c l
theorem IsV.below {w w' : World} {v : Value} {l : List Int} (h : IsV w v l) (hb : Below w.heap.size w w') : IsV w' v l := by
  obtain ⟨A, n, c, rfl, h⟩ := h
  exact ⟨A, n, c, rfl, isI_below h hb⟩
/-- a variable of two cells -/
def Two (w : World) (g : Nat) (a b : Value) : Prop := ∃ t, w.heap[g]? = some (.cells #[a, b] t (0, 0))
theorem Two.lt {w : World} {g : Nat} {a b : Value} (h : Two w g a b) : g < w.heap.size := by
  obtain ⟨t, h⟩ := h
  rcases Nat.lt_or_ge g w.heap.size with h' | h'
  · exact h'
  · rw [Array.getElem?_eq_none h'] at h; cases h
theorem Two.at {w w' : World} {g : Nat} {a b : Value} (h : Two w g a b) (e : w'.heap[g]? = w.heap[g]?) : Two w' g a b := by
  obtain ⟨t, h⟩ := h
  exact ⟨t, e.trans h⟩
theorem Two.below {w w' : World} {g : Nat} {a b : Value} (h : Two w g a b) (hb : Below w.heap.size w w') : Two w' g a b := h.at (hb.block g h.lt)
theorem Two.c0 {w : World} {g : Nat} {a b : Value} (h : Two w g a b) : w.cell? ⟨g, 0, none⟩ = some a := by
  obtain ⟨t, h⟩ := h
  rw [cell_of_row _ _ _ _ _ _ h]; rfl
theorem Two.c1 {w : World} {g : Nat} {a b : Value} (h : Two w g a b) : w.cell? ⟨g, 1, none⟩ = some b := by
  obtain ⟨t, h⟩ := h
  rw [cell_of_row _ _ _ _ _ _ h]; rfl
theorem Two.new (w : World) (a b : Value) (t : TypeId) : Two (w.alloc (.cells #[a, b] t)) w.heap.size a b := ⟨t, heap_alloc_new w _⟩
def rng (a b : Int) : Value := .agg #[.int .i64 a, .int .i64 b]
theorem isI_get {w : World} {A : Option Addr} {n c k : Nat} {l : List Int} (h : wo.IsI w A n c l) (hk : k < n) : ∃ b o, A = some ⟨b, o, none⟩ ∧ w.cell? ⟨b, o + k, none⟩ = some (.int .i64 (at' l k)) ∧ b < w.heap.size := by
  obtain ⟨b, o, x, rfl, hc, hx, _⟩ := isI_at h hk
  exact ⟨b, o, rfl, by rw [at_of hx]; exact hc, block_lt_of_cell hc⟩
set_option maxRecDepth 100000 in
theorem isVector1_calls (x : Int) (w : World) : Calls Try.prog 57 #[.int .i64 x] w fun e w' => e = .returned (.bool (!vq.okc x)) ∧ w' = w := by
  by_cases h3 : -1000 ≤ x
  · by_cases h4 : x ≤ 1000
    · rw [show vq.okc x = true from vq.okc_iff.2 ⟨h3, h4⟩]
      have e1 : decide (x < -1000) = false := decide_eq_false (by omega)
      have e2 : decide (1000 < x) = false := decide_eq_false (by omega)
      go_enter Try.func57, Try.ntmps57
      go_wp2
      go_ret
      exact ⟨by simp [e1, e2], rfl⟩
    · rw [show vq.okc x = false by simp [vq.okc, h4]]
      have e2 : decide (1000 < x) = true := decide_eq_true (by omega)
      go_enter Try.func57, Try.ntmps57
      go_wp2
      go_ret
      exact ⟨by simp [e2], rfl⟩
  · rw [show vq.okc x = false by simp [vq.okc, h3]]
    have e1 : decide (x < -1000) = true := decide_eq_true (by omega)
    go_enter Try.func57, Try.ntmps57
    go_wp2
    go_ret
    exact ⟨by simp [e1], rfl⟩
set_option maxRecDepth 100000 in
theorem gap_calls (a b c d : Int) (w : World) (h1 : -1000 ≤ a ∧ a ≤ 1000) (h2 : -1000 ≤ b ∧ b ≤ 1000) (h3 : -1000 ≤ c ∧ c ≤ 1000) (h4 : -1000 ≤ d ∧ d ≤ 1000) :
    Calls Try.prog 52 #[rng a b, rng c d] w fun e w' => e = .returned (.int .i64 (bq.gap a b c d)) ∧ Below w.heap.size w w' := by
  unfold rng
  have HB := Lib.hid (Below.andThen (below_new w (.cells #[.int .i64 a, .int .i64 b] 78)) (below_new _ (.cells #[.int .i64 c, .int .i64 d] 78)))
  by_cases hh : a - d < c - b
  all_goals
    go_enter Try.func52, Try.ntmps52
    go_wp2
    all_goals
      go_ret
      exact ⟨wp.ret_i64 (by unfold bq.gap; omega), HB.out⟩
set_option maxRecDepth 100000 in
theorem reach_calls (a b c d : Int) (w : World) (h1 : -1000 ≤ a ∧ a ≤ 1000) (h2 : -1000 ≤ b ∧ b ≤ 1000) (h3 : -1000 ≤ c ∧ c ≤ 1000) (h4 : -1000 ≤ d ∧ d ≤ 1000) :
    Calls Try.prog 53 #[rng a b, rng c d] w fun e w' => e = .returned (.int .i64 (bq.reach a b c d)) ∧ Below w.heap.size w w' := by
  unfold rng
  have HB := Lib.hid (Below.andThen (below_new w (.cells #[.int .i64 a, .int .i64 b] 78)) (below_new _ (.cells #[.int .i64 c, .int .i64 d] 78)))
  go_enter Try.func53, Try.ntmps53
  go_wp2
  all_goals
    go_ret
    exact ⟨wp.ret_i64 (by unfold bq.reach; omega), HB.out⟩
set_option maxRecDepth 100000 in
theorem lesser_calls (a b : Int) (w : World) : Calls Try.prog 44 #[.int .i64 a, .int .i64 b] w fun e w' => e = .returned (.int .i64 (min a b)) ∧ w' = w := by
  obtain ⟨x, hx⟩ : ∃ x, min a b = x := ⟨_, rfl⟩
  rw [hx]
  go_enter Try.func44, Try.ntmps44
  go_wp2
  go_ret
  exact ⟨rfl, rfl⟩
set_option maxRecDepth 100000 in
theorem greater_calls (a b : Int) (w : World) : Calls Try.prog 45 #[.int .i64 a, .int .i64 b] w fun e w' => e = .returned (.int .i64 (max a b)) ∧ w' = w := by
  obtain ⟨x, hx⟩ : ∃ x, max a b = x := ⟨_, rfl⟩
  rw [hx]
  go_enter Try.func45, Try.ntmps45
  go_wp2
  go_ret
  exact ⟨rfl, rfl⟩
set_option maxRecDepth 100000 in
theorem index_calls (A : Option Addr) (n c : Nat) (l : List Int) (w : World) (h : wo.IsI w A n c l) :
    Calls Try.prog 61 #[.slice A n c, .func (.func 57) #[] #[]] w fun e w' => (∃ r : Int, e = .returned (.int .i64 r) ∧ decide (0 ≤ r) = !l.all vq.okc) ∧ w' = w := by
  have hl := h.1
  have hm := h.2.2.1
  have hnc := h.2.1
  have H := Lib.hid h
  have HL := Lib.hid hl
  clear h hl
  go_enter Try.func61, Try.ntmps61
  go_wp2_with fail
  go_loopg [8] n (fun g x wr => ∃ k : Nat, k + g = n ∧ x = .int .i64 (k : Int) ∧ wr = w ∧ (l.take k).all vq.okc = true)
  case atStart => exact ⟨0, by omega, rfl, rfl, by simp⟩
  case round =>
    obtain ⟨k, hk, rfl, rfl, hr⟩ := hrel
    have HK := Lib.hid hk
    have HR := Lib.hid hr
    have hkn : k ≤ n := by omega
    clear hk hr
    by_cases hlt : k < n
    · obtain ⟨b, o, rfl, hc, hb⟩ := isI_get H.out hlt
      have hlt0 : (k : Int) < (n : Int) := by omega
      have HC := Lib.hid (isVector1_calls (at' l k) wr)
      have HX : Hid (l[k]? = some (at' l k)) := of_at (by rw [HL.out]; exact hlt)
      generalize at' l k = x at *
      cases hx : vq.okc x
      · rw [hx] at HC
        go_wp2_with fail
        refine HC.out.mono ?_
        rintro e w' ⟨rfl, rfl⟩
        go_wp2_with fail
        go_ret
        refine ⟨⟨k, rfl, ?_⟩, rfl⟩
        have h1 : l.all vq.okc = false := by
          rw [List.all_eq_false]
          exact ⟨x, List.mem_of_getElem? HX.out, by simp [hx]⟩
        rw [h1]; simp
      · rw [hx] at HC
        go_wp2_with fail
        refine HC.out.mono ?_
        rintro e w' ⟨rfl, rfl⟩
        go_wp2_with fail
        go_roundg (gk - 1)
        case measure => have := HK.out; omega
        case rel =>
          refine ⟨k + 1, by have := HK.out; omega, by go_num, rfl, ?_⟩
          rw [vq.take_snoc HX.out, List.all_append, HR.out]
          simp [hx]
    · go_wp2_with fail
      go_ret
      refine ⟨⟨-1, rfl, ?_⟩, rfl⟩
      have h1 := HR.out
      rw [List.take_of_length_le (by have := HL.out; omega)] at h1
      rw [h1]; rfl
set_option maxRecDepth 100000 in
theorem contains_calls (A : Option Addr) (n c : Nat) (l : List Int) (w : World) (h : wo.IsI w A n c l) :
    Calls Try.prog 56 #[.slice A n c, .func (.func 57) #[] #[]] w fun e w' => e = .returned (.bool (!l.all vq.okc)) ∧ w' = w := by
  have HC := Lib.hid (index_calls A n c l w h)
  clear h
  go_enter Try.func56, Try.ntmps56
  go_wp2_with fail
  refine HC.out.mono ?_
  rintro e w' ⟨⟨r, rfl, hr⟩, rfl⟩
  have HR := Lib.hid hr
  clear hr
  go_wp2_with fail
  go_ret
  exact ⟨by rw [← HR.out]; rfl, rfl⟩
set_option maxRecDepth 100000 in
theorem isVector_calls (A : Option Addr) (n c : Nat) (l : List Int) (w : World) (h : wo.IsI w A n c l) :
    Calls Try.prog 48 #[.slice A n c] w fun e w' => e = .returned (.bool (vq.valid l)) ∧ w' = w := by
  have hl := h.1
  have hm := h.2.2.1
  have hnc := h.2.1
  have HC := Lib.hid (contains_calls A n c l w h)
  clear h
  by_cases h1 : 1 ≤ n
  · by_cases h2 : n ≤ 32
    · have hE : vq.valid l = l.all vq.okc := by simp only [vq.valid, hl, decide_eq_true h1, decide_eq_true h2, Bool.true_and]
      rw [hE]
      clear hE
      go_enter Try.func48, Try.ntmps48
      go_wp2_with fail
      refine HC.out.mono ?_
      rintro e w' ⟨rfl, rfl⟩
      go_wp2_with fail
      go_ret
      exact ⟨by simp, rfl⟩
    · have hE : vq.valid l = false := by simp [vq.valid, hl, h2]
      rw [hE]
      go_enter Try.func48, Try.ntmps48
      go_wp2_with fail
      go_ret
      exact ⟨rfl, rfl⟩
  · have hE : vq.valid l = false := by simp [vq.valid, hl, h1]
    rw [hE]
    go_enter Try.func48, Try.ntmps48
    go_wp2_with fail
    go_ret
    exact ⟨rfl, rfl⟩
set_option maxRecDepth 100000 in
theorem point_calls (A : Option Addr) (n c : Nat) (w : World) :
    Calls Try.prog 41 #[.slice A n c] w fun e w' => e = .returned (.agg #[.slice A n c, .slice A n c]) ∧ Below w.heap.size w w' := by
  have HB := Lib.hid (below_new w (.cells #[.slice A n c, .slice A n c] 25))
  go_enter Try.func41, Try.ntmps41
  go_wp2_with fail
  exact bodyPost_ret (v := .agg #[.slice A n c, .slice A n c]) (results_cell_row (fn := Try.f41) rfl _ _ w.heap.size 25 #[.slice A n c, .slice A n c] (0, 0) _ rfl (heap_alloc_new _ _) Try.underlying25 rfl (by kernel_rfl)) rfl ⟨rfl, HB.out⟩
set_option maxRecDepth 100000 in
theorem sides_calls (a b : Value) (w : World) :
    Calls Try.prog 49 #[.agg #[a, b]] w fun e w' => e = .returned (.func (.func 58) #[] #[.pointer (some ⟨w.heap.size, 0, none⟩)]) ∧ w' = w.alloc (.cells #[a, b] 25) := by
  go_enter Try.func49, Try.ntmps49
  go_wp2_with fail
  go_ret
  exact ⟨rfl, rfl⟩
set_option maxRecDepth 100000 in
theorem side_calls (v : Value) (p : Pair) (k : Nat) (w : World) (h : IsX w v p) (h1 : k < p.1.length) (h2 : k < p.2.length) :
    Calls Try.prog 50 #[v, .int .i64 k] w fun e w' => e = .returned (rng (at' p.1 k) (at' p.2 k)) ∧ Below w.heap.size w w' := by
  obtain ⟨A, n, c, A', n', c', rfl, hi, hi'⟩ := h
  rw [hi.1] at h1
  rw [hi'.1] at h2
  obtain ⟨b, o, rfl, hc, hb⟩ := isI_get hi h1
  obtain ⟨b', o', rfl, hc', hb'⟩ := isI_get hi' h2
  have hm := hi.2.2.1
  have hm' := hi'.2.2.1
  have hn := hi.2.1
  have hn' := hi'.2.1
  clear hi hi'
  generalize at' p.1 k = x at *
  generalize at' p.2 k = y at *
  have h1' : (k : Int) < (n : Int) := by omega
  have h2' : (k : Int) < (n' : Int) := by omega
  have HB := Lib.hid (Below.andThen (below_new w (.cells #[.slice (some ⟨b, o, none⟩) n c, .slice (some ⟨b', o', none⟩) n' c'] 25)) (below_new _ (.cells #[.int .i64 x, .int .i64 y] 78))).drew
  go_enter Try.func50, Try.ntmps50
  go_wp2_with fail
  go_region
  go_wp2_with fail
  exact bodyPost_ret (v := rng x y) (results_cell_row (fn := Try.f50) rfl _ _ (w.heap.size + 1) 78 #[.int .i64 x, .int .i64 y] (0, 0) _ rfl (heap_alloc2_new _ _ _) Try.underlying78 rfl (by kernel_rfl)) rfl ⟨rfl, HB.out⟩
end Go.Proofs.Ytlcdjabfkfmpdaa.bk
