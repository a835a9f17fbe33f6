/- Peaks: what they are, how they grow, and their root. Plain mathematics. -/
import Derived.Test.YtmjmkkdmphgdnaaDoorG12

import Derived.Test.YtmjmkkdmphgdnaaDoorNa

namespace Go.Proofs.YtmjmkkdmphgdnaaDoor.mk

open Go.ChangeShapes Go.WideShapes Go.ChangeAt Go.RowKit

set_option linter.unusedVariables false
/-- the roots of the full blocks of a list: full blocks of 2^j elements each -/
noncomputable def pks : Nat → Nat → Nat → List D → List D
  | 0, _, _, _ => []
  | f + 1, j, full, l => if full % 2 = 1 then pks f (j + 1) (full / 2) (l.take ((full - 1) * 2 ^ j)) ++ [rootD (l.drop ((full - 1) * 2 ^ j))] else pks f (j + 1) (full / 2) l
theorem pks_zero : ∀ (f j : Nat) (l : List D), pks f j 0 l = []
  | 0, _, _ => rfl
  | f + 1, j, l => by rw [pks, if_neg (by omega)]; exact pks_zero f (j + 1) l
theorem pks_odd {f j full : Nat} {l : List D} (h : full % 2 = 1) : pks (f + 1) j full l = pks f (j + 1) (full / 2) (l.take ((full - 1) * 2 ^ j)) ++ [rootD (l.drop ((full - 1) * 2 ^ j))] := by rw [pks, if_pos h]
theorem pks_even {f j full : Nat} {l : List D} (h : ¬ full % 2 = 1) : pks (f + 1) j full l = pks f (j + 1) (full / 2) l := by rw [pks, if_neg h]
theorem pks_fuel : ∀ (f j full : Nat) (l : List D), full < 2 ^ f → pks (f + 1) j full l = pks f j full l
  | 0, j, full, l, h => by
    have : full = 0 := by simpa using h
    subst this; exact pks_zero 1 j l
  | f + 1, j, full, l, h => by
    have h2 : full / 2 < 2 ^ f := by rw [Nat.pow_succ] at h; omega
    by_cases ho : full % 2 = 1
    · rw [pks_odd ho, pks_odd ho, pks_fuel f _ _ _ h2]
    · rw [pks_even ho, pks_even ho, pks_fuel f _ _ _ h2]
theorem rootD_pair {b c : List D} {j : Nat} (hb : b.length = 2 ^ j) (h0 : 0 < c.length) (hc : c.length ≤ 2 ^ j) : nodeD (rootD b) (rootD c) = rootD (b ++ c) := by
  have hp := Nat.two_pow_pos j
  have hs : split (b ++ c).length = 2 ^ j := by
    unfold split
    congr 1
    refine (Nat.log2_eq_iff (by rw [List.length_append]; omega)).2 ⟨by rw [List.length_append]; omega, ?_⟩
    rw [List.length_append, Nat.pow_succ]; omega
  rw [rootD_two (l := b ++ c) (by rw [List.length_append]; omega), hs, ← hb, List.take_left, List.drop_left]
theorem odd_mul {full j : Nat} (h : full % 2 = 1) : (full - 1) * 2 ^ j + 2 ^ j = full * 2 ^ j ∧ (full - 1) * 2 ^ j = full / 2 * 2 ^ (j + 1) := by
  constructor
  · have : full = (full - 1) + 1 := by omega
    rw [this, Nat.add_sub_cancel, Nat.add_mul, Nat.one_mul]
  · have : full - 1 = full / 2 * 2 := by omega
    rw [this, Nat.pow_succ, Nat.mul_assoc, Nat.mul_comm 2]
theorem even_mul {full j : Nat} (h : ¬ full % 2 = 1) : full * 2 ^ j = full / 2 * 2 ^ (j + 1) := by
  have : full = full / 2 * 2 := by omega
  rw [Nat.pow_succ, Nat.mul_comm (2 ^ j) 2, ← Nat.mul_assoc, ← this]
theorem car_pks : ∀ (f j full : Nat) (l B : List D), full < 2 ^ f → l.length = full * 2 ^ j → B.length = 2 ^ j → (car f full (pks f j full l) (rootD B)).1 ++ [(car f full (pks f j full l) (rootD B)).2] = pks (f + 1) j (full + 1) (l ++ B)
  | 0, j, full, l, B, h, hl, hB => by
    have h0 : full = 0 := by simpa using h
    subst h0
    have : l = [] := List.eq_nil_of_length_eq_zero (by simpa using hl)
    subst this
    rw [pks_odd (by omega)]
    simp [car, pks]
  | f + 1, j, full, l, B, h, hl, hB => by
    have h2 : full / 2 < 2 ^ f := by rw [Nat.pow_succ] at h; omega
    by_cases ho : full % 2 = 1
    · obtain ⟨m1, m2⟩ := odd_mul (j := j) ho
      have hlt : (l.take ((full - 1) * 2 ^ j)).length = full / 2 * 2 ^ (j + 1) := by rw [List.length_take, hl, ← m2, ← m1]; exact Nat.min_eq_left (Nat.le_add_right _ _)
      have hld : (l.drop ((full - 1) * 2 ^ j)).length = 2 ^ j := by rw [List.length_drop, hl, ← m1, Nat.add_sub_cancel_left]
      have ih := car_pks f (j + 1) (full / 2) (l.take ((full - 1) * 2 ^ j)) (l.drop ((full - 1) * 2 ^ j) ++ B) h2 hlt (by rw [List.length_append, hld, hB, Nat.pow_succ]; omega)
      rw [car, if_pos ho, pks_odd ho, pks_even (by omega), show (full + 1) / 2 = full / 2 + 1 by omega]
      have e1 : ∀ (xs : List D) (x : D), (xs ++ [x]).take ((xs ++ [x]).length - 1) = xs := fun xs x => by simp
      have e2 : ∀ (xs : List D) (x : D), (xs ++ [x]).getLastD [] = x := fun xs x => by simp
      rw [e1, e2, rootD_pair hld (by rw [hB]; exact Nat.two_pow_pos j) (by omega), ih, ← List.append_assoc, List.take_append_drop]
    · rw [car, if_neg ho, pks_odd (f := f + 1) (j := j) (full := full + 1) (by omega), Nat.add_sub_cancel, ← hl, List.take_left, List.drop_left, pks_even ho, show (full + 1) / 2 = full / 2 by omega, pks_fuel f _ _ _ h2]
theorem top_pks : ∀ (f j full : Nat) (l b : List D), full < 2 ^ f → l.length = full * 2 ^ j → 0 < b.length → b.length ≤ 2 ^ j → (pks f j full l).foldr nodeD (rootD b) = rootD (l ++ b)
  | 0, j, full, l, b, h, hl, _, _ => by
    have h0 : full = 0 := by simpa using h
    subst h0
    have : l = [] := List.eq_nil_of_length_eq_zero (by simpa using hl)
    subst this; rfl
  | f + 1, j, full, l, b, h, hl, hb0, hb => by
    have h2 : full / 2 < 2 ^ f := by rw [Nat.pow_succ] at h; omega
    by_cases ho : full % 2 = 1
    · obtain ⟨m1, m2⟩ := odd_mul (j := j) ho
      have hlt : (l.take ((full - 1) * 2 ^ j)).length = full / 2 * 2 ^ (j + 1) := by rw [List.length_take, hl, ← m2, ← m1]; exact Nat.min_eq_left (Nat.le_add_right _ _)
      have hld : (l.drop ((full - 1) * 2 ^ j)).length = 2 ^ j := by rw [List.length_drop, hl, ← m1, Nat.add_sub_cancel_left]
      rw [pks_odd ho, List.foldr_append]
      show List.foldr nodeD (nodeD (rootD (l.drop ((full - 1) * 2 ^ j))) (rootD b)) _ = _
      rw [rootD_pair hld hb0 hb, top_pks f (j + 1) (full / 2) _ _ h2 hlt (by rw [List.length_append]; omega) (by rw [List.length_append, Nat.pow_succ]; omega), ← List.append_assoc, List.take_append_drop]
    · rw [pks_even ho]
      exact top_pks f (j + 1) (full / 2) l b h2 (by rw [hl, even_mul ho]) hb0 (by rw [Nat.pow_succ]; omega)
theorem pks_last : ∀ (f j full : Nat) (l : List D), full < 2 ^ f → l.length = full * 2 ^ j → 1 ≤ full → ∃ xs b, pks f j full l = xs ++ [rootD b] ∧ xs.foldr nodeD (rootD b) = rootD l
  | 0, j, full, l, h, _, h1 => by
    have : full = 0 := by simpa using h
    omega
  | f + 1, j, full, l, h, hl, h1 => by
    have h2 : full / 2 < 2 ^ f := by rw [Nat.pow_succ] at h; omega
    by_cases ho : full % 2 = 1
    · obtain ⟨m1, m2⟩ := odd_mul (j := j) ho
      have hlt : (l.take ((full - 1) * 2 ^ j)).length = full / 2 * 2 ^ (j + 1) := by rw [List.length_take, hl, ← m2, ← m1]; exact Nat.min_eq_left (Nat.le_add_right _ _)
      have hld : (l.drop ((full - 1) * 2 ^ j)).length = 2 ^ j := by rw [List.length_drop, hl, ← m1, Nat.add_sub_cancel_left]
      have hp := Nat.two_pow_pos j
      exact ⟨_, _, pks_odd ho, by rw [top_pks f (j + 1) (full / 2) _ _ h2 hlt (by omega) (by rw [hld, Nat.pow_succ]; omega), List.take_append_drop]⟩
    · rw [pks_even ho]
      exact pks_last f (j + 1) (full / 2) l h2 (by rw [hl, even_mul ho]) (by omega)
/-- the root of peaks -/
noncomputable def topD (t : List D) : D := (t.take (t.length - 1)).foldr nodeD (t.getLastD [])
theorem topD_snoc (xs : List D) (x : D) : topD (xs ++ [x]) = xs.foldr nodeD x := by
  unfold topD
  simp
noncomputable def pkD (l : List D) : List D := pks 64 0 l.length l
theorem pkD_top {l : List D} (h : 1 ≤ l.length) (h2 : l.length < 2 ^ 64) : topD (pkD l) = rootD l := by
  obtain ⟨xs, b, h1, h3⟩ := pks_last 64 0 l.length l h2 (by simp) h
  unfold pkD
  rw [h1, topD_snoc, h3]
theorem pop_zero : ∀ f, pop f 0 = 0
  | 0 => rfl
  | f + 1 => by show 0 % 2 + pop f (0 / 2) = 0; rw [Nat.zero_div, pop_zero f]
theorem pks_len : ∀ (f j full : Nat) (l : List D), (pks f j full l).length = pop f full
  | 0, _, _, _ => rfl
  | f + 1, j, full, l => by
    show _ = full % 2 + pop f (full / 2)
    by_cases ho : full % 2 = 1
    · rw [pks_odd ho, List.length_append, pks_len f, ho, Nat.add_comm]; rfl
    · rw [pks_even ho, pks_len f]; omega
theorem pkD_len (l : List D) : (pkD l).length = pop 64 l.length := pks_len ..
theorem pks_16 : ∀ (f j full : Nat) (l : List D), (∀ d ∈ l, d.length = 16) → ∀ d ∈ pks f j full l, d.length = 16
  | 0, _, _, _, _, d, hd => by cases hd
  | f + 1, j, full, l, h, d, hd => by
    by_cases ho : full % 2 = 1
    · rw [pks_odd ho] at hd
      rcases List.mem_append.1 hd with hd | hd
      · exact pks_16 f _ _ _ (fun x hx => h x (List.mem_of_mem_take hx)) d hd
      · rw [List.mem_singleton] at hd
        subst hd
        exact rootD_length (fun x hx => h x (List.mem_of_mem_drop hx))
    · rw [pks_even ho] at hd
      exact pks_16 f _ _ _ h d hd
theorem pkD_16 {l : List D} (h : ∀ d ∈ l, d.length = 16) : ∀ d ∈ pkD l, d.length = 16 := pks_16 _ _ _ _ h
theorem pkD_grow {l : List D} {x : D} (h : l.length < 2 ^ 63) : (car 64 l.length (pkD l) x).1 ++ [(car 64 l.length (pkD l) x).2] = pkD (l ++ [x]) := by
  have h1 := car_pks 64 0 l.length l [x] (by omega) (by simp) rfl
  rw [rootD_one (l := [x]) rfl] at h1
  unfold pkD
  rw [List.length_append, List.length_singleton]
  exact h1.trans (pks_fuel 64 0 _ _ (by omega))
theorem pkD_nil : pkD [] = [] := pks_zero 64 0 []
end Go.Proofs.YtmjmkkdmphgdnaaDoor.mk
