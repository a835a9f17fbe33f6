/- Roots of keys, and what they bound. No program here. -/
import Derived.Test.YtngmdonlljpknaaPlain

namespace Go.Proofs.Ytngmdonlljpknaa.me
/-- the greatest number whose square is at most n -/
def isq : Nat → Nat
  | 0 => 0
  | n + 1 => if (isq n + 1) * (isq n + 1) ≤ n + 1 then isq n + 1 else isq n
theorem isq_spec : ∀ n, isq n * isq n ≤ n ∧ n < (isq n + 1) * (isq n + 1)
  | 0 => by simp [isq]
  | n + 1 => by
    obtain ⟨h1, h2⟩ := isq_spec n
    rw [show isq (n + 1) = if (isq n + 1) * (isq n + 1) ≤ n + 1 then isq n + 1 else isq n from rfl]
    generalize isq n = r at *
    split
    · refine ⟨‹_›, ?_⟩
      have : (r + 1 + 1) * (r + 1 + 1) = (r + 1) * (r + 1) + 2 * (r + 1) + 1 := by grind
      omega
    · exact ⟨by omega, by omega⟩
def rt (x : Int) : Int := (isq x.toNat : Int)
theorem rt_nonneg (x : Int) : 0 ≤ rt x := by unfold rt; omega
theorem rt_sq {x : Int} (h : 0 ≤ x) : rt x * rt x ≤ x ∧ x < (rt x + 1) * (rt x + 1) := by
  obtain ⟨h1, h2⟩ := isq_spec x.toNat
  unfold rt
  obtain ⟨n, rfl⟩ := Int.eq_ofNat_of_zero_le h
  simp only [Int.toNat_natCast] at *
  generalize isq n = r at *
  constructor
  · exact_mod_cast h1
  · exact_mod_cast h2
theorem sq_le {a b : Int} (h : 0 ≤ a) (h2 : a ≤ b) : a * a ≤ b * b := Int.mul_le_mul h2 h2 h (by omega)
theorem sq_nonneg (a : Int) : 0 ≤ a * a := by
  rcases Int.le_total 0 a with h | h
  · exact Int.mul_nonneg h h
  · rw [← Int.neg_mul_neg]; exact Int.mul_nonneg (by omega) (by omega)
theorem le_rt {x : Int} (h : 0 ≤ x) (k : Int) : k ≤ rt x ↔ k ≤ 0 ∨ k * k ≤ x := by
  obtain ⟨h1, h2⟩ := rt_sq h
  have h0 := rt_nonneg x
  generalize rt x = r at *
  constructor
  · intro hk
    by_cases hk0 : k ≤ 0
    · exact .inl hk0
    · have := sq_le (by omega) hk; exact .inr (by omega)
  · rintro (hk | hk)
    · omega
    · by_cases hr : k ≤ r
      · exact hr
      · have := sq_le (show 0 ≤ r + 1 by omega) (show r + 1 ≤ k by omega); omega
theorem rt_unique {x k : Int} (hk : 0 ≤ k) (h1 : k * k ≤ x) (h2 : x < (k + 1) * (k + 1)) : rt x = k := by
  have hx : 0 ≤ x := by have := sq_nonneg k; omega
  have a := (le_rt hx k).2 (.inr h1)
  have b := le_rt hx (k + 1)
  have c : ¬ (k + 1 ≤ rt x) := fun hh => by rcases b.1 hh with q | q <;> omega
  omega
theorem rt_mono {x y : Int} (h : 0 ≤ x) (h2 : x ≤ y) : rt x ≤ rt y := by
  refine (le_rt (by omega) _).2 (.inr ?_)
  have := (rt_sq h).1
  omega
theorem rt_zero : rt 0 = 0 := rfl
theorem sq_lt {a b : Int} (h : 0 ≤ b) (h2 : a * a < b * b) : a < b := by
  rcases Int.lt_or_le a b with q | q
  · exact q
  · have := sq_le h q; omega
/-- what three keys of squares fulfil, symmetric in them -/
def H (a b t : Int) : Prop := a * a + b * b + t * t ≤ 2 * (a * b) + 2 * (b * t) + 2 * (a * t)
theorem H_iff (a b t : Int) : (a + b - t) * (a + b - t) ≤ 4 * a * b ↔ H a b t := by
  have e : (a + b - t) * (a + b - t) = a * a + b * b + t * t + 2 * (a * b) - 2 * (b * t) - 2 * (a * t) := by grind
  have e2 : 4 * a * b = 4 * (a * b) := Int.mul_assoc ..
  unfold H
  omega
theorem H_swap {a b t : Int} : H a b t ↔ H a t b := by
  unfold H
  rw [Int.mul_comm t b]
  omega
theorem H_comm {a b t : Int} : H a b t ↔ H b a t := by
  unfold H
  rw [Int.mul_comm b a]
  omega
def mk : Int := 134217728
def low (m a b : Int) : Int := if m = 2 then a + b - rt (4 * a * b) else max (a - b) (b - a)
def high (m a b : Int) : Int := min (if m = 2 then a + b + rt (4 * a * b) else a + b) 134217728
theorem four_nonneg {a b : Int} (ha : 0 ≤ a) (hb : 0 ≤ b) : 0 ≤ 4 * a * b := Int.mul_nonneg (by omega) hb
theorem low2_le {a b : Int} (ha : 0 ≤ a) (hb : 0 ≤ b) (t : Int) : low 2 a b ≤ t ↔ a + b ≤ t ∨ H a b t := by
  have h := le_rt (four_nonneg ha hb) (a + b - t)
  rw [H_iff] at h
  simp only [low, if_pos]
  constructor
  · intro q
    rcases h.1 (by omega) with r | r
    · exact .inl (by omega)
    · exact .inr r
  · intro q
    have := h.2 (by rcases q with q | q; exact .inl (by omega); exact .inr q)
    omega
theorem le_high2 {a b : Int} (ha : 0 ≤ a) (hb : 0 ≤ b) {t : Int} (ht : t ≤ 134217728) : t ≤ high 2 a b ↔ t ≤ a + b ∨ H a b t := by
  have h := le_rt (four_nonneg ha hb) (t - a - b)
  have e : (t - a - b) * (t - a - b) = (a + b - t) * (a + b - t) := by grind
  rw [e, H_iff] at h
  simp only [high, if_pos]
  constructor
  · intro q
    rcases h.1 (by omega) with r | r
    · exact .inl (by omega)
    · exact .inr r
  · intro q
    have := h.2 (by rcases q with q | q; exact .inl (by omega); exact .inr q)
    omega
def rlo (m a t : Int) : Int := if a ≤ t then 0 else low m a t
theorem ring_iff {m a t b : Int} (ha : 0 ≤ a) (ht : 0 ≤ t) (hb : 0 ≤ b) (hb2 : b ≤ 134217728) : (rlo m a t ≤ b ∧ b ≤ high m a t) ↔ low m a b ≤ t := by
  by_cases hm : m = 2
  · subst hm
    rw [low2_le ha hb, le_high2 ha ht hb2]
    unfold rlo
    rw [H_swap (a := a) (b := t)]
    split
    · rename_i hat
      constructor
      · rintro ⟨-, q | q⟩
        · by_cases s : a + b ≤ t
          · exact .inl s
          · refine .inr ((H_iff ..).1 ?_)
            have h1 := sq_le (show 0 ≤ a + t - b by omega) (show a + t - b ≤ 2 * a by omega)
            have h2 := Int.mul_le_mul_of_nonneg_left hat ha
            have e1 : (a + t - b) * (a + t - b) = (a + b - t) * (a + b - t) + 4 * (a * t) - 4 * (a * b) := by grind
            have e2 : 4 * a * b = 4 * (a * b) := Int.mul_assoc ..
            have e3 : 2 * a * (2 * a) = 4 * (a * a) := by grind
            omega
        · exact .inr q
      · rintro (q | q)
        · exact ⟨hb, .inl (by omega)⟩
        · exact ⟨hb, .inr q⟩
    · rename_i hat
      rw [low2_le ha ht, H_swap (a := a) (b := t)]
      constructor
      · rintro ⟨p | p, q | q⟩
        · refine .inr ((H_iff ..).1 ?_)
          obtain rfl : b = a + t := by omega
          have e : (a + (a + t) - t) * (a + (a + t) - t) = 4 * (a * a) := by grind
          have e2 : 4 * a * (a + t) = 4 * (a * a) + 4 * (a * t) := by grind
          have := Int.mul_nonneg ha ht
          omega
        · exact .inr q
        · exact .inr p
        · exact .inr p
      · rintro (q | q)
        · omega
        · exact ⟨.inr q, .inr q⟩
  · unfold rlo low high
    simp only [if_neg hm]
    omega
theorem low_self {m a : Int} (ha : 0 ≤ a) : low m a a = 0 := by
  unfold low
  split
  · rw [rt_unique (k := 2 * a) (by omega) (by grind) (by grind)]; omega
  · omega
theorem low_comm (m a b : Int) : low m a b = low m b a := by
  unfold low
  have : 4 * a * b = 4 * b * a := by grind
  rw [this]
  split <;> omega
theorem high_comm (m a b : Int) : high m a b = high m b a := by
  unfold high
  have : 4 * a * b = 4 * b * a := by grind
  rw [this]
  split <;> omega
theorem high_zero {m a : Int} (ha : a ≤ 134217728) : high m a 0 = a := by
  unfold high
  rw [Int.mul_zero, rt_zero]
  split <;> omega
theorem rt_le_add {a b : Int} (ha : 0 ≤ a) (hb : 0 ≤ b) : rt (4 * a * b) ≤ a + b := by
  have h := le_rt (four_nonneg ha hb) (a + b + 1)
  have e : (a + b + 1) * (a + b + 1) = (a - b) * (a - b) + 4 * a * b + 2 * (a + b) + 1 := by grind
  have := sq_nonneg (a - b)
  have : ¬ (a + b + 1 ≤ rt (4 * a * b)) := fun q => by rcases h.1 q with r | r <;> omega
  omega
theorem low_nonneg {m a b : Int} (ha : 0 ≤ a) (hb : 0 ≤ b) : 0 ≤ low m a b := by
  unfold low
  have := rt_le_add ha hb
  split <;> omega
theorem low_le_add {m a b : Int} (ha : 0 ≤ a) (hb : 0 ≤ b) : low m a b ≤ a + b := by
  unfold low
  have := rt_nonneg (4 * a * b)
  split <;> omega
theorem high_le (m a b : Int) : high m a b ≤ 134217728 := by unfold high; omega
theorem high_nonneg {m a b : Int} (ha : 0 ≤ a) (hb : 0 ≤ b) : 0 ≤ high m a b := by
  unfold high
  have := rt_nonneg (4 * a * b)
  split <;> omega
theorem a_in {m a t : Int} (ha : 0 ≤ a) (ha2 : a ≤ 134217728) (ht : 0 ≤ t) : rlo m a t ≤ a ∧ a ≤ high m a t :=
  (ring_iff ha ht ha ha2).2 (by rw [low_self ha]; exact ht)
theorem low_away {m a x y : Int} (ha : 0 ≤ a) (ha2 : a ≤ 134217728) (hy : 0 ≤ y) (hy2 : y ≤ 134217728) (h : a ≤ x ∧ x ≤ y ∨ y ≤ x ∧ x ≤ a) : low m a x ≤ low m a y := by
  have ht := low_nonneg (m := m) ha hy
  obtain ⟨p, q⟩ := a_in (m := m) ha ha2 ht
  obtain ⟨r, s⟩ := (ring_iff (m := m) ha ht hy hy2).2 (Int.le_refl _)
  exact (ring_iff ha ht (by omega) (by omega)).1 ⟨by omega, by omega⟩
theorem high_grow {m a x y : Int} (ha : 0 ≤ a) (hx : 0 ≤ x) (h : x ≤ y) : high m a x ≤ high m a y := by
  have h2 : 4 * a * x ≤ 4 * a * y := Int.mul_le_mul_of_nonneg_left h (by omega)
  have := rt_mono (four_nonneg ha hx) h2
  unfold high
  split <;> omega
def near (a lo hi : Int) : Int := max lo (min a hi)
def gap (m lo hi a : Int) : Int := low m a (near a lo hi)
theorem gap_eq {m lo hi a : Int} (h : lo ≤ hi) (ha : 0 ≤ a) : gap m lo hi a = if a < lo then low m a lo else if hi < a then low m a hi else 0 := by
  unfold gap near
  split
  · rw [show max lo (min a hi) = lo by omega]
  · split
    · rw [show max lo (min a hi) = hi by omega]
    · rw [show max lo (min a hi) = a by omega, low_self ha]
theorem gap_zero {m lo hi a : Int} (h : lo ≤ hi) (ha : 0 ≤ a) (ha2 : a ≤ 134217728) (hl : 0 ≤ lo) (hh : hi ≤ 134217728) : gap m lo hi a = 0 ↔ rlo m a 0 ≤ hi ∧ lo ≤ high m a 0 := by
  have e : near a lo hi = max lo (min a hi) := rfl
  have r := ring_iff (m := m) (b := near a lo hi) ha (Int.le_refl 0) (by omega) (by omega)
  have z := low_nonneg (m := m) (b := near a lo hi) ha (by omega)
  obtain ⟨p, q⟩ := a_in (m := m) ha ha2 (Int.le_refl 0)
  unfold gap
  constructor
  · intro g
    obtain ⟨x, y⟩ := r.2 (by omega)
    omega
  · rintro ⟨x, y⟩
    have := r.1 ⟨by omega, by omega⟩
    omega
theorem gap_le {m lo hi a b : Int} (h : lo ≤ b) (h2 : b ≤ hi) (ha : 0 ≤ a) (ha2 : a ≤ 134217728) (hl : 0 ≤ lo) (hh : hi ≤ 134217728) : gap m lo hi a ≤ low m a b := by
  unfold gap
  have e : near a lo hi = max lo (min a hi) := rfl
  exact low_away ha ha2 (by omega) (by omega) (by omega)
/-- points on a line -/
theorem low_sq {d e : Int} (hd : 0 ≤ d) (he : 0 ≤ e) : low 2 (d * d) (e * e) = (max d e - min d e) * (max d e - min d e) := by
  simp only [low, if_pos]
  have hde := Int.mul_nonneg hd he
  rw [rt_unique (k := 2 * (d * e)) (by omega) (by grind) (by grind)]
  rcases Int.le_total d e with h | h
  · rw [Int.max_eq_right h, Int.min_eq_left h]; grind
  · rw [Int.max_eq_left h, Int.min_eq_right h]; grind
theorem high_sq {d e : Int} (hd : 0 ≤ d) (he : 0 ≤ e) : high 2 (d * d) (e * e) = min ((d + e) * (d + e)) 134217728 := by
  simp only [high, if_pos]
  have hde := Int.mul_nonneg hd he
  rw [rt_unique (k := 2 * (d * e)) (by omega) (by grind) (by grind)]
  congr 1
  grind
/-- three points -/
theorem tri_of {m a b c : Int} (ha : 0 ≤ a) (hb : 0 ≤ b) (hc : c ≤ 134217728) (h1 : m ≠ 2 → a ≤ b + c ∧ b ≤ a + c ∧ c ≤ a + b) (h2 : m = 2 → H a b c) : low m a b ≤ c ∧ c ≤ high m a b := by
  by_cases hm : m = 2
  · subst hm
    rw [low2_le ha hb, le_high2 ha hb hc]
    exact ⟨.inr (h2 rfl), .inr (h2 rfl)⟩
  · have := h1 hm
    unfold low high
    simp only [if_neg hm]
    omega
/-- Newton's steps -/
theorem newton_ge {n r : Int} (hn : 0 ≤ n) (hr : 0 < r) : rt n ≤ (r + n / r) / 2 := by
  have h1 := (rt_sq hn).1
  have h0 := rt_nonneg n
  have h2 := Int.lt_ediv_add_one_mul_self n hr
  have h3 : 0 ≤ n / r := Int.ediv_nonneg hn (by omega)
  generalize n / r = q at *
  generalize rt n = s at *
  have h4 : s * s < (q + 1) * r := by omega
  have e : (q + 1 + r) * (q + 1 + r) = (q + 1 - r) * (q + 1 - r) + 4 * ((q + 1) * r) := by grind
  have := sq_nonneg (q + 1 - r)
  have e2 : (2 * s) * (2 * s) = 4 * (s * s) := by grind
  have := sq_lt (a := 2 * s) (b := q + 1 + r) (by omega) (by omega)
  omega
theorem newton_stop {n r : Int} (hn : 0 ≤ n) (hr : 0 < r) (h : r ≤ (r + n / r) / 2) : r ≤ rt n := by
  have h2 := Int.ediv_mul_le n (show r ≠ 0 by omega)
  have h3 : r ≤ n / r := by omega
  have h4 := Int.mul_le_mul_of_nonneg_right h3 (show 0 ≤ r by omega)
  exact (le_rt hn r).2 (.inr (by omega))
end Go.Proofs.Ytngmdonlljpknaa.me
