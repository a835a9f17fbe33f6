/- Joined: Qr Va Ua Ux Pa Pb Ba Val2. -/
import Derived.Test.YteeianandjokaaaG4

import Derived.Lib.MinMax
/- Norms and keys: inequalities. No program here. -/
namespace Go.Proofs.Yteeianandjokaaa.vq
theorem two_elim {motive : (a b : List Int) → a.length = b.length → Prop} (nil : motive [] [] rfl) (cons : ∀ x y a b (h : a.length = b.length), motive a b h → motive (x :: a) (y :: b) (by simp [h])) : ∀ a b (h : a.length = b.length), motive a b h
  | [], [], _ => nil
  | x :: a, y :: b, h => cons x y a b (by simpa using h) (two_elim nil cons a b _)
  | [], _ :: _, h => by simp at h
  | _ :: _, [], h => by simp at h
/-- Cauchy and Schwarz, for a list of pairs -/
def pp (l : List (Int × Int)) : Int := sm (l.map fun p => p.1 * p.1)
def qq (l : List (Int × Int)) : Int := sm (l.map fun p => p.2 * p.2)
def pq (l : List (Int × Int)) : Int := sm (l.map fun p => p.1 * p.2)
theorem form_nonneg (s t : Int) : ∀ l : List (Int × Int), 0 ≤ s * s * pp l + 2 * s * t * pq l + t * t * qq l
  | [] => by simp [pp, pq, qq, sm]
  | x :: l => by
    have h := form_nonneg s t l
    have h2 := sq_nonneg (s * x.1 + t * x.2)
    simp only [pp, pq, qq, List.map_cons, sm] at h ⊢
    grind
theorem pp_nonneg : ∀ l, 0 ≤ pp l
  | [] => by simp [pp, sm]
  | x :: l => by have := pp_nonneg l; have := sq_nonneg x.1; simp only [pp, List.map_cons, sm] at *; omega
theorem qq_nonneg : ∀ l, 0 ≤ qq l
  | [] => by simp [qq, sm]
  | x :: l => by have := qq_nonneg l; have := sq_nonneg x.2; simp only [qq, List.map_cons, sm] at *; omega
theorem cauchy (l : List (Int × Int)) : pq l * pq l ≤ pp l * qq l := by
  have hA := pp_nonneg l
  have hB := qq_nonneg l
  have hf := fun s t => form_nonneg s t l
  generalize pp l = A at *
  generalize qq l = B at *
  generalize pq l = C at *
  rcases (by omega : B = 0 ∨ 0 < B) with h0 | h0
  · subst h0
    have h := hf 1 (-(A + 1) * C)
    rcases Int.lt_trichotomy C 0 with hc | hc | hc
    · exfalso
      have h1 : 1 ≤ C * C := by have := Int.mul_nonneg (show 0 ≤ -C - 1 by omega) (show 0 ≤ -C + 1 by omega); grind
      have h2 := Int.mul_nonneg (show 0 ≤ A + 1 by omega) (show 0 ≤ C * C - 1 by omega)
      grind
    · subst hc; simp
    · exfalso
      have h1 : 1 ≤ C * C := by have := Int.mul_nonneg (show 0 ≤ C - 1 by omega) (show 0 ≤ C + 1 by omega); grind
      have h2 := Int.mul_nonneg (show 0 ≤ A + 1 by omega) (show 0 ≤ C * C - 1 by omega)
      grind
  · have h := hf B (-C)
    have h1 : 0 ≤ B * (A * B - C * C) := by grind
    rcases Int.lt_or_le (A * B - C * C) 0 with h2 | h2
    · exfalso
      have := Int.mul_neg_of_pos_of_neg h0 h2
      omega
    · omega
theorem ab_sq (x : Int) : ab x * ab x = x * x := by
  rcases Int.le_total 0 x with h | h
  · rw [show ab x = x by unfold ab; omega]
  · rw [show ab x = -x by unfold ab; omega, Int.neg_mul_neg]
theorem mx_ge {v : List Int} {x : Int} (h : x ∈ v) : ab x ≤ mx v := by
  induction v with
  | nil => cases h
  | cons y v ih =>
    simp only [mx]
    rcases List.mem_cons.1 h with rfl | h
    · omega
    · have := ih h; omega
theorem mx_le_sm : ∀ v : List Int, mx v ≤ sm (v.map ab)
  | [] => by simp [mx, sm]
  | x :: v => by have := mx_le_sm v; have := ab_nonneg x; have := sm_ab_nonneg v; simp only [mx, List.map_cons, sm]; omega
theorem sm_ab_le {M : Int} : ∀ v : List Int, (∀ x ∈ v, ab x ≤ M) → sm (v.map ab) ≤ v.length * M
  | [], _ => by simp [sm]
  | x :: v, h => by
    have := sm_ab_le v fun y hy => h y (by simp [hy])
    have := h x (by simp)
    simp only [List.map_cons, sm, List.length_cons]
    have e : ((v.length + 1 : Nat) : Int) * M = v.length * M + M := by push_cast; rw [Int.add_mul, Int.one_mul]
    omega
theorem sm_sq_le {M : Int} : ∀ v : List Int, (∀ x ∈ v, ab x ≤ M) → sm (v.map fun x => x * x) ≤ M * sm (v.map ab)
  | [], _ => by simp [sm]
  | x :: v, h => by
    have h1 := sm_sq_le v fun y hy => h y (by simp [hy])
    have h2 := h x (by simp)
    have h3 := Int.mul_le_mul_of_nonneg_right h2 (ab_nonneg x)
    rw [ab_sq] at h3
    simp only [List.map_cons, sm]
    rw [Int.mul_add]
    omega
theorem sq_le_sm {x : Int} : ∀ v : List Int, x ∈ v → x * x ≤ sm (v.map fun x => x * x)
  | [], h => by cases h
  | y :: v, h => by
    simp only [List.map_cons, sm]
    have h1 := sq_nonneg y
    have h2 := sm_sq_nonneg v
    rcases List.mem_cons.1 h with rfl | h
    · omega
    · have := sq_le_sm v h; omega
theorem mx_at : ∀ v : List Int, mx v = 0 ∨ ∃ x ∈ v, ab x = mx v
  | [] => .inl rfl
  | x :: v => by
    have h0 := mx_nonneg v
    have h1 := ab_nonneg x
    rcases (by omega : mx v ≤ ab x ∨ ab x < mx v) with h | h
    · exact .inr ⟨x, by simp, by simp only [mx]; omega⟩
    · rcases mx_at v with h2 | ⟨y, hy, h2⟩
      · omega
      · exact .inr ⟨y, by simp [hy], by simp only [mx]; omega⟩
theorem mx_sq_le (v : List Int) : mx v * mx v ≤ sm (v.map fun x => x * x) := by
  rcases mx_at v with h | ⟨x, hx, h⟩
  · rw [h]; have := sm_sq_nonneg v; omega
  · rw [← h, ab_sq]; exact sq_le_sm v hx
theorem ones (v : List Int) : pp (v.map fun x => (ab x, 1)) = sm (v.map fun x => x * x) ∧ qq (v.map fun x => (ab x, 1)) = v.length ∧ pq (v.map fun x => (ab x, 1)) = sm (v.map ab) := by
  induction v with
  | nil => simp [pp, qq, pq, sm]
  | cons x v ih =>
    obtain ⟨h1, h2, h3⟩ := ih
    simp only [pp, qq, pq, List.map_cons, sm, List.length_cons, ab_sq] at h1 h2 h3 ⊢
    rw [h1, h2, h3]
    refine ⟨rfl, by omega, by omega⟩
theorem sm_ab_sq (v : List Int) : sm (v.map ab) * sm (v.map ab) ≤ v.length * sm (v.map fun x => x * x) := by
  have := cauchy (v.map fun x => (ab x, 1))
  obtain ⟨h1, h2, h3⟩ := ones v
  rw [h1, h2, h3] at this
  rw [Int.mul_comm (v.length : Int)]
  exact this
theorem norms (v : List Int) : norm 3 v ≤ norm 1 v ∧ norm 1 v ≤ v.length * norm 3 v ∧ norm 3 v * norm 3 v ≤ norm 2 v ∧ norm 2 v ≤ norm 3 v * norm 1 v ∧ norm 1 v * norm 1 v ≤ v.length * norm 2 v ∧ dot v v = norm 2 v := by
  rw [norm1, norm2, norm3]
  refine ⟨mx_le_sm v, sm_ab_le v fun x hx => mx_ge hx, mx_sq_le v, sm_sq_le v fun x hx => mx_ge hx, sm_ab_sq v, ?_⟩
  rw [dot_sm]
  congr 1
  have : v.zip v = v.map fun x => (x, x) := by induction v with
    | nil => rfl
    | cons x v ih => simpa using ih
  rw [this, List.map_map]
  rfl
theorem key2_dot {a b : List Int} (h : a.length = b.length) : key 2 a b = norm 2 a + norm 2 b - 2 * dot a b := by
  rw [key, norm2, norm2, norm2, dot_sm]
  induction a, b, h using two_elim with
  | nil =>
    simp [sub, sm]
  | cons x y a b h ih =>
    simp only [sub, List.zip_cons_cons, List.map_cons, sm] at ih ⊢
    grind
theorem norm_mul_bd {m n d : Int} (h1 : 0 ≤ m) (h2 : m ≤ d) (h3 : 0 ≤ n) (h4 : n ≤ 200000000) (hd : d ≤ 200000000) : 0 ≤ m * n ∧ m * n ≤ 40000000000000000 := by
  have := Int.mul_nonneg h1 h3
  have a := Int.mul_le_mul_of_nonneg_right (show m ≤ 200000000 by omega) h3
  omega
/-- keys are distances -/
theorem ab_add (x y : Int) : ab (x + y) ≤ ab x + ab y := by unfold ab; omega
theorem sub_add {a b c : List Int} (h : a.length = b.length) (h' : b.length = c.length) : sub a c = ((sub a b).zip (sub b c)).map fun p => p.1 + p.2 := by
  revert c
  induction a, b, h using two_elim with
  | nil =>
    intro c h; simp [sub]
  | cons x y a b h ih =>
    intro c hc
    cases c with
    | nil => simp at hc
    | cons z c =>
      have := ih (c := c) (by simpa using hc)
      simp only [sub, List.zip_cons_cons, List.map_cons] at this ⊢
      rw [this]
      congr 1
      omega
theorem sub_neg {a b : List Int} : sub b a = (sub a b).map fun x => -x := by
  induction a generalizing b with
  | nil => simp [sub]
  | cons x a ih =>
    cases b with
    | nil => simp [sub]
    | cons y b =>
      have := ih (b := b)
      simp only [sub, List.zip_cons_cons, List.map_cons] at this ⊢
      rw [this]
      congr 1
      omega
theorem norm_neg (m : Int) (v : List Int) : norm m (v.map fun x => -x) = norm m v := by
  have : ∀ n x, grow m n (-x) = grow m n x := by
    intro n x
    unfold grow
    split
    · omega
    · split
      · rw [Int.neg_mul_neg]
      · split <;> omega
  rw [norm, List.foldl_map, norm]
  congr 1
  funext n x
  exact this n x
theorem key_comm (m : Int) (a b : List Int) : key m a b = key m b a := by
  rw [key, key, sub_neg (a := b) (b := a), norm_neg]
theorem sm_zero : ∀ {v : List Int} {f : Int → Int}, (∀ x, 0 ≤ f x) → (∀ x, f x = 0 → x = 0) → sm (v.map f) = 0 → ∀ x ∈ v, x = 0
  | [], _, _, _, _ => by intro x hx; cases hx
  | y :: v, f, h0, h1, h => by
    have h2 : 0 ≤ sm (v.map f) := sm_nonneg fun z hz => by obtain ⟨u, _, rfl⟩ := List.mem_map.1 hz; exact h0 u
    have h3 := h0 y
    simp only [List.map_cons, sm] at h
    intro x hx
    rcases List.mem_cons.1 hx with rfl | hx
    · exact h1 x (by omega)
    · exact sm_zero h0 h1 (by omega) x hx
theorem mul_self_zero {x : Int} (h : x * x = 0) : x = 0 := by
  rcases Int.mul_eq_zero.1 h with h | h <;> exact h
theorem norm_zero {m : Int} (h1 : 1 ≤ m) (h3 : m ≤ 3) {v : List Int} (h : norm m v = 0) : ∀ x ∈ v, x = 0 := by
  rcases (by omega : m = 1 ∨ m = 2 ∨ m = 3) with rfl | rfl | rfl
  · rw [norm1] at h
    exact sm_zero ab_nonneg (fun x hx => by unfold ab at hx; omega) h
  · rw [norm2] at h
    exact sm_zero sq_nonneg (fun x hx => mul_self_zero hx) h
  · rw [norm3] at h
    intro x hx
    have := mx_ge hx
    have := ab_nonneg x
    unfold ab at *
    omega
theorem sub_zero {a b : List Int} (h : a.length = b.length) : (∀ x ∈ sub a b, x = 0) → a = b := by
  induction a, b, h using two_elim with
  | nil =>
    intro _; rfl
  | cons x y a b h ih =>
    intro hz
    simp only [sub, List.zip_cons_cons, List.map_cons] at hz
    have h1 := hz (x - y) (by simp)
    have h2 := ih fun z hz' => hz z (by simp only [List.mem_cons]; exact .inr hz')
    rw [h2, show x = y by omega]
theorem norm_self (m : Int) (a : List Int) : key m a a = 0 := by
  have h : ∀ x ∈ sub a a, x = 0 := by
    intro x hx
    obtain ⟨p, hp, rfl⟩ := List.mem_map.1 hx
    obtain ⟨i, hi, rfl⟩ := List.mem_iff_getElem.1 hp
    simp
  have : sub a a = List.replicate (sub a a).length 0 := List.eq_replicate_iff.2 ⟨rfl, h⟩
  rw [key, this]
  generalize (sub a a).length = n
  have h2 : ∀ (n : Nat) (c : Int), (c = 0) → (List.replicate n (0 : Int)).foldl (grow m) c = 0 := by
    intro n
    induction n with
    | zero => intro c hc; simpa using hc
    | succ n ih =>
      intro c hc
      rw [List.replicate_succ, List.foldl_cons]
      refine ih _ ?_
      subst hc
      unfold grow
      split
      · omega
      · split
        · omega
        · split <;> omega
  exact h2 n 0 rfl
theorem key_zero {m : Int} (h1 : 1 ≤ m) (h3 : m ≤ 3) {a b : List Int} (h : a.length = b.length) : key m a b = 0 ↔ a = b :=
  ⟨fun hk => sub_zero h (norm_zero h1 h3 hk), fun hk => by rw [hk]; exact norm_self m b⟩
theorem tri1 {u v : List Int} : u.length = v.length → sm (((u.zip v).map fun p => p.1 + p.2).map ab) ≤ sm (u.map ab) + sm (v.map ab) := by
  intro hl0
  induction u, v, hl0 using two_elim with
  | nil =>
    simp [sm]
  | cons x y a b h ih =>
    have := ab_add x y
    simp only [List.zip_cons_cons, List.map_cons, sm] at ih ⊢
    omega
theorem tri3 {u v : List Int} : u.length = v.length → mx ((u.zip v).map fun p => p.1 + p.2) ≤ mx u + mx v := by
  intro hl0
  induction u, v, hl0 using two_elim with
  | nil =>
    simp [mx]
  | cons x y a b h ih =>
    have := ab_add x y
    simp only [List.zip_cons_cons, List.map_cons, mx] at ih ⊢
    omega
theorem tri2 {u v : List Int} : u.length = v.length → sm (((u.zip v).map fun p => p.1 + p.2).map fun x => x * x) = sm (u.map fun x => x * x) + sm (v.map fun x => x * x) + 2 * pq (u.zip v) ∧ pp (u.zip v) = sm (u.map fun x => x * x) ∧ qq (u.zip v) = sm (v.map fun x => x * x) := by
  intro hl0
  induction u, v, hl0 using two_elim with
  | nil =>
    simp [sm, pq, pp, qq]
  | cons x y a b h ih =>
    obtain ⟨h1, h2, h3⟩ := ih
    simp only [List.zip_cons_cons, List.map_cons, sm, pq, pp, qq] at h1 h2 h3 ⊢
    refine ⟨by grind, by omega, by omega⟩
theorem triangle {m : Int} (h1 : 1 ≤ m) (h3 : m ≤ 3) (h2 : m ≠ 2) {a b c : List Int} (h : a.length = b.length) (h' : b.length = c.length) : key m a c ≤ key m a b + key m b c := by
  have hl : (sub a b).length = (sub b c).length := by rw [sub_length h, sub_length h']; exact h
  rw [key, sub_add h h', key, key]
  rcases (by omega : m = 1 ∨ m = 3) with rfl | rfl
  · rw [norm1, norm1, norm1]; exact tri1 hl
  · rw [norm3, norm3, norm3]; exact tri3 hl
theorem triangle2 {a b c : List Int} (h : a.length = b.length) (h' : b.length = c.length) : (key 2 a c - key 2 a b - key 2 b c) * (key 2 a c - key 2 a b - key 2 b c) ≤ 4 * key 2 a b * key 2 b c := by
  have hl : (sub a b).length = (sub b c).length := by rw [sub_length h, sub_length h']; exact h
  have e : key 2 a c = norm 2 (((sub a b).zip (sub b c)).map fun p => p.1 + p.2) := by rw [key, sub_add h h']
  obtain ⟨e1, e2, e3⟩ := tri2 hl
  have hc := cauchy ((sub a b).zip (sub b c))
  rw [e2, e3] at hc
  rw [e, key, key, norm2, norm2, norm2, e1]
  grind
end Go.Proofs.Yteeianandjokaaa.vq
/- Roots of keys, and what they bound. No program here. -/
namespace Go.Proofs.Yteeianandjokaaa.me
/-- the greatest number whose square is at most n -/
def isq : Nat → Nat
  | 0 => 0
  | n + 1 => if (isq n + 1) * (isq n + 1) ≤ n + 1 then isq n + 1 else isq n
theorem isq_spec : ∀ n, isq n * isq n ≤ n ∧ n < (isq n + 1) * (isq n + 1)
  | 0 => by simp [isq]
  | n + 1 => by
    obtain ⟨h1, h2⟩ := isq_spec n
    rw [show isq (n + 1) = if (isq n + 1) * (isq n + 1) ≤ n + 1 then isq n + 1 else isq n from rfl]
    generalize isq n = r at *
    split
    · refine ⟨‹_›, ?_⟩
      have : (r + 1 + 1) * (r + 1 + 1) = (r + 1) * (r + 1) + 2 * (r + 1) + 1 := by grind
      omega
    · exact ⟨by omega, by omega⟩
def rt (x : Int) : Int := (isq x.toNat : Int)
theorem rt_nonneg (x : Int) : 0 ≤ rt x := by unfold rt; omega
theorem rt_sq {x : Int} (h : 0 ≤ x) : rt x * rt x ≤ x ∧ x < (rt x + 1) * (rt x + 1) := by
  obtain ⟨h1, h2⟩ := isq_spec x.toNat
  unfold rt
  obtain ⟨n, rfl⟩ := Int.eq_ofNat_of_zero_le h
  simp only [Int.toNat_natCast] at *
  generalize isq n = r at *
  constructor
  · exact_mod_cast h1
  · exact_mod_cast h2
theorem sq_le {a b : Int} (h : 0 ≤ a) (h2 : a ≤ b) : a * a ≤ b * b := Int.mul_le_mul h2 h2 h (by omega)
theorem sq_nonneg (a : Int) : 0 ≤ a * a := by
  rcases Int.le_total 0 a with h | h
  · exact Int.mul_nonneg h h
  · rw [← Int.neg_mul_neg]; exact Int.mul_nonneg (by omega) (by omega)
theorem le_rt {x : Int} (h : 0 ≤ x) (k : Int) : k ≤ rt x ↔ k ≤ 0 ∨ k * k ≤ x := by
  obtain ⟨h1, h2⟩ := rt_sq h
  have h0 := rt_nonneg x
  generalize rt x = r at *
  constructor
  · intro hk
    by_cases hk0 : k ≤ 0
    · exact .inl hk0
    · have := sq_le (by omega) hk; exact .inr (by omega)
  · rintro (hk | hk)
    · omega
    · by_cases hr : k ≤ r
      · exact hr
      · have := sq_le (show 0 ≤ r + 1 by omega) (show r + 1 ≤ k by omega); omega
theorem rt_unique {x k : Int} (hk : 0 ≤ k) (h1 : k * k ≤ x) (h2 : x < (k + 1) * (k + 1)) : rt x = k := by
  have hx : 0 ≤ x := by have := sq_nonneg k; omega
  have a := (le_rt hx k).2 (.inr h1)
  have b := le_rt hx (k + 1)
  have c : ¬ (k + 1 ≤ rt x) := fun hh => by rcases b.1 hh with q | q <;> omega
  omega
theorem rt_mono {x y : Int} (h : 0 ≤ x) (h2 : x ≤ y) : rt x ≤ rt y := by
  refine (le_rt (by omega) _).2 (.inr ?_)
  have := (rt_sq h).1
  omega
theorem rt_zero : rt 0 = 0 := rfl
theorem sq_lt {a b : Int} (h : 0 ≤ b) (h2 : a * a < b * b) : a < b := by
  rcases Int.lt_or_le a b with q | q
  · exact q
  · have := sq_le h q; omega
/-- what three keys of squares fulfil, symmetric in them -/
def H (a b t : Int) : Prop := a * a + b * b + t * t ≤ 2 * (a * b) + 2 * (b * t) + 2 * (a * t)
theorem H_iff (a b t : Int) : (a + b - t) * (a + b - t) ≤ 4 * a * b ↔ H a b t := by
  have e : (a + b - t) * (a + b - t) = a * a + b * b + t * t + 2 * (a * b) - 2 * (b * t) - 2 * (a * t) := by grind
  have e2 : 4 * a * b = 4 * (a * b) := Int.mul_assoc ..
  unfold H
  omega
theorem H_swap {a b t : Int} : H a b t ↔ H a t b := by
  unfold H
  rw [Int.mul_comm t b]
  omega
theorem H_comm {a b t : Int} : H a b t ↔ H b a t := by
  unfold H
  rw [Int.mul_comm b a]
  omega
def mk : Int := 134217728
def low (m a b : Int) : Int := if m = 2 then a + b - rt (4 * a * b) else max (a - b) (b - a)
def high (m a b : Int) : Int := min (if m = 2 then a + b + rt (4 * a * b) else a + b) 134217728
theorem four_nonneg {a b : Int} (ha : 0 ≤ a) (hb : 0 ≤ b) : 0 ≤ 4 * a * b := Int.mul_nonneg (by omega) hb
theorem low2_le {a b : Int} (ha : 0 ≤ a) (hb : 0 ≤ b) (t : Int) : low 2 a b ≤ t ↔ a + b ≤ t ∨ H a b t := by
  have h := le_rt (four_nonneg ha hb) (a + b - t)
  rw [H_iff] at h
  simp only [low, if_pos]
  constructor
  · intro q
    rcases h.1 (by omega) with r | r
    · exact .inl (by omega)
    · exact .inr r
  · intro q
    have := h.2 (by rcases q with q | q; exact .inl (by omega); exact .inr q)
    omega
theorem le_high2 {a b : Int} (ha : 0 ≤ a) (hb : 0 ≤ b) {t : Int} (ht : t ≤ 134217728) : t ≤ high 2 a b ↔ t ≤ a + b ∨ H a b t := by
  have h := le_rt (four_nonneg ha hb) (t - a - b)
  have e : (t - a - b) * (t - a - b) = (a + b - t) * (a + b - t) := by grind
  rw [e, H_iff] at h
  simp only [high, if_pos]
  constructor
  · intro q
    rcases h.1 (by omega) with r | r
    · exact .inl (by omega)
    · exact .inr r
  · intro q
    have := h.2 (by rcases q with q | q; exact .inl (by omega); exact .inr q)
    omega
def rlo (m a t : Int) : Int := if a ≤ t then 0 else low m a t
theorem ring_iff {m a t b : Int} (ha : 0 ≤ a) (ht : 0 ≤ t) (hb : 0 ≤ b) (hb2 : b ≤ 134217728) : (rlo m a t ≤ b ∧ b ≤ high m a t) ↔ low m a b ≤ t := by
  by_cases hm : m = 2
  · subst hm
    rw [low2_le ha hb, le_high2 ha ht hb2]
    unfold rlo
    rw [H_swap (a := a) (b := t)]
    split
    · rename_i hat
      constructor
      · rintro ⟨-, q | q⟩
        · by_cases s : a + b ≤ t
          · exact .inl s
          · refine .inr ((H_iff ..).1 ?_)
            have h1 := sq_le (show 0 ≤ a + t - b by omega) (show a + t - b ≤ 2 * a by omega)
            have h2 := Int.mul_le_mul_of_nonneg_left hat ha
            have e1 : (a + t - b) * (a + t - b) = (a + b - t) * (a + b - t) + 4 * (a * t) - 4 * (a * b) := by grind
            have e2 : 4 * a * b = 4 * (a * b) := Int.mul_assoc ..
            have e3 : 2 * a * (2 * a) = 4 * (a * a) := by grind
            omega
        · exact .inr q
      · rintro (q | q)
        · exact ⟨hb, .inl (by omega)⟩
        · exact ⟨hb, .inr q⟩
    · rename_i hat
      rw [low2_le ha ht, H_swap (a := a) (b := t)]
      constructor
      · rintro ⟨p | p, q | q⟩
        · refine .inr ((H_iff ..).1 ?_)
          obtain rfl : b = a + t := by omega
          have e : (a + (a + t) - t) * (a + (a + t) - t) = 4 * (a * a) := by grind
          have e2 : 4 * a * (a + t) = 4 * (a * a) + 4 * (a * t) := by grind
          have := Int.mul_nonneg ha ht
          omega
        · exact .inr q
        · exact .inr p
        · exact .inr p
      · rintro (q | q)
        · omega
        · exact ⟨.inr q, .inr q⟩
  · unfold rlo low high
    simp only [if_neg hm]
    omega
theorem low_self {m a : Int} (ha : 0 ≤ a) : low m a a = 0 := by
  unfold low
  split
  · rw [rt_unique (k := 2 * a) (by omega) (by grind) (by grind)]; omega
  · omega
theorem low_comm (m a b : Int) : low m a b = low m b a := by
  unfold low
  have : 4 * a * b = 4 * b * a := by grind
  rw [this]
  split <;> omega
theorem high_comm (m a b : Int) : high m a b = high m b a := by
  unfold high
  have : 4 * a * b = 4 * b * a := by grind
  rw [this]
  split <;> omega
theorem high_zero {m a : Int} (ha : a ≤ 134217728) : high m a 0 = a := by
  unfold high
  rw [Int.mul_zero, rt_zero]
  split <;> omega
theorem rt_le_add {a b : Int} (ha : 0 ≤ a) (hb : 0 ≤ b) : rt (4 * a * b) ≤ a + b := by
  have h := le_rt (four_nonneg ha hb) (a + b + 1)
  have e : (a + b + 1) * (a + b + 1) = (a - b) * (a - b) + 4 * a * b + 2 * (a + b) + 1 := by grind
  have := sq_nonneg (a - b)
  have : ¬ (a + b + 1 ≤ rt (4 * a * b)) := fun q => by rcases h.1 q with r | r <;> omega
  omega
theorem low_nonneg {m a b : Int} (ha : 0 ≤ a) (hb : 0 ≤ b) : 0 ≤ low m a b := by
  unfold low
  have := rt_le_add ha hb
  split <;> omega
theorem low_le_add {m a b : Int} (ha : 0 ≤ a) (hb : 0 ≤ b) : low m a b ≤ a + b := by
  unfold low
  have := rt_nonneg (4 * a * b)
  split <;> omega
theorem high_le (m a b : Int) : high m a b ≤ 134217728 := by unfold high; omega
theorem high_nonneg {m a b : Int} (ha : 0 ≤ a) (hb : 0 ≤ b) : 0 ≤ high m a b := by
  unfold high
  have := rt_nonneg (4 * a * b)
  split <;> omega
theorem a_in {m a t : Int} (ha : 0 ≤ a) (ha2 : a ≤ 134217728) (ht : 0 ≤ t) : rlo m a t ≤ a ∧ a ≤ high m a t :=
  (ring_iff ha ht ha ha2).2 (by rw [low_self ha]; exact ht)
theorem low_away {m a x y : Int} (ha : 0 ≤ a) (ha2 : a ≤ 134217728) (hy : 0 ≤ y) (hy2 : y ≤ 134217728) (h : a ≤ x ∧ x ≤ y ∨ y ≤ x ∧ x ≤ a) : low m a x ≤ low m a y := by
  have ht := low_nonneg (m := m) ha hy
  obtain ⟨p, q⟩ := a_in (m := m) ha ha2 ht
  obtain ⟨r, s⟩ := (ring_iff (m := m) ha ht hy hy2).2 (Int.le_refl _)
  exact (ring_iff ha ht (by omega) (by omega)).1 ⟨by omega, by omega⟩
theorem high_grow {m a x y : Int} (ha : 0 ≤ a) (hx : 0 ≤ x) (h : x ≤ y) : high m a x ≤ high m a y := by
  have h2 : 4 * a * x ≤ 4 * a * y := Int.mul_le_mul_of_nonneg_left h (by omega)
  have := rt_mono (four_nonneg ha hx) h2
  unfold high
  split <;> omega
def near (a lo hi : Int) : Int := max lo (min a hi)
def gap (m lo hi a : Int) : Int := low m a (near a lo hi)
theorem gap_eq {m lo hi a : Int} (h : lo ≤ hi) (ha : 0 ≤ a) : gap m lo hi a = if a < lo then low m a lo else if hi < a then low m a hi else 0 := by
  unfold gap near
  split
  · rw [show max lo (min a hi) = lo by omega]
  · split
    · rw [show max lo (min a hi) = hi by omega]
    · rw [show max lo (min a hi) = a by omega, low_self ha]
theorem gap_zero {m lo hi a : Int} (h : lo ≤ hi) (ha : 0 ≤ a) (ha2 : a ≤ 134217728) (hl : 0 ≤ lo) (hh : hi ≤ 134217728) : gap m lo hi a = 0 ↔ rlo m a 0 ≤ hi ∧ lo ≤ high m a 0 := by
  have e : near a lo hi = max lo (min a hi) := rfl
  have r := ring_iff (m := m) (b := near a lo hi) ha (Int.le_refl 0) (by omega) (by omega)
  have z := low_nonneg (m := m) (b := near a lo hi) ha (by omega)
  obtain ⟨p, q⟩ := a_in (m := m) ha ha2 (Int.le_refl 0)
  unfold gap
  constructor
  · intro g
    obtain ⟨x, y⟩ := r.2 (by omega)
    omega
  · rintro ⟨x, y⟩
    have := r.1 ⟨by omega, by omega⟩
    omega
theorem gap_le {m lo hi a b : Int} (h : lo ≤ b) (h2 : b ≤ hi) (ha : 0 ≤ a) (ha2 : a ≤ 134217728) (hl : 0 ≤ lo) (hh : hi ≤ 134217728) : gap m lo hi a ≤ low m a b := by
  unfold gap
  have e : near a lo hi = max lo (min a hi) := rfl
  exact low_away ha ha2 (by omega) (by omega) (by omega)
/-- points on a line -/
theorem low_sq {d e : Int} (hd : 0 ≤ d) (he : 0 ≤ e) : low 2 (d * d) (e * e) = (max d e - min d e) * (max d e - min d e) := by
  simp only [low, if_pos]
  have hde := Int.mul_nonneg hd he
  rw [rt_unique (k := 2 * (d * e)) (by omega) (by grind) (by grind)]
  rcases Int.le_total d e with h | h
  · rw [Int.max_eq_right h, Int.min_eq_left h]; grind
  · rw [Int.max_eq_left h, Int.min_eq_right h]; grind
theorem high_sq {d e : Int} (hd : 0 ≤ d) (he : 0 ≤ e) : high 2 (d * d) (e * e) = min ((d + e) * (d + e)) 134217728 := by
  simp only [high, if_pos]
  have hde := Int.mul_nonneg hd he
  rw [rt_unique (k := 2 * (d * e)) (by omega) (by grind) (by grind)]
  congr 1
  grind
/-- three points -/
theorem tri_of {m a b c : Int} (ha : 0 ≤ a) (hb : 0 ≤ b) (hc : c ≤ 134217728) (h1 : m ≠ 2 → a ≤ b + c ∧ b ≤ a + c ∧ c ≤ a + b) (h2 : m = 2 → H a b c) : low m a b ≤ c ∧ c ≤ high m a b := by
  by_cases hm : m = 2
  · subst hm
    rw [low2_le ha hb, le_high2 ha hb hc]
    exact ⟨.inr (h2 rfl), .inr (h2 rfl)⟩
  · have := h1 hm
    unfold low high
    simp only [if_neg hm]
    omega
/-- Newton's steps -/
theorem newton_ge {n r : Int} (hn : 0 ≤ n) (hr : 0 < r) : rt n ≤ (r + n / r) / 2 := by
  have h1 := (rt_sq hn).1
  have h0 := rt_nonneg n
  have h2 := Int.lt_ediv_add_one_mul_self n hr
  have h3 : 0 ≤ n / r := Int.ediv_nonneg hn (by omega)
  generalize n / r = q at *
  generalize rt n = s at *
  have h4 : s * s < (q + 1) * r := by omega
  have e : (q + 1 + r) * (q + 1 + r) = (q + 1 - r) * (q + 1 - r) + 4 * ((q + 1) * r) := by grind
  have := sq_nonneg (q + 1 - r)
  have e2 : (2 * s) * (2 * s) = 4 * (s * s) := by grind
  have := sq_lt (a := 2 * s) (b := q + 1 + r) (by omega) (by omega)
  omega
theorem newton_stop {n r : Int} (hn : 0 ≤ n) (hr : 0 < r) (h : r ≤ (r + n / r) / 2) : r ≤ rt n := by
  have h2 := Int.ediv_mul_le n (show r ≠ 0 by omega)
  have h3 : r ≤ n / r := by omega
  have h4 := Int.mul_le_mul_of_nonneg_right h3 (show 0 ≤ r by omega)
  exact (le_rt hn r).2 (.inr (by omega))
end Go.Proofs.Yteeianandjokaaa.me
/- Short codes, plainly. No program here. -/
namespace Go.Proofs.Yteeianandjokaaa.cq

open Go.Proofs.Yteeianandjokaaa.vq

set_option linter.unusedVariables false
abbrev VV := List (List Int)
structure Bk where
  d : Int
  cuts : List Int
  W : List VV
theorem zipAt {α β : Type} {a : List α} {b : List β} {k : Nat} {x : α} {y : β} (h : a[k]? = some x) (h' : b[k]? = some y) : (a.zip b)[k]? = some (x, y) := by
  simp [List.zip, List.getElem?_zipWith, h, h']
/-- where the parts are -/
def ends (cuts : List Int) (d : Int) : List Int := cuts.drop 1 ++ [d]
def sp (cuts : List Int) (d : Int) : List (Int × Int) := cuts.zip (ends cuts d)
def asc (p : Int × Int) : Bool := decide (p.1 < p.2)
def ascs (l : List (Int × Int)) : Bool := l.all asc
def divided (d : Int) (cuts : List Int) : Bool :=
  decide (1 ≤ d) && decide (d ≤ 32) && decide (1 ≤ cuts.length) && decide (cuts.length ≤ 8) && decide (cuts.headD 1 = 0) && ascs (sp cuts d)
def areWords (l : VV) (n : Int) : Bool := decide (1 ≤ l.length) && decide (l.length ≤ 256) && l.all fun w => decide ((w.length : Int) = n) && valid w
def wok (p : VV × (Int × Int)) : Bool := areWords p.1 (p.2.2 - p.2.1)
def check (b : Bk) : Bool := divided b.d b.cuts && decide (b.W.length = b.cuts.length) && (b.W.zip (sp b.cuts b.d)).all wok
theorem sp_len (cuts : List Int) (d : Int) : (sp cuts d).length = cuts.length := by
  simp only [sp, ends, List.length_zip, List.length_append, List.length_drop, List.length_cons, List.length_nil]
  omega
def endAt (cuts : List Int) (d : Int) (k : Nat) : Int := cuts.getD (k + 1) d
theorem sp_at {cuts : List Int} {d : Int} {k : Nat} {x : Int} (h : cuts[k]? = some x) : (sp cuts d)[k]? = some (x, endAt cuts d k) := by
  have hk := (List.getElem?_eq_some_iff.1 h).1
  refine zipAt h ?_
  unfold ends endAt
  rcases Nat.lt_or_ge (k + 1) cuts.length with h1 | h1
  · rw [List.getElem?_append_left (by rw [List.length_drop]; omega), List.getElem?_drop, Nat.add_comm 1 k]
    rw [List.getD_eq_getElem?_getD, List.getElem?_eq_getElem h1]; rfl
  · rw [List.getElem?_append_right (by rw [List.length_drop]; omega), List.length_drop, show k - (cuts.length - 1) = 0 by omega]
    rw [List.getD_eq_getElem?_getD, List.getElem?_eq_none h1]; rfl
theorem endAt_in {cuts : List Int} {d : Int} {k : Nat} {y : Int} (h : cuts[k + 1]? = some y) : endAt cuts d k = y := by
  rw [endAt, List.getD_eq_getElem?_getD, h]; rfl
theorem endAt_out {cuts : List Int} {d : Int} {k : Nat} (h : cuts.length ≤ k + 1) : endAt cuts d k = d := by
  rw [endAt, List.getD_eq_getElem?_getD, List.getElem?_eq_none h]; rfl
/-- one part behind the other -/
def chain : Int → List (Int × Int) → Int → Prop
  | a, [], d => a = d
  | a, (x, y) :: l, d => x = a ∧ x < y ∧ chain y l d
theorem sp_cons (x : Int) (l : List Int) (d : Int) : sp (x :: l) d = (x, l.headD d) :: sp l d := by
  cases l with
  | nil => rfl
  | cons y l => rfl
theorem chain_of : ∀ (l : List Int) (a d : Int), l.headD d = a → (sp l d).all asc = true → chain a (sp l d) d
  | [], a, d, h, _ => h.symm
  | x :: l, a, d, h, ha => by
    rw [sp_cons] at ha ⊢
    simp only [List.all_cons, Bool.and_eq_true] at ha
    refine ⟨h, by simpa [asc] using ha.1, chain_of l _ d rfl ha.2⟩
theorem chain_le : ∀ (l : List (Int × Int)) (a d : Int), chain a l d → a ≤ d
  | [], a, d, h => by have h : a = d := h; omega
  | (x, y) :: l, a, d, h => by have := chain_le l y d h.2.2; have := h.1; have := h.2.1; omega
theorem chain_in : ∀ (l : List (Int × Int)) (a d : Int), chain a l d → ∀ p ∈ l, a ≤ p.1 ∧ p.1 < p.2 ∧ p.2 ≤ d
  | [], a, d, h => by intro p hp; cases hp
  | (x, y) :: l, a, d, h => by
    intro p hp
    have h1 := chain_le l y d h.2.2
    have h2 := h.1
    have h3 := h.2.1
    rcases List.mem_cons.1 hp with rfl | hp
    · exact ⟨by show a ≤ x; omega, h3, h1⟩
    · have := chain_in l y d h.2.2 p hp
      omega
structure Div (d : Int) (cuts : List Int) : Prop where
  d1 : 1 ≤ d
  d32 : d ≤ 32
  n1 : 1 ≤ cuts.length
  n8 : cuts.length ≤ 8
  ch : chain 0 (sp cuts d) d
theorem Div.at {d : Int} {cuts : List Int} (h : Div d cuts) {k : Nat} {x : Int} (hx : cuts[k]? = some x) : 0 ≤ x ∧ x < endAt cuts d k ∧ endAt cuts d k ≤ d :=
  chain_in _ _ _ h.ch _ (List.mem_of_getElem? (sp_at hx))
theorem div_of {d : Int} {cuts : List Int} (h : divided d cuts = true) : Div d cuts := by
  simp only [divided, Bool.and_eq_true, decide_eq_true_eq] at h
  obtain ⟨⟨⟨⟨⟨h1, h2⟩, h3⟩, h4⟩, h5⟩, h6⟩ := h
  refine ⟨h1, h2, h3, h4, chain_of _ _ _ ?_ h6⟩
  cases cuts with
  | nil => simp at h3
  | cons x l => simpa using h5
structure Rt (b : Bk) : Prop where
  div : Div b.d b.cuts
  wl : b.W.length = b.cuts.length
  ok : ∀ k l x, b.W[k]? = some l → b.cuts[k]? = some x → (1 ≤ l.length ∧ l.length ≤ 256) ∧ ∀ w ∈ l, (w.length : Int) = endAt b.cuts b.d k - x ∧ Vec w
  dv : divided b.d b.cuts = true
theorem areWords_iff {l : VV} {n : Int} : areWords l n = true ↔ (1 ≤ l.length ∧ l.length ≤ 256) ∧ ∀ w ∈ l, (w.length : Int) = n ∧ Vec w := by
  simp [areWords, List.all_eq_true, valid_iff, and_assoc]
theorem rt_of {b : Bk} (h : check b = true) : Rt b := by
  simp only [check, Bool.and_eq_true, decide_eq_true_eq, List.all_eq_true] at h
  obtain ⟨⟨h1, h2⟩, h3⟩ := h
  refine ⟨div_of h1, h2, fun k l x hl hx => ?_, h1⟩
  exact areWords_iff.1 (h3 _ (List.mem_of_getElem? (zipAt hl (sp_at (d := b.d) hx))))
/-- the part of a vector -/
def pt (v : List Int) (p : Int × Int) : List Int := (v.drop p.1.toNat).take (p.2.toNat - p.1.toNat)
theorem pt_len {v : List Int} {p : Int × Int} (h0 : 0 ≤ p.1) (h1 : p.1 ≤ p.2) (h2 : p.2 ≤ v.length) : ((pt v p).length : Int) = p.2 - p.1 := by
  simp only [pt, List.length_take, List.length_drop]; omega
theorem pt_flat {v : List Int} : ∀ (l : List (Int × Int)) (a d : Int), chain a l d → 0 ≤ a → (v.length : Int) = d → (l.map (pt v)).flatten = v.drop a.toNat
  | [], a, d, h, h0, hd => by
    have h : a = d := h
    simp only [List.map_nil, List.flatten_nil]
    rw [List.drop_of_length_le (by omega)]
  | (x, y) :: l, a, d, h, h0, hd => by
    obtain ⟨h1, h2, h3⟩ := h
    subst h1
    rw [List.map_cons, List.flatten_cons, pt_flat l y d h3 (by omega) hd]
    have e : v.drop y.toNat = (v.drop x.toNat).drop (y.toNat - x.toNat) := by rw [List.drop_drop]; congr 1; omega
    rw [e, pt]
    exact List.take_append_drop _ _
theorem vec_part {v : List Int} (h : Vec v) {p : Int × Int} (h0 : 0 ≤ p.1) (h1 : p.1 < p.2) (h2 : p.2 ≤ v.length) : Vec (pt v p) := by
  have hl := pt_len h0 (Int.le_of_lt h1) h2
  have hle := h.le
  refine ⟨by omega, by omega, fun x hx => h.lo x (List.mem_of_mem_drop (List.mem_of_mem_take hx)), fun x hx => h.hi x (List.mem_of_mem_drop (List.mem_of_mem_take hx))⟩
/-- keys of parts are put together -/
def put (m acc x : Int) : Int := if m = 3 then max acc x else acc + x
def comb (m : Int) (l : List Int) : Int := l.foldl (put m) 0
theorem key_nonneg (m : Int) (a b : List Int) : 0 ≤ key m a b := norm_nonneg m _
theorem foldl_put {m : Int} (h1 : 1 ≤ m) (h3 : m ≤ 3) (v : List Int) {acc : Int} (h : 0 ≤ acc) : v.foldl (grow m) acc = put m acc (norm m v) := by
  rcases (by omega : m = 1 ∨ m = 2 ∨ m = 3) with rfl | rfl | rfl
  · have : grow 1 = fun s x => s + ab x := by funext n x; simp [grow, ab]
    simp only [norm1, put]
    rw [this, foldl_sm]; simp
  · have : grow 2 = fun s x => s + x * x := by funext n x; simp [grow]
    simp only [norm2, put]
    rw [this, foldl_sm]; simp
  · rw [foldl_mx v acc h, norm3]; simp [put]
theorem sub_append {a b c d : List Int} (h : a.length = b.length) : sub (a ++ c) (b ++ d) = sub a b ++ sub c d := by
  simp only [sub, List.zip_append h, List.map_append]
theorem put_nonneg {m acc x : Int} (h : 0 ≤ acc) (hx : 0 ≤ x) : 0 ≤ put m acc x := by unfold put; split <;> omega
theorem foldl_key {m : Int} (h1 : 1 ≤ m) (h3 : m ≤ 3) : ∀ (A B : VV) (acc : Int), A.length = B.length → (∀ (k : Nat) (a b : List Int), A[k]? = some a → B[k]? = some b → a.length = b.length) → 0 ≤ acc →
    (sub A.flatten B.flatten).foldl (grow m) acc = (List.zipWith (key m) A B).foldl (put m) acc
  | [], [], acc, _, _, _ => by simp [sub]
  | [], _ :: _, _, h, _, _ => by simp at h
  | _ :: _, [], _, h, _, _ => by simp at h
  | a :: A, b :: B, acc, h, hl, h0 => by
    have h2 := hl 0 a b rfl rfl
    rw [List.flatten_cons, List.flatten_cons, sub_append h2, List.foldl_append, foldl_put h1 h3 _ h0, List.zipWith_cons_cons, List.foldl_cons]
    exact foldl_key h1 h3 A B _ (by simpa using h) (fun k x y hx hy => hl (k + 1) x y (by simpa using hx) (by simpa using hy)) (put_nonneg h0 (norm_nonneg m _))
theorem key_flat {m : Int} (h1 : 1 ≤ m) (h3 : m ≤ 3) {A B : VV} (h : A.length = B.length) (hl : ∀ (k : Nat) (a b : List Int), A[k]? = some a → B[k]? = some b → a.length = b.length) : key m A.flatten B.flatten = comb m (List.zipWith (key m) A B) :=
  foldl_key h1 h3 A B 0 h hl (by omega)
/-- the place of the least key -/
def lstep (l : List Int) (b i : Nat) : Nat := if l.getD i 0 < l.getD b 0 then i else b
def lstk (l : List Int) (k : Nat) : Nat := (List.range k).foldl (lstep l) 0
def lst (l : List Int) : Nat := lstk l l.length
theorem lstk_succ (l : List Int) (k : Nat) : lstk l (k + 1) = lstep l (lstk l k) k := by
  unfold lstk; rw [List.range_succ, List.foldl_append]; rfl
theorem lstk_lt (l : List Int) : ∀ k, lstk l k ≤ k - 1
  | 0 => by simp [lstk]
  | k + 1 => by have := lstk_lt l k; rw [lstk_succ]; unfold lstep; split <;> omega
theorem lst_lt {l : List Int} (h : 1 ≤ l.length) : lst l < l.length := by have := lstk_lt l l.length; unfold lst; omega
theorem lstk_le (l : List Int) : ∀ k i, i < k → l.getD (lstk l k) 0 ≤ l.getD i 0
  | 0, i, h => by omega
  | k + 1, i, h => by
    have ih := lstk_le l k
    rw [lstk_succ]
    unfold lstep
    split
    · rename_i hlt
      rcases Nat.lt_or_ge i k with h1 | h1
      · have := ih i h1; omega
      · rw [show i = k by omega]; omega
    · rename_i hlt
      rcases Nat.lt_or_ge i k with h1 | h1
      · exact ih i h1
      · rw [show i = k by omega]; omega
theorem lst_le {l : List Int} {i : Nat} (h : i < l.length) : l.getD (lst l) 0 ≤ l.getD i 0 := lstk_le l _ i h
/-- the place of the greatest, the first one -/
def gstep (l : List Int) (b i : Nat) : Nat := if l.getD b 0 < l.getD i 0 then i else b
def gstk (l : List Int) (k : Nat) : Nat := (List.range k).foldl (gstep l) 0
def gst (l : List Int) : Nat := gstk l l.length
theorem gstk_succ (l : List Int) (k : Nat) : gstk l (k + 1) = gstep l (gstk l k) k := by
  unfold gstk; rw [List.range_succ, List.foldl_append]; rfl
theorem gstk_lt (l : List Int) : ∀ k, gstk l k ≤ k - 1
  | 0 => by simp [gstk]
  | k + 1 => by have := gstk_lt l k; rw [gstk_succ]; unfold gstep; split <;> omega
theorem gst_lt {l : List Int} (h : 1 ≤ l.length) : gst l < l.length := by have := gstk_lt l l.length; unfold gst; omega
theorem gstk_ge (l : List Int) : ∀ k i, i < k → l.getD i 0 ≤ l.getD (gstk l k) 0 ∧ (i < gstk l k → l.getD i 0 < l.getD (gstk l k) 0)
  | 0, i, h => by omega
  | k + 1, i, h => by
    have ih := gstk_ge l k
    have hb := gstk_lt l k
    rw [gstk_succ]
    unfold gstep
    split
    · rename_i hlt
      rcases Nat.lt_or_ge i k with h1 | h1
      · have := (ih i h1).1; exact ⟨by omega, fun _ => by omega⟩
      · rw [show i = k by omega]; exact ⟨by omega, fun h => by omega⟩
    · rename_i hlt
      rcases Nat.lt_or_ge i k with h1 | h1
      · exact ih i h1
      · rw [show i = k by omega]; exact ⟨by omega, fun h => by omega⟩
theorem gst_ge {l : List Int} {i : Nat} (h : i < l.length) : l.getD i 0 ≤ l.getD (gst l) 0 := (gstk_ge l _ i h).1
theorem gst_first {l : List Int} {i : Nat} (h : i < gst l) (h1 : 1 ≤ l.length) : l.getD i 0 < l.getD (gst l) 0 := (gstk_ge l _ i (by have := gst_lt h1; omega)).2 h
/-- codes -/
def trow (m : Int) (q : List Int) (p : VV × (Int × Int)) : List Int := p.1.map fun w => key m w (pt q p.2)
def tbl (m : Int) (b : Bk) (q : List Int) : VV := (b.W.zip (sp b.cuts b.d)).map (trow m q)
def enc (m : Int) (b : Bk) (v : List Int) : List Int := (tbl m b v).map fun r => (lst r : Int)
def cok1 (p : VV × Int) : Bool := decide (0 ≤ p.2) && decide (p.2 < (p.1.length : Int))
def cok (b : Bk) (c : List Int) : Bool := decide (c.length = b.W.length) && (b.W.zip c).all cok1
def chosen (b : Bk) (c : List Int) : VV := List.zipWith (fun ws i => ws.getD (Int.toNat i) []) b.W c
def dec (b : Bk) (c : List Int) : List Int := if cok b c then (chosen b c).flatten else []
def res (m : Int) (b : Bk) (v : List Int) : Int := key m v (dec b (enc m b v))
def take1 (r : List Int) (i : Int) : Int := r.getD i.toNat 0
def sumc (m : Int) (t : VV) (c : List Int) : Int := comb m (List.zipWith take1 t c)
def worst (m : Int) (b : Bk) (l : VV) : Int := l.foldl (fun x v => max x (res m b v)) 0
end Go.Proofs.Yteeianandjokaaa.cq
/- Codes, plainly: what they stand for, sums, nearest ones. No program here. -/
namespace Go.Proofs.Yteeianandjokaaa.cq

open Go.Proofs.Yteeianandjokaaa.vq

set_option linter.unusedVariables false
theorem flat_len : ∀ (X : VV) (C : List (Int × Int)) (a d : Int), chain a C d → X.length = C.length → (∀ (k : Nat) (x : List Int) (p : Int × Int), X[k]? = some x → C[k]? = some p → (x.length : Int) = p.2 - p.1) → (X.flatten.length : Int) = d - a
  | [], [], a, d, h, _, _ => by have h : a = d := h; simp; omega
  | [], _ :: _, _, _, _, h, _ => by simp at h
  | _ :: _, [], _, _, _, h, _ => by simp at h
  | x :: X, (p, q) :: C, a, d, h, hl, hk => by
    have ih := flat_len X C q d h.2.2 (by simpa using hl) (fun k y r h1 h2 => hk (k + 1) y r (by simpa using h1) (by simpa using h2))
    have h0 := hk 0 x (p, q) rfl rfl
    have := h.1
    simp only [List.flatten_cons, List.length_append]
    dsimp only at h0
    omega
theorem chosen_at {b : Bk} {c : List Int} {k : Nat} {l : VV} {i : Int} (hl : b.W[k]? = some l) (hi : c[k]? = some i) : (chosen b c)[k]? = some (l.getD i.toNat []) := by
  simp [chosen, List.getElem?_zipWith, hl, hi]
theorem all_take {α : Type} {l : List α} {p : α → Bool} {k : Nat} {x : α} (h : l[k]? = some x) : (l.take (k + 1)).all p = ((l.take k).all p && p x) := by
  rw [List.take_add_one, h, List.all_append]; simp
theorem cok_iff {b : Bk} {c : List Int} : cok b c = true ↔ c.length = b.W.length ∧ ∀ (k : Nat) (l : VV) (i : Int), b.W[k]? = some l → c[k]? = some i → 0 ≤ i ∧ i < (l.length : Int) := by
  simp only [cok, Bool.and_eq_true, decide_eq_true_eq, List.all_eq_true]
  refine ⟨fun ⟨h1, h2⟩ => ⟨h1, fun k l i hl hi => ?_⟩, fun ⟨h1, h2⟩ => ⟨h1, fun p hp => ?_⟩⟩
  · have := h2 _ (List.mem_of_getElem? (zipAt hl hi))
    simpa [cok1] using this
  · obtain ⟨k, hk, rfl⟩ := List.mem_iff_getElem.1 hp
    have hk2 : k < b.W.length ∧ k < c.length := by rw [List.length_zip] at hk; omega
    have := h2 k _ _ (List.getElem?_eq_getElem hk2.1) (List.getElem?_eq_getElem hk2.2)
    simpa [cok1] using this
theorem chosen_len {b : Bk} {c : List Int} (h : c.length = b.W.length) : (chosen b c).length = b.W.length := by
  simp [chosen, h]
theorem getD_at {α : Type} {l : List α} {i : Nat} {d : α} (h : i < l.length) : l[i]? = some (l.getD i d) := by
  rw [List.getD_eq_getElem?_getD, List.getElem?_eq_getElem h]; rfl
/-- a word that is chosen -/
theorem chosen_word {b : Bk} (hR : Rt b) {c : List Int} (hc : cok b c = true) {k : Nat} {x : List Int} (hx : (chosen b c)[k]? = some x) : ∃ y, b.cuts[k]? = some y ∧ (x.length : Int) = endAt b.cuts b.d k - y ∧ Vec x := by
  obtain ⟨h1, h2⟩ := cok_iff.1 hc
  have hk := (List.getElem?_eq_some_iff.1 hx).1
  rw [chosen_len h1] at hk
  have hl := List.getElem?_eq_getElem hk
  have hi := List.getElem?_eq_getElem (show k < c.length by omega)
  have hy := List.getElem?_eq_getElem (show k < b.cuts.length by rw [← hR.wl]; exact hk)
  have h3 := h2 k _ _ hl hi
  rw [chosen_at hl hi] at hx
  injection hx with hx
  have hm : x ∈ b.W[k] := by rw [← hx]; exact List.mem_of_getElem? (getD_at (d := []) (by omega))
  have h4 := (hR.ok k _ _ hl hy).2 x hm
  exact ⟨_, hy, h4.1, h4.2⟩
theorem dec_len {b : Bk} (hR : Rt b) {c : List Int} (hc : cok b c = true) : ((dec b c).length : Int) = b.d := by
  rw [dec, if_pos hc]
  have hcl := (cok_iff.1 hc).1
  have := flat_len (chosen b c) (sp b.cuts b.d) 0 b.d hR.div.ch (by rw [chosen_len hcl, sp_len, hR.wl]) (fun k x p h1 h2 => by
    obtain ⟨y, hy, hl, _⟩ := chosen_word hR hc h1
    rw [sp_at hy] at h2
    injection h2 with h2
    subst h2
    exact hl)
  omega
theorem dec_vec {b : Bk} (hR : Rt b) {c : List Int} (hc : cok b c = true) : Vec (dec b c) := by
  have hl := dec_len hR hc
  have d1 := hR.div.d1
  have d2 := hR.div.d32
  have hm : ∀ x ∈ dec b c, -1000 ≤ x ∧ x ≤ 1000 := fun x hx => by
    rw [dec, if_pos hc] at hx
    obtain ⟨w, hw, hx⟩ := List.mem_flatten.1 hx
    obtain ⟨k, hk, rfl⟩ := List.mem_iff_getElem.1 hw
    obtain ⟨y, hy, _, hv⟩ := chosen_word hR hc (List.getElem?_eq_getElem hk)
    exact ⟨hv.lo x hx, hv.hi x hx⟩
  exact ⟨by omega, by omega, fun x hx => (hm x hx).1, fun x hx => (hm x hx).2⟩
theorem tbl_at {m : Int} {b : Bk} {q : List Int} {k : Nat} {l : VV} {y : Int} (hl : b.W[k]? = some l) (hy : b.cuts[k]? = some y) : (tbl m b q)[k]? = some (trow m q (l, (y, endAt b.cuts b.d k))) := by
  unfold tbl
  rw [List.getElem?_map, zipAt hl (sp_at hy)]; rfl
theorem tbl_len {m : Int} {b : Bk} (hR : Rt b) (q : List Int) : (tbl m b q).length = b.W.length := by
  unfold tbl
  rw [List.length_map, List.length_zip, sp_len, hR.wl]; omega
theorem trow_at {m : Int} {q : List Int} {l : VV} {p : Int × Int} {i : Nat} {w : List Int} (h : l[i]? = some w) : (trow m q (l, p)).getD i 0 = key m w (pt q p) := by
  unfold trow
  rw [List.getD_eq_getElem?_getD, List.getElem?_map, h]; rfl
theorem trow_len {m : Int} {q : List Int} {l : VV} {p : Int × Int} : (trow m q (l, p)).length = l.length := by simp [trow]
theorem enc_at {m : Int} {b : Bk} {q : List Int} {k : Nat} {l : VV} {y : Int} (hl : b.W[k]? = some l) (hy : b.cuts[k]? = some y) : (enc m b q)[k]? = some (lst (trow m q (l, (y, endAt b.cuts b.d k))) : Int) := by
  unfold enc
  rw [List.getElem?_map, tbl_at hl hy]; rfl
theorem enc_cok {m : Int} {b : Bk} (hR : Rt b) (v : List Int) : cok b (enc m b v) = true := by
  rw [cok_iff]
  refine ⟨by unfold enc; rw [List.length_map, tbl_len hR], fun k l i hl hi => ?_⟩
  have hk := (List.getElem?_eq_some_iff.1 hl).1
  have hy := List.getElem?_eq_getElem (show k < b.cuts.length by rw [← hR.wl]; exact hk)
  rw [enc_at hl hy] at hi
  injection hi with hi
  have h1 := (hR.ok k _ _ hl hy).1.1
  have h2 := lst_lt (l := trow m v (l, (b.cuts[k]'(by rw [← hR.wl]; exact hk), endAt b.cuts b.d k))) (by rw [trow_len]; exact h1)
  rw [trow_len] at h2
  omega
/-- the sum of what a code chooses is a key -/
theorem sum_key {m : Int} (h1 : 1 ≤ m) (h3 : m ≤ 3) {b : Bk} (hR : Rt b) {q c : List Int} (hq : (q.length : Int) = b.d) (hc : cok b c = true) : sumc m (tbl m b q) c = key m q (dec b c) := by
  obtain ⟨hcl, hci⟩ := cok_iff.1 hc
  have he : List.zipWith take1 (tbl m b q) c = List.zipWith (key m) (chosen b c) ((sp b.cuts b.d).map (pt q)) := by
    refine List.ext_getElem? fun k => ?_
    rcases Nat.lt_or_ge k b.W.length with hk | hk
    · have hl := List.getElem?_eq_getElem hk
      have hi := List.getElem?_eq_getElem (show k < c.length by omega)
      have hy := List.getElem?_eq_getElem (show k < b.cuts.length by rw [← hR.wl]; exact hk)
      have h5 := hci k _ _ hl hi
      rw [List.getElem?_zipWith, List.getElem?_zipWith, tbl_at hl hy, hi, chosen_at hl hi, List.getElem?_map, sp_at hy]
      simp only [Option.map_some]
      congr 1
      exact trow_at (getD_at (by omega))
    · rw [List.getElem?_eq_none (by rw [List.length_zipWith, tbl_len hR]; omega), List.getElem?_eq_none (by rw [List.length_zipWith, chosen_len hcl]; omega)]
  unfold sumc
  have hch := hR.div.ch
  have hkf := key_flat h1 h3 (A := chosen b c) (B := (sp b.cuts b.d).map (pt q)) (by rw [chosen_len hcl, List.length_map, sp_len, hR.wl]) (fun k x y hx hy => by
    obtain ⟨z, hz, hl, _⟩ := chosen_word hR hc hx
    rw [List.getElem?_map, sp_at hz] at hy
    simp only [Option.map_some, Option.some.injEq] at hy
    subst hy
    have hD := hR.div.at hz
    have := pt_len (v := q) (p := (z, endAt b.cuts b.d k)) hD.1 (by show z ≤ _; omega) (by show endAt b.cuts b.d k ≤ _; omega)
    dsimp only at this
    omega)
  rw [he, ← hkf, pt_flat _ 0 b.d hch (by omega) hq, key_comm, dec, if_pos hc]
  rfl
theorem comb_mono {m : Int} : ∀ (X Y : List Int) (a a' : Int), X.length = Y.length → a ≤ a' → (∀ (k : Nat) (x y : Int), X[k]? = some x → Y[k]? = some y → x ≤ y) → X.foldl (put m) a ≤ Y.foldl (put m) a'
  | [], [], a, a', _, h, _ => h
  | [], _ :: _, _, _, h, _, _ => by simp at h
  | _ :: _, [], _, _, h, _, _ => by simp at h
  | x :: X, y :: Y, a, a', hl, h, hk => by
    simp only [List.foldl_cons]
    refine comb_mono X Y _ _ (by simpa using hl) ?_ (fun k u v h1 h2 => hk (k + 1) u v (by simpa using h1) (by simpa using h2))
    have := hk 0 x y rfl rfl
    unfold put
    split <;> omega
theorem take1_at {m : Int} {b : Bk} {q c : List Int} {k : Nat} {l : VV} {y i : Int} (hl : b.W[k]? = some l) (hy : b.cuts[k]? = some y) (hi : c[k]? = some i) : (List.zipWith take1 (tbl m b q) c)[k]? = some ((trow m q (l, (y, endAt b.cuts b.d k))).getD i.toNat 0) := by
  rw [List.getElem?_zipWith, tbl_at hl hy, hi]; rfl
theorem sum_least {m : Int} {b : Bk} (hR : Rt b) {v c : List Int} (hc : cok b c = true) : sumc m (tbl m b v) (enc m b v) ≤ sumc m (tbl m b v) c := by
  obtain ⟨hcl, hci⟩ := cok_iff.1 hc
  obtain ⟨hel, hei⟩ := cok_iff.1 (enc_cok (m := m) hR v)
  refine comb_mono _ _ 0 0 (by rw [List.length_zipWith, List.length_zipWith, hel, hcl]) (Int.le_refl _) fun k x y hx hy => ?_
  have hk := (List.getElem?_eq_some_iff.1 hx).1
  rw [List.length_zipWith, tbl_len hR] at hk
  have hl := List.getElem?_eq_getElem (show k < b.W.length by omega)
  have hi := List.getElem?_eq_getElem (show k < c.length by omega)
  have hz := List.getElem?_eq_getElem (show k < b.cuts.length by rw [← hR.wl]; omega)
  rw [take1_at hl hz (enc_at hl hz)] at hx
  rw [take1_at hl hz hi] at hy
  injection hx with hx
  injection hy with hy
  have h5 := hci k _ _ hl hi
  rw [← hx, ← hy, Int.toNat_natCast]
  exact lst_le (by rw [trow_len]; omega)
theorem res_key {m : Int} (h1 : 1 ≤ m) (h3 : m ≤ 3) {b : Bk} (hR : Rt b) {v : List Int} (hv : (v.length : Int) = b.d) : res m b v = sumc m (tbl m b v) (enc m b v) := (sum_key h1 h3 hR hv (enc_cok hR v)).symm
theorem res_le {m : Int} (h1 : 1 ≤ m) (h3 : m ≤ 3) {b : Bk} (hR : Rt b) {v c : List Int} (hv : (v.length : Int) = b.d) (hc : cok b c = true) : res m b v ≤ key m v (dec b c) := by
  rw [res_key h1 h3 hR hv, ← sum_key h1 h3 hR hv hc]
  exact sum_least hR hc
theorem res_nonneg (m : Int) (b : Bk) (v : List Int) : 0 ≤ res m b v := key_nonneg m _ _
theorem res_zero {m : Int} (h1 : 1 ≤ m) (h3 : m ≤ 3) {b : Bk} (hR : Rt b) {c : List Int} (hc : cok b c = true) : res m b (dec b c) = 0 := by
  have h := res_le h1 h3 hR (dec_len hR hc) hc
  rw [norm_self] at h
  have := res_nonneg m b (dec b c)
  omega
theorem key_max {m : Int} {a b : List Int} (ha : Vec a) (hb : Vec b) (hl : a.length = b.length) : key m a b ≤ 134217728 := by
  have h := norm_bound (m := m) (v := sub a b) (sub_bound ha hb)
  rw [sub_length hl] at h
  have := ha.le
  unfold key
  omega
theorem tri_H {a b c : List Int} (h : a.length = b.length) (h' : b.length = c.length) : me.H (key 2 a b) (key 2 b c) (key 2 a c) := by
  have t := triangle2 h h'
  rw [← me.H_iff]
  have e : (key 2 a b + key 2 b c - key 2 a c) * (key 2 a b + key 2 b c - key 2 a c) = (key 2 a c - key 2 a b - key 2 b c) * (key 2 a c - key 2 a b - key 2 b c) := by grind
  rw [e]
  exact t
/-- the bounds hold -/
theorem bounds_hold {m : Int} (h1 : 1 ≤ m) (h3 : m ≤ 3) {q v x : List Int} (hq : Vec q) (hv : Vec v) (hx : Vec x) (e1 : q.length = v.length) (e2 : x.length = v.length) :
    me.low m (key m q x) (key m v x) ≤ key m q v ∧ key m q v ≤ me.high m (key m q x) (key m v x) := by
  refine me.tri_of (key_nonneg _ _ _) (key_nonneg _ _ _) (key_max hq hv e1) (fun hm => ?_) (fun hm => ?_)
  · have t1 := triangle h1 h3 hm (a := q) (b := v) (c := x) e1 e2.symm
    have t2 := triangle h1 h3 hm (a := v) (b := q) (c := x) e1.symm (by omega)
    have t3 := triangle h1 h3 hm (a := q) (b := x) (c := v) (by omega) e2
    rw [key_comm m v q] at t2
    rw [key_comm m x v] at t3
    omega
  · subst hm
    have t := tri_H (a := q) (b := x) (c := v) (by omega) e2
    rw [key_comm 2 x v] at t
    exact t
end Go.Proofs.Yteeianandjokaaa.cq
/- Pivots, plainly. No program here. -/
namespace Go.Proofs.Yteeianandjokaaa.pq

open Go.Proofs.Yteeianandjokaaa.vq Go.Proofs.Yteeianandjokaaa.cq

set_option linter.unusedVariables false
/-- the first of the greatest that are more than 0 -/
def gr (f : Nat → Int) : Nat → Nat × Int
  | 0 => (0, 0)
  | k + 1 => if (gr f k).2 < f k then (k, f k) else gr f k
theorem gr_nonneg (f : Nat → Int) : ∀ k, 0 ≤ (gr f k).2
  | 0 => Int.le_refl 0
  | k + 1 => by
    have ih := gr_nonneg f k
    rw [gr]
    split
    · show 0 ≤ f k; omega
    · exact ih
theorem gr_ge (f : Nat → Int) : ∀ k i, i < k → f i ≤ (gr f k).2
  | 0, i, h => by omega
  | k + 1, i, h => by
    have ih := gr_ge f k i
    rw [gr]
    rcases Nat.lt_or_ge i k with h1 | h1
    · have := ih h1
      split
      · show f i ≤ f k; omega
      · exact this
    · obtain rfl : i = k := by omega
      split
      · exact Int.le_refl _
      · omega
theorem gr_at (f : Nat → Int) : ∀ k, 0 < (gr f k).2 → (gr f k).1 < k ∧ f (gr f k).1 = (gr f k).2
  | 0, h => absurd h (Int.lt_irrefl 0)
  | k + 1, h => by
    rw [gr] at h ⊢
    split
    · exact ⟨Nat.lt_succ_self k, rfl⟩
    · rw [if_neg ‹_›] at h
      have ih := gr_at f k h
      exact ⟨by omega, ih.2⟩
theorem gr_zero (f : Nat → Int) : ∀ k, (gr f k).2 ≤ 0 → (gr f k).1 = 0
  | 0, _ => rfl
  | k + 1, h => by
    have h0 := gr_nonneg f k
    rw [gr] at h ⊢
    split
    · rw [if_pos ‹_›] at h; have h : f k ≤ 0 := h; omega
    · rw [if_neg ‹_›] at h; exact gr_zero f k h
theorem gr_lt (f : Nat → Int) (k : Nat) (h : 1 ≤ k) : (gr f k).1 < k := by
  by_cases h0 : 0 < (gr f k).2
  · exact (gr_at f k h0).1
  · rw [gr_zero f k (by omega)]; omega
theorem gr_first (f : Nat → Int) : ∀ k i, i < (gr f k).1 → f i < (gr f k).2
  | 0, i, h => absurd h (Nat.not_lt_zero i)
  | k + 1, i, h => by
    rw [gr] at h ⊢
    split
    · rename_i hc
      rw [if_pos hc] at h
      have := gr_ge f k i h
      show f i < f k
      omega
    · rename_i hc
      rw [if_neg hc] at h
      exact gr_first f k i h
theorem gr_congr {f g : Nat → Int} : ∀ k, (∀ i, i < k → f i = g i) → gr f k = gr g k
  | 0, _ => rfl
  | k + 1, h => by rw [gr, gr, gr_congr k (fun i hi => h i (by omega)), h k (by omega)]
def mxk (f : Nat → Int) : Nat → Int
  | 0 => 0
  | k + 1 => max (mxk f k) (f k)
def mnk (f : Nat → Int) : Nat → Int
  | 0 => 134217728
  | k + 1 => min (mnk f k) (f k)
theorem gr_mx (f : Nat → Int) : ∀ k, (gr f k).2 = mxk f k
  | 0 => rfl
  | k + 1 => by
    have ih := gr_mx f k
    rw [gr, mxk, ← ih]
    split
    · show f k = _; omega
    · omega
/-- the first of the least -/
def le (f : Nat → Int) (n : Nat) : Nat × Int := ((gr (fun i => 134217728 - f i) n).1, 134217728 - (gr (fun i => 134217728 - f i) n).2)
theorem le_mn (f : Nat → Int) : ∀ k, (le f k).2 = mnk f k
  | 0 => rfl
  | k + 1 => by
    have ih := le_mn f k
    unfold le at ih ⊢
    rw [gr, mnk, ← ih]
    dsimp only at ih ⊢
    split
    · show 134217728 - (134217728 - f k) = _; omega
    · omega
/-- the first of the least, from the first one on -/
def nr (f : Nat → Int) : Nat → Nat × Int
  | 0 => (0, f 0)
  | k + 1 => if f k < (nr f k).2 then (k, f k) else nr f k
theorem nr_le {f : Nat → Int} : ∀ k, (∀ i, i < k + 1 → f i ≤ 134217728) → nr f (k + 1) = le f (k + 1)
  | 0, h => by
    have h0 := h 0 (by omega)
    have e0 : nr f (0 + 1) = (0, f 0) := by rw [nr]; split <;> rfl
    have e1 : gr (fun i => 134217728 - f i) (0 + 1) = if 0 < 134217728 - f 0 then (0, 134217728 - f 0) else (0, 0) := rfl
    rw [e0]
    unfold le
    rw [e1]
    by_cases hc : 0 < 134217728 - f 0
    · rw [if_pos hc]
      show _ = ((0 : Nat), 134217728 - (134217728 - f 0))
      congr 1; omega
    · rw [if_neg hc]
      show ((0 : Nat), f 0) = (0, 134217728 - 0)
      congr 1; omega
  | k + 1, h => by
    have ih := nr_le k (fun i hi => h i (by omega))
    rw [nr, ih]
    unfold le
    rw [gr.eq_2 _ (k + 1)]
    dsimp only
    by_cases hc : f (k + 1) < 134217728 - (gr (fun i => 134217728 - f i) (k + 1)).2
    · rw [if_pos hc, if_pos (by omega)]
      show _ = ((k + 1 : Nat), 134217728 - (134217728 - f (k + 1)))
      congr 1; omega
    · rw [if_neg hc, if_neg (by omega)]
theorem mxk_le {f : Nat → Int} {c : Int} (h0 : 0 ≤ c) : ∀ k, (∀ i, i < k → f i ≤ c) → mxk f k ≤ c
  | 0, _ => h0
  | k + 1, h => by have := mxk_le h0 k (fun i hi => h i (by omega)); have := h k (by omega); rw [mxk]; omega
theorem mxk_ge {f : Nat → Int} : ∀ k i, i < k → f i ≤ mxk f k
  | 0, i, h => by omega
  | k + 1, i, h => by
    rw [mxk]
    rcases Nat.lt_or_ge i k with h1 | h1
    · have := mxk_ge (f := f) k i h1; omega
    · obtain rfl : i = k := by omega
      omega
theorem mxk_nonneg (f : Nat → Int) : ∀ k, 0 ≤ mxk f k
  | 0 => Int.le_refl 0
  | k + 1 => by have := mxk_nonneg f k; rw [mxk]; omega
theorem mnk_ge {f : Nat → Int} {c : Int} (h0 : c ≤ 134217728) : ∀ k, (∀ i, i < k → c ≤ f i) → c ≤ mnk f k
  | 0, _ => h0
  | k + 1, h => by have := mnk_ge h0 k (fun i hi => h i (by omega)); have := h k (by omega); rw [mnk]; omega
theorem mnk_le {f : Nat → Int} : ∀ k i, i < k → mnk f k ≤ f i
  | 0, i, h => by omega
  | k + 1, i, h => by
    rw [mnk]
    rcases Nat.lt_or_ge i k with h1 | h1
    · have := mnk_le (f := f) k i h1; omega
    · obtain rfl : i = k := by omega
      omega
theorem mnk_max (f : Nat → Int) : ∀ k, mnk f k ≤ 134217728
  | 0 => Int.le_refl _
  | k + 1 => by have := mnk_max f k; rw [mnk]; omega
theorem mnk_at {f : Nat → Int} : ∀ k, mnk f k < 134217728 → ∃ i, i < k ∧ f i = mnk f k
  | 0, h => absurd h (Int.lt_irrefl _)
  | k + 1, h => by
    rw [mnk] at h ⊢
    by_cases hc : f k ≤ mnk f k
    · exact ⟨k, by omega, by omega⟩
    · obtain ⟨i, hi, he⟩ := mnk_at (f := f) k (by omega)
      exact ⟨i, by omega, by omega⟩
theorem mxk_congr {f g : Nat → Int} : ∀ k, (∀ i, i < k → f i = g i) → mxk f k = mxk g k
  | 0, _ => rfl
  | k + 1, h => by rw [mxk, mxk, mxk_congr k (fun i hi => h i (by omega)), h k (by omega)]
theorem mnk_congr {f g : Nat → Int} : ∀ k, (∀ i, i < k → f i = g i) → mnk f k = mnk g k
  | 0, _ => rfl
  | k + 1, h => by rw [mnk, mnk, mnk_congr k (fun i hi => h i (by omega)), h k (by omega)]
/-- vectors that fit -/
def isM (m : Int) : Bool := decide (1 ≤ m ∧ m ≤ 3)
def fit (most : Nat) (L : VV) : Bool := decide (1 ≤ L.length) && (decide (L.length ≤ most) && L.all fun v => alike v (L.headD []))
def haveK (m : Int) (P L : VV) : Bool := isM m && (fit 8 P && (fit 4096 L && alike (P.headD []) (L.headD [])))
structure Fit (most d : Nat) (L : VV) : Prop where
  n1 : 1 ≤ L.length
  n2 : L.length ≤ most
  d1 : 1 ≤ d
  d2 : d ≤ 32
  ok : ∀ v ∈ L, v.length = d ∧ Vec v
theorem fit_of {most : Nat} {L : VV} (h : fit most L = true) : Fit most (L.headD []).length L := by
  simp only [fit, Bool.and_eq_true, decide_eq_true_eq, List.all_eq_true, alike_iff] at h
  obtain ⟨h1, h2, h3⟩ := h
  have hm : L.headD [] ∈ L := by cases L with
    | nil => simp at h1
    | cons x l => exact List.mem_cons_self ..
  have h4 := (h3 _ hm).2.1
  exact ⟨h1, h2, h4.pos, h4.le, fun v hv => ⟨(h3 v hv).1, (h3 v hv).2.1⟩⟩
theorem fit_iff {most : Nat} {L : VV} : fit most L = true ↔ 1 ≤ L.length ∧ L.length ≤ most ∧ ∀ v ∈ L, v.length = (L.headD []).length ∧ Vec v := by
  constructor
  · intro h; have := fit_of h; exact ⟨this.n1, this.n2, this.ok⟩
  · rintro ⟨h1, h2, h3⟩
    simp only [fit, Bool.and_eq_true, decide_eq_true_eq, List.all_eq_true, alike_iff]
    have hm : L.headD [] ∈ L := by cases L with
      | nil => simp at h1
      | cons x l => exact List.mem_cons_self ..
    exact ⟨h1, h2, fun v hv => ⟨(h3 v hv).1, (h3 v hv).2, (h3 _ hm).2⟩⟩
structure Have (m : Int) (d : Nat) (P L : VV) : Prop where
  m1 : 1 ≤ m
  m3 : m ≤ 3
  p : Fit 8 d P
  l : Fit 4096 d L
theorem have_of {m : Int} {P L : VV} (h : haveK m P L = true) : Have m (P.headD []).length P L := by
  simp only [haveK, isM, Bool.and_eq_true, decide_eq_true_eq] at h
  obtain ⟨⟨h1, h3⟩, h4, h5, h6⟩ := h
  have hl := fit_of h5
  rw [← (alike_iff.1 h6).1] at hl
  exact ⟨h1, h3, fit_of h4, hl⟩
theorem Fit.at {most d : Nat} {L : VV} (h : Fit most d L) {i : Nat} {v : List Int} (hv : L[i]? = some v) : v.length = d ∧ Vec v := h.ok v (List.mem_of_getElem? hv)
theorem Fit.head {most d : Nat} {L : VV} (h : Fit most d L) : (L.headD []).length = d ∧ Vec (L.headD []) := by
  have h1 := h.n1
  cases L with
  | nil => simp at h1
  | cons x l => exact h.ok _ (List.mem_cons_self ..)
theorem Fit.get {most d : Nat} {L : VV} (h : Fit most d L) {i : Nat} (hi : i < L.length) : (L.getD i []).length = d ∧ Vec (L.getD i []) := h.at (getD_at hi)
/-- keys -/
def kf (m : Int) (P : VV) (v : List Int) (i : Nat) : Int := key m (P.getD i []) v
def nearest (m : Int) (P : VV) (v : List Int) : Nat × Int := le (kf m P v) P.length
def nk (m : Int) (P : VV) (v : List Int) : Int := (nearest m P v).2
def cf (m : Int) (P L : VV) (i : Nat) : Int := nk m P (L.getD i [])
def cover (m : Int) (P L : VV) : Int := (gr (cf m P L) L.length).2
def keys (m : Int) (P : VV) (v : List Int) : List Int := P.map fun p => key m p v
def table (m : Int) (P L : VV) : VV := L.map (keys m P)
theorem key_bd {m : Int} {d : Nat} {a b : List Int} (ha : a.length = d ∧ Vec a) (hb : b.length = d ∧ Vec b) : 0 ≤ key m a b ∧ key m a b ≤ 134217728 :=
  ⟨key_nonneg m a b, key_max ha.2 hb.2 (by omega)⟩
theorem kf_bd {m : Int} {d most : Nat} {P : VV} {v : List Int} (h : Fit most d P) (hv : v.length = d ∧ Vec v) {i : Nat} (hi : i < P.length) : 0 ≤ kf m P v i ∧ kf m P v i ≤ 134217728 :=
  key_bd (h.get hi) hv
theorem nearest_lt (m : Int) {P : VV} (v : List Int) (h : 1 ≤ P.length) : (nearest m P v).1 < P.length := gr_lt _ _ h
theorem nk_mn (m : Int) (P : VV) (v : List Int) : nk m P v = mnk (kf m P v) P.length := le_mn _ _
theorem nk_bd {m : Int} {d most : Nat} {P : VV} {v : List Int} (h : Fit most d P) (hv : v.length = d ∧ Vec v) : 0 ≤ nk m P v ∧ nk m P v ≤ 134217728 := by
  rw [nk_mn]
  exact ⟨mnk_ge (by omega) _ (fun i hi => (kf_bd h hv hi).1), mnk_max _ _⟩
theorem nearest_bd {m : Int} {d most : Nat} {P : VV} {v : List Int} (h : Fit most d P) (hv : v.length = d ∧ Vec v) : 0 ≤ (nearest m P v).2 ∧ (nearest m P v).2 ≤ 134217728 := nk_bd h hv
theorem cover_mx (m : Int) (P L : VV) : cover m P L = mxk (cf m P L) L.length := gr_mx _ _
theorem cover_bd {m : Int} {d most : Nat} {P L : VV} (h : Fit most d P) {most' : Nat} (hl : Fit most' d L) : 0 ≤ cover m P L ∧ cover m P L ≤ 134217728 := by
  rw [cover_mx]
  exact ⟨mxk_nonneg _ _, mxk_le (by omega) _ (fun i hi => (nk_bd h (hl.get hi)).2)⟩
/-- shells -/
abbrev Sh := Int × Int
def sok (s : Sh) : Bool := decide (0 ≤ s.1 ∧ s.1 ≤ s.2 ∧ s.2 ≤ 134217728)
def svalid (S : List Sh) : Bool := decide (S.length ≤ 8) && S.all sok
def grow1 (s : Sh) (x : Int) : Sh := (min s.1 x, max s.2 x)
def shl (m : Int) (p : List Int) (L : VV) : Sh := (L.drop 1).foldl (fun s v => grow1 s (key m p v)) (key m p (L.headD []), key m p (L.headD []))
def shells (m : Int) (P L : VV) : List Sh := P.map fun p => shl m p L
def join1 (s t : Sh) : Sh := (min s.1 t.1, max s.2 t.2)
def joins (a b : List Sh) : List Sh := List.zipWith join1 a b
def in1 (p : Sh × Int) : Bool := decide (p.1.1 ≤ p.2 ∧ p.2 ≤ p.1.2)
def inn (S : List Sh) (ks : List Int) : Bool := decide (S.length = ks.length) && (svalid S && (S.zip ks).all in1)
def kok (x : Int) : Bool := decide (0 ≤ x ∧ x ≤ 134217728)
def asked (m : Int) (S : List Sh) (ks : List Int) : Bool := isM m && (decide (S.length = ks.length) && (svalid S && ks.all kok))
def gapf (m : Int) (S : List Sh) (ks : List Int) (i : Nat) : Int := me.gap m (S.getD i (0, 0)).1 (S.getD i (0, 0)).2 (ks.getD i 0)
def reaf (m : Int) (S : List Sh) (ks : List Int) (i : Nat) : Int := me.high m (ks.getD i 0) (S.getD i (0, 0)).2
def lowS (m : Int) (S : List Sh) (ks : List Int) : Int := (gr (gapf m S ks) S.length).2
def highS (m : Int) (S : List Sh) (ks : List Int) : Int := (le (reaf m S ks) S.length).2
theorem lowS_mx (m : Int) (S : List Sh) (ks : List Int) : lowS m S ks = mxk (gapf m S ks) S.length := gr_mx _ _
theorem highS_mn (m : Int) (S : List Sh) (ks : List Int) : highS m S ks = mnk (reaf m S ks) S.length := le_mn _ _
/-- pivots, farthest first -/
def ap (m : Int) (C : VV) (v : List Int) : Int := C.foldl (fun x p => min x (key m p v)) 134217728
def af (m : Int) (L : VV) (pl : List Nat) (i : Nat) : Int := ap m (pl.map fun k => L.getD k []) (L.getD i [])
def far (m : Int) (L : VV) (pl : List Nat) : Nat × Int := gr (af m L pl) L.length
def chN (m : Int) (L : VV) : Nat → List Nat → List Nat
  | 0, pl => pl
  | f + 1, pl => if (far m L pl).2 = 0 then pl else chN m L f (pl ++ [(far m L pl).1])
def choose (m : Int) (L : VV) (most : Int) : List Nat := chN m L most.toNat []
def cok' (m : Int) (L : VV) (most : Int) : Bool := isM m && (fit 4096 L && decide (1 ≤ most ∧ most ≤ 8))
theorem ap_snoc (m : Int) (C : VV) (v p : List Int) : ap m (C ++ [p]) v = min (ap m C v) (key m p v) := by
  unfold ap; rw [List.foldl_append]; rfl
theorem ap_le (m : Int) (v : List Int) : ∀ (C : VV) (a : Int), C.foldl (fun x p => min x (key m p v)) a ≤ a
  | [], a => Int.le_refl a
  | p :: C, a => by have := ap_le m v C (min a (key m p v)); rw [List.foldl_cons]; omega
theorem ap_mn (m : Int) (v : List Int) : ∀ (C : VV), ap m C v = mnk (kf m C v) C.length := by
  intro C
  have h : ∀ k, k ≤ C.length → ap m (C.take k) v = mnk (kf m C v) k := by
    intro k
    induction k with
    | zero => intro _; rfl
    | succ k ih =>
      intro hk
      have hc : C[k]? = some (C.getD k []) := getD_at (by omega)
      rw [take_snoc hc, ap_snoc, ih (by omega), mnk]
      rfl
  have := h C.length (Nat.le_refl _)
  rw [List.take_length] at this
  exact this
theorem ap_nonneg (m : Int) (v : List Int) : ∀ (C : VV) (a : Int), 0 ≤ a → 0 ≤ C.foldl (fun x p => min x (key m p v)) a
  | [], a, h => h
  | p :: C, a, h => by have := ap_nonneg m v C (min a (key m p v)) (by have := key_nonneg m p v; omega); rw [List.foldl_cons]; exact this
theorem ap_bd (m : Int) (C : VV) (v : List Int) : 0 ≤ ap m C v ∧ ap m C v ≤ 134217728 := ⟨ap_nonneg m v C _ (by omega), ap_le m v C _⟩
theorem ap_nk (m : Int) (C : VV) (v : List Int) : ap m C v = nk m C v := by rw [ap_mn, nk_mn]
theorem gr_const : ∀ k, gr (fun _ => 134217728) (k + 1) = (0, 134217728)
  | 0 => rfl
  | k + 1 => by rw [gr, gr_const k]; rfl
theorem far_nil (m : Int) {L : VV} (h : 1 ≤ L.length) : far m L [] = (0, 134217728) := by
  obtain ⟨k, hk⟩ : ∃ k, L.length = k + 1 := ⟨L.length - 1, by omega⟩
  unfold far
  rw [hk]
  have e : af m L [] = fun _ => 134217728 := rfl
  rw [e]
  exact gr_const k
theorem choose_first (m : Int) {L : VV} (h : 1 ≤ L.length) {most : Int} (hm : 1 ≤ most) : choose m L most = chN m L (most.toNat - 1) [0] := by
  obtain ⟨k, hk⟩ : ∃ k, most.toNat = k + 1 := ⟨most.toNat - 1, by omega⟩
  unfold choose
  rw [hk, chN, far_nil m h, if_neg (by decide)]
  rfl
theorem chN_len (m : Int) (L : VV) : ∀ (f : Nat) (pl : List Nat), pl.length ≤ (chN m L f pl).length ∧ (chN m L f pl).length ≤ pl.length + f
  | 0, pl => ⟨Nat.le_refl _, by rw [chN]; omega⟩
  | f + 1, pl => by
    rw [chN]
    split
    · omega
    · have := chN_len m L f (pl ++ [(far m L pl).1])
      simp only [List.length_append, List.length_singleton] at this
      omega
theorem chN_lt (m : Int) {L : VV} (h : 1 ≤ L.length) : ∀ (f : Nat) (pl : List Nat), (∀ i ∈ pl, i < L.length) → ∀ i ∈ chN m L f pl, i < L.length
  | 0, pl, hp => hp
  | f + 1, pl, hp => by
    rw [chN]
    split
    · exact hp
    · refine chN_lt m h f _ fun i hi => ?_
      rcases List.mem_append.1 hi with h1 | h1
      · exact hp i h1
      · rw [List.mem_singleton.1 h1]; exact gr_lt _ _ h
end Go.Proofs.Yteeianandjokaaa.pq
/- Slices of shells in memory. -/
namespace Go.Proofs.Yteeianandjokaaa.pk

open Go.ChangeShapes Go.WideShapes Go.ChangeAt Go.RowKit

open Go.Proofs.Yteeianandjokaaa.pq Go.Proofs.Yteeianandjokaaa.vk

set_option linter.unusedVariables false
theorem grownOf {w w' : World} (h : Below w.heap.size w w') : w.grownBy w' none := ⟨h.os, h.tape, h.output, h.size, fun k hk _ => h.block k hk⟩
theorem own_apart {w : World} {b1 b2 s1 s2 n1 n2 : Nat} {e1 e2 : TypeId} {v1 v2 : Value} {xs1 xs2 : List Value} (h1 : w.ownsRow b1 e1 s1 v1 n1 xs1) (h2 : w.ownsRow b2 e2 s2 v2 n2 xs2) (hne : e1 ≠ e2) : v2.ownBlock = none ∨ v2.ownBlock ≠ v1.ownBlock := by
  rcases h2.2 with ⟨rfl, _⟩ | ⟨g2, cap2, cur2, rfl, _, hh2, _⟩
  · exact .inl rfl
  · refine .inr fun he => ?_
    rcases h1.2 with ⟨rfl, _⟩ | ⟨g1, cap1, cur1, rfl, _, hh1, _⟩
    · cases he
    · have hg : g2 = g1 := by injection he
      subst hg
      rw [hh1] at hh2
      injection hh2 with hh
      injection hh with _ h3 _
      exact hne h3
theorem keptB {w w' : World} {B n size : Nat} {e : TypeId} {v : Value} {xs : List Value} (h : w.ownsRow B e size v n xs) (hb : Below w.heap.size w w') : w'.ownsRow B e size v n xs :=
  World.ownsRow.kept h (grownOf hb) (by cases v.ownBlock; left; rfl; right; simp)
def rv (r : Sh) : List Value := [.int .i64 r.1, .int .i64 r.2]
def fl (l : List Sh) : List Value := l.flatMap rv
def Wd (r : Sh) : Prop := (-9223372036854775808 ≤ r.1 ∧ r.1 ≤ 9223372036854775807) ∧ -9223372036854775808 ≤ r.2 ∧ r.2 ≤ 9223372036854775807
def IsS (w : World) (A : Option Addr) (n c : Nat) (l : List Sh) : Prop := l.length = n ∧ n ≤ c ∧ c ≤ 9223372036854775807 ∧ wp.RC w A (fl l) ∧ ∀ r ∈ l, Wd r
theorem isS_below {w w' : World} {A : Option Addr} {n c : Nat} {l : List Sh} (h : IsS w A n c l) (hb : Below w.heap.size w w') : IsS w' A n c l := ⟨h.1, h.2.1, h.2.2.1, h.2.2.2.1.below hb, h.2.2.2.2⟩
theorem isS_drewN {w : World} {A : Option Addr} {n c : Nat} {l : List Sh} (h : IsS w A n c l) (q : Nat) : IsS (w.drewN q) A n c l := h
theorem fl_length (l : List Sh) : (fl l).length = l.length * 2 := by
  induction l with
  | nil => rfl
  | cons a l ih => simp only [fl, rv, List.flatMap_cons, List.length_append, List.length_cons, List.length_nil] at ih ⊢; omega
theorem fl_append (a b : List Sh) : fl (a ++ b) = fl a ++ fl b := by simp [fl]
theorem fl_at : ∀ {l : List Sh} {k : Nat} {r : Sh}, l[k]? = some r → (fl l)[k * 2]? = some (.int .i64 r.1) ∧ (fl l)[k * 2 + 1]? = some (.int .i64 r.2)
  | [], k, r, h => by simp at h
  | a :: l, 0, r, h => by
    simp only [List.getElem?_cons_zero, Option.some.injEq] at h
    subst h
    exact ⟨rfl, rfl⟩
  | a :: l, k + 1, r, h => by
    rw [List.getElem?_cons_succ] at h
    have ih := fl_at h
    have e : fl (a :: l) = .int .i64 a.1 :: .int .i64 a.2 :: fl l := rfl
    rw [e, show (k + 1) * 2 = k * 2 + 1 + 1 by omega]
    simpa using ih
theorem isS_get {w : World} {A : Option Addr} {n c k : Nat} {l : List Sh} (h : IsS w A n c l) (hk : k < n) : ∃ b o r, A = some ⟨b, o, none⟩ ∧ w.cell? ⟨b, o + k * 2, none⟩ = some (.int .i64 r.1) ∧ w.cell? ⟨b, o + k * 2 + 1, none⟩ = some (.int .i64 r.2) ∧ b < w.heap.size ∧ l[k]? = some r ∧ Wd r := by
  have hkl : k < l.length := by rw [h.1]; exact hk
  obtain ⟨b, o, rfl, hb, hc⟩ := h.2.2.2.1 (by rw [fl_length]; omega)
  have hx := fl_at (List.getElem?_eq_getElem hkl)
  exact ⟨b, o, l[k], rfl, hc _ _ hx.1, hc _ _ hx.2, hb, List.getElem?_eq_getElem hkl, h.2.2.2.2 _ (List.getElem_mem hkl)⟩
theorem isS_of_own {w : World} {B n : Nat} {v : Value} {l : List Sh} (h : w.ownsRow B 65 2 v n (fl l)) (hb : ∀ r ∈ l, Wd r) : ∃ A c, v = .slice A n c ∧ IsS w A n c l := by
  have hl : l.length = n := by have := h.1; rw [fl_length] at this; omega
  rcases h.2 with ⟨hv, hn⟩ | ⟨g, cap, cur, hv, hb2, hh, h3, h4, h5, h6⟩
  · subst hv
    exact ⟨none, 0, by rw [hn], hl, by omega, by omega, fun hlt => by rw [fl_length] at hlt; omega, hb⟩
  · subst hv
    refine ⟨_, _, rfl, hl, h3, by unfold maxLen at h4; omega, ?_, hb⟩
    refine wo.rc_of fun i u hu => ?_
    exact h.cells rfl i u hu
theorem infoSh : (Try.prog.info? 65).map (fun i => (i.zero, i.size, i.bytes)) = some (some (.agg #[.int .i64 0, .int .i64 0]), 2, 16) := by kernel_rfl
theorem ones2 {a b : Int} : ∀ u ∈ [Value.int .i64 a, Value.int .i64 b], u.oneCell' = true := by
  intro u hu
  simp only [List.mem_cons, List.not_mem_nil, or_false] at hu
  rcases hu with rfl | rfl <;> rfl
def RowS (w : World) (g : Nat) (a b : Int) : Prop := w.heap[g]? = some (.cells #[.int .i64 a, .int .i64 b] 65 (0, 0))
theorem RowS.lt {w : World} {g : Nat} {a b : Int} (h : RowS w g a b) : g < w.heap.size := (Array.getElem?_eq_some_iff.1 h).1
theorem RowS.below {w w' : World} {g : Nat} {a b : Int} (h : RowS w g a b) (hb : Below w.heap.size w w') : RowS w' g a b := (hb.block g h.lt).trans h
theorem RowS.new (w : World) (a b : Int) : RowS (w.alloc (.cells #[.int .i64 a, .int .i64 b] 65)) w.heap.size a b := heap_alloc_new w _
theorem RowS.cells {w : World} {g : Nat} {a b : Int} (h : RowS w g a b) : ∀ j u, [Value.int .i64 a, Value.int .i64 b][j]? = some u → w.cell? ((⟨g, 0, none⟩ : Addr).add j) = some u := fun j u hu => by
  rw [wk.add_at, Nat.zero_add, cell_of_row _ _ _ _ _ _ h]
  simpa using hu
section

variable {H : Type} {enc : TypeId × Value → H} {w : World} {base : Nat} {spare : Nat → Bool} {held : Bool} {t e : TypeId} {a : Option Addr} {n c fuel : Nat} {x : DataW H × List MemPlace}
set_option maxRecDepth 100000 in
theorem openSh (h : DataW.trod enc Try.prog w base spare held fuel 48 [.slice a n c] = some x) : ∃ L, IsS w a n c L := by
  have hc : Try.prog.cellsOf 65 = 2 := by kernel_rfl
  rcases DataW.trod_slice Try.underlying48 h with ⟨hcs, _⟩ | ⟨ad, len, cap, elems, rest, m, _, hcs, _, hb, hl, hm, hlen, hel, _⟩
  · simp only [List.cons.injEq, Value.slice.injEq, and_true] at hcs
    obtain ⟨rfl, rfl, rfl⟩ := hcs
    exact ⟨[], rfl, Nat.le_refl _, by omega, fun h => absurd h (by simp [fl]), by simp⟩
  · simp only [List.cons.injEq, Value.slice.injEq, and_true] at hcs
    obtain ⟨rfl, rfl, rfl⟩ := hcs
    rw [hc] at hel
    have hone : ∀ i, i < n → ∃ r : Sh, Wd r ∧ w.cell? ((ad.add (i * 2)).add 0) = some (.int .i64 r.1) ∧ w.cell? ((ad.add (i * 2)).add 1) = some (.int .i64 r.2) := fun i hi => by
      have hi' := hel i hi
      rw [List.getElem?_eq_getElem (by omega)] at hi'
      cases hcc : w.cells? base (ad.add (i * 2)) 2 with
      | none => rw [hcc] at hi'; simp at hi'
      | some cs =>
        rw [hcc] at hi'
        simp only [Option.bind_some] at hi'
        obtain ⟨hlen1, _, hcell⟩ := World.cells?_some hcc
        match cs, hlen1 with
        | [c0, c1], _ =>
          obtain ⟨y0, y1, m, _, _, h0, h1⟩ := trod_struct2 Try.underlying65 hi'
          have hc1 : Try.prog.cellsOf 3 = 1 := by kernel_rfl
          rw [hc1] at h0 h1
          obtain ⟨z, hz, _, hwf⟩ := DataW.trod_int Try.underlying3 h0
          obtain ⟨z', hz', _, hwf'⟩ := DataW.trod_int Try.underlying3 h1
          simp at hz hz'
          subst hz
          subst hz'
          refine ⟨(z, z'), ⟨?_, ?_⟩, hcell 0 (by simp), hcell 1 (by simp)⟩
          · simpa [Lit.wf, IntKind.min, IntKind.max, IntKind.signed, IntKind.bits] using hwf
          · simpa [Lit.wf, IntKind.min, IntKind.max, IntKind.signed, IntKind.bits] using hwf'
    obtain ⟨L, hLl, hLq⟩ := wo.exists_list n hone
    refine ⟨L, hLl, hl, by unfold maxLen at hm; omega, ?_, fun r hr => ?_⟩
    · refine wo.rc_of fun j u hu => ?_
      have hj : j < n * 2 := by
        rcases Nat.lt_or_ge j (n * 2) with h' | h'
        · exact h'
        · rw [List.getElem?_eq_none (by rw [fl_length]; omega)] at hu; cases hu
      have hk : L[j / 2]? = some (L[j / 2]'(by omega)) := List.getElem?_eq_getElem _
      obtain ⟨_, q1, q2⟩ := hLq _ _ hk
      have f := fl_at hk
      obtain ⟨_, q0, _⟩ := hLq 0 _ (List.getElem?_eq_getElem (show 0 < L.length by omega))
      obtain ⟨b, o, rfl⟩ := wo.at_plain (ad := ad) (by simpa [Addr.add] using q0)
      rcases Nat.mod_two_eq_zero_or_one j with h2 | h2
      · have e : j / 2 * 2 = j := by omega
        rw [e] at f q1
        rw [f.1] at hu
        rw [← hu, ← q1, wk.add_at, wk.add_at, Nat.add_zero]
      · have e : j / 2 * 2 + 1 = j := by omega
        have e' : ((⟨b, o, none⟩ : Addr).add (j / 2 * 2)).add 1 = (⟨b, o, none⟩ : Addr).add j := by rw [wk.add_at, wk.add_at, wk.add_at, Nat.add_assoc, e]
        rw [e'] at q2
        rw [e] at f
        rw [f.2] at hu
        rw [← hu, ← q2]
    · obtain ⟨i, hi, rfl⟩ := List.mem_iff_getElem.1 hr
      exact (hLq i _ (List.getElem?_eq_getElem hi)).1
end

end Go.Proofs.Yteeianandjokaaa.pk
/- Boxes, plainly. No program here. -/
namespace Go.Proofs.Yteeianandjokaaa.bq

open Go.Proofs.Yteeianandjokaaa
abbrev Pair := List Int × List Int
def at' (l : List Int) (i : Nat) : Int := l.getD i 0
theorem at_of {l : List Int} {i : Nat} {x : Int} (h : l[i]? = some x) : at' l i = x := by simp [at', List.getD, h]
theorem of_at {l : List Int} {i : Nat} (h : i < l.length) : l[i]? = some (at' l i) := by simp [at', List.getD, h]
def le (a b : List Int) : Bool := (List.range a.length).all fun i => decide (at' a i ≤ at' b i)
theorem le_iff {a b : List Int} : le a b = true ↔ ∀ i, i < a.length → at' a i ≤ at' b i := by simp [le]
theorem le_not {a b : List Int} {i : Nat} (h : i < a.length) (hn : at' b i < at' a i) : le a b = false := by
  cases hh : le a b
  · rfl
  · have := le_iff.1 hh i h; omega
def bvalid (p : Pair) : Bool := vq.valid p.1 && vq.valid p.2 && decide (p.1.length = p.2.length) && le p.1 p.2
structure IsBox (p : Pair) : Prop where
  lo : vq.Vec p.1
  hi : vq.Vec p.2
  len : p.1.length = p.2.length
  le : ∀ i, i < p.1.length → at' p.1 i ≤ at' p.2 i
theorem bvalid_iff {p : Pair} : bvalid p = true ↔ IsBox p := by
  simp only [bvalid, Bool.and_eq_true, vq.valid_iff, decide_eq_true_eq, le_iff]
  exact ⟨fun ⟨⟨⟨h1, h2⟩, h3⟩, h4⟩ => ⟨h1, h2, h3, h4⟩, fun h => ⟨⟨⟨h.lo, h.hi⟩, h.len⟩, h.le⟩⟩
def balike (p q : Pair) : Bool := decide (p.1.length = q.1.length) && bvalid p && bvalid q
theorem balike_iff {p q : Pair} : balike p q = true ↔ p.1.length = q.1.length ∧ IsBox p ∧ IsBox q := by
  simp only [balike, Bool.and_eq_true, bvalid_iff, decide_eq_true_eq, and_assoc]
theorem vec_at {l : List Int} (h : vq.Vec l) {i : Nat} (hi : i < l.length) : -1000 ≤ at' l i ∧ at' l i ≤ 1000 := by
  have hm : at' l i ∈ l := List.mem_of_getElem? (of_at hi)
  exact ⟨h.lo _ hm, h.hi _ hm⟩
def mins (a b : List Int) : List Int := (List.range a.length).map fun i => min (at' a i) (at' b i)
def maxs (a b : List Int) : List Int := (List.range a.length).map fun i => max (at' a i) (at' b i)
def join (p q : Pair) : Pair := (mins p.1 q.1, maxs p.2 q.2)
def meet (p q : Pair) : Pair := (maxs p.1 q.1, mins p.2 q.2)
def inside (p q : Pair) : Bool := balike p q && le q.1 p.1 && le p.2 q.2
def has (p : Pair) (v : List Int) : Bool := inside (v, v) p
theorem map_at (n : Nat) (f : Nat → Int) {i : Nat} (h : i < n) : at' ((List.range n).map f) i = f i := by
  simp [at', List.getD, h]
theorem range_length (n : Nat) (f : Nat → Int) : ((List.range n).map f).length = n := by simp
theorem ext_at {a b : List Int} (hl : a.length = b.length) (h : ∀ i, i < a.length → at' a i = at' b i) : a = b := by
  apply List.ext_getElem? 
  intro i
  by_cases hi : i < a.length
  · rw [of_at hi, of_at (by omega), h i hi]
  · rw [List.getElem?_eq_none (by omega), List.getElem?_eq_none (by omega)]
theorem vec_of {l : List Int} (h1 : 1 ≤ l.length) (h2 : l.length ≤ 32) (h : ∀ i, i < l.length → -1000 ≤ at' l i ∧ at' l i ≤ 1000) : vq.Vec l := by
  refine ⟨h1, h2, fun x hx => ?_, fun x hx => ?_⟩ <;>
  · obtain ⟨i, hi, rfl⟩ := List.mem_iff_getElem.1 hx
    have := h i hi
    rw [at_of (List.getElem?_eq_getElem hi)] at this
    omega
/-- keys -/
def step (m : Int) (s d : Int) : Int := if m = 1 then s + d else if m = 2 then s + d * d else max s d
def keyf (m : Int) (ds : List Int) : Int := ds.foldl (step m) 0
theorem keyf_snoc (m : Int) (ds : List Int) (d : Int) : keyf m (ds ++ [d]) = step m (keyf m ds) d := by simp [keyf]
def gap (a b c d : Int) : Int := max (max (a - d) (c - b)) 0
def reach (a b c d : Int) : Int := max (b - c) (d - a)
def difs (f : Int → Int → Int → Int → Int) (p q : Pair) : List Int := (List.range p.1.length).map fun i => f (at' p.1 i) (at' p.2 i) (at' q.1 i) (at' q.2 i)
def dists (a b : List Int) : List Int := (List.range a.length).map fun i => max (at' a i - at' b i) (at' b i - at' a i)
theorem step_bd {m s d c : Int} (hs : 0 ≤ s) (h : s ≤ c) (hd : 0 ≤ d) (hd2 : d ≤ 2000) : 0 ≤ step m s d ∧ step m s d ≤ c + 4000000 := by
  have h1 : d * d ≤ 2000 * 2000 := Int.mul_le_mul hd2 hd2 hd (by omega)
  have h2 : 0 ≤ d * d := Int.mul_nonneg hd hd
  unfold step
  split
  · omega
  · split <;> omega
theorem fold_bd (m : Int) : ∀ (ds : List Int) (s c : Int), 0 ≤ s → s ≤ c → (∀ d ∈ ds, 0 ≤ d ∧ d ≤ 2000) → 0 ≤ ds.foldl (step m) s ∧ ds.foldl (step m) s ≤ c + 4000000 * ds.length
  | [], s, c, h, h', _ => by simp; omega
  | d :: ds, s, c, h, h', hd => by
    have h2 := hd d (by simp)
    have h3 := step_bd (m := m) h h' h2.1 h2.2
    have h4 := fold_bd m ds (step m s d) (c + 4000000) h3.1 h3.2 fun x hx => hd x (by simp [hx])
    simp only [List.foldl_cons, List.length_cons]
    omega
theorem keyf_bd (m : Int) (ds : List Int) (h : ∀ d ∈ ds, 0 ≤ d ∧ d ≤ 2000) : 0 ≤ keyf m ds ∧ keyf m ds ≤ 4000000 * ds.length := by
  have := fold_bd m ds 0 0 (by omega) (by omega) h
  unfold keyf
  omega
theorem step_mono {m s t d e : Int} (hs : s ≤ t) (hd : 0 ≤ d) (he : d ≤ e) : step m s d ≤ step m t e := by
  have h1 : d * d ≤ e * e := Int.mul_le_mul he he hd (by omega)
  unfold step
  split
  · omega
  · split <;> omega
theorem keyf_mono (m : Int) {n : Nat} {f g : Nat → Int} (h : ∀ i, i < n → 0 ≤ f i ∧ f i ≤ g i) : keyf m ((List.range n).map f) ≤ keyf m ((List.range n).map g) := by
  induction n with
  | zero => simp [keyf]
  | succ n ih =>
    rw [List.range_succ, List.map_append, List.map_append, List.map_singleton, List.map_singleton, keyf_snoc, keyf_snoc]
    have h1 := ih fun i hi => h i (by omega)
    have h2 := h n (by omega)
    exact step_mono h1 h2.1 h2.2
end Go.Proofs.Yteeianandjokaaa.bq
/- A region that draws its order and passes over operations whose guard says no. -/
namespace Go.Proofs.Yteeianandjokaaa.wk

open Go.ChangeShapes Go.WideShapes Go.ChangeAt Go.RowKit

section

variable {P : Program} {ops : Array Oper} {Q : Exit → Act → World → Prop}
/-- the operation's guard says no -/
def skips (ops : Array Oper) (R : List SP) (i : Nat) : Bool :=
  match ops[i]? with
  | none => false
  | some o => match o.guard with
    | none => false
    | some (j, want) => match (R.getD j SP.any).bool? with
      | some b => b != want
      | none => false
def guardedS (ops : Array Oper) (R : List SP) (k : Nat) : Bool :=
  (List.range k).all fun i => match ops[i]? with
    | none => true
    | some o => match o.guard with
      | none => true
      | some (j, _) => (R.getD j SP.any).bool?.isSome && o.dst.isSome && (dstOf ops j).isSome && o.after.any fun e => e.on == j && Region.binds .any e
def skipped (ops : Array Oper) (R : List SP) (k : Nat) : List Nat := (List.range k).filter fun i => skips ops R i
theorem skip_of {R : List SP} {k : Nat} {l : List Nat} (hl : skipped ops R k = l) (h : ∀ p ∈ l, R.getD p SP.any = .is undef) : ∀ i, i < k → skips ops R i = true → R.getD i SP.any = .is undef := fun i hi hs => by
  refine h i ?_
  rw [← hl]
  exact List.mem_filter.2 ⟨List.mem_range.2 hi, hs⟩
theorem vinv_stepS {a0 : Act} {B : World} {k : Nat} (R : List SP) (hap : apart ops a0.tmps.size = true) (hg : guardedS ops R k = true) (hsk : ∀ i, i < k → skips ops R i = true → R.getD i SP.any = .is undef) {L : Nat → Bool} {a : Act} {w : World} {i : Nat} {o : Oper} (hik : i < k) (hI : VInv ops R B a0 L a w) (ho : ops[i]? = some o) (hLi : L i = false) (hdep : ∀ e ∈ o.after, Region.binds .any e = true → L e.on = true)
    (hstep : skips ops R i = false → ∀ E w, Below B.heap.size B w → Due ops R a0 o E w → Does P Q o E w (R.getD i SP.any).has) :
    wpOp P ops Q i (fun a' w' => VInv ops R B a0 (fun j => if j = i then true else L j) a' w') a w := by
  have hio : i < ops.size := (Array.getElem?_eq_some_iff.1 ho).1
  have hdv : ∀ e ∈ o.after, Region.binds .any e = true → ∃ v, (R.getD e.on SP.any).has w v ∧ ∀ d, dstOf ops e.on = some d → a.tmps[d]? = some v := fun e he hb => hI.vals e.on (hdep e he hb)
  have hfin : ∀ v w', Below w.heap.size w w' → (R.getD i SP.any).has w' v → VInv ops R B a0 (fun j => if j = i then true else L j) (a.put o.dst v) w' := fun v w' hb hR => by
    have hB := hI.below.trans (hb.mono hI.below.size)
    have hdo : dstOf ops i = o.dst := by unfold dstOf; rw [ho]; rfl
    refine ⟨hB, ?_, ?_, fun j hj => ?_, fun k hk => ?_⟩
    · cases hd : o.dst <;> exact hI.defers
    · cases hd : o.dst <;> simp only [Act.put, Array.size_setIfInBounds] <;> exact hI.size
    · by_cases hji : j = i
      · subst hji
        refine ⟨v, hR, fun d hd => ?_⟩
        rw [hdo] at hd
        have hlt := apart_lt hap hio (by rw [hdo]; exact hd)
        rw [hd]
        show (a.tmps.setIfInBounds d v)[d]? = some v
        rw [Array.getElem?_setIfInBounds, if_pos rfl, if_pos (by rw [hI.size]; exact hlt)]
      · rw [if_neg hji] at hj
        obtain ⟨u, hu, hud⟩ := hI.vals j hj
        refine ⟨u, SP.has_below hu hb, fun d hd => ?_⟩
        cases hod : o.dst with
        | none => exact hud d hd
        | some d' =>
          have hne : d' ≠ d := fun e => hji (apart_ne hap (dst_lt hd) hio hd (by rw [hdo, hod, e]))
          show (a.tmps.setIfInBounds d' v)[d]? = some u
          rw [Array.getElem?_setIfInBounds, if_neg hne]
          exact hud d hd
    · have hk' : ∀ j, L j = true → dstOf ops j ≠ some k := fun j hj => hk j (by by_cases h : j = i <;> simp [h, hj])
      have hki : o.dst ≠ some k := by rw [← hdo]; exact hk i (by simp)
      cases hod : o.dst with
      | none => exact hI.rest k hk'
      | some d' =>
        have hne : d' ≠ k := fun e => hki (by rw [hod, e])
        show (a.tmps.setIfInBounds d' v)[k]? = _
        rw [Array.getElem?_setIfInBounds, if_neg hne]
        exact hI.rest k hk'
  by_cases hs : skips ops R i = true
  · have hw : Region.wanted o (yielded ops a.tmps) = false := by
      have h1 := List.all_eq_true.1 hg i (List.mem_range.2 hik)
      unfold skips at hs
      simp only [ho] at h1 hs
      unfold Region.wanted
      cases hgd : o.guard with
      | none => rw [hgd] at hs; cases hs
      | some x =>
        obtain ⟨j, want⟩ := x
        simp only [hgd, Bool.and_eq_true] at h1 hs
        obtain ⟨⟨_, hsm⟩, h2⟩ := h1
        obtain ⟨ix, hix, h3⟩ := Array.any_eq_true.1 h2
        have he : o.after[ix] ∈ o.after := Array.getElem_mem hix
        generalize o.after[ix] = e at *
        simp only [Bool.and_eq_true, beq_iff_eq] at h3
        obtain ⟨h3, h4⟩ := h3
        obtain ⟨v, hv, hd⟩ := hdv e he h4
        rw [h3] at hv hd
        have hvb : v = .bool (!want) := by
          cases hr : R.getD j SP.any with
          | is x =>
            rw [hr] at hs hv
            cases x <;> simp only [SP.bool?, Bool.false_eq_true] at hs
            rename_i bb
            have hbb : bb = !want := by cases bb <;> cases want <;> simp_all
            rw [hbb] at hv
            exact hv
          | st p hp => rw [hr] at hs; simp [SP.bool?] at hs
        obtain ⟨d, hdj⟩ := Option.isSome_iff_exists.1 hsm
        have hy : yielded ops a.tmps j = some (!want) := by
          unfold yielded
          have e1 : (ops[j]?).bind (·.dst) = some d := hdj
          rw [e1]
          simp only [Option.bind_some, hd d hdj, hvb]
        simp only [hy]
        cases want <;> rfl
    refine wpOp_step ho fun K' hK => ?_
    rw [if_neg (by rw [hw]; exact Bool.false_ne_true)]
    exact hK _ _ (hfin undef w (Below.refl _ _) (by rw [hsk i hik hs]; rfl))
  have hw : Region.wanted o (yielded ops a.tmps) = true := by
    have h1 := List.all_eq_true.1 hg i (List.mem_range.2 hik)
    unfold skips at hs
    simp only [ho] at h1 hs
    unfold Region.wanted
    cases hgd : o.guard with
    | none => rfl
    | some x =>
      obtain ⟨j, want⟩ := x
      simp only [hgd, Bool.and_eq_true] at h1 hs
      obtain ⟨⟨⟨hbs, _⟩, hsm⟩, h2⟩ := h1
      obtain ⟨ix, hix, h3⟩ := Array.any_eq_true.1 h2
      have he : o.after[ix] ∈ o.after := Array.getElem_mem hix
      generalize o.after[ix] = e at *
      simp only [Bool.and_eq_true, beq_iff_eq] at h3
      obtain ⟨h3, h4⟩ := h3
      obtain ⟨v, hv, hd⟩ := hdv e he h4
      rw [h3] at hv hd
      have hvb : v = .bool want := by
        cases hr : R.getD j SP.any with
        | is x =>
          rw [hr] at hs hv hbs
          cases x <;> simp only [SP.bool?, Option.isSome_none, Bool.false_eq_true] at hbs
          rename_i bb
          simp only [SP.bool?] at hs
          have hbb : bb = want := by cases bb <;> cases want <;> simp_all
          rw [hbb] at hv
          exact hv
        | st p hp => rw [hr] at hbs; simp [SP.bool?] at hbs
      obtain ⟨d, hdj⟩ := Option.isSome_iff_exists.1 hsm
      have hy : yielded ops a.tmps j = some want := by
        unfold yielded
        have e1 : (ops[j]?).bind (·.dst) = some d := hdj
        rw [e1]
        simp only [Option.bind_some, hd d hdj, hvb]
      simp only [hy, beq_self_eq_true]
  refine wpOp_step ho fun K' hK => ?_
  rw [if_pos hw]
  refine hstep (by simpa using hs) a.eval w hI.below ⟨fun _ => rfl, fun _ => rfl, fun k hk => ?_, fun e he hb => ?_⟩ a K' rfl fun v w' hb hR => ?_
  · show a.tmps.getD k undef = a0.tmps.getD k undef
    rw [Array.getD_eq_getD_getElem?, Array.getD_eq_getD_getElem?, hI.rest k fun j hj h => ?_]
    have := List.all_eq_true.1 hk j (List.mem_range.2 (dst_lt h))
    rw [h] at this
    simp at this
  · obtain ⟨v, hv, hd⟩ := hdv e he hb
    exact ⟨v, hv, fun d hdd => getD_of (hd d hdd)⟩
  · exact hK _ _ (hfin v w' hb hR)
theorem region_tailS {id : Nat} {a0 : Act} {w0 : World} (k : Nat) (R : List SP) (ds : List (Option Tmp)) (hm : P.follows .mixedOrders = true) (hord : orderedB .any ops = true) (hap : apart ops a0.tmps.size = true) (hg : guardedS ops R k = true) (sk : List Nat) (hskl : skipped ops R k = sk) (hsk0 : ∀ p ∈ sk, R.getD p SP.any = .is undef) (hds : (List.range k).map (dstOf ops) = ds) (htl : tailed ops k = true)
    (hstep : ∀ i o, ops[i]? = some o → i < k → skips ops R i = false → ∀ E w, Below w0.drew.heap.size w0.drew w → Due ops R a0 o E w → Does P Q o E w (R.getD i SP.any).has)
    (hdone : ∀ (vals : Nat → Value) w, Below w0.drew.heap.size w0.drew w → (∀ i, i < k → (R.getD i SP.any).has w (vals i)) → wpList P ops Q (ops.toList.drop k) { a0 with tmps := setL ds vals 0 a0.tmps } w) : (Code.region id ops true).wp P Q a0 w0 := by
  have hsk := skip_of hskl hsk0
  unfold tailed at htl
  simp only [Bool.and_eq_true, decide_eq_true_eq] at htl
  obtain ⟨⟨hkn, hcov⟩, hch⟩ := htl
  have hchain : ∀ i, k ≤ i → i + 1 < ops.size → waitsFor ops (i + 1) i = true := fun i h1 h2 => by
    have := List.all_eq_true.1 hch i (List.mem_range.2 (by omega))
    simp only [Bool.or_eq_true, decide_eq_true_eq] at this
    rcases this with (h | h) | h
    · omega
    · omega
    · exact h
  have hcover : ∀ j, j < k → k < ops.size → ∃ i, j < i ∧ i ≤ k ∧ waitsFor ops i j = true := fun j h1 h2 => by
    have := List.all_eq_true.1 hcov j (List.mem_range.2 h1)
    simp only [Bool.or_eq_true, beq_iff_eq] at this
    rcases this with h | h
    · omega
    · obtain ⟨i, hi, h⟩ := List.any_eq_true.1 h
      simp only [Bool.and_eq_true, decide_eq_true_eq] at h
      exact ⟨i, h.1, by have := List.mem_range.1 hi; omega, h.2⟩
  have hfin : ∀ L a w, VInv ops R w0.drew a0 L a w → (∀ j, j < k → L j = true) → (∀ j, k ≤ j → L j = false) → wpList P ops Q (ops.toList.drop k) a w := fun L a w hI hall hno => by
    have hv : ∀ i, ∃ v, i < k → (R.getD i SP.any).has w v ∧ ∀ d, dstOf ops i = some d → a.tmps[d]? = some v := fun i => by
      by_cases hi : i < k
      · obtain ⟨v, h⟩ := hI.vals i (hall i hi); exact ⟨v, fun _ => h⟩
      · exact ⟨undef, fun h => absurd h hi⟩
    obtain ⟨vals, hvals⟩ := Classical.axiomOfChoice hv
    have ha : a = { a0 with tmps := setAll ops vals k a0.tmps } := by
      obtain ⟨tm, df⟩ := a
      have h1 : df = a0.defers := hI.defers
      have h2 : tm = setAll ops vals k a0.tmps := by
        refine Array.ext_getElem? fun s => ?_
        have hset := setAll_get vals hap s k a0.tmps hkn rfl
        by_cases hk : ∃ i, i < k ∧ dstOf ops i = some s
        · obtain ⟨i, hik, hi⟩ := hk
          rw [hset.2 i hik hi]
          exact (hvals i hik).2 s hi
        · rw [hset.1 fun i hi h => hk ⟨i, hi, h⟩]
          refine hI.rest s fun i hi h => ?_
          rcases Nat.lt_or_ge i k with hl | hl
          · exact hk ⟨i, hl, h⟩
          · rw [hno i hl] at hi; cases hi
      rw [h1, h2]
    rw [ha, setAll_eq, hds]
    exact hdone vals w hI.below fun i hi => (hvals i hi).1
  refine region_invB (fun a0 B L a w => (VInv ops R B a0 L a w ∧ (∀ i, k ≤ i → L i = false) ∧ Closed ops L) ∨ ∃ m, k ≤ m ∧ m ≤ ops.size ∧ (∀ i, L i = decide (i < m)) ∧ wpList P ops Q (ops.toList.drop m) a w) hm hord
    (Or.inl ⟨⟨Below.refl _ _, rfl, rfl, fun i h => (Bool.noConfusion h), fun k _ => rfl⟩, fun _ _ => rfl, fun i o _ h => (Bool.noConfusion h)⟩) ?_ ?_
  · intro L a w hI i o ho hLi hdep
    have hio : i < ops.size := (Array.getElem?_eq_some_iff.1 ho).1
    rcases hI with ⟨hI, hno, hcl⟩ | ⟨m, hm1, hm2, hL, hwp⟩
    · by_cases hik : i < k
      · refine wpOp_mono (fun a' w' h => Or.inl ?_) (vinv_stepS R hap hg hsk hik hI ho hLi hdep (hstep i o ho hik))
        refine ⟨h, fun j hj => ?_, fun j o' ho' hj e he hb => ?_⟩
        · have hji : j ≠ i := by omega
          simp only [hji, if_false]
          exact hno j hj
        · by_cases hji : j = i
          · subst hji
            rw [ho] at ho'; cases ho'
            by_cases h2 : e.on = j
            · simp [h2]
            · simp only [h2, if_false]; exact hdep e he hb
          · simp only [hji, if_false] at hj
            by_cases h2 : e.on = i
            · simp [h2]
            · simp only [h2, if_false]; exact hcl j o' ho' hj e he hb
      · have hik' : i = k := by
          rcases Nat.lt_or_ge k i with h | h
          · have := waits_done (L := L) (hchain (i - 1) (by omega) (by omega)) (by rw [show i - 1 + 1 = i by omega]; exact ho) hdep
            rw [hno (i - 1) (by omega)] at this; cases this
          · omega
        subst hik'
        have hall : ∀ d j, i - j ≤ d → j < i → L j = true := by
          intro d
          induction d with
          | zero => intro j h1 h2; omega
          | succ d ih =>
            intro j h1 h2
            obtain ⟨q, hq1, hq2, hq3⟩ := hcover j h2 hio
            by_cases hqi : q = i
            · subst hqi; exact waits_done hq3 ho hdep
            · have hq : L q = true := ih q (by omega) (by omega)
              have hqo : ops[q]? = some ops[q] := Array.getElem?_eq_getElem (by omega)
              exact waits_done hq3 hqo (hcl q _ hqo hq)
        refine wpOp_mono (fun a' w' h => Or.inr ⟨i + 1, by omega, by omega, fun j => ?_, h⟩) (wpList_to_op ho (hfin L a w hI (fun j hj => hall _ j (Nat.le_refl _) hj) hno))
        by_cases hji : j = i
        · subst hji; simp
        · simp only [hji, if_false]
          rcases Nat.lt_or_ge j i with h1 | h1
          · rw [hall _ j (Nat.le_refl _) h1]; simp; omega
          · rw [hno j h1]; simp; omega
    · have him : i = m := by
        have h1 : ¬ i < m := fun h => by rw [hL i] at hLi; simp [h] at hLi
        rcases Nat.lt_or_ge m i with h | h
        · have := waits_done (L := L) (hchain (i - 1) (by omega) (by omega)) (by rw [show i - 1 + 1 = i by omega]; exact ho) hdep
          rw [hL (i - 1)] at this
          simp at this; omega
        · omega
      subst him
      refine wpOp_mono (fun a' w' h => Or.inr ⟨i + 1, by omega, by omega, fun j => ?_, h⟩) (wpList_to_op ho hwp)
      by_cases hji : j = i
      · subst hji; simp
      · simp only [hji, if_false]
        rw [hL j]
        rcases Nat.lt_or_ge j i with h1 | h1
        · simp [h1]; omega
        · simp; omega
  · intro L a w hall hI
    rcases hI with ⟨hI, hno, hcl⟩ | ⟨m, hm1, hm2, hL, hwp⟩
    · have hk : k = ops.size := by
        rcases Nat.lt_or_ge k ops.size with h | h
        · have := hall k h; rw [hno k (Nat.le_refl _)] at this; cases this
        · omega
      have := hfin L a w hI (fun j hj => hall j (by omega)) hno
      rw [hk, ← Array.length_toList, List.drop_length] at this
      exact this
    · have hk : m = ops.size := by
        rcases Nat.lt_or_ge m ops.size with h | h
        · have := hall m h; rw [hL m] at this; simp at this
        · omega
      rw [hk, ← Array.length_toList, List.drop_length] at hwp
      exact hwp
end

end Go.Proofs.Yteeianandjokaaa.wk
