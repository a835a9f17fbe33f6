/- Norms and keys: inequalities. No program here. -/
import Derived.Test.YtngmdonlljpknaaQm

namespace Go.Proofs.Ytngmdonlljpknaa.vq
theorem two_elim {motive : (a b : List Int) → a.length = b.length → Prop} (nil : motive [] [] rfl) (cons : ∀ x y a b (h : a.length = b.length), motive a b h → motive (x :: a) (y :: b) (by simp [h])) : ∀ a b (h : a.length = b.length), motive a b h
  | [], [], _ => nil
  | x :: a, y :: b, h => cons x y a b (by simpa using h) (two_elim nil cons a b _)
  | [], _ :: _, h => by simp at h
  | _ :: _, [], h => by simp at h
/-- Cauchy and Schwarz, for a list of pairs -/
def pp (l : List (Int × Int)) : Int := sm (l.map fun p => p.1 * p.1)
def qq (l : List (Int × Int)) : Int := sm (l.map fun p => p.2 * p.2)
def pq (l : List (Int × Int)) : Int := sm (l.map fun p => p.1 * p.2)
theorem form_nonneg (s t : Int) : ∀ l : List (Int × Int), 0 ≤ s * s * pp l + 2 * s * t * pq l + t * t * qq l
  | [] => by simp [pp, pq, qq, sm]
  | x :: l => by
    have h := form_nonneg s t l
    have h2 := sq_nonneg (s * x.1 + t * x.2)
    simp only [pp, pq, qq, List.map_cons, sm] at h ⊢
    grind
theorem pp_nonneg : ∀ l, 0 ≤ pp l
  | [] => by simp [pp, sm]
  | x :: l => by have := pp_nonneg l; have := sq_nonneg x.1; simp only [pp, List.map_cons, sm] at *; omega
theorem qq_nonneg : ∀ l, 0 ≤ qq l
  | [] => by simp [qq, sm]
  | x :: l => by have := qq_nonneg l; have := sq_nonneg x.2; simp only [qq, List.map_cons, sm] at *; omega
theorem cauchy (l : List (Int × Int)) : pq l * pq l ≤ pp l * qq l := by
  have hA := pp_nonneg l
  have hB := qq_nonneg l
  have hf := fun s t => form_nonneg s t l
  generalize pp l = A at *
  generalize qq l = B at *
  generalize pq l = C at *
  rcases (by omega : B = 0 ∨ 0 < B) with h0 | h0
  · subst h0
    have h := hf 1 (-(A + 1) * C)
    rcases Int.lt_trichotomy C 0 with hc | hc | hc
    · exfalso
      have h1 : 1 ≤ C * C := by have := Int.mul_nonneg (show 0 ≤ -C - 1 by omega) (show 0 ≤ -C + 1 by omega); grind
      have h2 := Int.mul_nonneg (show 0 ≤ A + 1 by omega) (show 0 ≤ C * C - 1 by omega)
      grind
    · subst hc; simp
    · exfalso
      have h1 : 1 ≤ C * C := by have := Int.mul_nonneg (show 0 ≤ C - 1 by omega) (show 0 ≤ C + 1 by omega); grind
      have h2 := Int.mul_nonneg (show 0 ≤ A + 1 by omega) (show 0 ≤ C * C - 1 by omega)
      grind
  · have h := hf B (-C)
    have h1 : 0 ≤ B * (A * B - C * C) := by grind
    rcases Int.lt_or_le (A * B - C * C) 0 with h2 | h2
    · exfalso
      have := Int.mul_neg_of_pos_of_neg h0 h2
      omega
    · omega
theorem ab_sq (x : Int) : ab x * ab x = x * x := by
  rcases Int.le_total 0 x with h | h
  · rw [show ab x = x by unfold ab; omega]
  · rw [show ab x = -x by unfold ab; omega, Int.neg_mul_neg]
theorem mx_ge {v : List Int} {x : Int} (h : x ∈ v) : ab x ≤ mx v := by
  induction v with
  | nil => cases h
  | cons y v ih =>
    simp only [mx]
    rcases List.mem_cons.1 h with rfl | h
    · omega
    · have := ih h; omega
theorem mx_le_sm : ∀ v : List Int, mx v ≤ sm (v.map ab)
  | [] => by simp [mx, sm]
  | x :: v => by have := mx_le_sm v; have := ab_nonneg x; have := sm_ab_nonneg v; simp only [mx, List.map_cons, sm]; omega
theorem sm_ab_le {M : Int} : ∀ v : List Int, (∀ x ∈ v, ab x ≤ M) → sm (v.map ab) ≤ v.length * M
  | [], _ => by simp [sm]
  | x :: v, h => by
    have := sm_ab_le v fun y hy => h y (by simp [hy])
    have := h x (by simp)
    simp only [List.map_cons, sm, List.length_cons]
    have e : ((v.length + 1 : Nat) : Int) * M = v.length * M + M := by push_cast; rw [Int.add_mul, Int.one_mul]
    omega
theorem sm_sq_le {M : Int} : ∀ v : List Int, (∀ x ∈ v, ab x ≤ M) → sm (v.map fun x => x * x) ≤ M * sm (v.map ab)
  | [], _ => by simp [sm]
  | x :: v, h => by
    have h1 := sm_sq_le v fun y hy => h y (by simp [hy])
    have h2 := h x (by simp)
    have h3 := Int.mul_le_mul_of_nonneg_right h2 (ab_nonneg x)
    rw [ab_sq] at h3
    simp only [List.map_cons, sm]
    rw [Int.mul_add]
    omega
theorem sq_le_sm {x : Int} : ∀ v : List Int, x ∈ v → x * x ≤ sm (v.map fun x => x * x)
  | [], h => by cases h
  | y :: v, h => by
    simp only [List.map_cons, sm]
    have h1 := sq_nonneg y
    have h2 := sm_sq_nonneg v
    rcases List.mem_cons.1 h with rfl | h
    · omega
    · have := sq_le_sm v h; omega
theorem mx_at : ∀ v : List Int, mx v = 0 ∨ ∃ x ∈ v, ab x = mx v
  | [] => .inl rfl
  | x :: v => by
    have h0 := mx_nonneg v
    have h1 := ab_nonneg x
    rcases (by omega : mx v ≤ ab x ∨ ab x < mx v) with h | h
    · exact .inr ⟨x, by simp, by simp only [mx]; omega⟩
    · rcases mx_at v with h2 | ⟨y, hy, h2⟩
      · omega
      · exact .inr ⟨y, by simp [hy], by simp only [mx]; omega⟩
theorem mx_sq_le (v : List Int) : mx v * mx v ≤ sm (v.map fun x => x * x) := by
  rcases mx_at v with h | ⟨x, hx, h⟩
  · rw [h]; have := sm_sq_nonneg v; omega
  · rw [← h, ab_sq]; exact sq_le_sm v hx
theorem ones (v : List Int) : pp (v.map fun x => (ab x, 1)) = sm (v.map fun x => x * x) ∧ qq (v.map fun x => (ab x, 1)) = v.length ∧ pq (v.map fun x => (ab x, 1)) = sm (v.map ab) := by
  induction v with
  | nil => simp [pp, qq, pq, sm]
  | cons x v ih =>
    obtain ⟨h1, h2, h3⟩ := ih
    simp only [pp, qq, pq, List.map_cons, sm, List.length_cons, ab_sq] at h1 h2 h3 ⊢
    rw [h1, h2, h3]
    refine ⟨rfl, by omega, by omega⟩
theorem sm_ab_sq (v : List Int) : sm (v.map ab) * sm (v.map ab) ≤ v.length * sm (v.map fun x => x * x) := by
  have := cauchy (v.map fun x => (ab x, 1))
  obtain ⟨h1, h2, h3⟩ := ones v
  rw [h1, h2, h3] at this
  rw [Int.mul_comm (v.length : Int)]
  exact this
theorem norms (v : List Int) : norm 3 v ≤ norm 1 v ∧ norm 1 v ≤ v.length * norm 3 v ∧ norm 3 v * norm 3 v ≤ norm 2 v ∧ norm 2 v ≤ norm 3 v * norm 1 v ∧ norm 1 v * norm 1 v ≤ v.length * norm 2 v ∧ dot v v = norm 2 v := by
  rw [norm1, norm2, norm3]
  refine ⟨mx_le_sm v, sm_ab_le v fun x hx => mx_ge hx, mx_sq_le v, sm_sq_le v fun x hx => mx_ge hx, sm_ab_sq v, ?_⟩
  rw [dot_sm]
  congr 1
  have : v.zip v = v.map fun x => (x, x) := by induction v with
    | nil => rfl
    | cons x v ih => simpa using ih
  rw [this, List.map_map]
  rfl
theorem key2_dot {a b : List Int} (h : a.length = b.length) : key 2 a b = norm 2 a + norm 2 b - 2 * dot a b := by
  rw [key, norm2, norm2, norm2, dot_sm]
  induction a, b, h using two_elim with
  | nil =>
    simp [sub, sm]
  | cons x y a b h ih =>
    simp only [sub, List.zip_cons_cons, List.map_cons, sm] at ih ⊢
    grind
theorem norm_mul_bd {m n d : Int} (h1 : 0 ≤ m) (h2 : m ≤ d) (h3 : 0 ≤ n) (h4 : n ≤ 200000000) (hd : d ≤ 200000000) : 0 ≤ m * n ∧ m * n ≤ 40000000000000000 := by
  have := Int.mul_nonneg h1 h3
  have a := Int.mul_le_mul_of_nonneg_right (show m ≤ 200000000 by omega) h3
  omega
/-- keys are distances -/
theorem ab_add (x y : Int) : ab (x + y) ≤ ab x + ab y := by unfold ab; omega
theorem sub_add {a b c : List Int} (h : a.length = b.length) (h' : b.length = c.length) : sub a c = ((sub a b).zip (sub b c)).map fun p => p.1 + p.2 := by
  revert c
  induction a, b, h using two_elim with
  | nil =>
    intro c h; simp [sub]
  | cons x y a b h ih =>
    intro c hc
    cases c with
    | nil => simp at hc
    | cons z c =>
      have := ih (c := c) (by simpa using hc)
      simp only [sub, List.zip_cons_cons, List.map_cons] at this ⊢
      rw [this]
      congr 1
      omega
theorem sub_neg {a b : List Int} : sub b a = (sub a b).map fun x => -x := by
  induction a generalizing b with
  | nil => simp [sub]
  | cons x a ih =>
    cases b with
    | nil => simp [sub]
    | cons y b =>
      have := ih (b := b)
      simp only [sub, List.zip_cons_cons, List.map_cons] at this ⊢
      rw [this]
      congr 1
      omega
theorem norm_neg (m : Int) (v : List Int) : norm m (v.map fun x => -x) = norm m v := by
  have : ∀ n x, grow m n (-x) = grow m n x := by
    intro n x
    unfold grow
    split
    · omega
    · split
      · rw [Int.neg_mul_neg]
      · split <;> omega
  rw [norm, List.foldl_map, norm]
  congr 1
  funext n x
  exact this n x
theorem key_comm (m : Int) (a b : List Int) : key m a b = key m b a := by
  rw [key, key, sub_neg (a := b) (b := a), norm_neg]
theorem sm_zero : ∀ {v : List Int} {f : Int → Int}, (∀ x, 0 ≤ f x) → (∀ x, f x = 0 → x = 0) → sm (v.map f) = 0 → ∀ x ∈ v, x = 0
  | [], _, _, _, _ => by intro x hx; cases hx
  | y :: v, f, h0, h1, h => by
    have h2 : 0 ≤ sm (v.map f) := sm_nonneg fun z hz => by obtain ⟨u, _, rfl⟩ := List.mem_map.1 hz; exact h0 u
    have h3 := h0 y
    simp only [List.map_cons, sm] at h
    intro x hx
    rcases List.mem_cons.1 hx with rfl | hx
    · exact h1 x (by omega)
    · exact sm_zero h0 h1 (by omega) x hx
theorem mul_self_zero {x : Int} (h : x * x = 0) : x = 0 := by
  rcases Int.mul_eq_zero.1 h with h | h <;> exact h
theorem norm_zero {m : Int} (h1 : 1 ≤ m) (h3 : m ≤ 3) {v : List Int} (h : norm m v = 0) : ∀ x ∈ v, x = 0 := by
  rcases (by omega : m = 1 ∨ m = 2 ∨ m = 3) with rfl | rfl | rfl
  · rw [norm1] at h
    exact sm_zero ab_nonneg (fun x hx => by unfold ab at hx; omega) h
  · rw [norm2] at h
    exact sm_zero sq_nonneg (fun x hx => mul_self_zero hx) h
  · rw [norm3] at h
    intro x hx
    have := mx_ge hx
    have := ab_nonneg x
    unfold ab at *
    omega
theorem sub_zero {a b : List Int} (h : a.length = b.length) : (∀ x ∈ sub a b, x = 0) → a = b := by
  induction a, b, h using two_elim with
  | nil =>
    intro _; rfl
  | cons x y a b h ih =>
    intro hz
    simp only [sub, List.zip_cons_cons, List.map_cons] at hz
    have h1 := hz (x - y) (by simp)
    have h2 := ih fun z hz' => hz z (by simp only [List.mem_cons]; exact .inr hz')
    rw [h2, show x = y by omega]
theorem norm_self (m : Int) (a : List Int) : key m a a = 0 := by
  have h : ∀ x ∈ sub a a, x = 0 := by
    intro x hx
    obtain ⟨p, hp, rfl⟩ := List.mem_map.1 hx
    obtain ⟨i, hi, rfl⟩ := List.mem_iff_getElem.1 hp
    simp
  have : sub a a = List.replicate (sub a a).length 0 := List.eq_replicate_iff.2 ⟨rfl, h⟩
  rw [key, this]
  generalize (sub a a).length = n
  have h2 : ∀ (n : Nat) (c : Int), (c = 0) → (List.replicate n (0 : Int)).foldl (grow m) c = 0 := by
    intro n
    induction n with
    | zero => intro c hc; simpa using hc
    | succ n ih =>
      intro c hc
      rw [List.replicate_succ, List.foldl_cons]
      refine ih _ ?_
      subst hc
      unfold grow
      split
      · omega
      · split
        · omega
        · split <;> omega
  exact h2 n 0 rfl
theorem key_zero {m : Int} (h1 : 1 ≤ m) (h3 : m ≤ 3) {a b : List Int} (h : a.length = b.length) : key m a b = 0 ↔ a = b :=
  ⟨fun hk => sub_zero h (norm_zero h1 h3 hk), fun hk => by rw [hk]; exact norm_self m b⟩
theorem tri1 {u v : List Int} : u.length = v.length → sm (((u.zip v).map fun p => p.1 + p.2).map ab) ≤ sm (u.map ab) + sm (v.map ab) := by
  intro hl0
  induction u, v, hl0 using two_elim with
  | nil =>
    simp [sm]
  | cons x y a b h ih =>
    have := ab_add x y
    simp only [List.zip_cons_cons, List.map_cons, sm] at ih ⊢
    omega
theorem tri3 {u v : List Int} : u.length = v.length → mx ((u.zip v).map fun p => p.1 + p.2) ≤ mx u + mx v := by
  intro hl0
  induction u, v, hl0 using two_elim with
  | nil =>
    simp [mx]
  | cons x y a b h ih =>
    have := ab_add x y
    simp only [List.zip_cons_cons, List.map_cons, mx] at ih ⊢
    omega
theorem tri2 {u v : List Int} : u.length = v.length → sm (((u.zip v).map fun p => p.1 + p.2).map fun x => x * x) = sm (u.map fun x => x * x) + sm (v.map fun x => x * x) + 2 * pq (u.zip v) ∧ pp (u.zip v) = sm (u.map fun x => x * x) ∧ qq (u.zip v) = sm (v.map fun x => x * x) := by
  intro hl0
  induction u, v, hl0 using two_elim with
  | nil =>
    simp [sm, pq, pp, qq]
  | cons x y a b h ih =>
    obtain ⟨h1, h2, h3⟩ := ih
    simp only [List.zip_cons_cons, List.map_cons, sm, pq, pp, qq] at h1 h2 h3 ⊢
    refine ⟨by grind, by omega, by omega⟩
theorem triangle {m : Int} (h1 : 1 ≤ m) (h3 : m ≤ 3) (h2 : m ≠ 2) {a b c : List Int} (h : a.length = b.length) (h' : b.length = c.length) : key m a c ≤ key m a b + key m b c := by
  have hl : (sub a b).length = (sub b c).length := by rw [sub_length h, sub_length h']; exact h
  rw [key, sub_add h h', key, key]
  rcases (by omega : m = 1 ∨ m = 3) with rfl | rfl
  · rw [norm1, norm1, norm1]; exact tri1 hl
  · rw [norm3, norm3, norm3]; exact tri3 hl
theorem triangle2 {a b c : List Int} (h : a.length = b.length) (h' : b.length = c.length) : (key 2 a c - key 2 a b - key 2 b c) * (key 2 a c - key 2 a b - key 2 b c) ≤ 4 * key 2 a b * key 2 b c := by
  have hl : (sub a b).length = (sub b c).length := by rw [sub_length h, sub_length h']; exact h
  have e : key 2 a c = norm 2 (((sub a b).zip (sub b c)).map fun p => p.1 + p.2) := by rw [key, sub_add h h']
  obtain ⟨e1, e2, e3⟩ := tri2 hl
  have hc := cauchy ((sub a b).zip (sub b c))
  rw [e2, e3] at hc
  rw [e, key, key, norm2, norm2, norm2, e1]
  grind
end Go.Proofs.Ytngmdonlljpknaa.vq
