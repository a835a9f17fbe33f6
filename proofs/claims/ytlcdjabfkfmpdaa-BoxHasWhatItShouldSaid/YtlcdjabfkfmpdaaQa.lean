/- Vectors, plainly: sums over lists of integers. No program here. -/
namespace Go.Proofs.Ytlcdjabfkfmpdaa.vq
theorem two {α : Type} {P : List α → List α → Prop} (h0 : P [] []) (h1 : ∀ x y a b, a.length = b.length → P a b → P (x :: a) (y :: b)) : ∀ a b, a.length = b.length → P a b
  | [], [], _ => h0
  | x :: a, y :: b, h => by
    have h' : a.length = b.length := by simpa using h
    exact h1 x y a b h' (two h0 h1 a b h')
  | [], _ :: _, h => by simp at h
  | _ :: _, [], h => by simp at h
def okc (x : Int) : Bool := decide (-1000 ≤ x) && decide (x ≤ 1000)
theorem okc_iff {x : Int} : okc x = true ↔ -1000 ≤ x ∧ x ≤ 1000 := by simp [okc]
def valid (v : List Int) : Bool := decide (1 ≤ v.length) && decide (v.length ≤ 32) && v.all okc
def alike (a b : List Int) : Bool := decide (a.length = b.length) && valid a && valid b
structure Vec (v : List Int) : Prop where
  pos : 1 ≤ v.length
  le : v.length ≤ 32
  lo : ∀ x ∈ v, -1000 ≤ x
  hi : ∀ x ∈ v, x ≤ 1000
theorem valid_iff {v : List Int} : valid v = true ↔ Vec v := by
  simp only [valid, Bool.and_eq_true, decide_eq_true_eq, List.all_eq_true, okc_iff]
  exact ⟨fun ⟨⟨h1, h2⟩, h3⟩ => ⟨h1, h2, fun x hx => (h3 x hx).1, fun x hx => (h3 x hx).2⟩, fun h => ⟨⟨h.pos, h.le⟩, fun x hx => ⟨h.lo x hx, h.hi x hx⟩⟩⟩
theorem alike_iff {a b : List Int} : alike a b = true ↔ a.length = b.length ∧ Vec a ∧ Vec b := by
  simp [alike, valid_iff, and_assoc]
def sub (a b : List Int) : List Int := (a.zip b).map fun p => p.1 - p.2
theorem sub_length {a b : List Int} (h : a.length = b.length) : (sub a b).length = a.length := by simp [sub, h]
def dot (a b : List Int) : Int := (a.zip b).foldl (fun s p => s + p.1 * p.2) 0
def grow (m n x : Int) : Int := if m = 1 then n + max x (-x) else if m = 2 then n + x * x else if m = 3 then max (max n x) (-x) else 0
def norm (m : Int) (v : List Int) : Int := v.foldl (grow m) 0
def key (m : Int) (a b : List Int) : Int := norm m (sub a b)
def sm : List Int → Int
  | [] => 0
  | x :: l => x + sm l
theorem foldl_sm (f : Int → Int) : ∀ (l : List Int) (c : Int), l.foldl (fun s x => s + f x) c = c + sm (l.map f)
  | [], c => by simp [sm]
  | x :: l, c => by simp only [List.foldl_cons, foldl_sm f l, List.map_cons, sm]; omega
theorem foldl_sm2 (f : Int × Int → Int) : ∀ (l : List (Int × Int)) (c : Int), l.foldl (fun s x => s + f x) c = c + sm (l.map f)
  | [], c => by simp [sm]
  | x :: l, c => by simp only [List.foldl_cons, foldl_sm2 f l, List.map_cons, sm]; omega
def ab (x : Int) : Int := max x (-x)
def mx : List Int → Int
  | [] => 0
  | x :: l => max (ab x) (mx l)
theorem norm1 (v : List Int) : norm 1 v = sm (v.map ab) := by
  have : grow 1 = fun s x => s + ab x := by funext n x; simp [grow, ab]
  rw [norm, this, foldl_sm]; omega
theorem norm2 (v : List Int) : norm 2 v = sm (v.map fun x => x * x) := by
  have : grow 2 = fun s x => s + x * x := by funext n x; simp [grow]
  rw [norm, this, foldl_sm]; omega
theorem mx_nonneg : ∀ l, 0 ≤ mx l
  | [] => by simp [mx]
  | x :: l => by have := mx_nonneg l; simp only [mx]; omega
theorem foldl_mx : ∀ (l : List Int) (c : Int), 0 ≤ c → l.foldl (grow 3) c = max c (mx l)
  | [], c, h => by simp [mx]; omega
  | x :: l, c, h => by
    have e : grow 3 c x = max c (ab x) := by simp only [grow, ab]; simp
    simp only [List.foldl_cons, e, foldl_mx l _ (show 0 ≤ max c (ab x) by omega), mx]; omega
theorem norm3 (v : List Int) : norm 3 v = mx v := by
  rw [norm, foldl_mx v 0 (by omega)]; have := mx_nonneg v; omega
theorem dot_sm (a b : List Int) : dot a b = sm ((a.zip b).map fun p => p.1 * p.2) := by
  rw [dot, foldl_sm2]; omega
theorem ab_nonneg (x : Int) : 0 ≤ ab x := by unfold ab; omega
theorem sm_nonneg {l : List Int} (h : ∀ x ∈ l, 0 ≤ x) : 0 ≤ sm l := by
  induction l with
  | nil => simp [sm]
  | cons x l ih => have := h x (by simp); have := ih fun y hy => h y (by simp [hy]); simp only [sm]; omega
theorem sm_ab_nonneg (v : List Int) : 0 ≤ sm (v.map ab) := sm_nonneg fun x hx => by
  obtain ⟨y, _, rfl⟩ := List.mem_map.1 hx
  exact ab_nonneg y
theorem sq_nonneg (x : Int) : 0 ≤ x * x := by
  rcases Int.le_total 0 x with h | h
  · exact Int.mul_nonneg h h
  · exact Int.mul_nonneg_of_nonpos_of_nonpos h h
theorem sm_sq_nonneg (v : List Int) : 0 ≤ sm (v.map fun x => x * x) := sm_nonneg fun x hx => by
  obtain ⟨y, _, rfl⟩ := List.mem_map.1 hx
  exact sq_nonneg y
theorem norm_nonneg (m : Int) (v : List Int) : 0 ≤ norm m v := by
  by_cases h1 : m = 1
  · subst h1; rw [norm1]; exact sm_ab_nonneg v
  by_cases h2 : m = 2
  · subst h2; rw [norm2]; exact sm_sq_nonneg v
  by_cases h3 : m = 3
  · subst h3; rw [norm3]; exact mx_nonneg v
  · unfold norm
    have : grow m = fun _ _ => 0 := by funext n x; simp [grow, h1, h2, h3]
    rw [this]
    rcases List.eq_nil_or_concat v with rfl | ⟨l, x, rfl⟩ <;> simp
/-- the bounds of a fold over the coordinates -/
theorem sq_le {x c : Int} (h1 : -c ≤ x) (h2 : x ≤ c) : x * x ≤ c * c := by
  have := Int.mul_nonneg (show 0 ≤ c - x by omega) (show 0 ≤ c + x by omega)
  grind
theorem sq_le2000 {x : Int} (h1 : -2000 ≤ x) (h2 : x ≤ 2000) : x * x ≤ 4000000 := by have := sq_le h1 h2; omega
theorem mul_le1000 {x y : Int} (h1 : -2000 ≤ x) (h2 : x ≤ 2000) (h3 : -2000 ≤ y) (h4 : y ≤ 2000) : -4000000 ≤ x * y ∧ x * y ≤ 4000000 := by
  have a := sq_le2000 h1 h2
  have b := sq_le2000 h3 h4
  have c := sq_nonneg (x + y)
  have d := sq_nonneg (x - y)
  constructor <;> grind
theorem grow_bound {m n x : Int} {k : Nat} (h0 : 0 ≤ n) (hn : n ≤ 4000000 * k) (h1 : -2000 ≤ x) (h2 : x ≤ 2000) : 0 ≤ grow m n x ∧ grow m n x ≤ 4000000 * (k + 1 : Nat) := by
  have := sq_le2000 h1 h2
  have := sq_nonneg x
  unfold grow
  split
  · omega
  · split
    · omega
    · split <;> omega
theorem foldl_bound {m : Int} : ∀ (v : List Int) (n : Int) (k : Nat), 0 ≤ n → n ≤ 4000000 * k → (∀ x ∈ v, -2000 ≤ x ∧ x ≤ 2000) → 0 ≤ v.foldl (grow m) n ∧ v.foldl (grow m) n ≤ 4000000 * (k + v.length : Nat)
  | [], n, k, h0, h1, _ => ⟨h0, h1⟩
  | x :: v, n, k, h0, h1, h => by
    have := grow_bound (m := m) h0 h1 (h x (by simp)).1 (h x (by simp)).2
    have := foldl_bound (m := m) v (grow m n x) (k + 1) this.1 this.2 fun y hy => h y (by simp [hy])
    simp only [List.foldl_cons, List.length_cons]
    exact ⟨this.1, by omega⟩
theorem norm_bound {m : Int} {v : List Int} (h : ∀ x ∈ v, -2000 ≤ x ∧ x ≤ 2000) : norm m v ≤ 4000000 * v.length := by
  have := foldl_bound (m := m) v 0 0 (by omega) (by omega) h
  have h2 := this.2
  rw [Nat.zero_add] at h2
  exact h2
theorem take_snoc {α : Type} {l : List α} {k : Nat} {x : α} (h : l[k]? = some x) : l.take (k + 1) = l.take k ++ [x] := by
  rw [List.take_add_one, h]; rfl
theorem norm_snoc (m : Int) {v : List Int} {k : Nat} {x : Int} (h : v[k]? = some x) : norm m (v.take (k + 1)) = grow m (norm m (v.take k)) x := by
  rw [take_snoc h, norm, List.foldl_append]; rfl
theorem zip_at {a b : List Int} {k : Nat} {x y : Int} (h : a[k]? = some x) (h' : b[k]? = some y) : (a.zip b)[k]? = some (x, y) := by
  simp [List.zip, List.getElem?_zipWith, h, h']
def dotk (a b : List Int) (k : Nat) : Int := ((a.zip b).take k).foldl (fun s p => s + p.1 * p.2) 0
theorem dotk_zero (a b : List Int) : dotk a b 0 = 0 := by simp [dotk]
theorem dotk_snoc {a b : List Int} {k : Nat} {x y : Int} (h : a[k]? = some x) (h' : b[k]? = some y) : dotk a b (k + 1) = dotk a b k + x * y := by
  rw [dotk, take_snoc (zip_at h h'), List.foldl_append]; rfl
theorem dotk_end {a b : List Int} {n : Nat} (h : a.length ≤ n ∨ b.length ≤ n) : dotk a b n = dot a b := by
  rw [dotk, List.take_of_length_le (by simp; omega)]; rfl
def subk (a b : List Int) (k : Nat) : List Int := (sub a b).take k
theorem sub_at {a b : List Int} {k : Nat} {x y : Int} (h : a[k]? = some x) (h' : b[k]? = some y) : (sub a b)[k]? = some (x - y) := by
  simp [sub, zip_at h h']
theorem subk_snoc {a b : List Int} {k : Nat} {x y : Int} (h : a[k]? = some x) (h' : b[k]? = some y) : subk a b (k + 1) = subk a b k ++ [x - y] := take_snoc (sub_at h h')
theorem key_snoc (m : Int) {a b : List Int} {k : Nat} {x y : Int} (h : a[k]? = some x) (h' : b[k]? = some y) : norm m (subk a b (k + 1)) = grow m (norm m (subk a b k)) (x - y) := norm_snoc m (sub_at h h')
theorem sub_bound {a b : List Int} (ha : Vec a) (hb : Vec b) : ∀ x ∈ sub a b, -2000 ≤ x ∧ x ≤ 2000 := by
  intro x hx
  obtain ⟨p, hp, rfl⟩ := List.mem_map.1 hx
  have h1 := List.of_mem_zip hp
  have := ha.lo _ h1.1; have := ha.hi _ h1.1; have := hb.lo _ h1.2; have := hb.hi _ h1.2
  omega
/-- one list against another -/
def cmpI (a b : Int) : Int := if a < b then -1 else if b < a then 1 else 0
def lex : List Int → List Int → Int
  | [], [] => 0
  | [], _ :: _ => -1
  | _ :: _, [] => 1
  | x :: a, y :: b => if x < y then -1 else if y < x then 1 else lex a b
def cmp (a b : List Int) : Int := if a.length < b.length then -1 else if b.length < a.length then 1 else lex a b
theorem lex_range : ∀ a b, lex a b = -1 ∨ lex a b = 0 ∨ lex a b = 1
  | [], [] => by simp [lex]
  | [], _ :: _ => by simp [lex]
  | _ :: _, [] => by simp [lex]
  | x :: a, y :: b => by
    have := lex_range a b
    simp only [lex]
    split
    · simp
    · split
      · simp
      · exact this
theorem lex_neg : ∀ a b, lex b a = - lex a b
  | [], [] => by simp [lex]
  | [], _ :: _ => by simp [lex]
  | _ :: _, [] => by simp [lex]
  | x :: a, y :: b => by have := lex_neg a b; simp only [lex]; repeat' split
                         all_goals omega
theorem lex_zero : ∀ a b, lex a b = 0 ↔ a = b
  | [], [] => by simp [lex]
  | [], _ :: _ => by simp [lex]
  | _ :: _, [] => by simp [lex]
  | x :: a, y :: b => by
    have := lex_zero a b
    simp only [lex, List.cons.injEq]
    repeat' split
    · simp; omega
    · simp; omega
    · rw [this]; constructor
      · rintro rfl; exact ⟨by omega, rfl⟩
      · exact fun h => h.2
theorem lex_trans : ∀ a b c, lex a b ≤ 0 → lex b c ≤ 0 → lex a c ≤ 0
  | [], _, [] => by simp [lex]
  | [], _, _ :: _ => by simp [lex]
  | _ :: _, [], _ => by simp [lex]
  | _ :: _, _ :: _, [] => by simp [lex]
  | x :: a, y :: b, z :: c => by
    have := lex_trans a b c
    simp only [lex]
    repeat' split
    all_goals omega
theorem cmp_range (a b : List Int) : cmp a b = -1 ∨ cmp a b = 0 ∨ cmp a b = 1 := by
  have := lex_range a b
  unfold cmp; repeat' split
  all_goals simp_all
theorem cmp_neg (a b : List Int) : cmp b a = - cmp a b := by
  have := lex_neg a b
  unfold cmp; repeat' split
  all_goals omega
theorem cmp_zero (a b : List Int) : cmp a b = 0 ↔ a = b := by
  have := lex_zero a b
  unfold cmp; repeat' split
  · constructor
    · intro h; cases h
    · rintro rfl; omega
  · constructor
    · intro h; cases h
    · rintro rfl; omega
  · exact this
theorem cmp_trans (a b c : List Int) (h1 : cmp a b ≤ 0) (h2 : cmp b c ≤ 0) : cmp a c ≤ 0 := by
  have := lex_trans a b c
  revert h1 h2
  unfold cmp; repeat' split
  all_goals omega
theorem cmp_self (a : List Int) : cmp a a = 0 := (cmp_zero a a).2 rfl
end Go.Proofs.Ytlcdjabfkfmpdaa.vq
