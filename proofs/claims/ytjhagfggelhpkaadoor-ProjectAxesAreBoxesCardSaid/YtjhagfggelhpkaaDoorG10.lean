/- Joined: Jp Jk. -/
import Derived.Test.YtjhagfggelhpkaaDoorG9
/- Bounds of keys by projections: mathematics. No program here. -/
namespace Go.Proofs.YtjhagfggelhpkaaDoor.jq

open Go.Proofs.YtjhagfggelhpkaaDoor.vq

set_option linter.unusedVariables false
theorem dot_cons (x y : Int) (a b : List Int) : dot (x :: a) (y :: b) = x * y + dot a b := by
  rw [dot_sm, dot_sm]; rfl
theorem dot_nil (b : List Int) : dot [] b = 0 := rfl
theorem dot_nil' (b : List Int) : dot b [] = 0 := by cases b <;> rfl
theorem dot_sub : ∀ (l q v : List Int), l.length = q.length → q.length = v.length → dot l (sub q v) = dot l q - dot l v
  | [], [], [], _, _ => rfl
  | x :: l, y :: q, z :: v, h, h' => by
    have ih := dot_sub l q v (by simpa using h) (by simpa using h')
    have e : sub (y :: q) (z :: v) = (y - z) :: sub q v := rfl
    rw [e, dot_cons, dot_cons, dot_cons, ih, Int.mul_sub]; omega
theorem dot_comm : ∀ (a b : List Int), dot a b = dot b a
  | [], b => by rw [dot_nil, dot_nil']
  | a, [] => by rw [dot_nil, dot_nil']
  | x :: a, y :: b => by rw [dot_cons, dot_cons, dot_comm a b, Int.mul_comm]
theorem ab_mul (x y : Int) : ab (x * y) = ab x * ab y := by
  unfold ab
  rcases Int.le_total 0 x with hx | hx <;> rcases Int.le_total 0 y with hy | hy
  · have := Int.mul_nonneg hx hy
    rw [Int.max_eq_left (by omega), Int.max_eq_left (by omega), Int.max_eq_left (by omega)]
  · have := Int.mul_nonneg hx (show 0 ≤ -y by omega)
    rw [Int.mul_neg] at this
    rw [Int.max_eq_right (by omega), Int.max_eq_left (by omega), Int.max_eq_right (by omega), Int.mul_neg]
  · have := Int.mul_nonneg (show 0 ≤ -x by omega) hy
    rw [Int.neg_mul] at this
    rw [Int.max_eq_right (by omega), Int.max_eq_right (by omega), Int.max_eq_left (by omega), Int.neg_mul]
  · have := Int.mul_nonneg (show 0 ≤ -x by omega) (show 0 ≤ -y by omega)
    rw [Int.neg_mul_neg] at this
    rw [Int.max_eq_left (by omega), Int.max_eq_right (by omega), Int.max_eq_right (by omega), Int.neg_mul_neg]
theorem dual : ∀ (l d : List Int) (M : Int), (∀ x ∈ l, ab x ≤ M) → 0 ≤ M → ab (dot l d) ≤ M * sm (d.map ab)
  | [], d, M, h, hM => by
    rw [dot_nil]
    have := Int.mul_nonneg hM (sm_ab_nonneg d)
    rw [show ab 0 = 0 from rfl]; exact this
  | x :: l, [], M, h, hM => by rw [dot_nil']; unfold ab; simp [sm]
  | x :: l, y :: d, M, h, hM => by
    have ih := dual l d M (fun z hz => h z (by simp [hz])) hM
    have h1 := ab_add (x * y) (dot l d)
    have h2 : ab x * ab y ≤ M * ab y := Int.mul_le_mul_of_nonneg_right (h x (by simp)) (ab_nonneg y)
    rw [dot_cons]
    rw [ab_mul] at h1
    show _ ≤ M * (ab y + sm (d.map ab))
    rw [Int.mul_add]; omega
theorem dual1 (l d : List Int) : ab (dot l d) ≤ norm 3 l * norm 1 d := by
  rw [norm3, norm1]
  exact dual l d (mx l) (fun x hx => mx_ge hx) (mx_nonneg l)
theorem dual3 (l d : List Int) : ab (dot l d) ≤ norm 1 l * norm 3 d := by
  rw [dot_comm, Int.mul_comm]
  exact dual1 d l
theorem dual2 {l d : List Int} (h : l.length = d.length) : dot l d * dot l d ≤ norm 2 l * norm 2 d := by
  have hc := cauchy (l.zip d)
  obtain ⟨-, h2, h3⟩ := tri2 h
  rw [h2, h3] at hc
  rw [norm2, norm2, dot_sm]
  exact hc
theorem up_le {x n k : Int} (h0 : 0 ≤ k) (h : x ≤ n * k) : up x n ≤ k := by
  unfold up
  split
  · exact h0
  · rename_i hn
    have : (x + n - 1) / n < k + 1 := by
      apply Int.ediv_lt_of_lt_mul (by omega)
      have e : (k + 1) * n = n * k + n := by rw [Int.add_mul, Int.mul_comm]; omega
      omega
    omega
theorem up_nonneg {x n : Int} (h : 0 ≤ x) : 0 ≤ up x n := by
  unfold up
  split
  · omega
  · exact Int.ediv_nonneg (by omega) (by omega)
theorem up_mono {x y n : Int} (h : x ≤ y) : up x n ≤ up y n := by
  unfold up
  split
  · omega
  · rename_i hn
    exact Int.ediv_le_ediv (by omega) (by omega)
theorem outside_nonneg (r : R) (x : Int) : 0 ≤ outside r x := by unfold outside; omega
theorem outside_in {r : R} {x y : Int} (h : in1 r y = true) : outside r x ≤ ab (x - y) := by
  unfold in1 at h
  simp only [Bool.and_eq_true, decide_eq_true_eq] at h
  unfold outside ab
  omega
theorem outside_zero {r : R} {x : Int} (h : in1 r x = true) : outside r x = 0 := by
  unfold in1 at h
  simp only [Bool.and_eq_true, decide_eq_true_eq] at h
  unfold outside
  omega
theorem sq_mono {a b : Int} (h0 : 0 ≤ a) (h : a ≤ b) : a * a ≤ b * b := Int.mul_le_mul h h h0 (by omega)
theorem one_le {m : Int} (hm : m = 1 ∨ m = 2 ∨ m = 3) {l q v : List Int} {r : R} (h1 : l.length = q.length) (h2 : q.length = v.length) (h : in1 r (dot l v) = true) : one m l r q ≤ key m q v := by
  have hg := outside_in (x := dot l q) h
  have h0 := outside_nonneg r (dot l q)
  rw [← dot_sub l q v h1 h2] at hg
  unfold one key
  have hsl : l.length = (sub q v).length := by rw [sub_length h2]; exact h1
  have hk := norm_nonneg m (sub q v)
  rcases hm with rfl | rfl | rfl
  · rw [if_pos rfl]
    exact up_le hk (Int.le_trans hg (dual1 _ _))
  · rw [if_neg (by decide), if_pos rfl]
    refine up_le hk (Int.le_trans (sq_mono h0 hg) ?_)
    rw [ab_sq]
    exact dual2 hsl
  · rw [if_neg (by decide), if_neg (by decide), if_pos rfl]
    exact up_le hk (Int.le_trans hg (dual3 _ _))
theorem one_nonneg {m : Int} {l q : List Int} {r : R} : 0 ≤ one m l r q := by
  have h0 := outside_nonneg r (dot l q)
  unfold one
  split
  · exact up_nonneg h0
  · split
    · exact up_nonneg (Int.mul_nonneg h0 h0)
    · split
      · exact up_nonneg h0
      · omega
theorem one_mono {m : Int} {l q : List Int} {r s : R} (h : outside r (dot l q) ≤ outside s (dot l q)) : one m l r q ≤ one m l s q := by
  have h0 := outside_nonneg r (dot l q)
  unfold one
  split
  · exact up_mono h
  · split
    · exact up_mono (sq_mono h0 h)
    · split
      · exact up_mono h
      · omega
theorem fmax_ge : ∀ (l : List Int) (c : Int), c ≤ l.foldl max c ∧ ∀ x ∈ l, x ≤ l.foldl max c
  | [], c => ⟨Int.le_refl _, fun x hx => by cases hx⟩
  | y :: l, c => by
    obtain ⟨h1, h2⟩ := fmax_ge l (max c y)
    refine ⟨by rw [List.foldl_cons]; omega, fun x hx => ?_⟩
    rw [List.foldl_cons]
    rcases List.mem_cons.1 hx with rfl | hx
    · omega
    · exact h2 x hx
theorem fmax_le : ∀ (l : List Int) (c k : Int), c ≤ k → (∀ x ∈ l, x ≤ k) → l.foldl max c ≤ k
  | [], c, k, h, _ => h
  | y :: l, c, k, h, h' => by
    rw [List.foldl_cons]
    exact fmax_le l _ k (by have := h' y (by simp); omega) fun x hx => h' x (by simp [hx])
theorem mem_ones {m : Int} {L : List (List Int)} {r : List R} {q : List Int} {z : Int} (h : z ∈ ones m L r q) : ∃ (k : Nat) (l : List Int) (x : R), L[k]? = some l ∧ r[k]? = some x ∧ z = one m l x q := by
  unfold ones at h
  obtain ⟨⟨l, x⟩, hp, rfl⟩ := List.mem_map.1 h
  obtain ⟨k, hk, hke⟩ := List.mem_iff_getElem.1 hp
  have e := List.getElem?_eq_getElem hk
  rw [hke, List.getElem?_zip_eq_some] at e
  exact ⟨k, l, x, e.1, e.2, rfl⟩
theorem bound_ge {m : Int} {L : List (List Int)} {r : List R} {q l : List Int} {x : R} {k : Nat} (h : L[k]? = some l) (h' : r[k]? = some x) : one m l x q ≤ bound m L r q := (fmax_ge _ 0).2 _ (List.mem_of_getElem? (ones_at h h'))
theorem bound_nonneg (m : Int) (L : List (List Int)) (r : List R) (q : List Int) : 0 ≤ bound m L r q := (fmax_ge _ 0).1
theorem bound_le {m : Int} {L : List (List Int)} {r : List R} {q : List Int} {K : Int} (h0 : 0 ≤ K) (h : ∀ (k : Nat) l x, L[k]? = some l → r[k]? = some x → one m l x q ≤ K) : bound m L r q ≤ K :=
  fmax_le _ _ _ h0 fun z hz => by
    obtain ⟨k, l, x, h1, h2, rfl⟩ := mem_ones hz
    exact h k l x h1 h2
theorem has_iff {r : List R} {s : List Int} : has r s = true ↔ r.length = s.length ∧ ∀ (k : Nat) x y, r[k]? = some x → s[k]? = some y → in1 x y = true := by
  unfold has hasAll
  simp only [Bool.and_eq_true, decide_eq_true_eq, List.all_eq_true]
  refine and_congr_right fun hl => ⟨fun h k x y hx hy => h (x, y) (List.mem_of_getElem? (zip_at hx hy)), fun h p hp => ?_⟩
  obtain ⟨k, hk, hke⟩ := List.mem_iff_getElem.1 hp
  have e := List.getElem?_eq_getElem hk
  rw [hke, List.getElem?_zip_eq_some] at e
  exact h k _ _ e.1 e.2
theorem bound_key {m : Int} (hm : m = 1 ∨ m = 2 ∨ m = 3) {L : List (List Int)} {r : List R} {q v : List Int} {d : Nat} (hL : Fit L d) (hq : q.length = d) (hv : v.length = d) (h : has r (apply L v) = true) : bound m L r q ≤ key m q v :=
  bound_le (norm_nonneg m _) fun k l x hl hx => by
    have hl' := hL.len l (List.mem_of_getElem? hl)
    exact one_le hm (by omega) (by omega) ((has_iff.1 h).2 k x _ hx (apply_at hl))
theorem in_join1 {a b : R} {x : Int} (h : in1 a x = true ∨ in1 b x = true) : in1 (join1 a b) x = true := by
  unfold in1 join1 at *
  simp only [Bool.and_eq_true, decide_eq_true_eq] at *
  omega
theorem get_of {α : Type} {l : List α} {k n : Nat} (h : l.length = n) (hk : k < n) : ∃ x, l[k]? = some x := ⟨_, List.getElem?_eq_getElem (by omega)⟩
theorem lt_of_get {α : Type} {l : List α} {k : Nat} {x : α} (h : l[k]? = some x) : k < l.length := (List.getElem?_eq_some_iff.1 h).1
theorem has_join {a b : List R} {s : List Int} (hab : a.length = b.length) (h : has a s = true ∨ has b s = true) : has (join a b) s = true := by
  rw [has_iff]
  have hl := join_len hab
  rcases h with h | h
  · obtain ⟨h1, h2⟩ := has_iff.1 h
    refine ⟨by omega, fun k z y hz hy => ?_⟩
    have hk := lt_of_get hz
    obtain ⟨x, hx⟩ := get_of (l := a) rfl (show k < a.length by omega)
    obtain ⟨x', hx'⟩ := get_of (l := b) rfl (show k < b.length by omega)
    rw [join_at hx hx'] at hz
    obtain rfl := Option.some.inj hz
    exact in_join1 (.inl (h2 k x y hx hy))
  · obtain ⟨h1, h2⟩ := has_iff.1 h
    refine ⟨by omega, fun k z y hz hy => ?_⟩
    have hk := lt_of_get hz
    obtain ⟨x, hx⟩ := get_of (l := a) rfl (show k < a.length by omega)
    obtain ⟨x', hx'⟩ := get_of (l := b) rfl (show k < b.length by omega)
    rw [join_at hx hx'] at hz
    obtain rfl := Option.some.inj hz
    exact in_join1 (.inr (h2 k x' y hx' hy))
theorem has_pts (s : List Int) : has (pts s) s = true := by
  rw [has_iff]
  refine ⟨pts_len s, fun k x y hx hy => ?_⟩
  rw [pts_at hy] at hx
  obtain rfl := Option.some.inj hx
  simp [in1]
theorem has_fold {L : List (List Int)} : ∀ (T : List (List Int)) (a : List R) (s : List Int), a.length = L.length → (has a s = true ∨ ∃ v ∈ T, s = apply L v) → has (T.foldl (fun acc v => join acc (pts (apply L v))) a) s = true
  | [], a, s, h, h' => by rcases h' with h' | ⟨v, hv, -⟩; exact h'; cases hv
  | v :: T, a, s, h, h' => by
    rw [List.foldl_cons]
    have hl : a.length = (pts (apply L v)).length := by rw [pts_len, apply_len, h]
    refine has_fold T _ s (by rw [join_len hl, h]) ?_
    rcases h' with h' | ⟨u, hu, rfl⟩
    · exact .inl (has_join hl (.inl h'))
    · rcases List.mem_cons.1 hu with rfl | hu
      · exact .inl (has_join hl (.inr (has_pts _)))
      · exact .inr ⟨u, hu, rfl⟩
theorem has_own {L V : List (List Int)} {v : List Int} (h : v ∈ V) : has (ofR L V) (apply L v) = true := by
  cases V with
  | nil => cases h
  | cons a T =>
    refine has_fold T _ _ (by rw [pts_len, apply_len]; ) ?_
    rcases List.mem_cons.1 h with rfl | h
    · exact .inl (has_pts _)
    · exact .inr ⟨v, h, rfl⟩
theorem join_self (a : List R) : join a a = a := by
  apply List.ext_getElem?
  intro k
  cases h : a[k]? with
  | none =>
    have hk := List.getElem?_eq_none_iff.1 h
    rw [List.getElem?_eq_none_iff, join_len rfl]; exact hk
  | some x =>
    rw [join_at h h]
    obtain ⟨x1, x2⟩ := x
    simp [join1]
theorem bound_join {m : Int} {L : List (List Int)} {a b : List R} {q : List Int} (hab : a.length = b.length) : bound m L (join a b) q ≤ min (bound m L a q) (bound m L b q) := by
  have h0 := bound_nonneg m L a q
  have h1 := bound_nonneg m L b q
  refine bound_le (by omega) fun k l z hl hz => ?_
  have hk := lt_of_get hz
  rw [join_len hab] at hk
  obtain ⟨x, hx⟩ := get_of (l := a) rfl hk
  obtain ⟨y, hy⟩ := get_of (l := b) rfl (show k < b.length by omega)
  rw [join_at hx hy] at hz
  obtain rfl := Option.some.inj hz
  have e1 := bound_ge (m := m) (q := q) hl hx
  have e2 := bound_ge (m := m) (q := q) hl hy
  have e3 : one m l (join1 x y) q ≤ one m l x q := one_mono (by unfold outside join1; dsimp only; omega)
  have e4 : one m l (join1 x y) q ≤ one m l y q := one_mono (by unfold outside join1; dsimp only; omega)
  omega
theorem one_zero {m : Int} {l q : List Int} {r : R} (h : outside r (dot l q) = 0) : one m l r q = 0 := by
  have e : ∀ n, up 0 n = 0 := fun n => by
    unfold up
    split
    · rfl
    · exact Int.ediv_eq_zero_of_lt (by omega) (by omega)
  unfold one
  rw [h, Int.mul_zero, e, e, e]
  simp
theorem bound_has {m : Int} {L : List (List Int)} {a : List R} {q : List Int} (h : has a (apply L q) = true) : bound m L a q = 0 := by
  have h0 := bound_nonneg m L a q
  have h1 : bound m L a q ≤ 0 := bound_le (Int.le_refl _) fun k l x hl hx => by
    rw [one_zero (outside_zero ((has_iff.1 h).2 k x _ hx (apply_at hl)))]; omega
  omega
theorem bound_take {m : Int} {L : List (List Int)} {r : List R} {q : List Int} (n : Nat) : bound m (L.take n) (r.take n) q ≤ bound m L r q := by
  refine bound_le (bound_nonneg _ _ _ _) fun k l x hl hx => ?_
  have h1 : L[k]? = some l := by
    have hk := lt_of_get hl
    rw [List.length_take] at hk
    rw [List.getElem?_take_of_lt (by omega)] at hl; exact hl
  have h2 : r[k]? = some x := by
    have hk := lt_of_get hx
    rw [List.length_take] at hk
    rw [List.getElem?_take_of_lt (by omega)] at hx; exact hx
  exact bound_ge h1 h2
/- multiples -/
def scl (f : Int) (l : List Int) : List Int := l.map (f * ·)
def scr (f : Int) (r : R) : R := (f * r.1, f * r.2)
theorem up_char {x n k : Int} (hn : 0 < n) (h1 : x ≤ n * k) (h2 : n * (k - 1) < x) : up x n = k := by
  unfold up
  rw [if_neg (by omega)]
  have a : (x + n - 1) / n < k + 1 := by
    apply Int.ediv_lt_of_lt_mul hn
    have e : (k + 1) * n = n * k + n := by rw [Int.add_mul, Int.mul_comm]; omega
    omega
  have b : k ≤ (x + n - 1) / n := by
    rw [Int.le_ediv_iff_mul_le hn]
    have e : n * (k - 1) = k * n - n := by rw [Int.mul_sub, Int.mul_comm]; omega
    omega
  omega
theorem up_spec {x n : Int} (hn : 0 < n) : x ≤ n * up x n ∧ n * (up x n - 1) < x := by
  unfold up
  rw [if_neg (by omega)]
  have h1 := Int.emod_add_mul_ediv (x + n - 1) n
  have h2 := Int.emod_nonneg (x + n - 1) (show n ≠ 0 by omega)
  have h3 := Int.emod_lt_of_pos (x + n - 1) hn
  have e : n * ((x + n - 1) / n - 1) = n * ((x + n - 1) / n) - n := by rw [Int.mul_sub]; omega
  rw [e]
  omega
theorem up_scale {f x n : Int} (hf : 1 ≤ f) : up (f * x) (f * n) = up x n := by
  rcases Int.lt_or_le 0 n with hn | hn
  · have h := up_spec (x := x) hn
    have hfn : 0 < f * n := Int.mul_pos (by omega) hn
    refine up_char hfn ?_ ?_
    · rw [Int.mul_assoc]; exact Int.mul_le_mul_of_nonneg_left h.1 (by omega)
    · rw [Int.mul_assoc]; exact Int.mul_lt_mul_of_pos_left h.2 (by omega)
  · have hfn : f * n ≤ 0 := Int.mul_nonpos_of_nonneg_of_nonpos (by omega) hn
    unfold up
    rw [if_pos hn, if_pos hfn]
theorem dot_scale (f : Int) : ∀ (l q : List Int), dot (scl f l) q = f * dot l q
  | [], q => by rw [show scl f [] = [] from rfl, dot_nil]; simp
  | x :: l, [] => by rw [dot_nil', dot_nil']; simp
  | x :: l, y :: q => by
    rw [show scl f (x :: l) = (f * x) :: scl f l from rfl, dot_cons, dot_cons, dot_scale f l q, Int.mul_add, Int.mul_assoc]
theorem ab_scale {f x : Int} (hf : 1 ≤ f) : ab (f * x) = f * ab x := by
  rw [ab_mul]; congr 1; unfold ab; omega
theorem norm1_scale {f : Int} (hf : 1 ≤ f) : ∀ l : List Int, norm 1 (scl f l) = f * norm 1 l
  | [] => by rw [norm1, norm1]; simp [scl, sm]
  | x :: l => by
    have ih := norm1_scale hf l
    rw [norm1, norm1] at *
    show ab (f * x) + sm ((scl f l).map ab) = f * (ab x + sm (l.map ab))
    rw [ih, ab_scale hf, Int.mul_add]
theorem norm2_scale {f : Int} : ∀ l : List Int, norm 2 (scl f l) = f * f * norm 2 l
  | [] => by rw [norm2, norm2]; simp [scl, sm]
  | x :: l => by
    have ih := norm2_scale (f := f) l
    rw [norm2, norm2] at *
    show (f * x) * (f * x) + sm ((scl f l).map fun x => x * x) = f * f * (x * x + sm (l.map fun x => x * x))
    rw [ih, Int.mul_add]
    have : f * x * (f * x) = f * f * (x * x) := by
      rw [Int.mul_assoc, Int.mul_assoc, ← Int.mul_assoc x f x, Int.mul_comm x f, Int.mul_assoc f x x]
    omega
theorem max_scale {f a b : Int} (hf : 1 ≤ f) : max (f * a) (f * b) = f * max a b := by
  rcases Int.le_total a b with h | h
  · rw [Int.max_eq_right h, Int.max_eq_right (Int.mul_le_mul_of_nonneg_left h (by omega))]
  · rw [Int.max_eq_left h, Int.max_eq_left (Int.mul_le_mul_of_nonneg_left h (by omega))]
theorem norm3_scale {f : Int} (hf : 1 ≤ f) : ∀ l : List Int, norm 3 (scl f l) = f * norm 3 l
  | [] => by rw [norm3, norm3]; simp [scl, mx]
  | x :: l => by
    have ih := norm3_scale hf l
    rw [norm3, norm3] at *
    show max (ab (f * x)) (mx (scl f l)) = f * max (ab x) (mx l)
    rw [ih, ab_scale hf, max_scale hf]
theorem outside_scale {f : Int} (hf : 1 ≤ f) (r : R) (x : Int) : outside (scr f r) (f * x) = f * outside r x := by
  unfold outside scr
  dsimp only
  rw [← Int.mul_sub, ← Int.mul_sub, max_scale hf]
  have e : (0 : Int) = f * 0 := by simp
  rw [e, max_scale hf]; simp
theorem one_scale {m f : Int} (hf : 1 ≤ f) (l : List Int) (r : R) (q : List Int) : one m (scl f l) (scr f r) q = one m l r q := by
  unfold one
  rw [dot_scale, outside_scale hf, norm3_scale hf, norm1_scale hf, norm2_scale, up_scale hf, up_scale hf]
  generalize outside r (dot l q) = g
  have e : f * g * (f * g) = (f * f) * (g * g) := by
    rw [Int.mul_assoc, Int.mul_assoc, ← Int.mul_assoc g f g, Int.mul_comm g f, Int.mul_assoc f g g]
  have hff : 1 ≤ f * f := by have := Int.mul_le_mul hf hf (by omega) (by omega); omega
  rw [e, up_scale hff]
theorem bound_scale {m f : Int} (hf : 1 ≤ f) (L : List (List Int)) (r : List R) (q : List Int) : bound m (L.map (scl f)) (r.map (scr f)) q = bound m L r q := by
  unfold bound
  congr 1
  unfold ones
  rw [List.zip_map, List.map_map]
  apply List.map_congr_left
  rintro ⟨l, x⟩ _
  exact one_scale hf l x q
/- axes -/
def axis (d k : Nat) : List Int := (List.replicate d 0).set k 1
def axesL (d : Nat) : List (List Int) := (List.range d).map (axis d)
def near1 (x : Int) (r : R) : Int := min (max x r.1) r.2
def nearL (q : List Int) (r : List R) : List Int := (q.zip r).map fun p => near1 p.1 p.2
theorem axis_zero (d : Nat) : axis (d + 1) 0 = 1 :: List.replicate d 0 := rfl
theorem axis_succ (d k : Nat) : axis (d + 1) (k + 1) = 0 :: axis d k := rfl
theorem axis_len (d k : Nat) : (axis d k).length = d := by simp [axis]
theorem dot_zeros : ∀ (d : Nat) (q : List Int), dot (List.replicate d 0) q = 0
  | 0, q => rfl
  | d + 1, [] => by rw [dot_nil']
  | d + 1, x :: q => by rw [List.replicate_succ, dot_cons, dot_zeros d q]; simp
theorem dot_axis : ∀ (d k : Nat) (q : List Int) (x : Int), k < d → q[k]? = some x → dot (axis d k) q = x
  | 0, k, q, x, h, _ => by omega
  | d + 1, 0, [], x, h, hx => by simp at hx
  | d + 1, 0, y :: q, x, h, hx => by
    rw [axis_zero, dot_cons, dot_zeros]; simp at hx; omega
  | d + 1, k + 1, [], x, h, hx => by simp at hx
  | d + 1, k + 1, y :: q, x, h, hx => by
    rw [axis_succ, dot_cons, dot_axis d k q x (by omega) (by simpa using hx)]; omega
theorem sm_zeros (g : Int → Int) (hg : g 0 = 0) : ∀ d : Nat, sm ((List.replicate d 0).map g) = 0
  | 0 => rfl
  | d + 1 => by rw [List.replicate_succ, List.map_cons]; show g 0 + _ = 0; rw [sm_zeros g hg d, hg]; rfl
theorem sm_axis (g : Int → Int) (h0 : g 0 = 0) (h1 : g 1 = 1) : ∀ d k : Nat, k < d → sm ((axis d k).map g) = 1
  | 0, k, h => by omega
  | d + 1, 0, h => by rw [axis_zero, List.map_cons]; show g 1 + _ = 1; rw [sm_zeros g h0, h1]; rfl
  | d + 1, k + 1, h => by rw [axis_succ, List.map_cons]; show g 0 + _ = 1; rw [sm_axis g h0 h1 d k (by omega), h0]; rfl
theorem mx_zeros : ∀ d : Nat, mx (List.replicate d 0) = 0
  | 0 => rfl
  | d + 1 => by rw [List.replicate_succ]; show max (ab 0) _ = 0; rw [mx_zeros d]; rfl
theorem mx_axis : ∀ d k : Nat, k < d → mx (axis d k) = 1
  | 0, k, h => by omega
  | d + 1, 0, h => by rw [axis_zero]; show max (ab 1) _ = 1; rw [mx_zeros]; rfl
  | d + 1, k + 1, h => by rw [axis_succ]; show max (ab 0) _ = 1; rw [mx_axis d k (by omega)]; rfl
theorem up_one (x : Int) : up x 1 = x := by unfold up; rw [if_neg (by omega)]; simp
theorem one_axis {m : Int} {d k : Nat} {q : List Int} {x : Int} {r : R} (hk : k < d) (hx : q[k]? = some x) : one m (axis d k) r q = if m = 1 then outside r x else if m = 2 then outside r x * outside r x else if m = 3 then outside r x else 0 := by
  unfold one
  rw [dot_axis d k q x hk hx, norm1, norm2, norm3, mx_axis d k hk, sm_axis ab rfl rfl d k hk, sm_axis (fun x => x * x) rfl rfl d k hk, up_one, up_one]
theorem outside_near {r : R} {x : Int} (h : r.1 ≤ r.2) : outside r x = ab (x - near1 x r) := by
  unfold outside ab near1; omega
theorem in_near {r : R} {x : Int} (h : r.1 ≤ r.2) : in1 r (near1 x r) = true := by
  unfold in1 near1
  simp only [Bool.and_eq_true, decide_eq_true_eq]
  omega
theorem nearL_at {q : List Int} {r : List R} {k : Nat} {x : Int} {y : R} (h : q[k]? = some x) (h' : r[k]? = some y) : (nearL q r)[k]? = some (near1 x y) := by simp [nearL, zip_at h h']
theorem nearL_len {q : List Int} {r : List R} (h : q.length = r.length) : (nearL q r).length = q.length := by simp [nearL, h]
theorem axesL_len (d : Nat) : (axesL d).length = d := by simp [axesL]
theorem axesL_at {d k : Nat} (h : k < d) : (axesL d)[k]? = some (axis d k) := by simp [axesL, h]
theorem sub_get {q v : List Int} {k : Nat} {x y : Int} (h : q[k]? = some x) (h' : v[k]? = some y) : x - y ∈ sub q v := List.mem_of_getElem? (sub_at h h')
theorem axes_le {m : Int} (hm : m = 1 ∨ m = 2 ∨ m = 3) {q : List Int} {r : List R} {d : Nat} (hq : q.length = d) (hr : r.length = d) (ho : ∀ x ∈ r, x.1 ≤ x.2) : bound m (axesL d) r q ≤ key m q (nearL q r) := by
  refine bound_le (norm_nonneg m _) fun k l y hl hy => ?_
  have hk : k < d := by have := lt_of_get hy; omega
  rw [axesL_at hk] at hl
  obtain rfl := Option.some.inj hl
  obtain ⟨x, hx⟩ := get_of hq hk
  have hn := nearL_at hx hy
  have hmem := sub_get hx hn
  have hyo := ho y (List.mem_of_getElem? hy)
  rw [one_axis hk hx, outside_near hyo]
  unfold key
  rcases hm with rfl | rfl | rfl
  · rw [if_pos rfl]
    have h1 := (norms (sub q (nearL q r))).1
    rw [norm3] at h1
    have h2 := mx_ge hmem
    omega
  · rw [if_neg (by decide), if_pos rfl, ab_sq, norm2]
    exact sq_le_sm _ hmem
  · rw [if_neg (by decide), if_neg (by decide), if_pos rfl, norm3]
    exact mx_ge hmem
theorem axes_eq {q : List Int} {r : List R} {d : Nat} (hq : q.length = d) (hr : r.length = d) (ho : ∀ x ∈ r, x.1 ≤ x.2) : bound 3 (axesL d) r q = key 3 q (nearL q r) := by
  have h1 := axes_le (m := 3) (.inr (.inr rfl)) hq hr ho
  have h0 := bound_nonneg 3 (axesL d) r q
  have h2 : key 3 q (nearL q r) ≤ bound 3 (axesL d) r q := by
    unfold key
    rw [norm3]
    rcases mx_at (sub q (nearL q r)) with h | ⟨z, hz, hze⟩
    · omega
    · rw [← hze]
      obtain ⟨k, hk, hke⟩ := List.mem_iff_getElem.1 hz
      have hkd : k < d := by
        rw [sub_length (by rw [nearL_len (by omega)])] at hk; omega
      obtain ⟨x, hx⟩ := get_of hq hkd
      obtain ⟨y, hy⟩ := get_of hr hkd
      have hs := sub_at hx (nearL_at hx hy)
      rw [List.getElem?_eq_getElem hk, hke] at hs
      obtain rfl := Option.some.inj hs
      have hg := bound_ge (m := 3) (q := q) (axesL_at hkd) hy
      rw [one_axis hkd hx, if_neg (by decide), if_neg (by decide), if_pos rfl, outside_near (ho y (List.mem_of_getElem? hy))] at hg
      exact hg
  omega
theorem axes_has {q : List Int} {r : List R} {d : Nat} (hq : q.length = d) (hr : r.length = d) (ho : ∀ x ∈ r, x.1 ≤ x.2) : has r (apply (axesL d) (nearL q r)) = true := by
  rw [has_iff]
  refine ⟨by rw [apply_len, axesL_len, hr], fun k y z hy hz => ?_⟩
  have hk : k < d := by have := lt_of_get hy; omega
  obtain ⟨x, hx⟩ := get_of hq hk
  rw [apply_at (axesL_at hk), dot_axis d k _ _ hk (nearL_at hx hy)] at hz
  obtain rfl := Option.some.inj hz
  exact in_near (ho y (List.mem_of_getElem? hy))
theorem axes_fit {d : Nat} (h1 : 1 ≤ d) (h8 : d ≤ 8) : Fit (axesL d) d := by
  have hm : ∀ l ∈ axesL d, ∃ k, k < d ∧ l = axis d k := fun l hl => by
    unfold axesL at hl
    obtain ⟨k, hk, rfl⟩ := List.mem_map.1 hl
    exact ⟨k, List.mem_range.1 hk, rfl⟩
  have hx : ∀ l ∈ axesL d, ∀ x ∈ l, x = 0 ∨ x = 1 := fun l hl x hx => by
    obtain ⟨k, hk, rfl⟩ := hm l hl
    unfold axis at hx
    rcases List.mem_or_eq_of_mem_set hx with h | h
    · exact .inl (List.eq_of_mem_replicate h)
    · exact .inr h
  refine ⟨fun l hl => by obtain ⟨k, -, rfl⟩ := hm l hl; exact axis_len d k, fun l hl x hx' => by rcases hx l hl x hx' with rfl | rfl <;> omega, fun l hl x hx' => by rcases hx l hl x hx' with rfl | rfl <;> omega, fun l hl => ?_, by rw [axesL_len]; exact h1, by rw [axesL_len]; exact h8, h1, by omega⟩
  obtain ⟨k, hk, rfl⟩ := hm l hl
  exact ⟨1, List.mem_iff_getElem.2 ⟨k, by rw [axis_len]; exact hk, by simp [axis]⟩, by decide⟩
end Go.Proofs.YtjhagfggelhpkaaDoor.jq
/- What the laws' walks have in common. -/
namespace Go.Proofs.YtjhagfggelhpkaaDoor.jk

open Go.ChangeShapes Go.WideShapes Go.ChangeAt Go.RowKit

open Go.Proofs.YtjhagfggelhpkaaDoor.jq Go.Proofs.YtjhagfggelhpkaaDoor.vk Go.Proofs.YtjhagfggelhpkaaDoor.wk

set_option linter.unusedVariables false
def In (c : Int) (r : R) : Prop := (-c ≤ r.1 ∧ r.1 ≤ c) ∧ -c ≤ r.2 ∧ r.2 ≤ c
theorem in_join {a b : List R} {c : Int} (ha : ∀ r ∈ a, In c r) (hb : ∀ r ∈ b, In c r) : ∀ r ∈ join a b, In c r := fun r hr => by
  simp only [join, List.mem_map] at hr
  obtain ⟨⟨x, y⟩, hp, rfl⟩ := hr
  have h1 := List.of_mem_zip hp
  have hx := ha _ h1.1
  have hy := hb _ h1.2
  unfold In join1 at *
  dsimp only
  omega
theorem in_pts {s : List Int} {c : Int} (h : ∀ x ∈ s, -c ≤ x ∧ x ≤ c) : ∀ r ∈ pts s, In c r := fun r hr => by
  simp only [pts, List.mem_map] at hr
  obtain ⟨x, hx, rfl⟩ := hr
  exact ⟨h x hx, h x hx⟩
theorem in_of {L V : List (List Int)} {d : Nat} (hf : Fit L d) (hv : ∀ v ∈ V, vq.Vec v) (h1 : 1 ≤ V.length) : ∀ r ∈ ofR L V, In 512000 r := by
  have key : ∀ (T : List (List Int)) (a : List R), (∀ v ∈ T, vq.Vec v) → (∀ r ∈ a, In 512000 r) → ∀ r ∈ T.foldl (fun acc v => join acc (pts (apply L v))) a, In 512000 r := by
    intro T
    induction T with
    | nil => intro a _ h; exact h
    | cons v T ih =>
      intro a hT ha
      rw [List.foldl_cons]
      exact ih _ (fun u hu => hT u (by simp [hu])) (in_join ha (in_pts (apply_bd hf (hT v (by simp)))))
  cases V with
  | nil => simp at h1
  | cons m T => exact key T _ (fun u hu => hv u (by simp [hu])) (in_pts (apply_bd hf (hv m (by simp))))
theorem in_ok {r : List R} {n : Int} (h : ranges r n = true) : (r.length : Int) = n ∧ (∀ x ∈ r, In 1073741824 x) ∧ ∀ x ∈ r, x.1 ≤ x.2 := by
  unfold ranges at h
  simp only [Bool.and_eq_true, decide_eq_true_eq, List.all_eq_true] at h
  refine ⟨h.1, fun x hx => ?_, fun x hx => ?_⟩
  · have := h.2 x hx
    unfold okR at this
    simp only [Bool.and_eq_true, decide_eq_true_eq] at this
    unfold In; omega
  · have := h.2 x hx
    unfold okR at this
    simp only [Bool.and_eq_true, decide_eq_true_eq] at this
    omega
theorem in_rng {r : List R} {c : Int} (h : ∀ x ∈ r, In c x) (hc : c ≤ 1073741824) : ∀ x ∈ r, (-2147483648 ≤ x.1 ∧ x.1 ≤ 1073741824) ∧ -1073741824 ≤ x.2 ∧ x.2 ≤ 2147483648 := fun x hx => by
  have := h x hx
  unfold In at this; omega
theorem metric3 {m : Int} (h : decide (1 ≤ m ∧ m ≤ 3) = true) : M3 m := by
  have := of_decide_eq_true h
  unfold M3; omega
end Go.Proofs.YtjhagfggelhpkaaDoor.jk
