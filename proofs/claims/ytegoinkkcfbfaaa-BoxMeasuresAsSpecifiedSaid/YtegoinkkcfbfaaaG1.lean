/- Joined: Qa Ba Plain Kit Kit2 Int Get Dec DecL. -/
import Derived.WalkKit

import Derived.Below

import Derived.Lib.Hide

import Derived.Lib.Zigzag

import Derived.ProofKit

import Derived.OwnWalk

import Derived.Maps.AppendAt

import Derived.Outline

import Derived.WalkSpells

import Derived.WalkLawsBesides

import Derived.Deep.LoopGhost

import Derived.Lib.AppendStr

import Derived.Laws.Tables

import Derived.Laws.Rows

import Derived.Laws.CopyOwn

import Derived.Laws.StructEq

import Derived.Laws.BytesString

import Derived.Laws.BytesArg

import Derived.Deep.QuietTactic

import Derived.BigQuiet

import Derived.ArgAppend

import Derived.Deep.Upon

import Derived.Deep.AppendSrc

import Derived.Test.YtegoinkkcfbfaaaRows
/- Vectors, plainly: sums over lists of integers. No program here. -/
namespace Go.Proofs.Ytegoinkkcfbfaaa.vq
theorem two {α : Type} {P : List α → List α → Prop} (h0 : P [] []) (h1 : ∀ x y a b, a.length = b.length → P a b → P (x :: a) (y :: b)) : ∀ a b, a.length = b.length → P a b
  | [], [], _ => h0
  | x :: a, y :: b, h => by
    have h' : a.length = b.length := by simpa using h
    exact h1 x y a b h' (two h0 h1 a b h')
  | [], _ :: _, h => by simp at h
  | _ :: _, [], h => by simp at h
def okc (x : Int) : Bool := decide (-1000 ≤ x) && decide (x ≤ 1000)
theorem okc_iff {x : Int} : okc x = true ↔ -1000 ≤ x ∧ x ≤ 1000 := by simp [okc]
def valid (v : List Int) : Bool := decide (1 ≤ v.length) && decide (v.length ≤ 32) && v.all okc
def alike (a b : List Int) : Bool := decide (a.length = b.length) && valid a && valid b
structure Vec (v : List Int) : Prop where
  pos : 1 ≤ v.length
  le : v.length ≤ 32
  lo : ∀ x ∈ v, -1000 ≤ x
  hi : ∀ x ∈ v, x ≤ 1000
theorem valid_iff {v : List Int} : valid v = true ↔ Vec v := by
  simp only [valid, Bool.and_eq_true, decide_eq_true_eq, List.all_eq_true, okc_iff]
  exact ⟨fun ⟨⟨h1, h2⟩, h3⟩ => ⟨h1, h2, fun x hx => (h3 x hx).1, fun x hx => (h3 x hx).2⟩, fun h => ⟨⟨h.pos, h.le⟩, fun x hx => ⟨h.lo x hx, h.hi x hx⟩⟩⟩
theorem alike_iff {a b : List Int} : alike a b = true ↔ a.length = b.length ∧ Vec a ∧ Vec b := by
  simp [alike, valid_iff, and_assoc]
def sub (a b : List Int) : List Int := (a.zip b).map fun p => p.1 - p.2
theorem sub_length {a b : List Int} (h : a.length = b.length) : (sub a b).length = a.length := by simp [sub, h]
def dot (a b : List Int) : Int := (a.zip b).foldl (fun s p => s + p.1 * p.2) 0
def grow (m n x : Int) : Int := if m = 1 then n + max x (-x) else if m = 2 then n + x * x else if m = 3 then max (max n x) (-x) else 0
def norm (m : Int) (v : List Int) : Int := v.foldl (grow m) 0
def key (m : Int) (a b : List Int) : Int := norm m (sub a b)
def sm : List Int → Int
  | [] => 0
  | x :: l => x + sm l
theorem foldl_sm (f : Int → Int) : ∀ (l : List Int) (c : Int), l.foldl (fun s x => s + f x) c = c + sm (l.map f)
  | [], c => by simp [sm]
  | x :: l, c => by simp only [List.foldl_cons, foldl_sm f l, List.map_cons, sm]; omega
theorem foldl_sm2 (f : Int × Int → Int) : ∀ (l : List (Int × Int)) (c : Int), l.foldl (fun s x => s + f x) c = c + sm (l.map f)
  | [], c => by simp [sm]
  | x :: l, c => by simp only [List.foldl_cons, foldl_sm2 f l, List.map_cons, sm]; omega
def ab (x : Int) : Int := max x (-x)
def mx : List Int → Int
  | [] => 0
  | x :: l => max (ab x) (mx l)
theorem norm1 (v : List Int) : norm 1 v = sm (v.map ab) := by
  have : grow 1 = fun s x => s + ab x := by funext n x; simp [grow, ab]
  rw [norm, this, foldl_sm]; omega
theorem norm2 (v : List Int) : norm 2 v = sm (v.map fun x => x * x) := by
  have : grow 2 = fun s x => s + x * x := by funext n x; simp [grow]
  rw [norm, this, foldl_sm]; omega
theorem mx_nonneg : ∀ l, 0 ≤ mx l
  | [] => by simp [mx]
  | x :: l => by have := mx_nonneg l; simp only [mx]; omega
theorem foldl_mx : ∀ (l : List Int) (c : Int), 0 ≤ c → l.foldl (grow 3) c = max c (mx l)
  | [], c, h => by simp [mx]; omega
  | x :: l, c, h => by
    have e : grow 3 c x = max c (ab x) := by simp only [grow, ab]; simp
    simp only [List.foldl_cons, e, foldl_mx l _ (show 0 ≤ max c (ab x) by omega), mx]; omega
theorem norm3 (v : List Int) : norm 3 v = mx v := by
  rw [norm, foldl_mx v 0 (by omega)]; have := mx_nonneg v; omega
theorem dot_sm (a b : List Int) : dot a b = sm ((a.zip b).map fun p => p.1 * p.2) := by
  rw [dot, foldl_sm2]; omega
theorem ab_nonneg (x : Int) : 0 ≤ ab x := by unfold ab; omega
theorem sm_nonneg {l : List Int} (h : ∀ x ∈ l, 0 ≤ x) : 0 ≤ sm l := by
  induction l with
  | nil => simp [sm]
  | cons x l ih => have := h x (by simp); have := ih fun y hy => h y (by simp [hy]); simp only [sm]; omega
theorem sm_ab_nonneg (v : List Int) : 0 ≤ sm (v.map ab) := sm_nonneg fun x hx => by
  obtain ⟨y, _, rfl⟩ := List.mem_map.1 hx
  exact ab_nonneg y
theorem sq_nonneg (x : Int) : 0 ≤ x * x := by
  rcases Int.le_total 0 x with h | h
  · exact Int.mul_nonneg h h
  · exact Int.mul_nonneg_of_nonpos_of_nonpos h h
theorem sm_sq_nonneg (v : List Int) : 0 ≤ sm (v.map fun x => x * x) := sm_nonneg fun x hx => by
  obtain ⟨y, _, rfl⟩ := List.mem_map.1 hx
  exact sq_nonneg y
theorem norm_nonneg (m : Int) (v : List Int) : 0 ≤ norm m v := by
  by_cases h1 : m = 1
  · subst h1; rw [norm1]; exact sm_ab_nonneg v
  by_cases h2 : m = 2
  · subst h2; rw [norm2]; exact sm_sq_nonneg v
  by_cases h3 : m = 3
  · subst h3; rw [norm3]; exact mx_nonneg v
  · unfold norm
    have : grow m = fun _ _ => 0 := by funext n x; simp [grow, h1, h2, h3]
    rw [this]
    rcases List.eq_nil_or_concat v with rfl | ⟨l, x, rfl⟩ <;> simp
/-- the bounds of a fold over the coordinates -/
theorem sq_le {x c : Int} (h1 : -c ≤ x) (h2 : x ≤ c) : x * x ≤ c * c := by
  have := Int.mul_nonneg (show 0 ≤ c - x by omega) (show 0 ≤ c + x by omega)
  grind
theorem sq_le2000 {x : Int} (h1 : -2000 ≤ x) (h2 : x ≤ 2000) : x * x ≤ 4000000 := by have := sq_le h1 h2; omega
theorem mul_le1000 {x y : Int} (h1 : -2000 ≤ x) (h2 : x ≤ 2000) (h3 : -2000 ≤ y) (h4 : y ≤ 2000) : -4000000 ≤ x * y ∧ x * y ≤ 4000000 := by
  have a := sq_le2000 h1 h2
  have b := sq_le2000 h3 h4
  have c := sq_nonneg (x + y)
  have d := sq_nonneg (x - y)
  constructor <;> grind
theorem grow_bound {m n x : Int} {k : Nat} (h0 : 0 ≤ n) (hn : n ≤ 4000000 * k) (h1 : -2000 ≤ x) (h2 : x ≤ 2000) : 0 ≤ grow m n x ∧ grow m n x ≤ 4000000 * (k + 1 : Nat) := by
  have := sq_le2000 h1 h2
  have := sq_nonneg x
  unfold grow
  split
  · omega
  · split
    · omega
    · split <;> omega
theorem foldl_bound {m : Int} : ∀ (v : List Int) (n : Int) (k : Nat), 0 ≤ n → n ≤ 4000000 * k → (∀ x ∈ v, -2000 ≤ x ∧ x ≤ 2000) → 0 ≤ v.foldl (grow m) n ∧ v.foldl (grow m) n ≤ 4000000 * (k + v.length : Nat)
  | [], n, k, h0, h1, _ => ⟨h0, h1⟩
  | x :: v, n, k, h0, h1, h => by
    have := grow_bound (m := m) h0 h1 (h x (by simp)).1 (h x (by simp)).2
    have := foldl_bound (m := m) v (grow m n x) (k + 1) this.1 this.2 fun y hy => h y (by simp [hy])
    simp only [List.foldl_cons, List.length_cons]
    exact ⟨this.1, by omega⟩
theorem norm_bound {m : Int} {v : List Int} (h : ∀ x ∈ v, -2000 ≤ x ∧ x ≤ 2000) : norm m v ≤ 4000000 * v.length := by
  have := foldl_bound (m := m) v 0 0 (by omega) (by omega) h
  have h2 := this.2
  rw [Nat.zero_add] at h2
  exact h2
theorem take_snoc {α : Type} {l : List α} {k : Nat} {x : α} (h : l[k]? = some x) : l.take (k + 1) = l.take k ++ [x] := by
  rw [List.take_add_one, h]; rfl
theorem norm_snoc (m : Int) {v : List Int} {k : Nat} {x : Int} (h : v[k]? = some x) : norm m (v.take (k + 1)) = grow m (norm m (v.take k)) x := by
  rw [take_snoc h, norm, List.foldl_append]; rfl
theorem zip_at {a b : List Int} {k : Nat} {x y : Int} (h : a[k]? = some x) (h' : b[k]? = some y) : (a.zip b)[k]? = some (x, y) := by
  simp [List.zip, List.getElem?_zipWith, h, h']
def dotk (a b : List Int) (k : Nat) : Int := ((a.zip b).take k).foldl (fun s p => s + p.1 * p.2) 0
theorem dotk_zero (a b : List Int) : dotk a b 0 = 0 := by simp [dotk]
theorem dotk_snoc {a b : List Int} {k : Nat} {x y : Int} (h : a[k]? = some x) (h' : b[k]? = some y) : dotk a b (k + 1) = dotk a b k + x * y := by
  rw [dotk, take_snoc (zip_at h h'), List.foldl_append]; rfl
theorem dotk_end {a b : List Int} {n : Nat} (h : a.length ≤ n ∨ b.length ≤ n) : dotk a b n = dot a b := by
  rw [dotk, List.take_of_length_le (by simp; omega)]; rfl
def subk (a b : List Int) (k : Nat) : List Int := (sub a b).take k
theorem sub_at {a b : List Int} {k : Nat} {x y : Int} (h : a[k]? = some x) (h' : b[k]? = some y) : (sub a b)[k]? = some (x - y) := by
  simp [sub, zip_at h h']
theorem subk_snoc {a b : List Int} {k : Nat} {x y : Int} (h : a[k]? = some x) (h' : b[k]? = some y) : subk a b (k + 1) = subk a b k ++ [x - y] := take_snoc (sub_at h h')
theorem key_snoc (m : Int) {a b : List Int} {k : Nat} {x y : Int} (h : a[k]? = some x) (h' : b[k]? = some y) : norm m (subk a b (k + 1)) = grow m (norm m (subk a b k)) (x - y) := norm_snoc m (sub_at h h')
theorem sub_bound {a b : List Int} (ha : Vec a) (hb : Vec b) : ∀ x ∈ sub a b, -2000 ≤ x ∧ x ≤ 2000 := by
  intro x hx
  obtain ⟨p, hp, rfl⟩ := List.mem_map.1 hx
  have h1 := List.of_mem_zip hp
  have := ha.lo _ h1.1; have := ha.hi _ h1.1; have := hb.lo _ h1.2; have := hb.hi _ h1.2
  omega
/-- one list against another -/
def cmpI (a b : Int) : Int := if a < b then -1 else if b < a then 1 else 0
def lex : List Int → List Int → Int
  | [], [] => 0
  | [], _ :: _ => -1
  | _ :: _, [] => 1
  | x :: a, y :: b => if x < y then -1 else if y < x then 1 else lex a b
def cmp (a b : List Int) : Int := if a.length < b.length then -1 else if b.length < a.length then 1 else lex a b
theorem lex_range : ∀ a b, lex a b = -1 ∨ lex a b = 0 ∨ lex a b = 1
  | [], [] => by simp [lex]
  | [], _ :: _ => by simp [lex]
  | _ :: _, [] => by simp [lex]
  | x :: a, y :: b => by
    have := lex_range a b
    simp only [lex]
    split
    · simp
    · split
      · simp
      · exact this
theorem lex_neg : ∀ a b, lex b a = - lex a b
  | [], [] => by simp [lex]
  | [], _ :: _ => by simp [lex]
  | _ :: _, [] => by simp [lex]
  | x :: a, y :: b => by have := lex_neg a b; simp only [lex]; repeat' split
                         all_goals omega
theorem lex_zero : ∀ a b, lex a b = 0 ↔ a = b
  | [], [] => by simp [lex]
  | [], _ :: _ => by simp [lex]
  | _ :: _, [] => by simp [lex]
  | x :: a, y :: b => by
    have := lex_zero a b
    simp only [lex, List.cons.injEq]
    repeat' split
    · simp; omega
    · simp; omega
    · rw [this]; constructor
      · rintro rfl; exact ⟨by omega, rfl⟩
      · exact fun h => h.2
theorem lex_trans : ∀ a b c, lex a b ≤ 0 → lex b c ≤ 0 → lex a c ≤ 0
  | [], _, [] => by simp [lex]
  | [], _, _ :: _ => by simp [lex]
  | _ :: _, [], _ => by simp [lex]
  | _ :: _, _ :: _, [] => by simp [lex]
  | x :: a, y :: b, z :: c => by
    have := lex_trans a b c
    simp only [lex]
    repeat' split
    all_goals omega
theorem cmp_range (a b : List Int) : cmp a b = -1 ∨ cmp a b = 0 ∨ cmp a b = 1 := by
  have := lex_range a b
  unfold cmp; repeat' split
  all_goals simp_all
theorem cmp_neg (a b : List Int) : cmp b a = - cmp a b := by
  have := lex_neg a b
  unfold cmp; repeat' split
  all_goals omega
theorem cmp_zero (a b : List Int) : cmp a b = 0 ↔ a = b := by
  have := lex_zero a b
  unfold cmp; repeat' split
  · constructor
    · intro h; cases h
    · rintro rfl; omega
  · constructor
    · intro h; cases h
    · rintro rfl; omega
  · exact this
theorem cmp_trans (a b c : List Int) (h1 : cmp a b ≤ 0) (h2 : cmp b c ≤ 0) : cmp a c ≤ 0 := by
  have := lex_trans a b c
  revert h1 h2
  unfold cmp; repeat' split
  all_goals omega
theorem cmp_self (a : List Int) : cmp a a = 0 := (cmp_zero a a).2 rfl
end Go.Proofs.Ytegoinkkcfbfaaa.vq
/- Boxes, plainly. No program here. -/
namespace Go.Proofs.Ytegoinkkcfbfaaa.bq

open Go.Proofs.Ytegoinkkcfbfaaa
abbrev Pair := List Int × List Int
def at' (l : List Int) (i : Nat) : Int := l.getD i 0
theorem at_of {l : List Int} {i : Nat} {x : Int} (h : l[i]? = some x) : at' l i = x := by simp [at', List.getD, h]
theorem of_at {l : List Int} {i : Nat} (h : i < l.length) : l[i]? = some (at' l i) := by simp [at', List.getD, h]
def le (a b : List Int) : Bool := (List.range a.length).all fun i => decide (at' a i ≤ at' b i)
theorem le_iff {a b : List Int} : le a b = true ↔ ∀ i, i < a.length → at' a i ≤ at' b i := by simp [le]
theorem le_not {a b : List Int} {i : Nat} (h : i < a.length) (hn : at' b i < at' a i) : le a b = false := by
  cases hh : le a b
  · rfl
  · have := le_iff.1 hh i h; omega
def bvalid (p : Pair) : Bool := vq.valid p.1 && vq.valid p.2 && decide (p.1.length = p.2.length) && le p.1 p.2
structure IsBox (p : Pair) : Prop where
  lo : vq.Vec p.1
  hi : vq.Vec p.2
  len : p.1.length = p.2.length
  le : ∀ i, i < p.1.length → at' p.1 i ≤ at' p.2 i
theorem bvalid_iff {p : Pair} : bvalid p = true ↔ IsBox p := by
  simp only [bvalid, Bool.and_eq_true, vq.valid_iff, decide_eq_true_eq, le_iff]
  exact ⟨fun ⟨⟨⟨h1, h2⟩, h3⟩, h4⟩ => ⟨h1, h2, h3, h4⟩, fun h => ⟨⟨⟨h.lo, h.hi⟩, h.len⟩, h.le⟩⟩
def balike (p q : Pair) : Bool := decide (p.1.length = q.1.length) && bvalid p && bvalid q
theorem balike_iff {p q : Pair} : balike p q = true ↔ p.1.length = q.1.length ∧ IsBox p ∧ IsBox q := by
  simp only [balike, Bool.and_eq_true, bvalid_iff, decide_eq_true_eq, and_assoc]
theorem vec_at {l : List Int} (h : vq.Vec l) {i : Nat} (hi : i < l.length) : -1000 ≤ at' l i ∧ at' l i ≤ 1000 := by
  have hm : at' l i ∈ l := List.mem_of_getElem? (of_at hi)
  exact ⟨h.lo _ hm, h.hi _ hm⟩
def mins (a b : List Int) : List Int := (List.range a.length).map fun i => min (at' a i) (at' b i)
def maxs (a b : List Int) : List Int := (List.range a.length).map fun i => max (at' a i) (at' b i)
def join (p q : Pair) : Pair := (mins p.1 q.1, maxs p.2 q.2)
def meet (p q : Pair) : Pair := (maxs p.1 q.1, mins p.2 q.2)
def inside (p q : Pair) : Bool := balike p q && le q.1 p.1 && le p.2 q.2
def has (p : Pair) (v : List Int) : Bool := inside (v, v) p
theorem map_at (n : Nat) (f : Nat → Int) {i : Nat} (h : i < n) : at' ((List.range n).map f) i = f i := by
  simp [at', List.getD, h]
theorem range_length (n : Nat) (f : Nat → Int) : ((List.range n).map f).length = n := by simp
theorem ext_at {a b : List Int} (hl : a.length = b.length) (h : ∀ i, i < a.length → at' a i = at' b i) : a = b := by
  apply List.ext_getElem? 
  intro i
  by_cases hi : i < a.length
  · rw [of_at hi, of_at (by omega), h i hi]
  · rw [List.getElem?_eq_none (by omega), List.getElem?_eq_none (by omega)]
theorem vec_of {l : List Int} (h1 : 1 ≤ l.length) (h2 : l.length ≤ 32) (h : ∀ i, i < l.length → -1000 ≤ at' l i ∧ at' l i ≤ 1000) : vq.Vec l := by
  refine ⟨h1, h2, fun x hx => ?_, fun x hx => ?_⟩ <;>
  · obtain ⟨i, hi, rfl⟩ := List.mem_iff_getElem.1 hx
    have := h i hi
    rw [at_of (List.getElem?_eq_getElem hi)] at this
    omega
/-- keys -/
def step (m : Int) (s d : Int) : Int := if m = 1 then s + d else if m = 2 then s + d * d else max s d
def keyf (m : Int) (ds : List Int) : Int := ds.foldl (step m) 0
theorem keyf_snoc (m : Int) (ds : List Int) (d : Int) : keyf m (ds ++ [d]) = step m (keyf m ds) d := by simp [keyf]
def gap (a b c d : Int) : Int := max (max (a - d) (c - b)) 0
def reach (a b c d : Int) : Int := max (b - c) (d - a)
def difs (f : Int → Int → Int → Int → Int) (p q : Pair) : List Int := (List.range p.1.length).map fun i => f (at' p.1 i) (at' p.2 i) (at' q.1 i) (at' q.2 i)
def dists (a b : List Int) : List Int := (List.range a.length).map fun i => max (at' a i - at' b i) (at' b i - at' a i)
theorem step_bd {m s d c : Int} (hs : 0 ≤ s) (h : s ≤ c) (hd : 0 ≤ d) (hd2 : d ≤ 2000) : 0 ≤ step m s d ∧ step m s d ≤ c + 4000000 := by
  have h1 : d * d ≤ 2000 * 2000 := Int.mul_le_mul hd2 hd2 hd (by omega)
  have h2 : 0 ≤ d * d := Int.mul_nonneg hd hd
  unfold step
  split
  · omega
  · split <;> omega
theorem fold_bd (m : Int) : ∀ (ds : List Int) (s c : Int), 0 ≤ s → s ≤ c → (∀ d ∈ ds, 0 ≤ d ∧ d ≤ 2000) → 0 ≤ ds.foldl (step m) s ∧ ds.foldl (step m) s ≤ c + 4000000 * ds.length
  | [], s, c, h, h', _ => by simp; omega
  | d :: ds, s, c, h, h', hd => by
    have h2 := hd d (by simp)
    have h3 := step_bd (m := m) h h' h2.1 h2.2
    have h4 := fold_bd m ds (step m s d) (c + 4000000) h3.1 h3.2 fun x hx => hd x (by simp [hx])
    simp only [List.foldl_cons, List.length_cons]
    omega
theorem keyf_bd (m : Int) (ds : List Int) (h : ∀ d ∈ ds, 0 ≤ d ∧ d ≤ 2000) : 0 ≤ keyf m ds ∧ keyf m ds ≤ 4000000 * ds.length := by
  have := fold_bd m ds 0 0 (by omega) (by omega) h
  unfold keyf
  omega
theorem step_mono {m s t d e : Int} (hs : s ≤ t) (hd : 0 ≤ d) (he : d ≤ e) : step m s d ≤ step m t e := by
  have h1 : d * d ≤ e * e := Int.mul_le_mul he he hd (by omega)
  unfold step
  split
  · omega
  · split <;> omega
theorem keyf_mono (m : Int) {n : Nat} {f g : Nat → Int} (h : ∀ i, i < n → 0 ≤ f i ∧ f i ≤ g i) : keyf m ((List.range n).map f) ≤ keyf m ((List.range n).map g) := by
  induction n with
  | zero => simp [keyf]
  | succ n ih =>
    rw [List.range_succ, List.map_append, List.map_append, List.map_singleton, List.map_singleton, keyf_snoc, keyf_snoc]
    have h1 := ih fun i hi => h i (by omega)
    have h2 := h n (by omega)
    exact step_mono h1 h2.1 h2.2
end Go.Proofs.Ytegoinkkcfbfaaa.bq
/- Plain facts on base-128 texts of integers, and words for memory: no program here. -/
namespace Go.Proofs.Ytegoinkkcfbfaaa.wp

open Go.RowKit

theorem ret_i64 {a b : Int} (h : a = b) : Ending.returned (.int .i64 a) = .returned (.int .i64 b) := by rw [h]

/-- the cells of bytes -/
def bc (l : List UInt8) : List Value := l.map fun b => Value.int .u8 b.toNat
theorem bc_length (l : List UInt8) : (bc l).length = l.length := by simp [bc]
theorem bc_append (a b : List UInt8) : bc (a ++ b) = bc a ++ bc b := by simp [bc]
theorem bc_one {l : List UInt8} : ∀ u ∈ bc l, u.oneCell' = true := by
  intro u hu
  simp only [bc, List.mem_map] at hu
  obtain ⟨b, _, rfl⟩ := hu
  rfl

/-- a slice's bytes, where it has any: its first cell lies at A -/
def RB (w : World) (A : Option Addr) (l : List UInt8) : Prop :=
  0 < l.length → ∃ b o, A = some ⟨b, o, none⟩ ∧ b < w.heap.size ∧ ∀ j u, l[j]? = some u → w.cell? ⟨b, o + j, none⟩ = some (.int .u8 (u.toNat : Int))

/-- a slice's cells, where it has any -/
def RC (w : World) (A : Option Addr) (xs : List Value) : Prop :=
  0 < xs.length → ∃ b o, A = some ⟨b, o, none⟩ ∧ b < w.heap.size ∧ ∀ j u, xs[j]? = some u → w.cell? ⟨b, o + j, none⟩ = some u
theorem RC.rb {w : World} {A : Option Addr} {l : List UInt8} (h : RC w A (bc l)) : RB w A l := fun hl => by
  obtain ⟨b, o, hA, hb, hc⟩ := h (by rw [bc_length]; exact hl)
  exact ⟨b, o, hA, hb, fun j u hu => hc j _ (by simp [bc, hu])⟩
theorem RC.below {w w' : World} {A : Option Addr} {xs : List Value} (h : RC w A xs) (hb : Below w.heap.size w w') : RC w' A xs := fun hl => by
  obtain ⟨b, o, hA, hlt, hc⟩ := h hl
  exact ⟨b, o, hA, Nat.lt_of_lt_of_le hlt hb.size, fun j u hu => (hb.cell (p := ⟨b, o + j, none⟩) hlt).trans (hc j u hu)⟩
theorem RC.of_own {w : World} {base : Nat} {e : TypeId} {size n : Nat} {v : Value} {xs : List Value} (h : w.ownsRow base e size v n xs) :
    ∃ A c, v = .slice A n c ∧ n ≤ c ∧ c ≤ maxLen ∧ RC w A xs := by
  rcases h.2 with ⟨rfl, rfl⟩ | ⟨g, cap, cur, rfl, hg, hh, hn, hm, hs, ht⟩
  · have : xs = [] := List.eq_nil_of_length_eq_zero (by simpa using h.1)
    subst this
    exact ⟨none, 0, rfl, Nat.le_refl _, Nat.zero_le _, fun h => absurd h (by simp)⟩
  · refine ⟨some ⟨g, 0, none⟩, cap, rfl, hn, hm, fun _ => ⟨g, 0, rfl, ?_, fun j u hu => ?_⟩⟩
    · exact (h.lt g rfl).2
    · have := h.cells (g := g) rfl j u hu
      rw [← this]
      congr 1
      unfold Addr.add
      by_cases hj : j = 0 <;> simp [hj]

/-- the text of an integer -/
def encI (n : Int) : List UInt8 := Lib.uvarint (Lib.zigzag n)
theorem encI_length {n : Int} (h0 : -9223372036854775808 ≤ n) (h1 : n ≤ 9223372036854775807) : (encI n).length ≤ 10 :=
  Lib.uvarint_length64 (Lib.zigzag_lt h0 h1)
theorem encI_pos (n : Int) : 1 ≤ (encI n).length := Lib.uvarint_pos _

/-- the text of a string -/
def encB (s : List UInt8) : List UInt8 := encI (s.length : Int) ++ s
theorem encB_eq (s : ByteArray) : encB s.data.toList = encI (s.size : Int) ++ s.data.toList := by
  unfold encB; rw [Array.length_toList]; rfl

/-- the texts of lists -/
def encIs (l : List Int) : List UInt8 := encI (l.length : Int) ++ l.flatMap encI
def encDs (l : List (List UInt8)) : List UInt8 := encI (l.length : Int) ++ l.flatMap id
def encSs (l : List ByteArray) : List UInt8 := encI (l.length : Int) ++ l.flatMap fun s => encB s.data.toList
theorem flat_snoc {α : Type} (f : α → List UInt8) {l : List α} {k : Nat} {x : α} (h : l[k]? = some x) : (l.take (k + 1)).flatMap f = (l.take k).flatMap f ++ f x := by
  rw [List.take_add_one, h]; simp
theorem flat_le {α : Type} (f : α → List UInt8) (l : List α) (k : Nat) : ((l.take k).flatMap f).length ≤ (l.flatMap f).length := by
  have h : l.flatMap f = (l.take k).flatMap f ++ (l.drop k).flatMap f := by rw [← List.flatMap_append, List.take_append_drop]
  rw [h, List.length_append]; omega

theorem flat_bc_length {l : List (List UInt8)} (h : ∀ d ∈ l, d.length = 16) : (l.flatMap bc).length = 16 * l.length := by
  induction l with
  | nil => rfl
  | cons x r ih =>
    have h1 := h x List.mem_cons_self
    have h2 := ih fun d hd => h d (List.mem_cons_of_mem _ hd)
    rw [List.flatMap_cons, List.length_append, bc_length, h1, h2, List.length_cons]
    omega
theorem flat_bc_at {l : List (List UInt8)} (h : ∀ d ∈ l, d.length = 16) {k j : Nat} {x : List UInt8} (hk : l[k]? = some x) {u : Value} (hu : (bc x)[j]? = some u) : (l.flatMap bc)[16 * k + j]? = some u := by
  induction l generalizing k with
  | nil => simp at hk
  | cons y r ih =>
    have h1 := h y List.mem_cons_self
    rw [List.flatMap_cons]
    cases k with
    | zero =>
      simp only [List.getElem?_cons_zero, Option.some.injEq] at hk
      subst hk
      have hj : j < (bc y).length := by
        rcases Nat.lt_or_ge j (bc y).length with h' | h'
        · exact h'
        · rw [List.getElem?_eq_none h'] at hu; cases hu
      rw [Nat.mul_zero, Nat.zero_add, List.getElem?_append_left hj]
      exact hu
    | succ k =>
      have h2 := ih (fun d hd => h d (List.mem_cons_of_mem _ hd)) (k := k) (by simpa using hk)
      rw [List.getElem?_append_right (by rw [bc_length]; omega), bc_length, h1, show 16 * (k + 1) + j - 16 = 16 * k + j by omega]
      exact h2

/-- one round of the writer -/
theorem uv_big {q : Nat} (h : 128 ≤ q) : bc (Lib.uvarint q) = Value.int .u8 ((q : Int) % 128 + 128) :: bc (Lib.uvarint (q / 128)) := by
  rw [Lib.uvarint_big h]
  simp only [bc, List.map_cons, List.cons.injEq, and_true]
  congr 1
  simp [Nat.toUInt8, UInt8.toNat_ofNat']
  omega
theorem uv_small {q : Nat} (h : q < 128) : bc (Lib.uvarint q) = [Value.int .u8 (q : Int)] := by
  rw [Lib.uvarint_small h]
  simp only [bc, List.map_cons, List.map_nil, List.cons.injEq, and_true]
  congr 1
  simp [Nat.toUInt8, UInt8.toNat_ofNat']
  omega

/-- the number of a text in base 128, least digit first -/
def gv : List UInt8 → Nat
  | [] => 0
  | c :: r => c.toNat % 128 + 128 * gv r

theorem gv_append : ∀ (a b : List UInt8), gv (a ++ b) = gv a + 128 ^ a.length * gv b
  | [], b => by simp [gv]
  | c :: r, b => by
    simp only [List.cons_append, gv, gv_append r b, List.length_cons, Nat.pow_succ, Nat.mul_add, Nat.add_assoc]
    rw [← Nat.mul_assoc, Nat.mul_comm 128 (128 ^ r.length)]
theorem gv_lt : ∀ (l : List UInt8), gv l < 128 ^ l.length
  | [] => by simp [gv]
  | c :: r => by
    have h := gv_lt r
    simp only [gv, List.length_cons, Nat.pow_succ]
    omega
theorem gv_take {l : List UInt8} {k : Nat} {c : UInt8} (h : l[k]? = some c) : gv (l.take (k + 1)) = gv (l.take k) + 128 ^ k * (c.toNat % 128) := by
  have hk : k < l.length := by
    rcases Nat.lt_or_ge k l.length with h' | h'
    · exact h'
    · rw [List.getElem?_eq_none h'] at h; cases h
  rw [List.take_add_one, h, gv_append]
  simp [gv, Nat.min_eq_left (Nat.le_of_lt hk)]

/-- back from the number to the integer -/
def unz (z : Nat) : Int := if z % 2 = 1 then -1 - ((z / 2 : Nat) : Int) else ((z / 2 : Nat) : Int)
theorem unz_zigzag (n : Int) : unz (Lib.zigzag n) = n := by
  unfold unz Lib.zigzag
  split <;> split <;> omega
theorem zigzag_unz (z : Nat) : Lib.zigzag (unz z) = z := by
  unfold unz Lib.zigzag
  split <;> split <;> omega
theorem unz_bd {z : Nat} (h : z < 18446744073709551616) : -9223372036854775808 ≤ unz z ∧ unz z ≤ 9223372036854775807 := by
  unfold unz; split <;> omega

/-- how many bytes ahead of the last one -/
def lead (l : List UInt8) : Nat := (l.take 10).findIdx fun c => decide (c.toNat < 128)

/-- what is read at a text's beginning: the integer, how many bytes, the error -/
def getI (l : List UInt8) : Int × Int × Int :=
  match (l.take 10)[lead l]? with
  | none => if 10 ≤ l.length then (0, 0, 11) else (0, 0, 10)
  | some c => if (lead l = 9 ∧ 1 < c.toNat) ∨ (0 < lead l ∧ c.toNat = 0) then (0, 0, 11) else (unz (gv (l.take (lead l + 1))), ((lead l + 1 : Nat) : Int), 0)

def High (l : List UInt8) (k : Nat) : Prop := ∀ j u, j < k → l[j]? = some u → 128 ≤ u.toNat
theorem High.zero (l : List UInt8) : High l 0 := fun j _ h => absurd h (by omega)
theorem High.succ {l : List UInt8} {k : Nat} (h : High l k) {c : UInt8} (hc : l[k]? = some c) (h8 : 128 ≤ c.toNat) : High l (k + 1) := fun j u hj hu => by
  rcases Nat.lt_or_ge j k with h' | h'
  · exact h j u h' hu
  · obtain rfl : j = k := by omega
    rw [hc] at hu; cases hu; exact h8

theorem lead_none {l : List UInt8} {k : Nat} (h : High l k) (hk : k = min l.length 10) : (l.take 10)[lead l]? = none := by
  have : lead l = (l.take 10).length := by
    unfold lead
    rw [List.findIdx_eq_length]
    intro x hx
    obtain ⟨j, hj, rfl⟩ := List.mem_iff_getElem.1 hx
    have hj' : j < min 10 l.length := by simpa using hj
    have := h j (l[j]'(by omega)) (by omega) (List.getElem?_eq_getElem _)
    simp only [List.getElem_take, decide_eq_false_iff_not]
    omega
  rw [this, List.getElem?_eq_none (Nat.le_refl _)]
theorem getI_none {l : List UInt8} {k : Nat} (h : High l k) (hk : k = min l.length 10) : getI l = if 10 ≤ l.length then (0, 0, 11) else (0, 0, 10) := by
  unfold getI
  rw [lead_none h hk]
theorem lead_some {l : List UInt8} {k : Nat} (h : High l k) (hk : k < 10) {c : UInt8} (hc : l[k]? = some c) (h8 : c.toNat < 128) : lead l = k := by
  have hkl : k < l.length := by
    rcases Nat.lt_or_ge k l.length with h' | h'
    · exact h'
    · rw [List.getElem?_eq_none h'] at hc; cases hc
  have hkl' : k < (l.take 10).length := by simp; omega
  have hcc : l[k] = c := by rw [List.getElem?_eq_getElem hkl] at hc; cases hc; rfl
  unfold lead
  rw [List.findIdx_eq hkl']
  refine ⟨by simp [hcc, h8], fun j hj => ?_⟩
  have := h j (l[j]'(by omega)) hj (List.getElem?_eq_getElem _)
  simp only [List.getElem_take, decide_eq_false_iff_not]
  omega
theorem getI_some {l : List UInt8} {k : Nat} (h : High l k) (hk : k < 10) {c : UInt8} (hc : l[k]? = some c) (h8 : c.toNat < 128) :
    getI l = if (k = 9 ∧ 1 < c.toNat) ∨ (0 < k ∧ c.toNat = 0) then (0, 0, 11) else (unz (gv (l.take (k + 1))), ((k + 1 : Nat) : Int), 0) := by
  unfold getI
  rw [lead_some h hk hc h8, List.getElem?_take_of_lt hk, hc]

/-- the reader's step: 'or' with the digit is adding it -/
theorem or_step {l : List UInt8} {k : Nat} (hk : k ≤ 9) {c : UInt8} (hc : l[k]? = some c) (h9 : k = 9 → c.toNat ≤ 1) :
    bits .or .u64 ((gv (l.take k) : Nat) : Int) (IntKind.u64.wrap (((c.toNat : Nat) : Int) % 128 * 2 ^ (7 * k))) = ((gv (l.take (k + 1)) : Nat) : Int) := by
  have hlt : gv (l.take k) < 128 ^ k := by
    refine Nat.lt_of_lt_of_le (gv_lt _) (Nat.pow_le_pow_right (by decide) ?_)
    simp; omega
  have hc' := c.toNat_lt
  rw [gv_take hc]
  generalize gv (l.take k) = q at *
  generalize c.toNat = d at *
  have hp : (2 : Nat) ^ (7 * k) = 128 ^ k := by rw [Nat.pow_mul]
  have hb : d % 128 * 128 ^ k < 18446744073709551616 := by
    rcases Nat.lt_or_ge k 9 with h | h
    · have h1 : 128 ^ k ≤ 128 ^ 8 := Nat.pow_le_pow_right (by decide) (by omega)
      have h2 : d % 128 * 128 ^ k ≤ 127 * 128 ^ 8 := Nat.mul_le_mul (by omega) h1
      omega
    · obtain rfl : k = 9 := by omega
      have := h9 rfl
      omega
  have e1 : ((d : Nat) : Int) % 128 * 2 ^ (7 * k) = ((d % 128 * 128 ^ k : Nat) : Int) := by
    rw [← hp]; push_cast; rfl
  rw [e1, IntWalk.u64_in _ (by omega)]
  have hq : q < 18446744073709551616 := by
    have : 128 ^ k ≤ 128 ^ 9 := Nat.pow_le_pow_right (by decide) hk
    omega
  rw [bits_or_u64_nat _ _ (by omega) (by omega)]
  congr 1
  rw [Nat.or_comm, Nat.mul_comm, ← hp, ← Nat.two_pow_add_eq_or_of_lt (by rw [hp]; exact hlt), hp]
  omega

theorem getI_cases (l : List UInt8) : (getI l = (0, 0, 10) ∨ getI l = (0, 0, 11)) ∨ ∃ k, k < 10 ∧ k < l.length ∧ gv (l.take (k + 1)) < 18446744073709551616 ∧ getI l = (unz (gv (l.take (k + 1))), ((k + 1 : Nat) : Int), 0) := by
  unfold getI
  split
  · split
    · exact .inl (.inr rfl)
    · exact .inl (.inl rfl)
  · rename_i c hc
    split
    · exact .inl (.inr rfl)
    · rename_i hno
      have hk : lead l < (l.take 10).length := by
        rcases Nat.lt_or_ge (lead l) (l.take 10).length with h' | h'
        · exact h'
        · rw [List.getElem?_eq_none h'] at hc; cases hc
      have hk' : lead l < min 10 l.length := by simpa using hk
      refine .inr ⟨lead l, by omega, by omega, ?_, rfl⟩
      have hc' : l[lead l]? = some c := by rw [List.getElem?_take_of_lt (by omega)] at hc; exact hc
      rw [gv_take hc']
      have h1 := gv_lt (l.take (lead l))
      have h2 : (l.take (lead l)).length = lead l := by simp; omega
      rw [h2] at h1
      rcases Nat.lt_or_ge (lead l) 9 with h | h
      · have h3 : 128 ^ lead l ≤ 128 ^ 8 := Nat.pow_le_pow_right (by decide) (by omega)
        have h4 : 128 ^ lead l * (c.toNat % 128) ≤ 128 ^ 8 * 127 := Nat.mul_le_mul h3 (by omega)
        omega
      · have h9 : lead l = 9 := by omega
        rw [h9] at h1 ⊢
        have h5 : c.toNat ≤ 1 := by omega
        have h4 : 128 ^ 9 * (c.toNat % 128) ≤ 128 ^ 9 * 1 := Nat.mul_le_mul_left _ (by omega)
        omega
/-- what holds of every reading -/
theorem getI_facts (l : List UInt8) : -9223372036854775808 ≤ (getI l).1 ∧ (getI l).1 ≤ 9223372036854775807 ∧ 0 ≤ (getI l).2.1 ∧ (getI l).2.1 ≤ l.length ∧ (getI l).2.1 ≤ 10 ∧ 0 ≤ (getI l).2.2 ∧ (getI l).2.2 ≤ 11 ∧
    ((getI l).2.2 = 0 → 1 ≤ (getI l).2.1) ∧ ((getI l).2.2 ≠ 0 → (getI l).1 = 0 ∧ (getI l).2.1 = 0) := by
  rcases getI_cases l with (h | h) | ⟨k, hk, hl, hg, h⟩
  · rw [h]; simp
  · rw [h]; simp
  · rw [h]
    have := unz_bd hg
    simp only
    omega

/-- the number of things that follow -/
def getC (l : List UInt8) (least : Nat) : Int × Int × Int :=
  if (getI l).2.2 ≠ 0 then (0, 0, (getI l).2.2) else if (getI l).1 < 0 then (0, 0, 11) else if ((l.length : Int) - (getI l).2.1) / (least : Int) < (getI l).1 then (0, 0, 10) else ((getI l).1, (getI l).2.1, 0)

theorem getC_facts (l : List UInt8) (least : Nat) (h1 : 1 ≤ least) : 0 ≤ (getC l least).1 ∧ (getC l least).1 ≤ l.length ∧ 0 ≤ (getC l least).2.1 ∧ (getC l least).2.1 + least * (getC l least).1 ≤ l.length ∧ 0 ≤ (getC l least).2.2 ∧ (getC l least).2.2 ≤ 11 ∧
    ((getC l least).2.2 = 0 → 1 ≤ (getC l least).2.1) ∧ ((getC l least).2.2 ≠ 0 → (getC l least).1 = 0 ∧ (getC l least).2.1 = 0) := by
  have hf := getI_facts l
  unfold getC
  split
  · rename_i h
    dsimp only
    refine ⟨by omega, by omega, by omega, by simp, by omega, by omega, fun h' => by omega, fun _ => ⟨rfl, rfl⟩⟩
  · rename_i h
    split
    · simp
    · rename_i h'
      split
      · simp
      · rename_i h''
        have hd : (least : Int) * (((l.length : Int) - (getI l).2.1) / (least : Int)) ≤ (l.length : Int) - (getI l).2.1 := Int.mul_ediv_self_le (by omega)
        have hm : (least : Int) * (getI l).1 ≤ (least : Int) * (((l.length : Int) - (getI l).2.1) / (least : Int)) := Int.mul_le_mul_of_nonneg_left (by omega) (by omega)
        have hm1 : 1 * (getI l).1 ≤ (least : Int) * (getI l).1 := Int.mul_le_mul_of_nonneg_right (by omega) (by omega)
        simp only
        omega

/-- a text -/
def getB (l : List UInt8) : List UInt8 × Int × Int :=
  if (getC l 1).2.2 ≠ 0 then ([], 0, (getC l 1).2.2) else ((l.drop (getC l 1).2.1.toNat).take (getC l 1).1.toNat, (getC l 1).2.1 + (getC l 1).1, 0)

theorem getB_facts (l : List UInt8) : 0 ≤ (getB l).2.1 ∧ (getB l).2.1 ≤ l.length ∧ 0 ≤ (getB l).2.2 ∧ (getB l).2.2 ≤ 11 ∧ ((getB l).2.2 = 0 → 1 ≤ (getB l).2.1) ∧ ((getB l).2.2 ≠ 0 → (getB l).1 = [] ∧ (getB l).2.1 = 0) := by
  have hf := getC_facts l 1 (by decide)
  unfold getB
  split
  · simp only; simp; omega
  · simp only; simp; omega

/-- a list's things, one behind the other -/
def getN {α : Type} (one : List UInt8 → α × Int × Int) (l : List UInt8) : Nat → List α → Int → List α × Int × Int
  | 0, acc, used => (acc, used, 0)
  | k + 1, acc, used => if (one (l.drop used.toNat)).2.2 ≠ 0 then ([], 0, (one (l.drop used.toNat)).2.2) else getN one l k (acc ++ [(one (l.drop used.toNat)).1]) (used + (one (l.drop used.toNat)).2.1)
def getL {α : Type} (one : List UInt8 → α × Int × Int) (least : Nat) (l : List UInt8) : List α × Int × Int :=
  if (getC l least).2.2 ≠ 0 then ([], 0, (getC l least).2.2) else getN one l (getC l least).1.toNat [] (getC l least).2.1

def getD1 (l : List UInt8) : List UInt8 × Int × Int := (l.take 16, 16, 0)
end Go.Proofs.Ytegoinkkcfbfaaa.wp
/- Laws of memory that this seat's proofs use: an array's cells read out of a longer row; no program here. -/
namespace Go.Proofs.Ytegoinkkcfbfaaa.wk

open Go.RowKit

theorem add_at (b o j : Nat) : (⟨b, o, none⟩ : Addr).add j = ⟨b, o + j, none⟩ := by
  unfold Addr.add
  by_cases hj : j = 0 <;> simp [hj]

theorem cells_new (w : World) (cs : List Value) (t : TypeId) : ∀ j u, cs[j]? = some u → (w.alloc (.cells cs.toArray t)).cell? ((⟨w.heap.size, 0, none⟩ : Addr).add j) = some u := fun j u hu => by
  rw [add_at, Nat.zero_add, cell_of_row _ _ _ _ _ _ (heap_alloc_new w _)]
  simpa using hu

theorem cells_new' {w : World} {g : Nat} (hg : w.heap.size = g) (cs : List Value) (t : TypeId) : ∀ j u, cs[j]? = some u → (w.alloc (.cells cs.toArray t)).cell? ((⟨g, 0, none⟩ : Addr).add j) = some u := by
  subst hg; exact cells_new w cs t

theorem cells_under (w : World) (cs : List Value) (t : TypeId) (O : Obj) : ∀ j u, cs[j]? = some u → ((w.alloc (.cells cs.toArray t)).alloc O).cell? ((⟨w.heap.size, 0, none⟩ : Addr).add j) = some u := fun j u hu => by
  rw [add_at, Nat.zero_add, cell_of_row _ _ _ _ _ _ (heap_alloc2_old w _ _)]
  simpa using hu

theorem bc_at {l : List UInt8} {j : Nat} {u : Value} : (wp.bc l)[j]? = some u ↔ ∃ x, l[j]? = some x ∧ Value.int .u8 (x.toNat : Int) = u := by
  simp [wp.bc]

theorem ownsRow_below {w w' : World} {base : Nat} {e : TypeId} {size n : Nat} {v : Value} {xs : List Value} (h : w.ownsRow base e size v n xs) (hb : Below w.heap.size w w') : w'.ownsRow base e size v n xs := by
  refine ⟨h.1, ?_⟩
  rcases h.2 with h2 | ⟨g, cap, cur, hv, hg, hh, hr⟩
  · exact .inl h2
  · refine .inr ⟨g, cap, cur, hv, hg, ?_, hr⟩
    have hlt : g < w.heap.size := (h.lt g (by rw [hv]; rfl)).2
    rw [hb.block g hlt]
    exact hh

/-- cells laid one by one over a row -/
theorem fold_set (l : List Value) : ∀ (pre z : List Value), z.length = l.length → (l.zipIdx pre.length).foldl (fun cs x => cs.setIfInBounds x.2 x.1) (pre ++ z).toArray = (pre ++ l).toArray := by
  induction l with
  | nil => intro pre z hz; simp [List.eq_nil_of_length_eq_zero hz]
  | cons a r ih =>
    intro pre z hz
    obtain ⟨b, z', rfl⟩ : ∃ b z', z = b :: z' := by
      cases z with
      | nil => simp at hz
      | cons b z' => exact ⟨b, z', rfl⟩
    have h := ih (pre ++ [a]) z' (by simpa using hz)
    simp only [List.zipIdx_cons, List.foldl_cons]
    have e : (pre ++ b :: z').toArray.setIfInBounds pre.length a = (pre ++ [a] ++ z').toArray := by
      apply Array.toList_inj.1
      simp
    rw [e]
    simpa using h

section

variable {P : Program}

theorem run_load_agg (w : World) (a : Addr) (ty : TypeId) (cs : List Value) (d : TypeDesc) (hc : ∀ j v, cs[j]? = some v → w.cell? (a.add j) = some v)
    (hu : P.underlying ty = some d) (hd : (match d with | .struct _ | .array _ _ => true | _ => false) = true) (hi : (P.info? ty).map (·.size) = some cs.length) :
    (loadVar ty a).run P w = .ok (.agg cs.toArray) w := by
  have hl : (loadCells a cs.length).run P w = .ok cs.toArray w := run_loadCells_list (P := P) w a cs hc
  cases hq : P.info? ty with
  | none => simp [hq] at hi
  | some i =>
    have hs : i.size = cs.length := by simpa [hq] using hi
    have hagg : (isAgg ty).run P w = .ok true w := by
      unfold isAgg
      rw [Sem.run_bind, run_underlying hu w]
      cases d <;> simp_all
    simp [loadVar, Sem.run_bind, hagg, sizeOf, typeInfo, hq, hs, hl]

theorem load_agg {ops : Array Oper} {rest : List Oper} {o : Oper} {a : Act} {w : World} {Q : Exit → Act → World → Prop} (hgd : o.guard = none) (ty : TypeId) (x : Operand) (ho : o.op = .load ty x)
    (ad : Addr) (hx : a.eval x = .pointer (some ad)) (cs : List Value) (d : TypeDesc) (hc : ∀ j v, cs[j]? = some v → w.cell? (ad.add j) = some v)
    (hu : P.underlying ty = some d) (hd : (match d with | .struct _ | .array _ _ => true | _ => false) = true) (hi : (P.info? ty).map (·.size) = some cs.length)
    (h : wpList P ops Q rest (a.put o.dst (.agg cs.toArray)) w) : wpList P ops Q (o :: rest) a w :=
  wpList_plain hgd fun K hK => by
    unfold Oper.wp execOp
    simp only [ho, hx, Instr.loadAt, Instr.sureAddr, Sem.run_bind, Sem.run_pure, Result.andThen_ok, run_load_agg w ad ty cs d hc hu hd hi]
    exact hK _ _ h

theorem setRow_alloc (w : World) (old cs : Array Value) (t : TypeId) : (w.alloc (.cells old t)).setRow w.heap.size cs = w.alloc (.cells cs t) := by
  simp only [World.setRow, World.alloc]
  congr 1
  apply Array.ext_getElem?
  intro i
  rw [Array.getElem?_modify, Array.getElem?_push, Array.getElem?_push]
  by_cases hi : i = w.heap.size
  · subst hi; simp
  · rw [if_neg (fun h => hi h.symm), if_neg hi, if_neg hi]

theorem store_new {ops : Array Oper} {rest : List Oper} {o : Oper} {a : Act} {w : World} {Q : Exit → Act → World → Prop} (hgd : o.guard = none) (ty : TypeId) (x y : Operand) (ho : o.op = .store ty x y)
    (t : TypeId) (old : Array Value) (cs : List Value) (hx : a.eval x = .pointer (some ⟨w.heap.size, 0, none⟩)) (hy : a.eval y = .agg cs.toArray)
    (hi : (P.info? ty).map (·.size) = some cs.length) (hold : old.size = cs.length) (h1 : ∀ u ∈ cs, u.oneCell' = true)
    (h : wpList P ops Q rest (a.put o.dst undef) (w.alloc (.cells cs.toArray t))) : wpList P ops Q (o :: rest) a (w.alloc (.cells old t)) := by
  refine wpList_store_row hgd ty x y ho w.heap.size cs.toArray hx hy t old (heap_alloc_new w _) (by simpa using hi) (by simpa using hold) (Array.all_eq_true_iff_forall_mem.2 fun u hu => h1 u (by simpa using hu)) ?_
  rw [setRow_alloc]
  exact h

/-- a cut keeps the bytes -/
theorem RB.cut {w : World} {A : Option Addr} {l : List UInt8} (h : wp.RB w A l) {k m c : Nat} (hc : l.length ≤ c) : wp.RB w (if c = k then A else A.map (·.add (k * 1))) ((l.drop k).take m) := fun hl => by
  have hlen : 0 < min m (l.length - k) := by simpa using hl
  obtain ⟨b, o, rfl, hb, hcell⟩ := h (by omega)
  rw [if_neg (by omega)]
  refine ⟨b, o + k, by simp [add_at], hb, fun j u hu => ?_⟩
  rw [Nat.add_assoc]
  refine hcell _ u ?_
  rw [List.getElem?_take] at hu
  split at hu
  · rw [← hu, List.getElem?_drop]
  · cases hu

theorem run_sizeOf (w : World) (e : TypeId) (n : Nat) (hz : (P.info? e).map (·.size) = some n) : (Go.sizeOf e).run P w = .ok n w := by
  cases hq : P.info? e with
  | none => simp [hq] at hz
  | some i =>
    have : i.size = n := by simpa [hq] using hz
    simp [Go.sizeOf, typeInfo, hq, this]

theorem cut_lh (w : World) (t e : TypeId) (ht : P.underlying t = some (.slice e)) (hz : (P.info? e).map (·.size) = some 1) (A : Option Addr) (n c : Nat) (l : List UInt8) (hn : l.length = n) (hnc : n ≤ c)
    (h : wp.RB w A l) (lo hi : Int) (h0 : 0 ≤ lo) (h1 : lo ≤ hi) (h2 : hi ≤ n) :
    ∃ A2 m c2, (∀ w', (Instr.slice t (.slice A n c) (some (.int .i64 lo)) (some (.int .i64 hi)) none).run P w' = .ok (.slice A2 m c2) w') ∧ m ≤ c2 ∧ c2 ≤ c ∧ ((l.drop lo.toNat).take (hi - lo).toNat).length = m ∧ wp.RB w A2 ((l.drop lo.toNat).take (hi - lo).toNat) := by
  have ht' : P.underlying t = some (.slice (P.elem t)) := by simp [Program.elem, ht]
  have he : P.elem t = e := by simp [Program.elem, ht]
  refine ⟨_, (hi - lo).toNat, c - lo.toNat, fun w' => ?_, by omega, by omega, by simp; omega, RB.cut h (k := lo.toNat) (m := (hi - lo).toNat) (c := c) (by omega)⟩
  rw [run_slice_lh w' t A n c ht' .i64 .i64 lo hi h0 h1 (by omega), he, run_sizeOf w' e 1 hz]
  simp only [Result.andThen, sliced]
  rw [show hi.toNat - lo.toNat = (hi - lo).toNat from by omega]

theorem cut_l (w : World) (t e : TypeId) (ht : P.underlying t = some (.slice e)) (hz : (P.info? e).map (·.size) = some 1) (A : Option Addr) (n c : Nat) (l : List UInt8) (hn : l.length = n) (hnc : n ≤ c)
    (h : wp.RB w A l) (lo : Int) (h0 : 0 ≤ lo) (h2 : lo ≤ n) :
    ∃ A2 m c2, (∀ w', (Instr.slice t (.slice A n c) (some (.int .i64 lo)) none none).run P w' = .ok (.slice A2 m c2) w') ∧ m ≤ c2 ∧ c2 ≤ c ∧ (l.drop lo.toNat).length = m ∧ wp.RB w A2 (l.drop lo.toNat) := by
  have ht' : P.underlying t = some (.slice (P.elem t)) := by simp [Program.elem, ht]
  have he : P.elem t = e := by simp [Program.elem, ht]
  have hr := RB.cut h (k := lo.toNat) (m := l.length) (c := c) (by omega)
  rw [List.take_of_length_le (by simp)] at hr
  refine ⟨_, n - lo.toNat, c - lo.toNat, fun w' => ?_, by omega, by omega, by simp; omega, hr⟩
  rw [run_slice_l w' t A n c ht' .i64 lo h0 (by omega), he, run_sizeOf w' e 1 hz]
  simp only [Result.andThen, sliced]

/-- a text out of bytes -/
theorem conv_str (w : World) (src e dst : TypeId) (hs : P.underlying src = some (.slice e)) (he : P.underlying e = some (.int .u8)) (hd : P.underlying dst = some .string) (A : Option Addr) (n c : Nat) (l : List UInt8) (hn : l.length = n)
    (h : wp.RB w A l) : (convert src dst (.slice A n c)).run P w = .ok (.string ⟨l.toArray⟩) w := by
  rw [run_convert_bytes_string w src dst e _ n c hs he hd]
  cases A with
  | none =>
    have : l = [] := by
      rcases Nat.eq_zero_or_pos l.length with h0 | h0
      · exact List.eq_nil_of_length_eq_zero h0
      · obtain ⟨_, _, hx, _⟩ := h h0; cases hx
    subst this
    simp [Conv.bytesToString, ByteArray.empty, ByteArray.emptyWithCapacity]
    rfl
  | some ad =>
    have hl : (loadCells ad n).run P w = .ok ((l.map fun u => (u.toNat : Int)).map (Value.int .u8)).toArray w := by
      have := run_loadCells_list (P := P) w ad ((l.map fun u => (u.toNat : Int)).map (Value.int .u8)) (fun j v hv => by
        have hjl : j < l.length := by
          rcases Nat.lt_or_ge j l.length with h | h
          · exact h
          · simp [List.getElem?_eq_none h] at hv
        obtain ⟨b, o, hx, _, hc⟩ := h (by omega)
        cases hx
        rw [add_at, hc j l[j] (List.getElem?_eq_getElem hjl)]
        simp [List.getElem?_eq_getElem hjl] at hv
        rw [← hv])
      simpa [hn] using this
    rw [run_bytesToString w _ n c _ hl, foldl_push_bytes]
    congr 2
    simp [ByteArray.empty, ByteArray.emptyWithCapacity]
    have e : ((fun n : Int => UInt8.ofNat n.toNat) ∘ fun u : UInt8 => (u.toNat : Int)) = id := by funext u; simp
    rw [e, List.map_id]
    rfl

theorem RB.below {w w' : World} {A : Option Addr} {l : List UInt8} (h : wp.RB w A l) (hb : Below w.heap.size w w') : wp.RB w' A l := fun hl => by
  obtain ⟨b, o, hA, hlt, hc⟩ := h hl
  exact ⟨b, o, hA, Nat.lt_of_lt_of_le hlt hb.size, fun j u hu => (hb.cell (p := ⟨b, o + j, none⟩) hlt).trans (hc j u hu)⟩

/-- 'copy(d[:], b)' where d is the block that was made last -/
theorem copy_new {w : World} {ops : Array Oper} {rest : List Oper} {o : Oper} {a : Act} {Q : Exit → Act → World → Prop} (hgd : o.guard = none) (d s : Operand) (dT sT : TypeId)
    (ho : o.op = .call { callee := .builtin .copy, args := #[d, s], argTypes := #[dT, sT] }) (elem : TypeId) (hu : P.underlying dT = some (.slice elem)) (hsz : (P.info? elem).map (·.size) = some 1)
    (t : TypeId) (old : Array Value) (ad : Addr) (m dc sLen sCap : Nat) (g : Nat) (hd : a.eval d = .slice (some ⟨g, 0, none⟩) m dc) (hg : w.heap.size = g) (hs : a.eval s = .slice (some ad) sLen sCap) (cs : List Value)
    (hm : cs.length = m) (hold : old.size = m) (hle : m ≤ sLen) (hsrc : ∀ j v, cs[j]? = some v → (w.alloc (.cells old t)).cell? (ad.add j) = some v) (h1 : ∀ v ∈ cs, v.oneCell' = true)
    (h : wpList P ops Q rest (a.put o.dst (goInt m)) (w.alloc (.cells cs.toArray t))) : wpList P ops Q (o :: rest) a (w.alloc (.cells old t)) := by
  subst hg
  refine wpList_copy_own hgd d s dT sT ho elem hu hsz w.heap.size 0 m dc ad sLen sCap hd hs old t (heap_alloc_new w _) cs (by rw [hm]; exact (Nat.min_eq_right hle).symm) hsrc (by omega) h1 ?_
  have e : (old.toList.take 0 ++ (cs ++ old.toList.drop (0 + cs.length))).toArray = cs.toArray := by
    rw [List.drop_eq_nil_of_le (by simp; omega)]; simp
  rw [e, setRow_alloc, hm]
  exact h

/-- a store into the block below the last one -/
theorem store_below {ops : Array Oper} {rest : List Oper} {o : Oper} {a : Act} {w : World} {Q : Exit → Act → World → Prop} (hgd : o.guard = none) (ty : TypeId) (x y : Operand) (ho : o.op = .store ty x y)
    (t : TypeId) (old : Array Value) (O : Obj) (cs : List Value) (hx : a.eval x = .pointer (some ⟨w.heap.size, 0, none⟩)) (hy : a.eval y = .agg cs.toArray)
    (hi : (P.info? ty).map (·.size) = some cs.length) (hold : old.size = cs.length) (h1 : ∀ u ∈ cs, u.oneCell' = true)
    (h : wpList P ops Q rest (a.put o.dst undef) ((w.alloc (.cells cs.toArray t)).alloc O)) : wpList P ops Q (o :: rest) a ((w.alloc (.cells old t)).alloc O) := by
  have hg : ((w.alloc (.cells old t)).alloc O).heap[w.heap.size]? = some (.cells old t (0, 0)) := heap_alloc2_old w _ _
  refine wpList_store_row hgd ty x y ho w.heap.size cs.toArray hx hy t old hg (by simpa using hi) (by simpa using hold) (Array.all_eq_true_iff_forall_mem.2 fun u hu => h1 u (by simpa using hu)) ?_
  have e : ((w.alloc (.cells old t)).alloc O).setRow w.heap.size cs.toArray = (w.alloc (.cells cs.toArray t)).alloc O := by
    simp only [World.setRow, World.alloc]
    congr 1
    apply Array.ext_getElem?
    intro i
    simp only [Array.getElem?_modify, Array.getElem?_push, Array.size_push]
    by_cases h2 : i = w.heap.size + 1
    · subst h2
      simp
    · by_cases hi : i = w.heap.size
      · subst hi
        simp
      · simp [h2, hi]
        intro h
        exact absurd h.symm hi
  rw [e]
  exact h

theorem results_cell2 {fn : Func} {p u v : Tmp} {ty : TypeId} (h : fn.results = #[.cell p ty, .tmp u, .tmp v]) (tmps : Array Value) (w : World) (ad : Addr) (cs : List Value) (d : TypeDesc)
    (hp : tmps.getD p undef = .pointer (some ad)) (hc : ∀ j x, cs[j]? = some x → w.cell? (ad.add j) = some x)
    (hu : P.underlying ty = some d) (hd : (match d with | .struct _ | .array _ _ => true | _ => false) = true) (hi : (P.info? ty).map (·.size) = some cs.length) :
    (results fn tmps).run P w = .ok (.tuple #[.agg cs.toArray, tmps.getD u undef, tmps.getD v undef]) w := by
  have hp' : tmps[p]?.getD undef = .pointer (some ad) := by simpa using hp
  simp [results, h, hp', asAddr, run_load_agg w ad ty cs d hc hu hd hi, Result.andThen]

theorem run_part (w : World) (e : TypeId) (k : IntKind) (he : P.underlying e = some (.int k)) (cs : Array Value) (i : Nat) (v : Value) (h : cs[i]? = some v) : (part e cs i).run P w = .ok v w := by
  have ha : (isAgg e).run P w = .ok false w := by
    unfold isAgg
    rw [Sem.run_bind, run_underlying he w]
    simp [Result.andThen]
  simp [part, ha, h, Result.andThen]

theorem run_eq_arr (w : World) (d : Nat) (t e : TypeId) (n : Nat) (ht : P.underlying t = some (.array n e)) (he : P.underlying e = some (.int .u8)) (hs : (P.info? e).map (·.size) = some 1) (xs ys : List UInt8)
    (hx : xs.length = n) (hy : ys.length = n) : (Op.equalIn (d + 2) t (.agg (wp.bc xs).toArray) (.agg (wp.bc ys).toArray)).run P w = .ok (xs == ys) w := by
  have hone : ∀ (a b : UInt8), (Op.equalIn (d + 1) e (.int .u8 (a.toNat : Int)) (.int .u8 (b.toNat : Int))).run P w = .ok (a == b) w := fun a b => by
    rw [run_equalIn_int w d e .u8 .u8 _ _ he]
    congr 1
    rw [Bool.eq_iff_iff, beq_iff_eq, beq_iff_eq, ← UInt8.toNat_inj]
    omega
  have hp : ∀ (l : List UInt8) (i : Nat) (x : UInt8), l[i]? = some x → (part e (wp.bc l).toArray i).run P w = .ok (.int .u8 (x.toNat : Int)) w := fun l i x hi => run_part w e .u8 he _ i _ (by simp [wp.bc, hi])
  rw [Op.equalIn]
  simp only [Sem.run_bind, run_underlying ht, Result.andThen_ok, run_sizeOf w e 1 hs, Nat.mul_one]
  rw [Std.Legacy.Range.forIn_eq_forIn_range']
  have key : ∀ (k s : Nat), s + k = n → (forIn (List.range' s k) ((none : Option Bool), ()) fun i __s => do
            let a ← part e (wp.bc xs).toArray i
            let b ← part e (wp.bc ys).toArray i
            let r ← Op.equalIn (d + 1) e a b
            if (!r) = true then pure (ForInStep.done (some false, ())) else pure (ForInStep.yield (none, ()))).run P w = .ok (if xs.drop s == ys.drop s then (none, ()) else (some false, ())) w := by
    intro k
    induction k with
    | zero => intro s h; simp [List.drop_eq_nil_of_le (show xs.length ≤ s by omega), List.drop_eq_nil_of_le (show ys.length ≤ s by omega)]
    | succ k ih =>
      intro s h
      have h1 : s < xs.length := by omega
      have h2 : s < ys.length := by omega
      rw [List.range'_succ, List.forIn_cons]
      simp only [Sem.run_bind, hp xs s xs[s] (List.getElem?_eq_getElem h1), hp ys s ys[s] (List.getElem?_eq_getElem h2), Result.andThen_ok, hone]
      have hdrop : (xs.drop s == ys.drop s) = (xs[s] == ys[s] && xs.drop (s + 1) == ys.drop (s + 1)) := by
        rw [List.drop_eq_getElem_cons h1, List.drop_eq_getElem_cons h2]; rfl
      rw [hdrop]
      cases hq : xs[s] == ys[s]
      · simp only [Bool.not_false, if_true, Bool.false_and, Bool.false_eq_true, if_false, Sem.run_pure, Result.andThen_ok]
      · simp only [Bool.not_true, Bool.false_eq_true, if_false, Bool.true_and, Sem.run_pure, Result.andThen_ok]
        exact ih (s + 1) (by omega)
  have := key n 0 (by omega)
  simp only [List.drop_zero] at this
  have hsz : [:n].size = n := by simp [Std.Legacy.Range.size]
  show ((Sem.run P (forIn (List.range' 0 [:n].size 1) ((none : Option Bool), ()) _) w).andThen _) = _
  rw [hsz, this]
  cases hq : xs == ys <;> simp [Result.andThen]

theorem run_ne_arr_same (t e : TypeId) (n : Nat) (ht : P.underlying t = some (.array n e)) (he : P.underlying e = some (.int .u8)) (hs : (P.info? e).map (·.size) = some 1) (xs : List UInt8)
    (hx : xs.length = n) (w : World) : (binOp .neq t (.agg (wp.bc xs).toArray) (.agg (wp.bc xs).toArray)).run P w = .ok (.bool false) w := by
  rw [run_neq_struct, run_eq_arr w 9998 t e n ht he hs xs xs hx hx]
  simp [Result.andThen]
end

end Go.Proofs.Ytegoinkkcfbfaaa.wk

namespace Go.Proofs.Ytegoinkkcfbfaaa.wk

open Go.RowKit

section

variable {P : Program}

theorem run_loadAt_agg (w : World) (a : Addr) (ty : TypeId) (cs : List Value) (d : TypeDesc) (hc : ∀ j v, cs[j]? = some v → w.cell? (a.add j) = some v)
    (hu : P.underlying ty = some d) (hd : (match d with | .struct _ | .array _ _ => true | _ => false) = true) (hi : (P.info? ty).map (·.size) = some cs.length) :
    (Instr.loadAt ty (.pointer (some a))).run P w = .ok (.agg cs.toArray) w := by
  simp only [Instr.loadAt, Instr.sureAddr, Sem.run_bind, Sem.run_pure, Result.andThen_ok, run_load_agg w a ty cs d hc hu hd hi]

theorem quiet_load_agg {ops : Array Oper} {C : World → Prop} {Q : Act → Prop} {a : Act} {o : Oper} {rest : List Oper} (hgd : o.guard = none) (ty : TypeId) (x : Operand) (ho : o.op = .load ty x)
    (ad : Addr) (hx : a.eval x = .pointer (some ad)) (cs : List Value) (d : TypeDesc) (hc : ∀ w, C w → ∀ j v, cs[j]? = some v → w.cell? (ad.add j) = some v)
    (hu : P.underlying ty = some d) (hd : (match d with | .struct _ | .array _ _ => true | _ => false) = true) (hi : (P.info? ty).map (·.size) = some cs.length)
    (h : wpQuiet P ops C Q rest (a.put o.dst (.agg cs.toArray))) : wpQuiet P ops C Q (o :: rest) a := by
  refine BigFrame.wpQuiet_want (by simp [Region.wanted, hgd]) fun K hK => ⟨.agg cs.toArray, fun w hw => ?_, hK _ h⟩
  unfold Oper.quietAt execOp
  simp only [ho, hx, run_loadAt_agg w ad ty cs d (hc w hw) hu hd hi, Sem.run_bind, Sem.run_pure, Result.andThen_ok, Oper.quietUpon]
  exact ⟨trivial, trivial⟩

theorem RB.nil_of {w : World} {l : List UInt8} (h : wp.RB w none l) : l = [] := by
  rcases Nat.eq_zero_or_pos l.length with h0 | h0
  · exact List.eq_nil_of_length_eq_zero h0
  · obtain ⟨_, _, hx, _⟩ := h h0; cases hx

theorem RB.cells {w : World} {ad : Addr} {l : List UInt8} (h : wp.RB w (some ad) l) : ∀ j u, (wp.bc l)[j]? = some u → w.cell? (ad.add j) = some u := fun j u hu => by
  have hl : j < (wp.bc l).length := by
    rcases Nat.lt_or_ge j (wp.bc l).length with h' | h'
    · exact h'
    · rw [List.getElem?_eq_none h'] at hu; cases hu
  rw [wp.bc_length] at hl
  obtain ⟨b, o, hA, _, hc⟩ := h (by omega)
  cases hA
  obtain ⟨x, hx, rfl⟩ := bc_at.1 hu
  rw [add_at]
  exact hc j x hx

/-- 'append(b[:len(b):len(b)], t...)' -/
theorem append_full (w : World) {ops : Array Oper} {rest : List Oper} {o : Oper} {a : Act} {Q : Exit → Act → World → Prop}
    (hgd : o.guard = none) (s x : Operand) (t : TypeId) (hop : o.op = Op.call { callee := Callee.builtin Builtin.append, args := #[s, x], argTypes := #[t, t] })
    (e : TypeId) (h1 : P.underlying t = some (.slice e)) (h2 : (P.info? e).map (fun i => (i.zero, i.size, i.bytes)) = some (some (.int .u8 0), 1, 1))
    (A A' : Option Addr) (n m c' : Nat) (l l' : List UInt8) (hs : a.eval s = .slice A n n) (hx : a.eval x = .slice A' m c') (hl : l.length = n) (hl' : l'.length = m) (hr : wp.RB w A l) (hr' : wp.RB w A' l') (hb : n + m ≤ 140737488355328)
    (hK : ∀ A2 c2 w', n + m ≤ c2 → c2 ≤ 9223372036854775807 → wp.RB w' A2 (l ++ l') → Below w.heap.size w w' → wpList P ops Q rest (a.put o.dst (.slice A2 (n + m) c2)) w') : wpList P ops Q (o :: rest) a w := by
  obtain ⟨i, hi, hz0, hz1, hz2⟩ := info_parts h2
  rcases Nat.eq_zero_or_pos m with h0 | h0
  · subst h0
    have : l' = [] := List.eq_nil_of_length_eq_zero hl'
    subst this
    have hsrc : Src P i.size t (.slice A' 0 c') 0 [] w := by
      cases A' with
      | none => exact Src.ofNil w h1 c'
      | some ad => exact Src.ofSlice w h1 ad 0 c' [] (by simp) (by simp) (by simp)
    refine wpList_plain hgd fun K hK' => ?_
    have hrun := run_append_nothing (P := P) w t t o.type e i h1 hi A n n (Nat.le_refl _) _ hsrc
    unfold Oper.wp execOp
    simp only [hop, resolve, invoke, builtin, Sem.run_bind, Sem.run_pure, Result.andThen_ok, List.map_toArray, List.map_cons, List.map_nil, hs, hx, hrun]
    exact hK' _ _ (hK A n w (Nat.le_refl _) (by omega) (by rw [List.append_nil]; exact hr) (Below.refl _ _))
  · obtain ⟨b', o', rfl, _, _⟩ := hr' (by omega)
    refine wpList_append_grows w hgd s x t hop e i (.int .u8 0) 1 1 h1 hi hz0 hz1 hz2 rfl (by decide) A n n (wp.bc l) hs (fun hA => ?_) (by rw [wp.bc_length]; omega) (fun b hA => ?_) ⟨b', o', none⟩ m c' (wp.bc l') hx (by rw [wp.bc_length]; omega) (RB.cells hr') wp.bc_one (by omega) (by unfold maxLen; omega) (by omega) ?_
    · subst hA
      have := RB.nil_of hr
      subst this
      simp at hl; omega
    · subst hA
      exact RB.cells hr
    · intro v' w' hown hgr
      obtain ⟨A2, c2, rfl, hc1, hc2, hR⟩ := wp.RC.of_own hown
      rw [← wp.bc_append] at hR
      exact hK A2 c2 w' hc1 (by unfold maxLen at hc2; omega) hR.rb ((Below.refl _ _).grown hgr (Nat.le_refl _) (fun k hk => by cases hk))

/-- 'b[:len(b):len(b)]' -/
theorem run_cut_full (w' : World) (t e : TypeId) (ht : P.underlying t = some (.slice e)) (hz : (P.info? e).map (·.size) = some 1) (ad : Addr) (n c : Nat) (hnc : n ≤ c) :
    (Instr.slice t (.slice (some ad) n c) none (some (.int .i64 (n : Int))) (some (.int .i64 (n : Int)))).run P w' = .ok (.slice (some ad) n n) w' := by
  have ht' : P.underlying t = some (.slice (P.elem t)) := by simp [Program.elem, ht]
  have he : P.elem t = e := by simp [Program.elem, ht]
  rw [run_slice_hm w' t (some ad) n c ht' .i64 .i64 (n : Int) (n : Int) (by omega) (Int.le_refl _) (by omega), he, run_sizeOf w' e 1 hz]
  simp only [Result.andThen, sliced, Int.toNat_natCast]
  split <;> simp [Addr.add]
end

end Go.Proofs.Ytegoinkkcfbfaaa.wk

namespace Go.Proofs.Ytegoinkkcfbfaaa.wi

open Go.ChangeShapes Go.WideShapes Go.ChangeAt Go.RowKit

theorem ret_u64 {a b : Int} (h : a = b) : Ending.returned (.int .u64 a) = .returned (.int .u64 b) := by rw [h]

theorem info5 : (Try.prog.info? 5).map (fun i => (i.zero, i.size, i.bytes)) = some (some (.int .u8 0), 1, 1) := by kernel_rfl

end Go.Proofs.Ytegoinkkcfbfaaa.wi

namespace Go.Proofs.Ytegoinkkcfbfaaa.wi

open Go.ChangeShapes Go.WideShapes Go.ChangeAt Go.RowKit
end Go.Proofs.Ytegoinkkcfbfaaa.wi

namespace Go.Proofs.Ytegoinkkcfbfaaa.wi

open Go.ChangeShapes Go.WideShapes Go.ChangeAt Go.RowKit

theorem size5 : (Try.prog.info? 5).map (·.size) = some 1 := by kernel_rfl

end Go.Proofs.Ytegoinkkcfbfaaa.wi

namespace Go.Proofs.Ytegoinkkcfbfaaa.wi

open Go.ChangeShapes Go.WideShapes Go.ChangeAt Go.RowKit

theorem infoI : (Try.prog.info? 3).map (fun i => (i.zero, i.size, i.bytes)) = some (some (.int .i64 0), 1, 8) := by kernel_rfl
theorem infoS : (Try.prog.info? 9).map (fun i => (i.zero, i.size, i.bytes)) = some (some (.string ByteArray.empty), 1, 16) := by kernel_rfl

end Go.Proofs.Ytegoinkkcfbfaaa.wi
