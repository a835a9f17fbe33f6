/- Boxes, plainly. No program here. -/
import Derived.Test.YtlcdjabfkfmpdaaQa

namespace Go.Proofs.Ytlcdjabfkfmpdaa.bq

open Go.Proofs.Ytlcdjabfkfmpdaa
abbrev Pair := List Int × List Int
def at' (l : List Int) (i : Nat) : Int := l.getD i 0
theorem at_of {l : List Int} {i : Nat} {x : Int} (h : l[i]? = some x) : at' l i = x := by simp [at', List.getD, h]
theorem of_at {l : List Int} {i : Nat} (h : i < l.length) : l[i]? = some (at' l i) := by simp [at', List.getD, h]
def le (a b : List Int) : Bool := (List.range a.length).all fun i => decide (at' a i ≤ at' b i)
theorem le_iff {a b : List Int} : le a b = true ↔ ∀ i, i < a.length → at' a i ≤ at' b i := by simp [le]
theorem le_not {a b : List Int} {i : Nat} (h : i < a.length) (hn : at' b i < at' a i) : le a b = false := by
  cases hh : le a b
  · rfl
  · have := le_iff.1 hh i h; omega
def bvalid (p : Pair) : Bool := vq.valid p.1 && vq.valid p.2 && decide (p.1.length = p.2.length) && le p.1 p.2
structure IsBox (p : Pair) : Prop where
  lo : vq.Vec p.1
  hi : vq.Vec p.2
  len : p.1.length = p.2.length
  le : ∀ i, i < p.1.length → at' p.1 i ≤ at' p.2 i
theorem bvalid_iff {p : Pair} : bvalid p = true ↔ IsBox p := by
  simp only [bvalid, Bool.and_eq_true, vq.valid_iff, decide_eq_true_eq, le_iff]
  exact ⟨fun ⟨⟨⟨h1, h2⟩, h3⟩, h4⟩ => ⟨h1, h2, h3, h4⟩, fun h => ⟨⟨⟨h.lo, h.hi⟩, h.len⟩, h.le⟩⟩
def balike (p q : Pair) : Bool := decide (p.1.length = q.1.length) && bvalid p && bvalid q
theorem balike_iff {p q : Pair} : balike p q = true ↔ p.1.length = q.1.length ∧ IsBox p ∧ IsBox q := by
  simp only [balike, Bool.and_eq_true, bvalid_iff, decide_eq_true_eq, and_assoc]
theorem vec_at {l : List Int} (h : vq.Vec l) {i : Nat} (hi : i < l.length) : -1000 ≤ at' l i ∧ at' l i ≤ 1000 := by
  have hm : at' l i ∈ l := List.mem_of_getElem? (of_at hi)
  exact ⟨h.lo _ hm, h.hi _ hm⟩
def mins (a b : List Int) : List Int := (List.range a.length).map fun i => min (at' a i) (at' b i)
def maxs (a b : List Int) : List Int := (List.range a.length).map fun i => max (at' a i) (at' b i)
def join (p q : Pair) : Pair := (mins p.1 q.1, maxs p.2 q.2)
def meet (p q : Pair) : Pair := (maxs p.1 q.1, mins p.2 q.2)
def inside (p q : Pair) : Bool := balike p q && le q.1 p.1 && le p.2 q.2
def has (p : Pair) (v : List Int) : Bool := inside (v, v) p
theorem map_at (n : Nat) (f : Nat → Int) {i : Nat} (h : i < n) : at' ((List.range n).map f) i = f i := by
  simp [at', List.getD, h]
theorem range_length (n : Nat) (f : Nat → Int) : ((List.range n).map f).length = n := by simp
theorem ext_at {a b : List Int} (hl : a.length = b.length) (h : ∀ i, i < a.length → at' a i = at' b i) : a = b := by
  apply List.ext_getElem? 
  intro i
  by_cases hi : i < a.length
  · rw [of_at hi, of_at (by omega), h i hi]
  · rw [List.getElem?_eq_none (by omega), List.getElem?_eq_none (by omega)]
theorem vec_of {l : List Int} (h1 : 1 ≤ l.length) (h2 : l.length ≤ 32) (h : ∀ i, i < l.length → -1000 ≤ at' l i ∧ at' l i ≤ 1000) : vq.Vec l := by
  refine ⟨h1, h2, fun x hx => ?_, fun x hx => ?_⟩ <;>
  · obtain ⟨i, hi, rfl⟩ := List.mem_iff_getElem.1 hx
    have := h i hi
    rw [at_of (List.getElem?_eq_getElem hi)] at this
    omega
/-- keys -/
def step (m : Int) (s d : Int) : Int := if m = 1 then s + d else if m = 2 then s + d * d else max s d
def keyf (m : Int) (ds : List Int) : Int := ds.foldl (step m) 0
theorem keyf_snoc (m : Int) (ds : List Int) (d : Int) : keyf m (ds ++ [d]) = step m (keyf m ds) d := by simp [keyf]
def gap (a b c d : Int) : Int := max (max (a - d) (c - b)) 0
def reach (a b c d : Int) : Int := max (b - c) (d - a)
def difs (f : Int → Int → Int → Int → Int) (p q : Pair) : List Int := (List.range p.1.length).map fun i => f (at' p.1 i) (at' p.2 i) (at' q.1 i) (at' q.2 i)
def dists (a b : List Int) : List Int := (List.range a.length).map fun i => max (at' a i - at' b i) (at' b i - at' a i)
theorem step_bd {m s d c : Int} (hs : 0 ≤ s) (h : s ≤ c) (hd : 0 ≤ d) (hd2 : d ≤ 2000) : 0 ≤ step m s d ∧ step m s d ≤ c + 4000000 := by
  have h1 : d * d ≤ 2000 * 2000 := Int.mul_le_mul hd2 hd2 hd (by omega)
  have h2 : 0 ≤ d * d := Int.mul_nonneg hd hd
  unfold step
  split
  · omega
  · split <;> omega
theorem fold_bd (m : Int) : ∀ (ds : List Int) (s c : Int), 0 ≤ s → s ≤ c → (∀ d ∈ ds, 0 ≤ d ∧ d ≤ 2000) → 0 ≤ ds.foldl (step m) s ∧ ds.foldl (step m) s ≤ c + 4000000 * ds.length
  | [], s, c, h, h', _ => by simp; omega
  | d :: ds, s, c, h, h', hd => by
    have h2 := hd d (by simp)
    have h3 := step_bd (m := m) h h' h2.1 h2.2
    have h4 := fold_bd m ds (step m s d) (c + 4000000) h3.1 h3.2 fun x hx => hd x (by simp [hx])
    simp only [List.foldl_cons, List.length_cons]
    omega
theorem keyf_bd (m : Int) (ds : List Int) (h : ∀ d ∈ ds, 0 ≤ d ∧ d ≤ 2000) : 0 ≤ keyf m ds ∧ keyf m ds ≤ 4000000 * ds.length := by
  have := fold_bd m ds 0 0 (by omega) (by omega) h
  unfold keyf
  omega
theorem step_mono {m s t d e : Int} (hs : s ≤ t) (hd : 0 ≤ d) (he : d ≤ e) : step m s d ≤ step m t e := by
  have h1 : d * d ≤ e * e := Int.mul_le_mul he he hd (by omega)
  unfold step
  split
  · omega
  · split <;> omega
theorem keyf_mono (m : Int) {n : Nat} {f g : Nat → Int} (h : ∀ i, i < n → 0 ≤ f i ∧ f i ≤ g i) : keyf m ((List.range n).map f) ≤ keyf m ((List.range n).map g) := by
  induction n with
  | zero => simp [keyf]
  | succ n ih =>
    rw [List.range_succ, List.map_append, List.map_append, List.map_singleton, List.map_singleton, keyf_snoc, keyf_snoc]
    have h1 := ih fun i hi => h i (by omega)
    have h2 := h n (by omega)
    exact step_mono h1 h2.1 h2.2
end Go.Proofs.Ytlcdjabfkfmpdaa.bq
