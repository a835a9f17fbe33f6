/- Boxes, plainly: keys of nearest and farthest vectors; bounds. No program here. -/
import Derived.Test.YtlcdjabfkfmpdaaBt

import Derived.Test.YtlcdjabfkfmpdaaBs

import Derived.Test.YtlcdjabfkfmpdaaBk

import Derived.Test.YtlcdjabfkfmpdaaBg

import Derived.Test.YtlcdjabfkfmpdaaBh

namespace Go.Proofs.Ytlcdjabfkfmpdaa.bq

open Go.Proofs.Ytlcdjabfkfmpdaa Go.Proofs.Ytlcdjabfkfmpdaa.bk

set_option linter.unusedVariables false
theorem has_iff {p : Pair} {v : List Int} (hp : IsBox p) : has p v = true ↔ v.length = p.1.length ∧ ∀ i, i < p.1.length → at' p.1 i ≤ at' v i ∧ at' v i ≤ at' p.2 i := by
  have hl := hp.len
  simp only [has, inside, Bool.and_eq_true, balike_iff, le_iff]
  constructor
  · rintro ⟨⟨⟨h1, h2, h3⟩, h4⟩, h5⟩
    exact ⟨h1, fun i hi => ⟨h4 i hi, h5 i (h1.symm ▸ hi)⟩⟩
  · rintro ⟨h1, h2⟩
    have hv : vq.Vec v := vec_of (by have := hp.lo.pos; omega) (by have := hp.lo.le; omega) fun i hi => by
      have ha := h2 i (by omega)
      have hb := vec_at hp.lo (i := i) (by omega)
      have hc := vec_at hp.hi (i := i) (by omega)
      omega
    exact ⟨⟨⟨h1, ⟨hv, hv, rfl, fun i _ => Int.le_refl _⟩, hp⟩, fun i hi => (h2 i hi).1⟩, fun i hi => (h2 i (by rw [← h1]; exact hi)).2⟩
theorem asked_iff {m : Int} {p : Pair} {v : List Int} : asked m p (v, v) = true ↔ (m = 1 ∨ m = 2 ∨ m = 3) ∧ p.1.length = v.length ∧ IsBox p ∧ vq.Vec v := by
  simp only [asked, Bool.and_eq_true, metric_iff, balike_iff]
  exact ⟨fun ⟨h1, h2, h3, h4⟩ => ⟨h1, h2, h3, h4.lo⟩, fun ⟨h1, h2, h3, h4⟩ => ⟨h1, h2, h3, ⟨h4, h4, rfl, fun i _ => Int.le_refl _⟩⟩⟩
theorem nearest_length (p : Pair) (v : List Int) : (nearest p v).length = v.length := by simp [nearest]
theorem farthest_length (p : Pair) (v : List Int) : (farthest p v).length = v.length := by simp [farthest]
theorem inner_length (p : Pair) (pk : List Int) : (inner p pk).length = p.1.length := by simp [inner]
theorem nearest_at {p : Pair} {v : List Int} {i : Nat} (h : i < v.length) : at' (nearest p v) i = min (max (at' v i) (at' p.1 i)) (at' p.2 i) := map_at _ _ h
theorem farthest_at {p : Pair} {v : List Int} {i : Nat} (h : i < v.length) : at' (farthest p v) i = farf (at' p.1 i) (at' p.2 i) (at' v i) := map_at _ _ h
theorem inner_at {p : Pair} {pk : List Int} {i : Nat} (h : i < p.1.length) : at' (inner p pk) i = innf (at' p.1 i) (at' p.2 i) (at' pk i) := map_at _ _ h
theorem has_nearest {p : Pair} {v : List Int} (hp : IsBox p) (hl : v.length = p.1.length) : has p (nearest p v) = true :=
  (has_iff hp).2 ⟨by rw [nearest_length, hl], fun i hi => by rw [nearest_at (by omega)]; have := hp.le i hi; omega⟩
theorem has_farthest {p : Pair} {v : List Int} (hp : IsBox p) (hl : v.length = p.1.length) : has p (farthest p v) = true :=
  (has_iff hp).2 ⟨by rw [farthest_length, hl], fun i hi => by rw [farthest_at (by omega)]; have := hp.le i hi; unfold farf; split <;> omega⟩
theorem innf_bd {a b x : Int} (h : a ≤ b) : a ≤ innf a b x ∧ innf a b x ≤ b := by
  have h1 := Int.emod_nonneg x (show b - a + 1 ≠ 0 by omega)
  have h2 := Int.emod_lt_of_pos x (show 0 < b - a + 1 by omega)
  unfold innf
  omega
theorem has_inner {p : Pair} {pk : List Int} (hp : IsBox p) : has p (inner p pk) = true :=
  (has_iff hp).2 ⟨inner_length p pk, fun i hi => by rw [inner_at hi]; exact innf_bd (hp.le i hi)⟩
theorem map_congr' {n n' : Nat} {f g : Nat → Int} (hn : n = n') (h : ∀ i, i < n → f i = g i) : (List.range n).map f = (List.range n').map g := by
  subst hn
  exact List.map_congr_left fun i hi => h i (by simpa using hi)
theorem near_key {p : Pair} {v : List Int} (hp : IsBox p) (hl : v.length = p.1.length) : difs gap p (v, v) = dists v (nearest p v) :=
  map_congr' hl.symm fun i hi => by
    rw [nearest_at (by omega)]
    have := hp.le i hi
    simp only [gap]
    omega
theorem far_key {p : Pair} {v : List Int} (hp : IsBox p) (hl : v.length = p.1.length) : difs reach p (v, v) = dists v (farthest p v) :=
  map_congr' hl.symm fun i hi => by
    rw [farthest_at (by omega)]
    have := hp.le i hi
    simp only [reach, farf]
    split <;> omega
theorem key_ge {m : Int} {p : Pair} {v x : List Int} (hp : IsBox p) (hl : v.length = p.1.length) (hx : has p x = true) : keyf m (difs gap p (v, v)) ≤ keyf m (dists v x) := by
  obtain ⟨hx1, hx2⟩ := (has_iff hp).1 hx
  unfold difs dists
  rw [hl]
  exact keyf_mono m fun i hi => by
    have := hp.le i hi
    have := hx2 i hi
    simp only [gap]
    omega
theorem key_le {m : Int} {p : Pair} {v x : List Int} (hp : IsBox p) (hl : v.length = p.1.length) (hx : has p x = true) : keyf m (dists v x) ≤ keyf m (difs reach p (v, v)) := by
  obtain ⟨hx1, hx2⟩ := (has_iff hp).1 hx
  unfold difs dists
  rw [hl]
  exact keyf_mono m fun i hi => by
    have := hp.le i hi
    have := hx2 i hi
    simp only [reach]
    omega
theorem key_apart {m : Int} {p q : Pair} {x y : List Int} (hp : IsBox p) (hq : IsBox q) (hl : p.1.length = q.1.length) (hx : has p x = true) (hy : has q y = true) : keyf m (difs gap p q) ≤ keyf m (dists x y) := by
  obtain ⟨hx1, hx2⟩ := (has_iff hp).1 hx
  obtain ⟨hy1, hy2⟩ := (has_iff hq).1 hy
  unfold difs dists
  rw [hx1]
  exact keyf_mono m fun i hi => by
    have := hp.le i hi
    have := hx2 i hi
    have := hy2 i (by omega)
    simp only [gap]
    omega
theorem far_most {m : Int} {p : Pair} {v : List Int} (hp : IsBox p) (hv : vq.Vec v) (hl : v.length = p.1.length) : keyf m (difs reach p (v, v)) ≤ 134217728 := by
  have h := keyf_bd m (difs reach p (v, v)) fun d hd => by
    simp only [difs, List.mem_map, List.mem_range] at hd
    obtain ⟨i, hi, rfl⟩ := hd
    have h1 := vec_at hp.lo hi
    have h2 := vec_at hp.hi (i := i) (by have := hp.len; omega)
    have h3 := vec_at hv (i := i) (by omega)
    have := hp.le i hi
    simp only [reach]
    omega
  have h2 : (difs reach p (v, v)).length = p.1.length := by simp [difs]
  have := hp.lo.le
  omega
theorem step_pos {m s d : Int} (hs : 0 ≤ s) (hd : 0 ≤ d) : step m s d = 0 ↔ s = 0 ∧ d = 0 := by
  have h2 : 0 ≤ d * d := Int.mul_nonneg hd hd
  have h3 : d * d = 0 ↔ d = 0 := by constructor
                                    · intro h; rcases Int.mul_eq_zero.1 h with h | h <;> exact h
                                    · rintro rfl; rfl
  unfold step
  split
  · omega
  · split
    · constructor
      · intro h; exact ⟨by omega, h3.1 (by omega)⟩
      · rintro ⟨rfl, rfl⟩; rfl
    · omega
theorem keyf_zero (m : Int) {n : Nat} {f : Nat → Int} (h : ∀ i, i < n → 0 ≤ f i ∧ f i ≤ 2000) : keyf m ((List.range n).map f) = 0 ↔ ∀ i, i < n → f i = 0 := by
  induction n with
  | zero => simp [keyf]
  | succ n ih =>
    rw [List.range_succ, List.map_append, List.map_singleton, keyf_snoc]
    have h1 := keyf_bd m ((List.range n).map f) fun d hd => by
      simp only [List.mem_map, List.mem_range] at hd
      obtain ⟨i, hi, rfl⟩ := hd
      exact h i (by omega)
    rw [step_pos h1.1 (h n (by omega)).1, ih fun i hi => h i (by omega)]
    constructor
    · rintro ⟨h2, h3⟩ i hi
      rcases Nat.lt_or_ge i n with h4 | h4
      · exact h2 i h4
      · obtain rfl : i = n := by omega
        exact h3
    · intro h2
      exact ⟨fun i hi => h2 i (by omega), h2 n (by omega)⟩
theorem near_zero {m : Int} {p : Pair} {v : List Int} (hp : IsBox p) (hv : vq.Vec v) (hl : v.length = p.1.length) : keyf m (difs gap p (v, v)) = 0 ↔ has p v = true := by
  rw [has_iff hp, difs, keyf_zero m (fun i hi => by
    have h1 := vec_at hp.lo hi
    have h2 := vec_at hp.hi (i := i) (by have := hp.len; omega)
    have h3 := vec_at hv (i := i) (by omega)
    simp only [gap]
    omega)]
  simp only [gap]
  constructor
  · intro h; exact ⟨hl, fun i hi => by have := h i hi; omega⟩
  · rintro ⟨_, h⟩ i hi; have := h i hi; omega
theorem apart_zero {m : Int} {p q : Pair} (hp : IsBox p) (hq : IsBox q) (hl : p.1.length = q.1.length) : keyf m (difs gap p q) = 0 ↔ bvalid (meet p q) = true := by
  have l1 : (meet p q).1.length = p.1.length := by simp [meet, maxs]
  have l2 : (meet p q).2.length = p.1.length := by simp [meet, mins, hp.len]
  have hm : ∀ i, i < p.1.length → at' (meet p q).1 i = max (at' p.1 i) (at' q.1 i) ∧ at' (meet p q).2 i = min (at' p.2 i) (at' q.2 i) := fun i hi =>
    ⟨map_at _ _ hi, map_at _ _ (by rw [← hp.len]; exact hi)⟩
  have hb : ∀ i, i < p.1.length → (-1000 ≤ at' p.1 i ∧ at' p.1 i ≤ 1000) ∧ (-1000 ≤ at' p.2 i ∧ at' p.2 i ≤ 1000) ∧ (-1000 ≤ at' q.1 i ∧ at' q.1 i ≤ 1000) ∧ (-1000 ≤ at' q.2 i ∧ at' q.2 i ≤ 1000) ∧ at' p.1 i ≤ at' p.2 i ∧ at' q.1 i ≤ at' q.2 i := fun i hi =>
    ⟨vec_at hp.lo hi, vec_at hp.hi (by have := hp.len; omega), vec_at hq.lo (by omega), vec_at hq.hi (by have := hq.len; omega), hp.le i hi, hq.le i (by omega)⟩
  rw [bvalid_iff, difs, keyf_zero m (fun i hi => by have := hb i hi; simp only [gap]; omega)]
  constructor
  · intro h
    refine ⟨vec_of (by rw [l1]; exact hp.lo.pos) (by rw [l1]; exact hp.lo.le) fun i hi => ?_, vec_of (by rw [l2]; exact hp.lo.pos) (by rw [l2]; exact hp.lo.le) fun i hi => ?_, by rw [l1, l2], fun i hi => ?_⟩
    · rw [l1] at hi; rw [(hm i hi).1]; have := hb i hi; omega
    · rw [l2] at hi; rw [(hm i hi).2]; have := hb i hi; omega
    · rw [l1] at hi; rw [(hm i hi).1, (hm i hi).2]; have := hb i hi; have := h i hi; simp only [gap] at this; omega
  · intro h i hi
    have h1 := h.le i (by omega)
    rw [(hm i hi).1, (hm i hi).2] at h1
    have := hb i hi
    simp only [gap]
    omega
end Go.Proofs.Ytlcdjabfkfmpdaa.bq
