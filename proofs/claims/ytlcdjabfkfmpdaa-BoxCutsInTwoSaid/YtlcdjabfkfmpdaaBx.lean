/- Boxes, plainly: the two parts of a cut box. No program here. -/
import Derived.Test.YtlcdjabfkfmpdaaBv

import Derived.Test.YtlcdjabfkfmpdaaBm

import Derived.Test.YtlcdjabfkfmpdaaBn

namespace Go.Proofs.Ytlcdjabfkfmpdaa.bq

open Go.Proofs.Ytlcdjabfkfmpdaa Go.Proofs.Ytlcdjabfkfmpdaa.bk

set_option linter.unusedVariables false
theorem at_set {l : List Int} {k i : Nat} {x : Int} (hk : k < l.length) : at' (l.set k x) i = if i = k then x else at' l i := by
  simp only [at', List.getD, List.getElem?_set]
  by_cases h : k = i
  · subst h; simp [hk]
  · rw [if_neg h, if_neg (fun e => h e.symm)]
/-- the two parts -/
structure Parts (p x y : Pair) (k : Nat) (t : Int) : Prop where
  box : IsBox p
  bx : IsBox x
  by' : IsBox y
  lx : x.1.length = p.1.length
  ly : y.1.length = p.1.length
  hk : k < p.1.length
  x1 : ∀ i, at' x.1 i = at' p.1 i
  y2 : ∀ i, at' y.2 i = at' p.2 i
  x2 : ∀ i, at' x.2 i = if i = k then t else at' p.2 i
  y1 : ∀ i, at' y.1 i = if i = k then t + 1 else at' p.1 i
  lo : at' p.1 k ≤ t
  hi : t < at' p.2 k
theorem cut_parts {p : Pair} {axis t : Int} (h : cutOk p axis t) : Parts p (p.1, p.2.set axis.toNat t) (p.1.set axis.toNat (t + 1), p.2) axis.toNat t := by
  obtain ⟨hp, h0, h1, h2, h3⟩ := h
  obtain ⟨k, rfl⟩ : ∃ k : Nat, axis = k := ⟨axis.toNat, by omega⟩
  simp only [Int.toNat_natCast] at h2 h3 ⊢
  have hk : k < p.1.length := by omega
  have hk2 : k < p.2.length := by have := hp.len; omega
  have e2 : ∀ i, at' (p.2.set k t) i = if i = k then t else at' p.2 i := fun i => at_set hk2
  have e1 : ∀ i, at' (p.1.set k (t + 1)) i = if i = k then t + 1 else at' p.1 i := fun i => at_set hk
  have hv2 : vq.Vec (p.2.set k t) := vec_of (by rw [List.length_set]; exact hp.hi.pos) (by rw [List.length_set]; exact hp.hi.le) fun i hi => by
    rw [List.length_set] at hi
    have a1 := vec_at hp.lo hk
    have a2 := vec_at hp.hi hk2
    have a3 := vec_at hp.hi hi
    rw [e2]
    split <;> omega
  have hv1 : vq.Vec (p.1.set k (t + 1)) := vec_of (by rw [List.length_set]; exact hp.lo.pos) (by rw [List.length_set]; exact hp.lo.le) fun i hi => by
    rw [List.length_set] at hi
    have a1 := vec_at hp.lo hk
    have a2 := vec_at hp.hi hk2
    have a3 := vec_at hp.lo hi
    rw [e1]
    split <;> omega
  refine ⟨hp, ⟨hp.lo, hv2, by simp [hp.len], fun i hi => ?_⟩, ⟨hv1, hp.hi, by simp [hp.len], fun i hi => ?_⟩, rfl, by simp, hk, fun i => rfl, fun i => rfl, e2, e1, h2, h3⟩
  · have := hp.le i hi
    show at' p.1 i ≤ at' (p.2.set k t) i
    rw [e2]
    split
    · rename_i h; subst h; exact h2
    · exact this
  · have := hp.le i (by simpa using hi)
    show at' (p.1.set k (t + 1)) i ≤ at' p.2 i
    rw [e1]
    split
    · rename_i h; subst h; omega
    · exact this
section

variable {p x y : Pair} {k : Nat} {t : Int}
theorem Parts.inx (h : Parts p x y k t) : inside x p = true := by
  have h2 := h.bx.len
  have h3 := h.box.len
  simp only [inside, Bool.and_eq_true, balike_iff, le_iff]
  refine ⟨⟨⟨h.lx, h.bx, h.box⟩, fun i hi => by rw [h.x1]; exact Int.le_refl _⟩, fun i hi => ?_⟩
  rw [h.x2]
  split
  · rename_i e; subst e; have := h.hi; omega
  · exact Int.le_refl _
theorem Parts.iny (h : Parts p x y k t) : inside y p = true := by
  simp only [inside, Bool.and_eq_true, balike_iff, le_iff]
  refine ⟨⟨⟨h.ly, h.by', h.box⟩, fun i hi => ?_⟩, fun i hi => by rw [h.y2]; exact Int.le_refl _⟩
  rw [h.y1]
  split
  · rename_i e; subst e; have := h.lo; omega
  · exact Int.le_refl _
theorem Parts.one (h : Parts p x y k t) {v : List Int} (hv : has p v = true) : has x v = !has y v := by
  obtain ⟨hl, hb⟩ := (has_iff h.box).1 hv
  have hbk := hb k h.hk
  by_cases hc : at' v k ≤ t
  · have h1 : has x v = true := (has_iff h.bx).2 ⟨by rw [h.lx, hl], fun i hi => by
      rw [h.lx] at hi
      have := hb i hi
      rw [h.x1, h.x2]
      split
      · rename_i e; subst e; omega
      · exact this⟩
    have h2 : has y v = false := by
      cases hh : has y v
      · rfl
      · have h3 := ((has_iff h.by').1 hh).2 k (by rw [h.ly]; exact h.hk)
        rw [h.y1, if_pos rfl] at h3
        omega
    rw [h1, h2]; rfl
  · have h1 : has y v = true := (has_iff h.by').2 ⟨by rw [h.ly, hl], fun i hi => by
      rw [h.ly] at hi
      have := hb i hi
      rw [h.y1, h.y2]
      split
      · rename_i e; subst e; omega
      · exact this⟩
    have h2 : has x v = false := by
      cases hh : has x v
      · rfl
      · have h3 := ((has_iff h.bx).1 hh).2 k (by rw [h.lx]; exact h.hk)
        rw [h.x2, if_pos rfl] at h3
        omega
    rw [h1, h2]; rfl
theorem keyf_le (m : Int) {n : Nat} {f g : Nat → Int} (h : ∀ i, i < n → 0 ≤ f i ∧ f i ≤ g i) : keyf m ((List.range n).map f) ≤ keyf m ((List.range n).map g) := keyf_mono m h
theorem Parts.near (h : Parts p x y k t) (m : Int) (v : List Int) (hl : v.length = p.1.length) : keyf m (difs gap p (v, v)) = min (keyf m (difs gap x (v, v))) (keyf m (difs gap y (v, v))) := by
  have hk := h.lo
  have hk' := h.hi
  have a1 : keyf m (difs gap p (v, v)) ≤ keyf m (difs gap x (v, v)) := by
    unfold difs; rw [h.lx]
    refine keyf_mono m fun i hi => ?_
    simp only [gap, h.x1, h.x2]
    by_cases e : i = k
    · subst e; rw [if_pos rfl]; omega
    · rw [if_neg e]; omega
  have a2 : keyf m (difs gap p (v, v)) ≤ keyf m (difs gap y (v, v)) := by
    unfold difs; rw [h.ly]
    refine keyf_mono m fun i hi => ?_
    simp only [gap, h.y1, h.y2]
    by_cases e : i = k
    · subst e; rw [if_pos rfl]; omega
    · rw [if_neg e]; omega
  by_cases hc : at' v k ≤ t
  · have a3 : keyf m (difs gap x (v, v)) ≤ keyf m (difs gap p (v, v)) := by
      unfold difs; rw [h.lx]
      refine keyf_mono m fun i hi => ?_
      simp only [gap, h.x1, h.x2]
      by_cases e : i = k
      · subst e; rw [if_pos rfl]; omega
      · rw [if_neg e]; omega
    omega
  · have a3 : keyf m (difs gap y (v, v)) ≤ keyf m (difs gap p (v, v)) := by
      unfold difs; rw [h.ly]
      refine keyf_mono m fun i hi => ?_
      simp only [gap, h.y1, h.y2]
      by_cases e : i = k
      · subst e; rw [if_pos rfl]; omega
      · rw [if_neg e]; omega
    omega
theorem Parts.far (h : Parts p x y k t) (m : Int) (v : List Int) (hl : v.length = p.1.length) : keyf m (difs reach p (v, v)) = max (keyf m (difs reach x (v, v))) (keyf m (difs reach y (v, v))) := by
  have hk := h.lo
  have hk' := h.hi
  have hb := h.box.le
  have a1 : keyf m (difs reach x (v, v)) ≤ keyf m (difs reach p (v, v)) := by
    unfold difs; rw [h.lx]
    refine keyf_mono m fun i hi => ?_
    have := hb i hi
    simp only [reach, h.x1, h.x2]
    by_cases e : i = k
    · subst e; rw [if_pos rfl]; omega
    · rw [if_neg e]; omega
  have a2 : keyf m (difs reach y (v, v)) ≤ keyf m (difs reach p (v, v)) := by
    unfold difs; rw [h.ly]
    refine keyf_mono m fun i hi => ?_
    have := hb i hi
    simp only [reach, h.y1, h.y2]
    by_cases e : i = k
    · subst e; rw [if_pos rfl]; omega
    · rw [if_neg e]; omega
  by_cases hc : at' p.2 k - at' v k ≤ at' v k - at' p.1 k
  · have a3 : keyf m (difs reach p (v, v)) ≤ keyf m (difs reach x (v, v)) := by
      unfold difs; rw [h.lx]
      refine keyf_mono m fun i hi => ?_
      have := hb i hi
      simp only [reach, h.x1, h.x2]
      by_cases e : i = k
      · subst e; rw [if_pos rfl]; omega
      · rw [if_neg e]; omega
    omega
  · have a3 : keyf m (difs reach p (v, v)) ≤ keyf m (difs reach y (v, v)) := by
      unfold difs; rw [h.ly]
      refine keyf_mono m fun i hi => ?_
      have := hb i hi
      simp only [reach, h.y1, h.y2]
      by_cases e : i = k
      · subst e; rw [if_pos rfl]; omega
      · rw [if_neg e]; omega
    omega
end
/-- where Split says, a box can be cut, and both parts are as wide -/
theorem spl_wide (d : Nat → Int) : ∀ (l : List Nat) (s : Nat × Int), (l.foldl (splS d) s).2 = s.2 ∧ (l.foldl (splS d) s).1 = s.1 ∨ (l.foldl (splS d) s).2 = d (l.foldl (splS d) s).1
  | [], s => .inl ⟨rfl, rfl⟩
  | i :: l, s => by
    simp only [List.foldl_cons]
    rcases spl_wide d l (splS d s i) with ⟨h1, h2⟩ | h
    · unfold splS at h1 h2 ⊢
      split at h1
      · rename_i hlt
        rw [if_pos hlt] at h2 ⊢
        right
        rw [h1, h2]
      · rename_i hlt
        rw [if_neg hlt] at h2 ⊢
        exact .inl ⟨h1, h2⟩
    · exact .inr h
theorem split_ok {p : Pair} (h : (splitR p).2.2 = 0) : cutOk p (splitR p).1 (splitR p).2.1 ∧ ∃ k : Nat, (splitR p).1 = k ∧ 2 * (splitR p).2.1 ≤ at' p.1 k + at' p.2 k ∧ at' p.1 k + at' p.2 k ≤ 2 * (splitR p).2.1 + 1 := by
  unfold splitR at h ⊢
  split at h
  · rename_i hv
    rw [if_pos hv]
    split at h
    · simp at h
    · rename_i hz
      rw [if_neg hz]
      have hp := bvalid_iff.1 hv
      obtain ⟨b0, b1, b2⟩ := spl_bd (side p) p.1.length (fun i hi => by
        have a1 := vec_at hp.lo hi
        have a2 := vec_at hp.hi (i := i) (by have := hp.len; omega)
        have a3 := hp.le i hi
        unfold side; omega) (List.range p.1.length) (by simp) hp.lo.pos
      have hw : (spl (side p) (List.range p.1.length)).2 = side p (spl (side p) (List.range p.1.length)).1 := by
        rcases spl_wide (side p) (List.range p.1.length) (0, 0) with ⟨h1, _⟩ | h1
        · exact absurd h1 hz
        · exact h1
      generalize (spl (side p) (List.range p.1.length)).1 = k at *
      generalize (spl (side p) (List.range p.1.length)).2 = d at *
      have hd : at' p.2 k - at' p.1 k = d := hw.symm
      refine ⟨⟨hp, by omega, by omega, ?_, ?_⟩, k, rfl, ?_, ?_⟩ <;> simp only [Int.toNat_natCast] <;> omega
  · simp at h
end Go.Proofs.Ytlcdjabfkfmpdaa.bq
