/- Pivots, plainly: what the laws ask. No program here. -/
import Derived.Test.YteeianandjokaaaG9

namespace Go.Proofs.Yteeianandjokaaa.pq

open Go.Proofs.Yteeianandjokaaa.vq Go.Proofs.Yteeianandjokaaa.cq Go.Proofs.Yteeianandjokaaa.pk

set_option linter.unusedVariables false
theorem jok_of {a b : List Sh} (hl : a.length = b.length) (ha : svalid a = true) (hb : svalid b = true) : jok a b = true := by
  simp [jok, hl, ha, hb]
theorem joins_comm {a b : List Sh} : joins a b = joins b a := by
  unfold joins
  rw [List.zipWith_comm]
  congr 1
  funext x y
  unfold join1
  rw [Int.min_comm, Int.max_comm]
theorem svalid_joins {a b : List Sh} (hl : a.length = b.length) (ha : svalid a = true) (hb : svalid b = true) : svalid (joins a b) = true := by
  have h8 := svalid_len ha
  simp only [svalid, Bool.and_eq_true, decide_eq_true_eq, List.all_eq_true]
  refine ⟨by rw [joins_len hl]; exact h8, fun r hr => ?_⟩
  obtain ⟨k, hk, rfl⟩ := List.mem_iff_getElem.1 hr
  rw [joins_len hl] at hk
  have hk2 : k < b.length := by omega
  have h1 := svalid_at ha (List.getElem_mem hk)
  have h2 := svalid_at hb (List.getElem_mem hk2)
  have h3 := joins_at (List.getElem?_eq_getElem hk) (List.getElem?_eq_getElem hk2)
  rw [List.getElem?_eq_getElem (by rw [joins_len hl]; exact hk)] at h3
  injection h3 with h3
  rw [h3]
  unfold sok join1
  refine decide_eq_true ?_
  dsimp only
  omega
theorem inn_iff {S : List Sh} {ks : List Int} : inn S ks = true ↔ S.length = ks.length ∧ svalid S = true ∧ ∀ (k : Nat) (s : Sh) (x : Int), S[k]? = some s → ks[k]? = some x → s.1 ≤ x ∧ x ≤ s.2 := by
  simp only [inn, Bool.and_eq_true, decide_eq_true_eq, List.all_eq_true]
  constructor
  · rintro ⟨h1, h2, h3⟩
    refine ⟨h1, h2, fun k s x hs hx => ?_⟩
    have hz : (S.zip ks)[k]? = some (s, x) := by rw [List.getElem?_zip_eq_some]; exact ⟨hs, hx⟩
    have := h3 _ (List.mem_of_getElem? hz)
    simpa [in1] using this
  · rintro ⟨h1, h2, h3⟩
    refine ⟨h1, h2, fun p hp => ?_⟩
    obtain ⟨k, hk⟩ := List.mem_iff_getElem?.1 hp
    obtain ⟨hs, hx⟩ := List.getElem?_zip_eq_some.1 hk
    have := h3 k _ _ hs hx
    simpa [in1] using this
theorem at_of_lt {α : Type} {l : List α} {k : Nat} (h : k < l.length) : ∃ x, l[k]? = some x := ⟨_, List.getElem?_eq_getElem h⟩
theorem joins_split {a b : List Sh} (hl : a.length = b.length) {k : Nat} {s : Sh} (h : (joins a b)[k]? = some s) : ∃ x y, a[k]? = some x ∧ b[k]? = some y ∧ s = join1 x y := by
  have hk := (List.getElem?_eq_some_iff.1 h).1
  rw [joins_len hl] at hk
  obtain ⟨x, hx⟩ := at_of_lt hk
  obtain ⟨y, hy⟩ := at_of_lt (show k < b.length by omega)
  rw [joins_at hx hy] at h
  injection h with h
  exact ⟨x, y, hx, hy, h.symm⟩
theorem inn_joins {a b : List Sh} {ks : List Int} (hl : a.length = b.length) (hb : svalid b = true) (h : inn a ks = true) : inn (joins a b) ks = true := by
  obtain ⟨h1, h2, h3⟩ := inn_iff.1 h
  refine inn_iff.2 ⟨by rw [joins_len hl]; exact h1, svalid_joins hl h2 hb, fun k s x hs hx => ?_⟩
  obtain ⟨p, q, hp, hq, rfl⟩ := joins_split hl hs
  have := h3 k p x hp hx
  unfold join1
  dsimp only
  omega
theorem inn_joins' {a b : List Sh} {ks : List Int} (hl : a.length = b.length) (ha : svalid a = true) (h : inn b ks = true) : inn (joins a b) ks = true := by
  rw [joins_comm]; exact inn_joins hl.symm ha h
theorem asked_joins {m : Int} {a b : List Sh} {ks : List Int} (hl : a.length = b.length) (ha : svalid a = true) (hb : svalid b = true) : asked m (joins a b) ks = asked m a ks ∧ asked m b ks = asked m a ks := by
  have := svalid_joins hl ha hb
  unfold asked
  rw [joins_len hl, this, ha, hb, hl]
  exact ⟨rfl, rfl⟩
theorem gap_wide {m lo hi lo' hi' a : Int} (h : lo' ≤ lo) (h2 : lo ≤ hi) (h3 : hi ≤ hi') (ha : 0 ≤ a) (ha2 : a ≤ 134217728) (hl : 0 ≤ lo') (hh : hi' ≤ 134217728) : me.gap m lo' hi' a ≤ me.gap m lo hi a := by
  have e : me.near a lo hi = max lo (min a hi) := rfl
  exact me.gap_le (b := me.near a lo hi) (by omega) (by omega) ha ha2 hl hh
theorem gapf_joins {m : Int} {a b : List Sh} {ks : List Int} (hl : a.length = b.length) (h : Asked m a ks) (hb : svalid b = true) {k : Nat} (hk : k < a.length) : gapf m (joins a b) ks k ≤ gapf m a ks k := by
  obtain ⟨x, hx⟩ := at_of_lt hk
  obtain ⟨y, hy⟩ := at_of_lt (show k < b.length by omega)
  obtain ⟨z, hz⟩ := at_of_lt (show k < ks.length by have := h.len; omega)
  rw [gapf_at (joins_at hx hy) hz, gapf_at hx hz]
  have h1 := h.ok x (List.mem_of_getElem? hx)
  have h2 := svalid_at hb (List.mem_of_getElem? hy)
  have h3 := h.kok z (List.mem_of_getElem? hz)
  unfold join1
  dsimp only
  exact gap_wide (by omega) (by omega) (by omega) h3.1 h3.2 (by omega) (by omega)
theorem reaf_joins {m : Int} {a b : List Sh} {ks : List Int} (hl : a.length = b.length) (h : Asked m a ks) (hb : svalid b = true) {k : Nat} (hk : k < a.length) : reaf m a ks k ≤ reaf m (joins a b) ks k := by
  obtain ⟨x, hx⟩ := at_of_lt hk
  obtain ⟨y, hy⟩ := at_of_lt (show k < b.length by omega)
  obtain ⟨z, hz⟩ := at_of_lt (show k < ks.length by have := h.len; omega)
  rw [reaf_at (joins_at hx hy) hz, reaf_at hx hz]
  have h1 := h.ok x (List.mem_of_getElem? hx)
  have h3 := h.kok z (List.mem_of_getElem? hz)
  unfold join1
  dsimp only
  exact me.high_grow h3.1 (by omega) (by omega)
theorem low_joins {m : Int} {a b : List Sh} {ks : List Int} (hl : a.length = b.length) (h : asked m a ks = true) (hb : svalid b = true) : lowS m (joins a b) ks ≤ lowS m a ks := by
  have ha := asked_of h
  rw [lowS_mx, lowS_mx, joins_len hl]
  refine mxk_le (mxk_nonneg _ _) _ fun i hi => ?_
  have h1 := gapf_joins hl ha hb hi
  have h2 := mxk_ge (f := gapf m a ks) a.length i hi
  omega
theorem high_joins {m : Int} {a b : List Sh} {ks : List Int} (hl : a.length = b.length) (h : asked m a ks = true) (hb : svalid b = true) : highS m a ks ≤ highS m (joins a b) ks := by
  have ha := asked_of h
  rw [highS_mn, highS_mn, joins_len hl]
  refine mnk_ge (mnk_max _ _) _ fun i hi => ?_
  have h1 := reaf_joins hl ha hb hi
  have h2 := mnk_le (f := reaf m a ks) a.length i hi
  omega
theorem join_bounds {m : Int} {a b : List Sh} {ks : List Int} (hl : a.length = b.length) (ha : svalid a = true) (hb : svalid b = true) (h : asked m (joins a b) ks = true) :
    asked m a ks = true ∧ asked m b ks = true ∧ lowS m (joins a b) ks ≤ min (lowS m a ks) (lowS m b ks) ∧ max (highS m a ks) (highS m b ks) ≤ highS m (joins a b) ks := by
  have e := asked_joins (m := m) (ks := ks) hl ha hb
  have h1 : asked m a ks = true := by rw [← e.1]; exact h
  have h2 : asked m b ks = true := by rw [e.2]; exact h1
  have l1 := low_joins hl h1 hb
  have l2 := low_joins hl.symm h2 ha
  have g1 := high_joins hl h1 hb
  have g2 := high_joins hl.symm h2 ha
  rw [joins_comm (a := b)] at l2 g2
  exact ⟨h1, h2, by omega, by omega⟩
end Go.Proofs.Yteeianandjokaaa.pq
