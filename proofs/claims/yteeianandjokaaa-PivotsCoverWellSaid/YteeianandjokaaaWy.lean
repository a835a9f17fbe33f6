/- Pivots, plainly: the bounds hold. No program here. -/
import Derived.Test.YteeianandjokaaaWx

import Derived.Test.YteeianandjokaaaG11

namespace Go.Proofs.Yteeianandjokaaa.pq

open Go.Proofs.Yteeianandjokaaa.vq Go.Proofs.Yteeianandjokaaa.cq Go.Proofs.Yteeianandjokaaa.pk

set_option linter.unusedVariables false
theorem head_app {L M : VV} (h : 1 ≤ L.length) : (L ++ M).headD [] = L.headD [] := by cases L with
  | nil => simp at h
  | cons x l => rfl
theorem fit_app {most d k : Nat} {L : VV} {v : List Int} (h : Fit most d L) (hv : v.length = d ∧ Vec v) (hk : L.length + 1 ≤ k) : fit k (L ++ [v]) = true := by
  refine fit_iff.2 ⟨by simp, by simpa using hk, fun x hx => ?_⟩
  rw [head_app h.n1]
  have h0 := h.head
  rcases List.mem_append.1 hx with h1 | h1
  · have := h.ok x h1; exact ⟨by omega, this.2⟩
  · rw [List.mem_singleton.1 h1]; exact ⟨by omega, hv.2⟩
theorem haveK_iff {m : Int} {P L : VV} : haveK m P L = true ↔ isM m = true ∧ fit 8 P = true ∧ fit 4096 L = true ∧ alike (P.headD []) (L.headD []) = true := by
  simp [haveK, Bool.and_eq_true]
theorem haveK_snoc {m : Int} {P L : VV} {v : List Int} (h : haveK m P L = true) (hl : L.length ≤ 30) (hv : alike (P.headD []) v = true) : haveK m P (L ++ [v]) = true := by
  obtain ⟨h1, h2, h3, h4⟩ := haveK_iff.1 h
  have hh := have_of h
  have hv' := alike_iff.1 hv
  exact haveK_iff.2 ⟨h1, h2, fit_app hh.l ⟨hv'.1.symm, hv'.2.2⟩ (by omega), by rw [head_app hh.l.n1]; exact h4⟩
theorem table_snoc (m : Int) (P L : VV) (v : List Int) : table m P (L ++ [v]) = table m P L ++ [keys m P v] := by
  unfold table; rw [List.map_append]; rfl
theorem table_len (m : Int) (P L : VV) : (table m P L).length = L.length := by unfold table; rw [List.length_map]
theorem table_at {m : Int} {P L : VV} {k : Nat} {v : List Int} (h : L[k]? = some v) : (table m P L)[k]? = some (keys m P v) := by
  unfold table; rw [List.getElem?_map, h]; rfl
theorem keys_len (m : Int) (P : VV) (v : List Int) : (keys m P v).length = P.length := by unfold keys; rw [List.length_map]
theorem keys_at {m : Int} {P : VV} {v p : List Int} {k : Nat} (h : P[k]? = some p) : (keys m P v)[k]? = some (key m p v) := by
  unfold keys; rw [List.getElem?_map, h]; rfl
theorem shells_len (m : Int) (P L : VV) : (shells m P L).length = P.length := by unfold shells; rw [List.length_map]
theorem shells_at {m : Int} {P L : VV} {p : List Int} {k : Nat} (h : P[k]? = some p) : (shells m P L)[k]? = some (shl m p L) := by
  unfold shells; rw [List.getElem?_map, h]; rfl
theorem fold_bd (m : Int) (p : List Int) : ∀ (l : VV) (s : Sh), (l.foldl (fun s v => grow1 s (key m p v)) s).1 ≤ s.1 ∧ s.2 ≤ (l.foldl (fun s v => grow1 s (key m p v)) s).2
    ∧ (∀ v ∈ l, (l.foldl (fun s v => grow1 s (key m p v)) s).1 ≤ key m p v ∧ key m p v ≤ (l.foldl (fun s v => grow1 s (key m p v)) s).2)
    ∧ ((l.foldl (fun s v => grow1 s (key m p v)) s).1 = s.1 ∨ ∃ v ∈ l, (l.foldl (fun s v => grow1 s (key m p v)) s).1 = key m p v)
    ∧ ((l.foldl (fun s v => grow1 s (key m p v)) s).2 = s.2 ∨ ∃ v ∈ l, (l.foldl (fun s v => grow1 s (key m p v)) s).2 = key m p v)
  | [], s => ⟨Int.le_refl _, Int.le_refl _, fun v hv => (by cases hv), .inl rfl, .inl rfl⟩
  | x :: l, s => by
    obtain ⟨h1, h2, h3, h4, h5⟩ := fold_bd m p l (grow1 s (key m p x))
    rw [List.foldl_cons]
    generalize List.foldl (fun s v => grow1 s (key m p v)) (grow1 s (key m p x)) l = r at *
    unfold grow1 at h1 h2 h4 h5
    dsimp only at h1 h2 h4 h5
    have a1 : r.1 ≤ s.1 ∧ r.1 ≤ key m p x := by clear h3 h4 h5; omega
    have a2 : s.2 ≤ r.2 ∧ key m p x ≤ r.2 := by clear h3 h4 h5; omega
    refine ⟨a1.1, a2.1, fun v hv => ?_, ?_, ?_⟩
    · rcases List.mem_cons.1 hv with e | hv
      · rw [e]; exact ⟨a1.2, a2.2⟩
      · exact h3 v hv
    · rcases h4 with h4 | ⟨v, hv, h4⟩
      · by_cases hc : s.1 ≤ key m p x
        · exact .inl (by clear h3 h5; omega)
        · exact .inr ⟨x, List.mem_cons_self .., by clear h3 h5; omega⟩
      · exact .inr ⟨v, List.mem_cons_of_mem _ hv, h4⟩
    · rcases h5 with h5 | ⟨v, hv, h5⟩
      · by_cases hc : key m p x ≤ s.2
        · exact .inl (by clear h3 h4; omega)
        · exact .inr ⟨x, List.mem_cons_self .., by clear h3 h4; omega⟩
      · exact .inr ⟨v, List.mem_cons_of_mem _ hv, h5⟩
theorem shl_bd {m : Int} {p : List Int} {L : VV} (h : 1 ≤ L.length) : (∀ v ∈ L, (shl m p L).1 ≤ key m p v ∧ key m p v ≤ (shl m p L).2) ∧ (∃ v ∈ L, (shl m p L).1 = key m p v) ∧ ∃ v ∈ L, (shl m p L).2 = key m p v := by
  cases L with
  | nil => simp at h
  | cons x l =>
    have e : shl m p (x :: l) = l.foldl (fun s v => grow1 s (key m p v)) (key m p x, key m p x) := rfl
    obtain ⟨h1, h2, h3, h4, h5⟩ := fold_bd m p l (key m p x, key m p x)
    rw [e]
    generalize List.foldl (fun s v => grow1 s (key m p v)) (key m p x, key m p x) l = r at *
    dsimp only at h1 h2 h4 h5
    refine ⟨fun v hv => ?_, ?_, ?_⟩
    · rcases List.mem_cons.1 hv with e | hv
      · rw [e]; exact ⟨h1, h2⟩
      · exact h3 v hv
    · rcases h4 with h4 | ⟨v, hv, h4⟩
      · exact ⟨x, List.mem_cons_self .., h4⟩
      · exact ⟨v, List.mem_cons_of_mem _ hv, h4⟩
    · rcases h5 with h5 | ⟨v, hv, h5⟩
      · exact ⟨x, List.mem_cons_self .., h5⟩
      · exact ⟨v, List.mem_cons_of_mem _ hv, h5⟩
theorem shl_ok {m : Int} {d most : Nat} {p : List Int} {L : VV} (hp : p.length = d ∧ Vec p) (h : Fit most d L) : 0 ≤ (shl m p L).1 ∧ (shl m p L).1 ≤ (shl m p L).2 ∧ (shl m p L).2 ≤ 134217728 := by
  obtain ⟨h1, ⟨v, hv, h2⟩, u, hu, h3⟩ := shl_bd (m := m) (p := p) h.n1
  have b1 := key_bd (m := m) hp (h.ok v hv)
  have b2 := key_bd (m := m) hp (h.ok u hu)
  have := h1 v hv
  omega
theorem shells_split {m : Int} {P L : VV} {k : Nat} {s : Sh} (h : (shells m P L)[k]? = some s) : ∃ p, P[k]? = some p ∧ s = shl m p L := by
  have hk := (List.getElem?_eq_some_iff.1 h).1
  rw [shells_len] at hk
  obtain ⟨p, hp⟩ := at_of_lt hk
  rw [shells_at hp] at h
  injection h with h
  exact ⟨p, hp, h.symm⟩
theorem keys_split {m : Int} {P : VV} {v : List Int} {k : Nat} {x : Int} (h : (keys m P v)[k]? = some x) : ∃ p, P[k]? = some p ∧ x = key m p v := by
  have hk := (List.getElem?_eq_some_iff.1 h).1
  rw [keys_len] at hk
  obtain ⟨p, hp⟩ := at_of_lt hk
  rw [keys_at hp] at h
  injection h with h
  exact ⟨p, hp, h.symm⟩
theorem svalid_shells {m : Int} {d most : Nat} {P L : VV} (hP : Fit 8 d P) (h : Fit most d L) : svalid (shells m P L) = true := by
  simp only [svalid, Bool.and_eq_true, decide_eq_true_eq, List.all_eq_true]
  refine ⟨by rw [shells_len]; exact hP.n2, fun s hs => ?_⟩
  obtain ⟨k, hk⟩ := List.mem_iff_getElem?.1 hs
  obtain ⟨p, hp, rfl⟩ := shells_split hk
  unfold sok
  exact decide_eq_true (shl_ok (hP.at hp) h)
theorem inn_shells {m : Int} {d most : Nat} {P L : VV} (hP : Fit 8 d P) (h : Fit most d L) {v : List Int} (hv : v ∈ L) : inn (shells m P L) (keys m P v) = true := by
  refine inn_iff.2 ⟨by rw [shells_len, keys_len], svalid_shells hP h, fun k s x hs hx => ?_⟩
  obtain ⟨p, hp, rfl⟩ := shells_split hs
  obtain ⟨p', hp', rfl⟩ := keys_split hx
  rw [hp] at hp'
  injection hp' with hp'
  subst hp'
  exact (shl_bd h.n1).1 v hv
theorem asked_shells {m : Int} {d most : Nat} {P L : VV} (hm : isM m = true) (hP : Fit 8 d P) (h : Fit most d L) {v : List Int} (hv : v.length = d ∧ Vec v) : asked m (shells m P L) (keys m P v) = true := by
  unfold asked
  rw [hm, svalid_shells hP h, shells_len, keys_len]
  simp only [decide_true, Bool.true_and, List.all_eq_true]
  intro x hx
  obtain ⟨k, hk⟩ := List.mem_iff_getElem?.1 hx
  obtain ⟨p, hp, rfl⟩ := keys_split hk
  unfold pq.kok
  exact decide_eq_true (key_bd (hP.at hp) hv)
theorem low_holds {m : Int} {d most : Nat} {P L : VV} (h1 : 1 ≤ m) (h3 : m ≤ 3) (hP : Fit 8 d P) (h : Fit most d L) {q x : List Int} (hq : q.length = d ∧ Vec q) (hx : x ∈ L) :
    lowS m (shells m P L) (keys m P q) ≤ key m q x ∧ key m q x ≤ highS m (shells m P L) (keys m P q) := by
  have hx' := h.ok x hx
  have hall : ∀ i, i < (shells m P L).length → gapf m (shells m P L) (keys m P q) i ≤ key m q x ∧ key m q x ≤ reaf m (shells m P L) (keys m P q) i := fun i hi => by
    rw [shells_len] at hi
    obtain ⟨p, hp⟩ := at_of_lt hi
    have hpv := hP.at hp
    rw [gapf_at (shells_at hp) (keys_at hp), reaf_at (shells_at hp) (keys_at hp)]
    have hb := bounds_hold h1 h3 hq.2 hx'.2 hpv.2 (by omega) (by omega)
    rw [key_comm m q p, key_comm m x p] at hb
    have hs := shl_ok (m := m) hpv h
    have hin := (shl_bd (m := m) (p := p) h.n1).1 x hx
    have hk := key_bd (m := m) hpv hq
    have hk2 := key_bd (m := m) hpv hx'
    have g1 := me.gap_le (m := m) hin.1 hin.2 hk.1 hk.2 hs.1 hs.2.2
    have g2 := me.high_grow (m := m) hk.1 hk2.1 hin.2
    omega
  rw [lowS_mx, highS_mn]
  exact ⟨mxk_le (key_nonneg m q x) _ fun i hi => (hall i hi).1, mnk_ge (key_bd hq hx').2 _ fun i hi => (hall i hi).2⟩
theorem shell_met {m : Int} {P L : VV} (h : 1 ≤ L.length) {j : Nat} {s : Sh} (hs : (shells m P L)[j]? = some s) :
    (∃ i, i < L.length ∧ ∃ row : List Int, (table m P L)[i]? = some row ∧ row[j]? = some s.1) ∧ ∃ i, i < L.length ∧ ∃ row : List Int, (table m P L)[i]? = some row ∧ row[j]? = some s.2 := by
  obtain ⟨p, hp, rfl⟩ := shells_split hs
  obtain ⟨h1, ⟨v, hv, h2⟩, u, hu, h3⟩ := shl_bd (m := m) (p := p) h
  obtain ⟨i, hi⟩ := List.mem_iff_getElem?.1 hv
  obtain ⟨i', hi'⟩ := List.mem_iff_getElem?.1 hu
  exact ⟨⟨i, (List.getElem?_eq_some_iff.1 hi).1, _, table_at hi, by rw [h2]; exact keys_at hp⟩, ⟨i', (List.getElem?_eq_some_iff.1 hi').1, _, table_at hi', by rw [h3]; exact keys_at hp⟩⟩
end Go.Proofs.Yteeianandjokaaa.pq
