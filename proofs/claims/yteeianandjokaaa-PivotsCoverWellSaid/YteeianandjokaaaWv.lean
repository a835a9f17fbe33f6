/- Pivots, plainly: farthest first covers well. No program here. -/
import Derived.Test.YteeianandjokaaaWq

import Derived.Test.YteeianandjokaaaG13

namespace Go.Proofs.Yteeianandjokaaa.pq

open Go.Proofs.Yteeianandjokaaa.vq Go.Proofs.Yteeianandjokaaa.cq Go.Proofs.Yteeianandjokaaa.pk

set_option linter.unusedVariables false
theorem pig : ∀ (n : Nat) (f : Nat → Nat), (∀ i, i ≤ n → f i < n) → ∃ i j, i < j ∧ j ≤ n ∧ f i = f j
  | 0, f, h => absurd (h 0 (Nat.le_refl _)) (Nat.not_lt_zero _)
  | n + 1, f, h => by
    by_cases he : ∃ i, i ≤ n ∧ f i = f (n + 1)
    · obtain ⟨i, hi, e⟩ := he
      exact ⟨i, n + 1, by omega, Nat.le_refl _, e⟩
    · have hne : ∀ i, i ≤ n → f i ≠ f (n + 1) := fun i hi e => he ⟨i, hi, e⟩
      have ht := h (n + 1) (Nat.le_refl _)
      obtain ⟨i, j, h1, h2, h3⟩ := pig n (fun i => if f i < f (n + 1) then f i else f i - 1) (fun i hi => by
        have h1 := hne i hi
        have h2 := h i (by omega)
        split <;> omega)
      have e1 := hne i (by omega)
      have e2 := hne j h2
      refine ⟨i, j, h1, by omega, ?_⟩
      split at h3 <;> split at h3 <;> omega
theorem nr_at (f : Nat → Int) : ∀ k, f (nr f k).1 = (nr f k).2
  | 0 => rfl
  | k + 1 => by
    rw [nr]
    split
    · rfl
    · exact nr_at f k
theorem nearest_at {m : Int} {d most : Nat} {S : VV} {v : List Int} (h : Fit most d S) (hv : v.length = d ∧ Vec v) : (nearest m S v).1 < S.length ∧ key m (S.getD (nearest m S v).1 []) v = nk m S v := by
  refine ⟨nearest_lt m v h.n1, ?_⟩
  obtain ⟨k, hk⟩ : ∃ k, S.length = k + 1 := ⟨S.length - 1, by have := h.n1; omega⟩
  have e : nearest m S v = nr (kf m S v) (k + 1) := by
    unfold nearest
    rw [hk]
    exact (nr_le k fun i hi => (kf_bd h hv (by omega)).2).symm
  have := nr_at (kf m S v) (k + 1)
  rw [← e] at this
  exact this
theorem far_cover (m : Int) (L : VV) (pl : List Nat) : cover m (cho L pl) L = (far m L pl).2 := by
  unfold cover far
  rw [gr_congr (f := cf m (cho L pl) L) (g := af m L pl) L.length (fun i hi => by
    unfold cf af
    rw [ap_nk]
    rfl)]
theorem af_le {m : Int} {L : VV} {pl : List Nat} {j b : Nat} (i : Nat) (h : pl[j]? = some b) : af m L pl i ≤ key m (L.getD b []) (L.getD i []) := by
  have hj := (List.getElem?_eq_some_iff.1 h).1
  unfold af
  rw [ap_mn]
  have h1 := mnk_le (f := kf m (pl.map fun k => L.getD k []) (L.getD i [])) (pl.map fun k => L.getD k []).length j (by simpa using hj)
  have e : kf m (pl.map fun k => L.getD k []) (L.getD i []) j = key m (L.getD b []) (L.getD i []) := by
    unfold kf
    rw [getD_some (l := pl.map fun k => L.getD k []) (x := L.getD b []) (by rw [List.getElem?_map, h]; rfl)]
  omega
theorem far_snoc (m : Int) (L : VV) (pl : List Nat) (t : Nat) : (far m L (pl ++ [t])).2 ≤ (far m L pl).2 := by
  unfold far
  rw [gr_mx, gr_mx]
  refine mxk_le (mxk_nonneg _ _) _ fun i hi => ?_
  have h1 : af m L (pl ++ [t]) i ≤ af m L pl i := by
    unfold af
    rw [List.map_append, List.map_cons, List.map_nil, ap_snoc]
    omega
  have h2 := mxk_ge (f := af m L pl) L.length i hi
  omega
def Sep (m : Int) (L : VV) (pl : List Nat) : Prop := ∀ i j a b : Nat, j < i → pl[i]? = some a → pl[j]? = some b → 0 < key m (L.getD a []) (L.getD b []) ∧ (far m L pl).2 ≤ key m (L.getD a []) (L.getD b [])
theorem sep_snoc {m : Int} {L : VV} {pl : List Nat} (h : Sep m L pl) (h0 : (far m L pl).2 ≠ 0) : Sep m L (pl ++ [(far m L pl).1]) := fun i j a b hji ha hb => by
  have hm := far_snoc m L pl (far m L pl).1
  have hi := (List.getElem?_eq_some_iff.1 ha).1
  rw [List.length_append, List.length_singleton] at hi
  rw [List.getElem?_append_left (by omega)] at hb
  by_cases hc : i < pl.length
  · rw [List.getElem?_append_left hc] at ha
    have := h i j a b hji ha hb
    exact ⟨this.1, by omega⟩
  · obtain rfl : i = pl.length := by omega
    rw [List.getElem?_append_right (Nat.le_refl _), Nat.sub_self] at ha
    simp only [List.getElem?_cons_zero, Option.some.injEq] at ha
    subst ha
    have hp : 0 < (far m L pl).2 := by have := gr_nonneg (af m L pl) L.length; unfold far at h0 ⊢; omega
    have h1 := gr_at (af m L pl) L.length hp
    have h2 := af_le (m := m) (L := L) (far m L pl).1 hb
    have h3 : af m L pl (far m L pl).1 = (far m L pl).2 := h1.2
    rw [key_comm]
    exact ⟨by omega, by omega⟩
theorem chN_sep (m : Int) (L : VV) : ∀ (f : Nat) (pl : List Nat), Sep m L pl → Sep m L (chN m L f pl) ∧ ((chN m L f pl).length < pl.length + f → (far m L (chN m L f pl)).2 = 0) ∧ ∃ t, chN m L f pl = pl ++ t
  | 0, pl, h => ⟨h, fun h => by rw [chN] at h; omega, [], by rw [chN, List.append_nil]⟩
  | f + 1, pl, h => by
    rw [chN]
    split
    · rename_i hz
      exact ⟨h, fun _ => hz, [], (List.append_nil _).symm⟩
    · rename_i hz
      obtain ⟨h1, h2, t, h3⟩ := chN_sep m L f (pl ++ [(far m L pl).1]) (sep_snoc h hz)
      refine ⟨h1, fun hl => h2 (by rw [List.length_append, List.length_singleton]; omega), [(far m L pl).1] ++ t, ?_⟩
      rw [h3, List.append_assoc]
structure Chosen (m : Int) (L : VV) (n : Nat) (pl : List Nat) : Prop where
  n1 : 1 ≤ pl.length
  nn : pl.length ≤ n
  z : pl[0]? = some 0
  lt : ∀ i ∈ pl, i < L.length
  sep : Sep m L pl
  full : pl.length < n → (far m L pl).2 = 0
theorem chosen_of {m : Int} {L : VV} {n : Nat} (h : 1 ≤ L.length) (hn : 1 ≤ n) : Chosen m L n (choose m L n) := by
  have e := choose_first m h (most := (n : Int)) (by omega)
  have e2 : ((n : Int)).toNat - 1 = n - 1 := by omega
  rw [e2] at e
  have hs : Sep m L [0] := fun i j a b hji ha hb => by
    have := (List.getElem?_eq_some_iff.1 ha).1
    simp at this
    omega
  obtain ⟨h1, h2, t, h3⟩ := chN_sep m L (n - 1) [0] hs
  have h4 := chN_len m L (n - 1) [0]
  have h5 := chN_lt m h (n - 1) [0] (fun i hi => by rw [List.mem_singleton.1 hi]; omega)
  simp only [List.length_singleton] at h2 h4
  rw [e]
  exact ⟨h4.1, by omega, by rw [h3]; rfl, h5, h1, fun hl => h2 (by omega)⟩
theorem high_two {m a b o : Int} (ha : 0 ≤ a) (hb : 0 ≤ b) (h1 : a ≤ o) (h2 : b ≤ o) : me.high m a b ≤ me.high m o o := by
  have g1 := me.high_grow (m := m) ha hb h2
  have g2 := me.high_grow (m := m) (a := o) (x := a) (y := o) (by omega) ha h1
  rw [me.high_comm m o a] at g2
  omega
theorem covers_well {m : Int} {d n : Nat} {L S : VV} {pl : List Nat} (h1 : 1 ≤ m) (h3 : m ≤ 3) (hL : Fit 4096 d L) (hc : Chosen m L n pl) (hS : Fit 8 d S) (hn : S.length = n) : cover m (cho L pl) L ≤ me.high m (cover m S L) (cover m S L) := by
  have ho := cover_bd (m := m) hS hL
  rw [far_cover]
  by_cases hz : (far m L pl).2 = 0
  · rw [hz]; exact me.high_nonneg ho.1 ho.1
  · have hlen : pl.length = n := by
      have := hc.nn
      rcases Nat.lt_or_ge pl.length n with h | h
      · exact absurd (hc.full h) hz
      · omega
    have hp : 0 < (far m L pl).2 := by have := gr_nonneg (af m L pl) L.length; unfold far at hz ⊢; omega
    have hat := gr_at (af m L pl) L.length hp
    have hatv : af m L pl (far m L pl).1 = (far m L pl).2 := hat.2
    have hatl : (far m L pl).1 < L.length := hat.1
    generalize hft : (far m L pl).1 = t at *
    generalize hfc : (far m L pl).2 = c at *
    -- the points
    have hy : ∃ y : Nat → Nat, (∀ i, i ≤ n → y i < L.length) ∧ ∀ i j, i < j → j ≤ n → c ≤ key m (L.getD (y i) []) (L.getD (y j) []) := by
      refine ⟨fun i => if i < n then pl.getD i 0 else t, fun i hi => ?_, fun i j hij hj => ?_⟩
      · dsimp only
        split
        · rename_i hlt
          exact hc.lt _ (List.mem_of_getElem? (getD_at (l := pl) (by omega)))
        · exact hatl
      · dsimp only
        rw [if_pos (by omega)]
        have hpi : pl[i]? = some (pl.getD i 0) := getD_at (by omega)
        split
        · have hpj : pl[j]? = some (pl.getD j 0) := getD_at (by omega)
          have := hc.sep j i _ _ hij hpj hpi
          rw [key_comm]
          omega
        · have := af_le (m := m) (L := L) t hpi
          omega
    obtain ⟨y, hy1, hy2⟩ := hy
    obtain ⟨i, j, hij, hj, e⟩ := pig n (fun i => (nearest m S (L.getD (y i) [])).1) (fun i hi => by
      have := (nearest_at (m := m) hS (hL.get (hy1 i hi))).1
      omega)
    have a1 := nearest_at (m := m) hS (hL.get (hy1 i (by omega)))
    have a2 := nearest_at (m := m) hS (hL.get (hy1 j hj))
    rw [← e] at a2
    generalize (nearest m S (L.getD (y i) [])).1 = s at *
    have b1 : nk m S (L.getD (y i) []) ≤ cover m S L := by rw [cover_mx]; exact mxk_ge (f := cf m S L) L.length (y i) (hy1 i (by omega))
    have b2 : nk m S (L.getD (y j) []) ≤ cover m S L := by rw [cover_mx]; exact mxk_ge (f := cf m S L) L.length (y j) (hy1 j hj)
    have v1 := hL.get (hy1 i (by omega))
    have v2 := hL.get (hy1 j hj)
    have v3 := hS.get (i := s) a1.1
    have k1 := key_bd (m := m) v3 v1
    have k2 := key_bd (m := m) v3 v2
    have hb := bounds_hold h1 h3 v1.2 v2.2 v3.2 (by omega) (by omega)
    rw [key_comm m _ (S.getD s []), key_comm m (L.getD (y j) []) (S.getD s [])] at hb
    have g := high_two (m := m) (a := key m (S.getD s []) (L.getD (y i) [])) (b := key m (S.getD s []) (L.getD (y j) [])) (o := cover m S L) k1.1 k2.1 (by omega) (by omega)
    have := hy2 i j hij hj
    omega
end Go.Proofs.Yteeianandjokaaa.pq
