/- More words serve no worse, plainly. No program here. -/
import Derived.Test.YtiodjepjbooniaaG9

import Derived.Test.YtiodjepjbooniaaG6

namespace Go.Proofs.Ytiodjepjbooniaa.cq

open Go.Proofs.Ytiodjepjbooniaa.vq

set_option linter.unusedVariables false
theorem worst_mono {m : Int} {b b' : Bk} : ∀ (L : VV) (a a' : Int), a ≤ a' → (∀ v ∈ L, res m b v ≤ res m b' v) → L.foldl (fun x v => max x (res m b v)) a ≤ L.foldl (fun x v => max x (res m b' v)) a'
  | [], a, a', h, _ => h
  | v :: L, a, a', h, hh => by
    rw [List.foldl_cons, List.foldl_cons]
    have h1 := hh v (by simp)
    exact worst_mono L _ _ (by omega) (fun u hu => hh u (by simp [hu]))
theorem worst_zero {m : Int} {b : Bk} : ∀ (L : VV), (∀ v ∈ L, res m b v = 0) → L.foldl (fun x v => max x (res m b v)) 0 = 0
  | [], _ => rfl
  | v :: L, h => by
    rw [List.foldl_cons, h v (by simp)]
    exact worst_zero L (fun u hu => h u (by simp [hu]))
theorem dec_grow {b b' : Bk} (hl : b.W.length = b'.W.length) (h : ∀ (k : Nat) (l l' : VV), b.W[k]? = some l → b'.W[k]? = some l' → l <+: l') {c : List Int} (hc : cok b c = true) : cok b' c = true ∧ dec b' c = dec b c := by
  have hc' := cok_iff.1 hc
  have h2 : cok b' c = true := cok_iff.2 ⟨by rw [hc'.1, hl], fun k l' i hl' hi => by
    have hk : k < b.W.length := by rw [hl]; exact (List.getElem?_eq_some_iff.1 hl').1
    have h1 := hc'.2 k _ i (List.getElem?_eq_getElem hk) hi
    have h3 := (h k _ l' (List.getElem?_eq_getElem hk) hl').length_le
    omega⟩
  refine ⟨h2, ?_⟩
  unfold dec
  rw [hc, h2, if_pos rfl, if_pos rfl]
  congr 1
  refine List.ext_getElem? fun k => ?_
  rcases Nat.lt_or_ge k b.W.length with hk | hk
  · have e1 := List.getElem?_eq_getElem hk
    have e2 := List.getElem?_eq_getElem (show k < b'.W.length by omega)
    have e3 := List.getElem?_eq_getElem (show k < c.length by rw [hc'.1]; exact hk)
    rw [chosen_at e1 e3, chosen_at e2 e3]
    have h1 := hc'.2 k _ _ e1 e3
    obtain ⟨t, ht⟩ := h k _ _ e1 e2
    rw [← ht, List.getD_eq_getElem?_getD, List.getD_eq_getElem?_getD, List.getElem?_append_left (by omega)]
  · rw [List.getElem?_eq_none (by rw [chosen_len (by rw [hc'.1, hl])]; omega), List.getElem?_eq_none (by rw [chosen_len hc'.1]; exact hk)]
theorem list_of {α : Type} {P : Nat → α → Prop} : ∀ (n : Nat), (∀ k, k < n → ∃ x, P k x) → ∃ L : List α, L.length = n ∧ ∀ (k : Nat) (x : α), L[k]? = some x → P k x
  | 0, _ => ⟨[], rfl, fun k x h => by simp at h⟩
  | n + 1, h => by
    obtain ⟨L, h1, h2⟩ := list_of n (fun k hk => h k (by omega))
    obtain ⟨x, hx⟩ := h n (by omega)
    refine ⟨L ++ [x], by simp [h1], fun k y hy => ?_⟩
    rcases Nat.lt_or_ge k n with hk | hk
    · rw [List.getElem?_append_left (by omega)] at hy
      exact h2 k y hy
    · have hk2 : k < (L ++ [x]).length := (List.getElem?_eq_some_iff.1 hy).1
      simp [h1] at hk2
      obtain rfl : k = n := by omega
      rw [List.getElem?_append_right (by omega), h1] at hy
      simp at hy
      subst hy
      exact hx
theorem code_of {b : Bk} (hR : Rt b) {v : List Int} (hv : (v.length : Int) = b.d) (h : ∀ (k : Nat) (l : VV) (y : Int), b.W[k]? = some l → b.cuts[k]? = some y → pt v (y, endAt b.cuts b.d k) ∈ l) : ∃ c, cok b c = true ∧ dec b c = v := by
  obtain ⟨c, h1, h2⟩ := list_of (P := fun k (i : Int) => ∀ l y, b.W[k]? = some l → b.cuts[k]? = some y → 0 ≤ i ∧ i < (l.length : Int) ∧ l.getD i.toNat [] = pt v (y, endAt b.cuts b.d k)) b.W.length (fun k hk => by
    have e1 := List.getElem?_eq_getElem hk
    have e2 := List.getElem?_eq_getElem (show k < b.cuts.length by rw [← hR.wl]; exact hk)
    obtain ⟨i, hi, he⟩ := List.mem_iff_getElem.1 (h k _ _ e1 e2)
    refine ⟨(i : Int), fun l y hl hy => ?_⟩
    rw [e1] at hl
    rw [e2] at hy
    injection hl with hl
    injection hy with hy
    subst hl
    subst hy
    refine ⟨by omega, by omega, ?_⟩
    rw [Int.toNat_natCast, List.getD_eq_getElem?_getD, List.getElem?_eq_getElem hi]
    exact he)
  have hat : ∀ (k : Nat) (l : VV) (i : Int), b.W[k]? = some l → c[k]? = some i → ∃ y, b.cuts[k]? = some y ∧ 0 ≤ i ∧ i < (l.length : Int) ∧ l.getD i.toNat [] = pt v (y, endAt b.cuts b.d k) := fun k l i hl hi => by
    have e2 := List.getElem?_eq_getElem (show k < b.cuts.length by rw [← hR.wl]; exact (List.getElem?_eq_some_iff.1 hl).1)
    exact ⟨_, e2, h2 k i hi l _ hl e2⟩
  have hc : cok b c = true := cok_iff.2 ⟨h1, fun k l i hl hi => by obtain ⟨y, _, h3, h4, _⟩ := hat k l i hl hi; exact ⟨h3, h4⟩⟩
  refine ⟨c, hc, ?_⟩
  unfold dec
  rw [hc, if_pos rfl]
  have e : chosen b c = (sp b.cuts b.d).map (pt v) := by
    refine List.ext_getElem? fun k => ?_
    rcases Nat.lt_or_ge k b.W.length with hk | hk
    · have e1 := List.getElem?_eq_getElem hk
      have e3 := List.getElem?_eq_getElem (show k < c.length by omega)
      obtain ⟨y, hy, _, _, h3⟩ := hat k _ _ e1 e3
      rw [chosen_at e1 e3, h3, List.getElem?_map, sp_at hy]; rfl
    · rw [List.getElem?_eq_none (by rw [chosen_len h1]; exact hk), List.getElem?_eq_none (by rw [List.length_map, sp_len, ← hR.wl]; exact hk)]
  rw [e, pt_flat _ 0 b.d hR.div.ch (by omega) hv]
  rfl
theorem trained_grow {n n' : Nat} (h : n ≤ n') (cuts : List Int) (l : VV) : ∀ (k : Nat) (a a' : VV), (trained n cuts l).W[k]? = some a → (trained n' cuts l).W[k]? = some a' → a <+: a' := by
  intro k a a' ha ha'
  have hk : k < (trained n cuts l).W.length := (List.getElem?_eq_some_iff.1 ha).1
  have hk2 : k < cuts.length := by unfold trained at hk; simpa [sp_len] using hk
  have e := List.getElem?_eq_getElem hk2
  rw [trained_at e] at ha ha'
  injection ha with ha
  injection ha' with ha'
  subst ha
  subst ha'
  obtain ⟨j, rfl⟩ : ∃ j, n' = n + j := ⟨n' - n, by omega⟩
  exact sprN_prefix n j [] _
theorem trained_len (n n' : Nat) (cuts : List Int) (l : VV) : (trained n cuts l).W.length = (trained n' cuts l).W.length := by unfold trained; simp
theorem trained_less {m : Int} (h1 : 1 ≤ m) (h3 : m ≤ 3) {n n' : Nat} {cuts : List Int} {l : VV} (hl : Al l) (hn1 : 1 ≤ n) (hnn : n ≤ n') (hn2 : n' ≤ 256) (hd : divided ((l.headD []).length : Int) cuts = true) : worst m (trained n' cuts l) l ≤ worst m (trained n cuts l) l := by
  have hR := trained_rt (n := n) hl hn1 (by omega) hd
  have hR' := trained_rt (n := n') hl (by omega) hn2 hd
  refine worst_mono l 0 0 (by omega) fun v hv => ?_
  have hvd : (v.length : Int) = (trained n' cuts l).d := by show _ = ((l.headD []).length : Int); rw [hl.len v hv]
  have hg := dec_grow (trained_len n n' cuts l) (trained_grow hnn cuts l) (enc_cok (m := m) hR v)
  have := res_le h1 h3 hR' hvd hg.1
  rw [hg.2] at this
  exact this
theorem trained_all {m : Int} (h1 : 1 ≤ m) (h3 : m ≤ 3) {n : Nat} {cuts : List Int} {l : VV} (hl : Al l) (hn1 : l.length ≤ n) (hn2 : n ≤ 256) (hd : divided ((l.headD []).length : Int) cuts = true) : worst m (trained n cuts l) l = 0 := by
  have hp := hl.pos
  have hR := trained_rt (n := n) hl (by omega) hn2 hd
  refine worst_zero l fun v hv => ?_
  have hvd : (v.length : Int) = (trained n cuts l).d := by show _ = ((l.headD []).length : Int); rw [hl.len v hv]
  obtain ⟨c, hc, he⟩ := code_of hR hvd (fun k a y ha hy => by
    replace hy : cuts[k]? = some y := hy
    rw [trained_at hy] at ha
    injection ha with ha
    subst ha
    have hat := hR.div.at (show (trained n cuts l).cuts[k]? = some y from hy)
    refine spread_all (d := (endAt cuts ((l.headD []).length : Int) k - y).toNat) (by simpa using hp) (by simpa using hn1) (fun u hu => ?_) (List.mem_map.2 ⟨v, hv, rfl⟩)
    obtain ⟨w, hw, rfl⟩ := List.mem_map.1 hu
    have hle : endAt cuts ((l.headD []).length : Int) k ≤ (w.length : Int) := by rw [hl.len w hw]; exact hat.2.2
    have := pt_len (v := w) (p := (y, endAt cuts ((l.headD []).length : Int) k)) hat.1 (Int.le_of_lt hat.2.1) hle
    dsimp only at this
    omega)
  rw [← he]
  exact res_zero h1 h3 hR hc
theorem al_of {L : VV} {c : Int} (h : allv L c = true) : Al L := by
  simp only [allv, Bool.and_eq_true, List.all_eq_true, decide_eq_true_eq] at h
  obtain ⟨h1, h2, _⟩ := h
  refine ⟨h2, fun v hv => ?_, fun v hv => ?_⟩
  · have := h1 v hv
    simp only [alike, Bool.and_eq_true, decide_eq_true_eq] at this
    exact valid_iff.1 this.2
  · have := h1 v hv
    simp only [alike, Bool.and_eq_true, decide_eq_true_eq] at this
    exact this.1.1.symm
end Go.Proofs.Ytiodjepjbooniaa.cq
