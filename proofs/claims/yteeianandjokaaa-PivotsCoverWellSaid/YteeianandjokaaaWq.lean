/- Pivots, plainly: one pivot more. No program here. -/
import Derived.Test.YteeianandjokaaaWy

namespace Go.Proofs.Yteeianandjokaaa.pq

open Go.Proofs.Yteeianandjokaaa.vq Go.Proofs.Yteeianandjokaaa.cq Go.Proofs.Yteeianandjokaaa.pk

set_option linter.unusedVariables false
structure More (m : Int) (d : Nat) (P L : VV) (v x : List Int) : Prop where
  m1 : 1 ≤ m
  m3 : m ≤ 3
  p : Fit 8 d P
  l : Fit 4096 d L
  q : Fit 8 d (P ++ [x])
  v1 : Fit 4096 d [v]
  v : v.length = d ∧ Vec v
  x : x.length = d ∧ Vec x
theorem fitS {d k : Nat} {v : List Int} (hv : v.length = d ∧ Vec v) (hk : 1 ≤ k) : Fit k d [v] :=
  ⟨by simp, by simpa using hk, by have := hv.2.pos; omega, by have := hv.2.le; omega, fun u hu => by rw [List.mem_singleton.1 hu]; exact hv⟩
theorem fitQ {d k j : Nat} {P : VV} {x : List Int} (h : Fit k d P) (hx : x.length = d ∧ Vec x) (hk : P.length + 1 ≤ j) : Fit j d (P ++ [x]) :=
  ⟨by simp, by simpa using hk, h.d1, h.d2, fun u hu => by
    rcases List.mem_append.1 hu with h1 | h1
    · exact h.ok u h1
    · rw [List.mem_singleton.1 h1]; exact hx⟩
theorem fit_of' {d k : Nat} {P : VV} (h : Fit k d P) : fit k P = true := fit_iff.2 ⟨h.n1, h.n2, fun u hu => ⟨by have := h.ok u hu; have := h.head; omega, (h.ok u hu).2⟩⟩
theorem haveK_of {m : Int} {d : Nat} {P L : VV} (h1 : 1 ≤ m) (h3 : m ≤ 3) (hP : Fit 8 d P) (hL : Fit 4096 d L) : haveK m P L = true :=
  haveK_iff.2 ⟨decide_eq_true ⟨h1, h3⟩, fit_of' hP, fit_of' hL, alike_iff.2 ⟨by rw [hP.head.1, hL.head.1], hP.head.2, hL.head.2⟩⟩
theorem more_of {m : Int} {P L : VV} {v x : List Int} (h : haveK m P L = true) (h7 : P.length < 8) (hv : alike (P.headD []) v = true) (hx : alike (P.headD []) x = true) : More m (P.headD []).length P L v x := by
  have hh := have_of h
  have hv' := alike_iff.1 hv
  have hx' := alike_iff.1 hx
  exact ⟨hh.m1, hh.m3, hh.p, hh.l, fitQ hh.p ⟨hx'.1.symm, hx'.2.2⟩ (by omega), fitS ⟨hv'.1.symm, hv'.2.2⟩ (by omega), ⟨hv'.1.symm, hv'.2.2⟩, ⟨hx'.1.symm, hx'.2.2⟩⟩
theorem More.hq {m : Int} {d : Nat} {P L : VV} {v x : List Int} (h : More m d P L v x) : haveK m (P ++ [x]) L = true := haveK_of h.m1 h.m3 h.q h.l
theorem More.hqv {m : Int} {d : Nat} {P L : VV} {v x : List Int} (h : More m d P L v x) : haveK m (P ++ [x]) [v] = true := haveK_of h.m1 h.m3 h.q h.v1
theorem More.hpv {m : Int} {d : Nat} {P L : VV} {v x : List Int} (h : More m d P L v x) : haveK m P [v] = true := haveK_of h.m1 h.m3 h.p h.v1
theorem keys_more (m : Int) (P : VV) (x v : List Int) : keys m (P ++ [x]) v = keys m P v ++ [key m x v] := by unfold keys; rw [List.map_append]; rfl
theorem shells_more (m : Int) (P L : VV) (x : List Int) : shells m (P ++ [x]) L = shells m P L ++ [shl m x L] := by unfold shells; rw [List.map_append]; rfl
theorem getD_app {α : Type} {l : List α} {a d : α} {i : Nat} (h : i < l.length) : (l ++ [a]).getD i d = l.getD i d := by
  rw [List.getD_eq_getElem?_getD, List.getD_eq_getElem?_getD, List.getElem?_append_left h]
theorem getD_end {α : Type} {l : List α} {a d : α} : (l ++ [a]).getD l.length d = a := by
  rw [List.getD_eq_getElem?_getD, List.getElem?_append_right (Nat.le_refl _), Nat.sub_self]; rfl
theorem low_more {m : Int} {S : List Sh} {ks : List Int} {s : Sh} {y : Int} (h : S.length = ks.length) : lowS m S ks ≤ lowS m (S ++ [s]) (ks ++ [y]) := by
  rw [lowS_mx, lowS_mx, List.length_append, List.length_singleton, mxk]
  have e : mxk (gapf m (S ++ [s]) (ks ++ [y])) S.length = mxk (gapf m S ks) S.length := mxk_congr _ fun i hi => by
    unfold gapf; rw [getD_app hi, getD_app (by omega)]
  rw [e]
  omega
theorem high_more {m : Int} {S : List Sh} {ks : List Int} {s : Sh} {y : Int} (h : S.length = ks.length) : highS m (S ++ [s]) (ks ++ [y]) ≤ highS m S ks := by
  rw [highS_mn, highS_mn, List.length_append, List.length_singleton, mnk]
  have e : mnk (reaf m (S ++ [s]) (ks ++ [y])) S.length = mnk (reaf m S ks) S.length := mnk_congr _ fun i hi => by
    unfold reaf; rw [getD_app hi, getD_app (by omega)]
  rw [e]
  omega
theorem le_succ (f : Nat → Int) (k : Nat) : le f (k + 1) = if f k < (le f k).2 then (k, f k) else le f k := by
  unfold le
  rw [gr]
  dsimp only
  by_cases hc : f k < 134217728 - (gr (fun i => 134217728 - f i) k).2
  · rw [if_pos hc, if_pos (by omega)]
    dsimp only
    congr 1; omega
  · rw [if_neg hc, if_neg (by omega)]
theorem le_congr {f g : Nat → Int} {k : Nat} (h : ∀ i, i < k → f i = g i) : le f k = le g k := by
  unfold le
  rw [gr_congr k (f := fun i => 134217728 - f i) (g := fun i => 134217728 - g i) (fun i hi => by rw [h i hi])]
theorem nearest_more (m : Int) (P : VV) (x v : List Int) : nearest m (P ++ [x]) v = if key m x v < (nearest m P v).2 then (P.length, key m x v) else nearest m P v := by
  unfold nearest
  rw [List.length_append, List.length_singleton, le_succ]
  have e : le (kf m (P ++ [x]) v) P.length = le (kf m P v) P.length := le_congr fun i hi => by unfold kf; rw [getD_app hi]
  have e2 : kf m (P ++ [x]) v P.length = key m x v := by unfold kf; rw [getD_end]
  rw [e, e2]
theorem nk_more (m : Int) (P : VV) (x v : List Int) : nk m (P ++ [x]) v ≤ nk m P v := by
  unfold nk
  rw [nearest_more]
  split
  · dsimp only; omega
  · exact Int.le_refl _
theorem cover_more (m : Int) (P L : VV) (x : List Int) : cover m (P ++ [x]) L ≤ cover m P L := by
  rw [cover_mx, cover_mx]
  refine mxk_le (mxk_nonneg _ _) _ fun i hi => ?_
  have h1 : cf m (P ++ [x]) L i ≤ cf m P L i := nk_more m P x _
  have h2 := mxk_ge (f := cf m P L) L.length i hi
  omega
theorem near_more (m : Int) (P : VV) (x v : List Int) : (nearest m (P ++ [x]) v).2 ≤ (nearest m P v).2 ∧ ((nearest m (P ++ [x]) v).1 = (nearest m P v).1 ∧ (nearest m (P ++ [x]) v).2 = (nearest m P v).2 ∨ (nearest m (P ++ [x]) v).1 = P.length ∧ (nearest m (P ++ [x]) v).2 < (nearest m P v).2) := by
  rw [nearest_more]
  split
  · dsimp only
    exact ⟨by omega, .inr ⟨rfl, by omega⟩⟩
  · exact ⟨Int.le_refl _, .inl ⟨rfl, rfl⟩⟩
theorem low_high {m : Int} {d most : Nat} {P L : VV} (h1 : 1 ≤ m) (h3 : m ≤ 3) (hP : Fit 8 d P) (h : Fit most d L) {q : List Int} (hq : q.length = d ∧ Vec q) : lowS m (shells m P L) (keys m P q) ≤ highS m (shells m P L) (keys m P q) := by
  have hx : L.headD [] ∈ L := by
    have := h.n1
    cases L with
    | nil => simp at this
    | cons x l => exact List.mem_cons_self ..
  have := low_holds h1 h3 hP h hq hx
  omega
end Go.Proofs.Yteeianandjokaaa.pq
