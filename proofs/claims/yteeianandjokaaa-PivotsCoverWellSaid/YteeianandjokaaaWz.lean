/- The laws of pivot: keys, rows that are copied. -/
import Derived.Test.YteeianandjokaaaG13

import Derived.Test.YteeianandjokaaaWy

import Derived.BigQuiet

namespace Go.Proofs.Yteeianandjokaaa.pk

open Go.ChangeShapes Go.WideShapes Go.ChangeAt Go.RowKit

open Go.Proofs.Yteeianandjokaaa.pq Go.Proofs.Yteeianandjokaaa.cq Go.Proofs.Yteeianandjokaaa.vk Go.Proofs.Yteeianandjokaaa.bk Go.Proofs.Yteeianandjokaaa.wk Go.Proofs.Yteeianandjokaaa.uk

set_option linter.unusedVariables false
/-- the part of a pair of loops -/
def anyL (m : Int) (P L : VV) (j : Nat) (x : Int) (i : Nat) : Bool := ((table m P L).take i).any fun r => r.getD j 0 == x
theorem anyL_zero (m : Int) (P L : VV) (j : Nat) (x : Int) : anyL m P L j x 0 = false := rfl
theorem anyL_succ {m : Int} {P L : VV} {j : Nat} {x y : Int} {i : Nat} {row : List Int} (h : (table m P L)[i]? = some row) (hy : row[j]? = some y) : anyL m P L j x (i + 1) = (anyL m P L j x i || (y == x)) := by
  unfold anyL
  rw [List.take_add_one, h, List.any_append, Option.toList_some, List.any_cons, List.any_nil, Bool.or_false, getD_some hy]
theorem anyL_all {m : Int} {P L : VV} {j : Nat} {x : Int} {i n : Nat} {row : List Int} (hn : L.length = n) (h : (table m P L)[i]? = some row) (hy : row[j]? = some x) : anyL m P L j x n = true := by
  unfold anyL
  rw [List.take_of_length_le (by rw [table_len]; omega), List.any_eq_true]
  exact ⟨row, List.mem_of_getElem? h, by rw [getD_some hy]; simp⟩
theorem keyF {m : Int} {A A' : Option Addr} {n c n' c' d : Nat} {p v : List Int} (w : World) (h1 : 1 ≤ m) (h3 : m ≤ 3) (h : wo.IsI w A n c p) (h' : wo.IsI w A' n' c' v) (hp : p.length = d ∧ vq.Vec p) (hv : v.length = d ∧ vq.Vec v) :
    Calls Try.prog 36 #[.int .i64 m, .slice A n c, .slice A' n' c'] w fun e w' => e = .returned (.int .i64 (vq.key m p v)) ∧ Below w.heap.size w w' := by
  have hn : n = n' := by have := h.1; have := h'.1; omega
  subst hn
  exact key_calls m A A' n c c' p v w (by omega) (by omega) h h' (vq.sub_bound hp.2 hv.2) (by have := hp.2.le; have := h.1; omega)
theorem few_len {q : Nat} {L : VV} (h : few q L = true) : L.length ≤ q := by
  simp only [few, Bool.and_eq_true, decide_eq_true_eq] at h
  omega
structure Bw (w0 w : World) : Prop where
  is : Below w0.heap.size w0 w
theorem Bw.below {w0 w w' : World} (h : Bw w0 w) (hb : Below w.heap.size w w') : Bw w0 w' := ⟨Below.andThen h.is hb⟩
theorem infoSl9 : (Try.prog.info? 23).map (fun i => (i.zero, i.size, i.bytes)) = some (some (.slice none 0 0), 1, 24) := by kernel_rfl
theorem sv_of {w : World} {A : Option Addr} {n c : Nat} {L : VV} (h : IsVV w A n c L) (hn : 1 ≤ n) : ∃ b o, A = some ⟨b, o, none⟩ ∧ ∃ vs : List Value, vs.length = n ∧ SV w L vs ∧ (∀ u ∈ vs, u.oneCell' = true) ∧ ∀ w', Below w.heap.size w w' → ∀ j u, vs[j]? = some u → w'.cell? ((⟨b, o, none⟩ : Addr).add j) = some u := by
  obtain ⟨b, o, A0, n0, c0, l0, rfl, hb, _, _, _⟩ := isVV_get h (k := 0) (by omega)
  have hall : ∀ i, i < n → ∃ u : Value, (w.cell? ⟨b, o + i, none⟩ = some u) ∧ ∃ A' n' c' l, u = .slice A' n' c' ∧ L[i]? = some l ∧ wo.IsI w A' n' c' l := fun i hi => by
    obtain ⟨b', o', A', n', c', l, e, hb, hc, hI, hL⟩ := isVV_get h hi
    cases e
    exact ⟨_, hc, A', n', c', l, rfl, hL, hI⟩
  obtain ⟨vs, hvl, hvs⟩ := wo.exists_list n hall
  refine ⟨b, o, rfl, vs, hvl, fun j p hj => ?_, fun u hu => ?_, fun w' hw j u hu => ?_⟩
  · have hj2 := (List.getElem?_eq_some_iff.1 hj).1
    obtain ⟨u, hu⟩ := at_of_lt (l := vs) (k := j) (by have := h.1; omega)
    obtain ⟨_, A', n', c', l, rfl, hl, hI⟩ := hvs j u hu
    rw [hj] at hl
    injection hl with hl
    subst hl
    exact ⟨A', n', c', hu, hI⟩
  · obtain ⟨j, hj⟩ := List.getElem?_of_mem hu
    obtain ⟨_, A', n', c', l, rfl, _⟩ := hvs j u hj
    rfl
  · obtain ⟨hc, _⟩ := hvs j u hu
    rw [wk.add_at]
    exact (hw.cell (p := ⟨b, o + j, none⟩) hb).trans hc
end Go.Proofs.Yteeianandjokaaa.pk
