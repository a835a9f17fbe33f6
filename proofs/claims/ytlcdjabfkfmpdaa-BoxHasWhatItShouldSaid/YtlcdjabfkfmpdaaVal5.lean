/- A region whose values are known and that turns the world at several places, in a round. No program here. -/
import Derived.Test.YtlcdjabfkfmpdaaRf

namespace Go.Proofs.Ytlcdjabfkfmpdaa.wk

open Go.RowKit

set_option linter.unusedVariables false

section

variable {P : Program} {ops : Array Oper} {Q : Exit → Act → World → Prop}
theorem does_skip_t {o : Oper} {E : Operand → Value} {w w' : World} {R : World → Value → Prop} (hrun : (execOp E o).run P w = .ok .skip w') (hR : R w' undef) : DoesT P Q o E w R := fun a K hE hK => by
  unfold Oper.wp
  rw [hE, hrun, Oper.upon_skip]
  exact hK _ _ hR
theorem region_many_in {id n : Nat} {a0 : Act} {w0 : World} (l : Nat) (hnd : noDefer ops = true) (hq : ¬ LetsOut Q) (k : Nat) (vs : List Value) (ds : List (Option Tmp)) (S : (Nat → Bool) → World → Prop) (h0 : S (fun _ => false) w0.drew) (hk : k = vs.length) (hm : P.follows .mixedOrders = true) (hord : orderedB .any ops = true) (hap : apart ops a0.tmps.size = true) (hg : guarded ops (vs.map SP.is) k = true) (hds : (List.range k).map (dstOf ops) = ds) (htl : tailed ops k = true)
    (hstep : ∀ i o, ops[i]? = some o → i < k → ∀ E L w, S L w → L i = false → (∀ e ∈ o.after, Region.binds .any e = true → L e.on = true) → Due ops (vs.map SP.is) a0 o E w → DoesT P Q o E w (fun w' v => v = vs.getD i undef ∧ S (fun j => if j = i then true else L j) w'))
    (hdone : ∀ L w, (∀ j, j < k → L j = true) → S L w → wpList P ops Q (ops.toList.drop k) { a0 with tmps := setL ds (fun i => vs.getD i undef) 0 a0.tmps } w) : (Code.region id ops true).wpIn (Fence.wide.inRound l) n P Q a0 w0 := by
  unfold tailed at htl
  simp only [Bool.and_eq_true, decide_eq_true_eq] at htl
  obtain ⟨⟨hkn, hcov⟩, hch⟩ := htl
  have hchain : ∀ i, k ≤ i → i + 1 < ops.size → waitsFor ops (i + 1) i = true := fun i h1 h2 => by
    have := List.all_eq_true.1 hch i (List.mem_range.2 (by omega))
    simp only [Bool.or_eq_true, decide_eq_true_eq] at this
    rcases this with (h | h) | h
    · omega
    · omega
    · exact h
  have hcover : ∀ j, j < k → k < ops.size → ∃ i, j < i ∧ i ≤ k ∧ waitsFor ops i j = true := fun j h1 h2 => by
    have := List.all_eq_true.1 hcov j (List.mem_range.2 h1)
    simp only [Bool.or_eq_true, beq_iff_eq] at this
    rcases this with h | h
    · omega
    · obtain ⟨i, hi, h⟩ := List.any_eq_true.1 h
      simp only [Bool.and_eq_true, decide_eq_true_eq] at h
      exact ⟨i, h.1, by have := List.mem_range.1 hi; omega, h.2⟩
  have hfin : ∀ L a w, UInv ops vs a0 L a → S L w → (∀ j, j < k → L j = true) → (∀ j, k ≤ j → L j = false) → wpList P ops Q (ops.toList.drop k) a w := fun L a w hI hw hall hno => by
    have ha : a = { a0 with tmps := setAll ops (fun i => vs.getD i undef) k a0.tmps } := by
      obtain ⟨tm, df⟩ := a
      have h1 : df = a0.defers := hI.defers
      have h2 : tm = setAll ops (fun i => vs.getD i undef) k a0.tmps := by
        refine Array.ext_getElem? fun s => ?_
        have hset := setAll_get (fun i => vs.getD i undef) hap s k a0.tmps hkn rfl
        by_cases hk : ∃ i, i < k ∧ dstOf ops i = some s
        · obtain ⟨i, hik, hi⟩ := hk
          rw [hset.2 i hik hi]
          exact hI.vals i (hall i hik) s hi
        · rw [hset.1 fun i hi h => hk ⟨i, hi, h⟩]
          refine hI.rest s fun i hi h => ?_
          rcases Nat.lt_or_ge i k with hl | hl
          · exact hk ⟨i, hl, h⟩
          · rw [hno i hl] at hi; cases hi
      rw [h1, h2]
    rw [ha, setAll_eq, hds]
    exact hdone L w hall hw
  refine region_invB_in l hnd hq (fun a0' B L a w => (UInv ops vs a0 L a ∧ S L w ∧ (∀ i, k ≤ i → L i = false) ∧ Closed ops L) ∨ ∃ m, k ≤ m ∧ m ≤ ops.size ∧ (∀ i, L i = decide (i < m)) ∧ wpList P ops Q (ops.toList.drop m) a w) hm hord
    (Or.inl ⟨⟨rfl, rfl, fun i h => (Bool.noConfusion h), fun k _ => rfl⟩, h0, fun _ _ => rfl, fun i o _ h => (Bool.noConfusion h)⟩) ?_ ?_
  · intro L a w hI i o ho hLi hdep
    have hio : i < ops.size := (Array.getElem?_eq_some_iff.1 ho).1
    rcases hI with ⟨hI, hSw, hno, hcl⟩ | ⟨m, hm1, hm2, hL, hwp⟩
    · by_cases hik : i < k
      · have hdo : ∀ E, Due ops (vs.map SP.is) a0 o E w → DoesT P Q o E w fun w' v => v = vs.getD i undef ∧ S (fun j => if j = i then true else L j) w' := fun E hE => hstep i o ho hik E L w hSw hLi hdep hE
        refine wpOp_mono (fun a' w' h => Or.inl ?_) (uinv_stepB vs hk hord hap hg hik hI ho hdep hdo)
        refine ⟨h.1, h.2, fun j hj => ?_, fun j o' ho' hj e he hb => ?_⟩
        · have hji : j ≠ i := by omega
          simp only [hji, if_false]
          exact hno j hj
        · by_cases hji : j = i
          · subst hji
            rw [ho] at ho'; cases ho'
            by_cases h2 : e.on = j
            · simp [h2]
            · simp only [h2, if_false]; exact hdep e he hb
          · simp only [hji, if_false] at hj
            by_cases h2 : e.on = i
            · simp [h2]
            · simp only [h2, if_false]; exact hcl j o' ho' hj e he hb
      · have hik' : i = k := by
          rcases Nat.lt_or_ge k i with h | h
          · have := waits_done (L := L) (hchain (i - 1) (by omega) (by omega)) (by rw [show i - 1 + 1 = i by omega]; exact ho) hdep
            rw [hno (i - 1) (by omega)] at this; cases this
          · omega
        subst hik'
        have hall : ∀ d j, i - j ≤ d → j < i → L j = true := by
          intro d
          induction d with
          | zero => intro j h1 h2; omega
          | succ d ih =>
            intro j h1 h2
            obtain ⟨q, hq1, hq2, hq3⟩ := hcover j h2 hio
            by_cases hqi : q = i
            · subst hqi; exact waits_done hq3 ho hdep
            · have hq : L q = true := ih q (by omega) (by omega)
              have hqo : ops[q]? = some ops[q] := Array.getElem?_eq_getElem (by omega)
              exact waits_done hq3 hqo (hcl q _ hqo hq)
        refine wpOp_mono (fun a' w' h => Or.inr ⟨i + 1, by omega, by omega, fun j => ?_, h⟩) (wpList_to_op ho (hfin L a w hI hSw (fun j hj => hall _ j (Nat.le_refl _) hj) hno))
        by_cases hji : j = i
        · subst hji; simp
        · simp only [hji, if_false]
          rcases Nat.lt_or_ge j i with h1 | h1
          · rw [hall _ j (Nat.le_refl _) h1]; simp; omega
          · rw [hno j h1]; simp; omega
    · have him : i = m := by
        have h1 : ¬ i < m := fun h => by rw [hL i] at hLi; simp [h] at hLi
        rcases Nat.lt_or_ge m i with h | h
        · have := waits_done (L := L) (hchain (i - 1) (by omega) (by omega)) (by rw [show i - 1 + 1 = i by omega]; exact ho) hdep
          rw [hL (i - 1)] at this
          simp at this; omega
        · omega
      subst him
      refine wpOp_mono (fun a' w' h => Or.inr ⟨i + 1, by omega, by omega, fun j => ?_, h⟩) (wpList_to_op ho hwp)
      by_cases hji : j = i
      · subst hji; simp
      · simp only [hji, if_false]
        rw [hL j]
        rcases Nat.lt_or_ge j i with h1 | h1
        · simp [h1]; omega
        · simp; omega
  · intro L a w hall hI
    rcases hI with ⟨hI, hSw, hno, hcl⟩ | ⟨m, hm1, hm2, hL, hwp⟩
    · have hk : k = ops.size := by
        rcases Nat.lt_or_ge k ops.size with h | h
        · have := hall k h; rw [hno k (Nat.le_refl _)] at this; cases this
        · omega
      have := hfin L a w hI hSw (fun j hj => hall j (by omega)) hno
      rw [hk, ← Array.length_toList, List.drop_length] at this
      exact this
    · have hk : m = ops.size := by
        rcases Nat.lt_or_ge m ops.size with h | h
        · have := hall m h; rw [hL m] at this; simp at this
        · omega
      rw [hk, ← Array.length_toList, List.drop_length] at hwp
      exact hwp
end

end Go.Proofs.Ytlcdjabfkfmpdaa.wk
