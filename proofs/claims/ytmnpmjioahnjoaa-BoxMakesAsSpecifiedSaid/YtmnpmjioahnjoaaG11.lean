/- Joined: Val3 Val5 Bl Val4. -/
import Derived.Test.YtmnpmjioahnjoaaG10

import Derived.Deep.RegionWith

import Derived.Lib.SliceRun
/- A region that draws its order, where what is said of the values rests on what has been done, and on the values that the slots hold. No program here. -/
namespace Go.Proofs.Ytmnpmjioahnjoaa.wk

open Go.RowKit

set_option linter.unusedVariables false

section

variable {P : Program} {ops : Array Oper} {Q : Exit → Act → World → Prop} {md : Region.Mode}
theorem linv_step2 {a0 : Act} {k : Nat} (R : (Nat → Bool) → Nat → World → Value → Prop) (hap : apart ops a0.tmps.size = true) (hg : noGuard ops k = true) {L : Nat → Bool} {a : Act} {w : World} {i : Nat} {o : Oper} (hik : i < k) (hI : LInv ops R a0 L a w) (ho : ops[i]? = some o) (hdep : ∀ e ∈ o.after, Region.binds .any e = true → L e.on = true)
    {S : World → Prop} (hstep : ∀ E, DueG ops (R L) a0 o E w → DoesT P Q o E w fun w' v => R (fun j => if j = i then true else L j) i w' v ∧ (∀ j u, L j = true → (∀ d, dstOf ops j = some d → E (.tmp d) = u) → R L j w u → R (fun j => if j = i then true else L j) j w' u) ∧ S w') :
    wpOp P ops Q i (fun a' w' => LInv ops R a0 (fun j => if j = i then true else L j) a' w' ∧ S w') a w := by
  have hio : i < ops.size := (Array.getElem?_eq_some_iff.1 ho).1
  have hdv : ∀ e ∈ o.after, Region.binds .any e = true → ∃ v, R L e.on w v ∧ ∀ d, dstOf ops e.on = some d → a.tmps[d]? = some v := fun e he hb => hI.vals e.on (hdep e he hb)
  have hgn : o.guard = none := by
    have h1 := List.all_eq_true.1 hg i (List.mem_range.2 hik)
    simp only [ho, Option.isNone_iff_eq_none] at h1
    exact h1
  refine wpOp_step ho fun K' hK => ?_
  rw [if_pos (by simp [Region.wanted, hgn])]
  refine hstep a.eval ⟨fun _ => rfl, fun _ => rfl, fun k hk => ?_, fun e he hb => ?_⟩ a K' rfl fun v w' hRT => ?_
  · show a.tmps.getD k undef = a0.tmps.getD k undef
    rw [Array.getD_eq_getD_getElem?, Array.getD_eq_getD_getElem?, hI.rest k fun j hj h => ?_]
    have := List.all_eq_true.1 hk j (List.mem_range.2 (dst_lt h))
    rw [h] at this
    simp at this
  · obtain ⟨v, hv, hd⟩ := hdv e he hb
    exact ⟨v, hv, fun d hdd => getD_of (hd d hdd)⟩
  · obtain ⟨hv, hT, hS⟩ := hRT
    have hdo : dstOf ops i = o.dst := by unfold dstOf; rw [ho]; rfl
    refine hK _ _ ⟨⟨?_, ?_, fun j hj => ?_, fun k hk => ?_⟩, hS⟩
    · cases hd : o.dst <;> exact hI.defers
    · cases hd : o.dst <;> simp only [Act.put, Array.size_setIfInBounds] <;> exact hI.size
    · by_cases hji : j = i
      · subst hji
        refine ⟨v, hv, fun d hd => ?_⟩
        rw [hdo] at hd
        have hlt := apart_lt hap hio (by rw [hdo]; exact hd)
        rw [hd]
        show (a.tmps.setIfInBounds d _)[d]? = some _
        rw [Array.getElem?_setIfInBounds, if_pos rfl, if_pos (by rw [hI.size]; exact hlt)]
      · rw [if_neg hji] at hj
        obtain ⟨u, hu, hud⟩ := hI.vals j hj
        refine ⟨u, hT j u hj (fun d hd => getD_of (hud d hd)) hu, fun d hd => ?_⟩
        cases hod : o.dst with
        | none => exact hud d hd
        | some d' =>
          have hne : d' ≠ d := fun e => hji (apart_ne hap (dst_lt hd) hio hd (by rw [hdo, hod, e]))
          show (a.tmps.setIfInBounds d' _)[d]? = _
          rw [Array.getElem?_setIfInBounds, if_neg hne]
          exact hud d hd
    · have hk' : ∀ j, L j = true → dstOf ops j ≠ some k := fun j hj => hk j (by by_cases h : j = i <;> simp [h, hj])
      have hki : o.dst ≠ some k := by rw [← hdo]; exact hk i (by simp)
      cases hod : o.dst with
      | none => exact hI.rest k hk'
      | some d' =>
        have hne : d' ≠ k := fun e => hki (by rw [hod, e])
        show (a.tmps.setIfInBounds d' _)[k]? = _
        rw [Array.getElem?_setIfInBounds, if_neg hne]
        exact hI.rest k hk'
/-- .. where what is said of the values rests on what has been done -/
theorem region_lev2 {id : Nat} {a0 : Act} {w0 : World} (k : Nat) (R : (Nat → Bool) → Nat → World → Value → Prop) (ds : List (Option Tmp)) (S : (Nat → Bool) → World → Prop) (h0 : S (fun _ => false) w0.drew) (hm : P.follows .mixedOrders = true) (hord : orderedB .any ops = true) (hap : apart ops a0.tmps.size = true) (hg : noGuard ops k = true) (hds : (List.range k).map (dstOf ops) = ds) (htl : tailed ops k = true)
    (hstep : ∀ i o, ops[i]? = some o → i < k → ∀ E L w, S L w → L i = false → (∀ e ∈ o.after, Region.binds .any e = true → L e.on = true) → DueG ops (R L) a0 o E w → DoesT P Q o E w (fun w' v => R (fun j => if j = i then true else L j) i w' v ∧ (∀ j u, L j = true → (∀ d, dstOf ops j = some d → E (.tmp d) = u) → R L j w u → R (fun j => if j = i then true else L j) j w' u) ∧ S (fun j => if j = i then true else L j) w'))
    (hdone : ∀ (vals : Nat → Value) L w, (∀ j, j < k → L j = true) → S L w → (∀ i, i < k → R L i w (vals i)) → wpList P ops Q (ops.toList.drop k) { a0 with tmps := setL ds vals 0 a0.tmps } w) : (Code.region id ops true).wp P Q a0 w0 := by
  unfold tailed at htl
  simp only [Bool.and_eq_true, decide_eq_true_eq] at htl
  obtain ⟨⟨hkn, hcov⟩, hch⟩ := htl
  have hchain : ∀ i, k ≤ i → i + 1 < ops.size → waitsFor ops (i + 1) i = true := fun i h1 h2 => by
    have := List.all_eq_true.1 hch i (List.mem_range.2 (by omega))
    simp only [Bool.or_eq_true, decide_eq_true_eq] at this
    rcases this with (h | h) | h
    · omega
    · omega
    · exact h
  have hcover : ∀ j, j < k → k < ops.size → ∃ i, j < i ∧ i ≤ k ∧ waitsFor ops i j = true := fun j h1 h2 => by
    have := List.all_eq_true.1 hcov j (List.mem_range.2 h1)
    simp only [Bool.or_eq_true, beq_iff_eq] at this
    rcases this with h | h
    · omega
    · obtain ⟨i, hi, h⟩ := List.any_eq_true.1 h
      simp only [Bool.and_eq_true, decide_eq_true_eq] at h
      exact ⟨i, h.1, by have := List.mem_range.1 hi; omega, h.2⟩
  have hfin : ∀ L a w, LInv ops R a0 L a w → S L w → (∀ j, j < k → L j = true) → (∀ j, k ≤ j → L j = false) → wpList P ops Q (ops.toList.drop k) a w := fun L a w hI hw hall hno => by
    have hv : ∀ i, ∃ v, i < k → R L i w v ∧ ∀ d, dstOf ops i = some d → a.tmps[d]? = some v := fun i => by
      by_cases hi : i < k
      · obtain ⟨v, h⟩ := hI.vals i (hall i hi); exact ⟨v, fun _ => h⟩
      · exact ⟨undef, fun h => absurd h hi⟩
    obtain ⟨vals, hvals⟩ := Classical.axiomOfChoice hv
    have ha : a = { a0 with tmps := setAll ops vals k a0.tmps } := by
      obtain ⟨tm, df⟩ := a
      have h1 : df = a0.defers := hI.defers
      have h2 : tm = setAll ops vals k a0.tmps := by
        refine Array.ext_getElem? fun s => ?_
        have hset := setAll_get vals hap s k a0.tmps hkn rfl
        by_cases hk : ∃ i, i < k ∧ dstOf ops i = some s
        · obtain ⟨i, hik, hi⟩ := hk
          rw [hset.2 i hik hi]
          exact (hvals i hik).2 s hi
        · rw [hset.1 fun i hi h => hk ⟨i, hi, h⟩]
          refine hI.rest s fun i hi h => ?_
          rcases Nat.lt_or_ge i k with hl | hl
          · exact hk ⟨i, hl, h⟩
          · rw [hno i hl] at hi; cases hi
      rw [h1, h2]
    rw [ha, setAll_eq, hds]
    exact hdone vals L w hall hw fun i hi => (hvals i hi).1
  refine region_invB (fun a0' B L a w => (LInv ops R a0 L a w ∧ S L w ∧ (∀ i, k ≤ i → L i = false) ∧ Closed ops L) ∨ ∃ m, k ≤ m ∧ m ≤ ops.size ∧ (∀ i, L i = decide (i < m)) ∧ wpList P ops Q (ops.toList.drop m) a w) hm hord
    (Or.inl ⟨⟨rfl, rfl, fun i h => (Bool.noConfusion h), fun k _ => rfl⟩, h0, fun _ _ => rfl, fun i o _ h => (Bool.noConfusion h)⟩) ?_ ?_
  · intro L a w hI i o ho hLi hdep
    have hio : i < ops.size := (Array.getElem?_eq_some_iff.1 ho).1
    rcases hI with ⟨hI, hSw, hno, hcl⟩ | ⟨m, hm1, hm2, hL, hwp⟩
    · by_cases hik : i < k
      · refine wpOp_mono (fun a' w' h => Or.inl ?_) (linv_step2 R hap hg hik hI ho hdep (S := S (fun j => if j = i then true else L j)) fun E hE => hstep i o ho hik E L w hSw hLi hdep hE)
        refine ⟨h.1, h.2, fun j hj => ?_, fun j o' ho' hj e he hb => ?_⟩
        · have hji : j ≠ i := by omega
          simp only [hji, if_false]
          exact hno j hj
        · by_cases hji : j = i
          · subst hji
            rw [ho] at ho'; cases ho'
            by_cases h2 : e.on = j
            · simp [h2]
            · simp only [h2, if_false]; exact hdep e he hb
          · simp only [hji, if_false] at hj
            by_cases h2 : e.on = i
            · simp [h2]
            · simp only [h2, if_false]; exact hcl j o' ho' hj e he hb
      · have hik' : i = k := by
          rcases Nat.lt_or_ge k i with h | h
          · have := waits_done (L := L) (hchain (i - 1) (by omega) (by omega)) (by rw [show i - 1 + 1 = i by omega]; exact ho) hdep
            rw [hno (i - 1) (by omega)] at this; cases this
          · omega
        subst hik'
        have hall : ∀ d j, i - j ≤ d → j < i → L j = true := by
          intro d
          induction d with
          | zero => intro j h1 h2; omega
          | succ d ih =>
            intro j h1 h2
            obtain ⟨q, hq1, hq2, hq3⟩ := hcover j h2 hio
            by_cases hqi : q = i
            · subst hqi; exact waits_done hq3 ho hdep
            · have hq : L q = true := ih q (by omega) (by omega)
              have hqo : ops[q]? = some ops[q] := Array.getElem?_eq_getElem (by omega)
              exact waits_done hq3 hqo (hcl q _ hqo hq)
        refine wpOp_mono (fun a' w' h => Or.inr ⟨i + 1, by omega, by omega, fun j => ?_, h⟩) (wpList_to_op ho (hfin L a w hI hSw (fun j hj => hall _ j (Nat.le_refl _) hj) hno))
        by_cases hji : j = i
        · subst hji; simp
        · simp only [hji, if_false]
          rcases Nat.lt_or_ge j i with h1 | h1
          · rw [hall _ j (Nat.le_refl _) h1]; simp; omega
          · rw [hno j h1]; simp; omega
    · have him : i = m := by
        have h1 : ¬ i < m := fun h => by rw [hL i] at hLi; simp [h] at hLi
        rcases Nat.lt_or_ge m i with h | h
        · have := waits_done (L := L) (hchain (i - 1) (by omega) (by omega)) (by rw [show i - 1 + 1 = i by omega]; exact ho) hdep
          rw [hL (i - 1)] at this
          simp at this; omega
        · omega
      subst him
      refine wpOp_mono (fun a' w' h => Or.inr ⟨i + 1, by omega, by omega, fun j => ?_, h⟩) (wpList_to_op ho hwp)
      by_cases hji : j = i
      · subst hji; simp
      · simp only [hji, if_false]
        rw [hL j]
        rcases Nat.lt_or_ge j i with h1 | h1
        · simp [h1]; omega
        · simp; omega
  · intro L a w hall hI
    rcases hI with ⟨hI, hSw, hno, hcl⟩ | ⟨m, hm1, hm2, hL, hwp⟩
    · have hk : k = ops.size := by
        rcases Nat.lt_or_ge k ops.size with h | h
        · have := hall k h; rw [hno k (Nat.le_refl _)] at this; cases this
        · omega
      have := hfin L a w hI hSw (fun j hj => hall j (by omega)) hno
      rw [hk, ← Array.length_toList, List.drop_length] at this
      exact this
    · have hk : m = ops.size := by
        rcases Nat.lt_or_ge m ops.size with h | h
        · have := hall m h; rw [hL m] at this; simp at this
        · omega
      rw [hk, ← Array.length_toList, List.drop_length] at hwp
      exact hwp
end

end Go.Proofs.Ytmnpmjioahnjoaa.wk
/- A region whose values are known and that turns the world at several places, in a round. No program here. -/
namespace Go.Proofs.Ytmnpmjioahnjoaa.wk

open Go.RowKit

set_option linter.unusedVariables false

section

variable {P : Program} {ops : Array Oper} {Q : Exit → Act → World → Prop}
theorem does_skip_t {o : Oper} {E : Operand → Value} {w w' : World} {R : World → Value → Prop} (hrun : (execOp E o).run P w = .ok .skip w') (hR : R w' undef) : DoesT P Q o E w R := fun a K hE hK => by
  unfold Oper.wp
  rw [hE, hrun, Oper.upon_skip]
  exact hK _ _ hR
theorem region_many_in {id n : Nat} {a0 : Act} {w0 : World} (l : Nat) (hnd : noDefer ops = true) (hq : ¬ LetsOut Q) (k : Nat) (vs : List Value) (ds : List (Option Tmp)) (S : (Nat → Bool) → World → Prop) (h0 : S (fun _ => false) w0.drew) (hk : k = vs.length) (hm : P.follows .mixedOrders = true) (hord : orderedB .any ops = true) (hap : apart ops a0.tmps.size = true) (hg : guarded ops (vs.map SP.is) k = true) (hds : (List.range k).map (dstOf ops) = ds) (htl : tailed ops k = true)
    (hstep : ∀ i o, ops[i]? = some o → i < k → ∀ E L w, S L w → L i = false → (∀ e ∈ o.after, Region.binds .any e = true → L e.on = true) → Due ops (vs.map SP.is) a0 o E w → DoesT P Q o E w (fun w' v => v = vs.getD i undef ∧ S (fun j => if j = i then true else L j) w'))
    (hdone : ∀ L w, (∀ j, j < k → L j = true) → S L w → wpList P ops Q (ops.toList.drop k) { a0 with tmps := setL ds (fun i => vs.getD i undef) 0 a0.tmps } w) : (Code.region id ops true).wpIn (Fence.wide.inRound l) n P Q a0 w0 := by
  unfold tailed at htl
  simp only [Bool.and_eq_true, decide_eq_true_eq] at htl
  obtain ⟨⟨hkn, hcov⟩, hch⟩ := htl
  have hchain : ∀ i, k ≤ i → i + 1 < ops.size → waitsFor ops (i + 1) i = true := fun i h1 h2 => by
    have := List.all_eq_true.1 hch i (List.mem_range.2 (by omega))
    simp only [Bool.or_eq_true, decide_eq_true_eq] at this
    rcases this with (h | h) | h
    · omega
    · omega
    · exact h
  have hcover : ∀ j, j < k → k < ops.size → ∃ i, j < i ∧ i ≤ k ∧ waitsFor ops i j = true := fun j h1 h2 => by
    have := List.all_eq_true.1 hcov j (List.mem_range.2 h1)
    simp only [Bool.or_eq_true, beq_iff_eq] at this
    rcases this with h | h
    · omega
    · obtain ⟨i, hi, h⟩ := List.any_eq_true.1 h
      simp only [Bool.and_eq_true, decide_eq_true_eq] at h
      exact ⟨i, h.1, by have := List.mem_range.1 hi; omega, h.2⟩
  have hfin : ∀ L a w, UInv ops vs a0 L a → S L w → (∀ j, j < k → L j = true) → (∀ j, k ≤ j → L j = false) → wpList P ops Q (ops.toList.drop k) a w := fun L a w hI hw hall hno => by
    have ha : a = { a0 with tmps := setAll ops (fun i => vs.getD i undef) k a0.tmps } := by
      obtain ⟨tm, df⟩ := a
      have h1 : df = a0.defers := hI.defers
      have h2 : tm = setAll ops (fun i => vs.getD i undef) k a0.tmps := by
        refine Array.ext_getElem? fun s => ?_
        have hset := setAll_get (fun i => vs.getD i undef) hap s k a0.tmps hkn rfl
        by_cases hk : ∃ i, i < k ∧ dstOf ops i = some s
        · obtain ⟨i, hik, hi⟩ := hk
          rw [hset.2 i hik hi]
          exact hI.vals i (hall i hik) s hi
        · rw [hset.1 fun i hi h => hk ⟨i, hi, h⟩]
          refine hI.rest s fun i hi h => ?_
          rcases Nat.lt_or_ge i k with hl | hl
          · exact hk ⟨i, hl, h⟩
          · rw [hno i hl] at hi; cases hi
      rw [h1, h2]
    rw [ha, setAll_eq, hds]
    exact hdone L w hall hw
  refine region_invB_in l hnd hq (fun a0' B L a w => (UInv ops vs a0 L a ∧ S L w ∧ (∀ i, k ≤ i → L i = false) ∧ Closed ops L) ∨ ∃ m, k ≤ m ∧ m ≤ ops.size ∧ (∀ i, L i = decide (i < m)) ∧ wpList P ops Q (ops.toList.drop m) a w) hm hord
    (Or.inl ⟨⟨rfl, rfl, fun i h => (Bool.noConfusion h), fun k _ => rfl⟩, h0, fun _ _ => rfl, fun i o _ h => (Bool.noConfusion h)⟩) ?_ ?_
  · intro L a w hI i o ho hLi hdep
    have hio : i < ops.size := (Array.getElem?_eq_some_iff.1 ho).1
    rcases hI with ⟨hI, hSw, hno, hcl⟩ | ⟨m, hm1, hm2, hL, hwp⟩
    · by_cases hik : i < k
      · have hdo : ∀ E, Due ops (vs.map SP.is) a0 o E w → DoesT P Q o E w fun w' v => v = vs.getD i undef ∧ S (fun j => if j = i then true else L j) w' := fun E hE => hstep i o ho hik E L w hSw hLi hdep hE
        refine wpOp_mono (fun a' w' h => Or.inl ?_) (uinv_stepB vs hk hord hap hg hik hI ho hdep hdo)
        refine ⟨h.1, h.2, fun j hj => ?_, fun j o' ho' hj e he hb => ?_⟩
        · have hji : j ≠ i := by omega
          simp only [hji, if_false]
          exact hno j hj
        · by_cases hji : j = i
          · subst hji
            rw [ho] at ho'; cases ho'
            by_cases h2 : e.on = j
            · simp [h2]
            · simp only [h2, if_false]; exact hdep e he hb
          · simp only [hji, if_false] at hj
            by_cases h2 : e.on = i
            · simp [h2]
            · simp only [h2, if_false]; exact hcl j o' ho' hj e he hb
      · have hik' : i = k := by
          rcases Nat.lt_or_ge k i with h | h
          · have := waits_done (L := L) (hchain (i - 1) (by omega) (by omega)) (by rw [show i - 1 + 1 = i by omega]; exact ho) hdep
            rw [hno (i - 1) (by omega)] at this; cases this
          · omega
        subst hik'
        have hall : ∀ d j, i - j ≤ d → j < i → L j = true := by
          intro d
          induction d with
          | zero => intro j h1 h2; omega
          | succ d ih =>
            intro j h1 h2
            obtain ⟨q, hq1, hq2, hq3⟩ := hcover j h2 hio
            by_cases hqi : q = i
            · subst hqi; exact waits_done hq3 ho hdep
            · have hq : L q = true := ih q (by omega) (by omega)
              have hqo : ops[q]? = some ops[q] := Array.getElem?_eq_getElem (by omega)
              exact waits_done hq3 hqo (hcl q _ hqo hq)
        refine wpOp_mono (fun a' w' h => Or.inr ⟨i + 1, by omega, by omega, fun j => ?_, h⟩) (wpList_to_op ho (hfin L a w hI hSw (fun j hj => hall _ j (Nat.le_refl _) hj) hno))
        by_cases hji : j = i
        · subst hji; simp
        · simp only [hji, if_false]
          rcases Nat.lt_or_ge j i with h1 | h1
          · rw [hall _ j (Nat.le_refl _) h1]; simp; omega
          · rw [hno j h1]; simp; omega
    · have him : i = m := by
        have h1 : ¬ i < m := fun h => by rw [hL i] at hLi; simp [h] at hLi
        rcases Nat.lt_or_ge m i with h | h
        · have := waits_done (L := L) (hchain (i - 1) (by omega) (by omega)) (by rw [show i - 1 + 1 = i by omega]; exact ho) hdep
          rw [hL (i - 1)] at this
          simp at this; omega
        · omega
      subst him
      refine wpOp_mono (fun a' w' h => Or.inr ⟨i + 1, by omega, by omega, fun j => ?_, h⟩) (wpList_to_op ho hwp)
      by_cases hji : j = i
      · subst hji; simp
      · simp only [hji, if_false]
        rw [hL j]
        rcases Nat.lt_or_ge j i with h1 | h1
        · simp [h1]; omega
        · simp; omega
  · intro L a w hall hI
    rcases hI with ⟨hI, hSw, hno, hcl⟩ | ⟨m, hm1, hm2, hL, hwp⟩
    · have hk : k = ops.size := by
        rcases Nat.lt_or_ge k ops.size with h | h
        · have := hall k h; rw [hno k (Nat.le_refl _)] at this; cases this
        · omega
      have := hfin L a w hI hSw (fun j hj => hall j (by omega)) hno
      rw [hk, ← Array.length_toList, List.drop_length] at this
      exact this
    · have hk : m = ops.size := by
        rcases Nat.lt_or_ge m ops.size with h | h
        · have := hall m h; rw [hL m] at this; simp at this
        · omega
      rw [hk, ← Array.length_toList, List.drop_length] at hwp
      exact hwp
end

end Go.Proofs.Ytmnpmjioahnjoaa.wk
/- clone, Cut. -/
namespace Go.Proofs.Ytmnpmjioahnjoaa.bk

open Go.ChangeShapes Go.WideShapes Go.ChangeAt Go.RowKit

open Go.Proofs.Ytmnpmjioahnjoaa.bq Go.Proofs.Ytmnpmjioahnjoaa.vk Go.Proofs.Ytmnpmjioahnjoaa.wk

set_option linter.unusedVariables false
def Owns (w : World) (g n c : Nat) (l : List Int) : Prop := w.ownsRow g 3 1 (.slice (some ⟨g, 0, none⟩) n c) n (iv l)
theorem Owns.lt {w : World} {g n c : Nat} {l : List Int} (h : Owns w g n c l) : g < w.heap.size := (World.ownsRow.lt h g rfl).2
theorem Owns.below {w w' : World} {g n c : Nat} {l : List Int} (h : Owns w g n c l) (hb : Below w.heap.size w w') : Owns w' g n c l :=
  World.ownsRow.kept h (grown_of hb) (.inr (by simp [Value.ownBlock]))
theorem Owns.at {w w' : World} {g n c : Nat} {l : List Int} (h : Owns w g n c l) (e : w'.heap[g]? = w.heap[g]?) : Owns w' g n c l := by
  refine ⟨h.1, ?_⟩
  rcases h.2 with ⟨q3, _⟩ | ⟨g', cap', cur, q3, q4, q5, q6⟩
  · cases q3
  · simp only [Value.slice.injEq, Option.some.injEq, Addr.mk.injEq, and_true, true_and] at q3
    obtain ⟨rfl, rfl⟩ := q3
    exact .inr ⟨g, c, cur, rfl, q4, e.trans q5, q6⟩
theorem Owns.set2 {w : World} {g n c k : Nat} {l : List Int} (h : Owns w g n c l) (hk : g ≠ k) (x y : Value) : Owns ((w.setCell ⟨k, 0, none⟩ x).setCell ⟨k, 1, none⟩ y) g n c l := h.at (set2_other w k x y g hk)
set_option maxRecDepth 100000 in
theorem sclone_calls (A : Option Addr) (n c : Nat) (l : List Int) (w : World) (h : wo.IsI w A n c l) (h1 : 1 ≤ n) (hn : n ≤ 1000) :
    Calls Try.prog 55 #[.slice A n c] w fun e w' => ∃ g c', e = .returned (.slice (some ⟨g, 0, none⟩) n c') ∧ Owns w' g n c' l ∧ w.heap.size ≤ g ∧ Below w.heap.size w w' := by
  obtain ⟨i0, hi, hz0, hz1, hz2⟩ := info_parts wi.infoI
  have hl := h.1
  have hm := h.2.2.1
  have hnc := h.2.1
  obtain ⟨b, o, rfl, hb, hcell⟩ := h.2.2.2.1 (by simp; omega)
  have HC : Hid (∀ j u, (iv l)[j]? = some u → (w.alloc (.cells #[] 3)).cell? ((⟨b, o, none⟩ : Addr).add j) = some u) := fun j u hu => by
    rw [wk.add_at, (below_new w (.cells #[] 3)).cell (p := ⟨b, o + j, none⟩) hb]
    exact hcell j u hu
  have HO : Hid ((w.alloc (.cells #[] 3)).ownsRow w.heap.size 3 1 (.slice (some ⟨w.heap.size, 0, none⟩) 0 0) 0 []) := World.ownsRow_lit (base := w.heap.size) w #[] 0 (Nat.le_refl _) (by unfold maxLen; omega) rfl
  have hnil := fun w' => Go.Lib.run_eql_slice_nil (P := Try.prog) w' 23 3 (some ⟨b, o, none⟩) n c 0 0 Try.underlying23
  clear h hcell
  go_enter Try.func55, Try.ntmps55
  go_wp2_with (at_builtin; refine wpList_append_own _ rfl _ _ 23 rfl w.heap.size 3 i0 (.int .i64 0) 1 8 Try.underlying23 hi hz0 hz1 hz2 rfl (by decide) _ _ _ rfl HO.out ⟨b, o, none⟩ n c (iv l) rfl ?c0 HC.out ?c2 ?c3 ?c4 ?c5 ?_)
  case c0 => simp [iv, hl]
  case c2 => intro u hu; simp [iv] at hu; obtain ⟨y, _, rfl⟩ := hu; rfl
  case c3 => unfold maxLen; omega
  case c4 => omega
  case c5 => rw [size_new]; omega
  intro v' w2 hown' hgrow _
  have hB : Below w.heap.size w w2 := (below_new w (.cells #[] 3)).grown hgrow (by rw [size_new]; omega) (fun g hg => (HO.out.lt g hg).1)
  have HB := Lib.hid hB
  obtain ⟨k, rfl⟩ : ∃ k, n = k + 1 := ⟨n - 1, by omega⟩
  obtain ⟨g, cap, rfl⟩ := ownsRow_succ hown'
  have hge := (World.ownsRow.lt hown' g rfl).1
  have HOW : Hid (Owns w2 g (k + 1) cap l) := by
    obtain ⟨q1, q2⟩ := hown'
    refine ⟨q1, ?_⟩
    rcases q2 with ⟨q3, _⟩ | ⟨g', cap', cur, q3, q4, q5⟩
    · cases q3
    · simp only [Value.slice.injEq, Option.some.injEq, Addr.mk.injEq, and_true, true_and] at q3
      obtain ⟨rfl, rfl⟩ := q3
      exact .inr ⟨g, cap, cur, rfl, Nat.le_refl _, q5⟩
  clear hB hown' hgrow
  go_wp2_with fail
  go_ret
  exact ⟨g, cap, rfl, HOW.out, hge, HB.out⟩
set_option maxRecDepth 100000 in
set_option maxHeartbeats 4000000 in
theorem clone_calls (v : Value) (p : Pair) (w : World) (h : IsX w v p) (hlen : p.1.length = p.2.length) (h1 : 1 ≤ p.1.length) (hn : p.1.length ≤ 1000) :
    Calls Try.prog 45 #[v] w fun e w' => ∃ g c g' c', e = .returned (.agg #[.slice (some ⟨g, 0, none⟩) p.1.length c, .slice (some ⟨g', 0, none⟩) p.1.length c']) ∧ Owns w' g p.1.length c p.1 ∧ Owns w' g' p.1.length c' p.2 ∧ w.heap.size ≤ g ∧ g < g' ∧ Below w.heap.size w w' := by
  obtain ⟨A, n, c, A', n', c', rfl, hi, hi'⟩ := h
  have hl := hi.1
  have hl' := hi'.1
  rw [hl]
  obtain rfl : n' = n := by omega
  have hb0 := Below.andThen (below_new w (.cells #[.slice A n' c, .slice A' n' c'] 25)) (below_new _ (.cells #[.slice none 0 0, .slice none 0 0] 25))
  have hb00 := hb0.trans ((Below.refl _ ((w.alloc (.cells #[.slice A n' c, .slice A' n' c'] 25)).alloc (.cells #[.slice none 0 0, .slice none 0 0] 25))).drew.mono hb0.size)
  have hs : ((w.alloc (.cells #[.slice A n' c, .slice A' n' c'] 25)).alloc (.cells #[.slice none 0 0, .slice none 0 0] 25)).drew.heap.size = w.heap.size + 2 := by show (_ : Nat) = _; exact (size_new _ _).trans (by rw [size_new])
  have hT1 := (TwoX.new w (.slice A n' c) (.slice A' n' c')).below (below_new _ (.cells #[.slice none 0 0, .slice none 0 0] 25))
  have hT2 := TwoX.new (w.alloc (.cells #[.slice A n' c, .slice A' n' c'] 25)) (.slice none 0 0) (.slice none 0 0)
  rw [size_new] at hT2
  have HC : Hid (Calls Try.prog 55 #[.slice A n' c] ((w.alloc (.cells #[.slice A n' c, .slice A' n' c'] 25)).alloc (.cells #[.slice none 0 0, .slice none 0 0] 25)).drew fun e w2 => ∃ g c2, e = .returned (.slice (some ⟨g, 0, none⟩) n' c2) ∧ w2.cell? ⟨w.heap.size, 0, none⟩ = some (.slice A n' c) ∧ w2.cell? ⟨w.heap.size, 1, none⟩ = some (.slice A' n' c') ∧
      Hid (Calls Try.prog 55 #[.slice A' n' c'] w2 fun e w3 => ∃ g' c3, e = .returned (.slice (some ⟨g', 0, none⟩) n' c3) ∧ w3.cell? ⟨w.heap.size + 1, 0, none⟩ = some (.slice none 0 0) ∧ w3.cell? ⟨w.heap.size + 1, 1, none⟩ = some (.slice none 0 0) ∧ w3.frozen? ⟨w.heap.size + 1, 0, none⟩ = false ∧ w3.frozen? ⟨w.heap.size + 1, 1, none⟩ = false ∧
        Hid (Owns w3 g n' c2 p.1 ∧ Owns w3 g' n' c3 p.2 ∧ w.heap.size + 2 ≤ g ∧ g < g' ∧ Below w.heap.size w w3 ∧ TwoX w3 (w.heap.size + 1) (.slice none 0 0) (.slice none 0 0)))) := by
    refine (sclone_calls A n' c p.1 _ (isI_below hi hb00) (by omega) (by omega)).mono ?_
    rintro e w2 ⟨g, c2, rfl, hO, hg, hb⟩
    have hT1' : TwoX w2 w.heap.size (.slice A n' c) (.slice A' n' c') := TwoX.below (w := ((w.alloc (.cells #[.slice A n' c, .slice A' n' c'] 25)).alloc (.cells #[.slice none 0 0, .slice none 0 0] 25)).drew) hT1 hb
    have hT2' : TwoX w2 (w.heap.size + 1) (.slice none 0 0) (.slice none 0 0) := TwoX.below (w := ((w.alloc (.cells #[.slice A n' c, .slice A' n' c'] 25)).alloc (.cells #[.slice none 0 0, .slice none 0 0] 25)).drew) hT2 hb
    refine ⟨g, c2, rfl, hT1'.two.c0, hT1'.two.c1, ?_⟩
    refine (sclone_calls A' n' c' p.2 w2 (isI_below hi' (hb00.trans (hb.mono hb00.size))) (by omega) (by omega)).mono ?_
    rintro e w3 ⟨g', c3, rfl, hO', hg', hb'⟩
    have hT3 := hT2'.below hb'
    exact ⟨g', c3, rfl, hT3.two.c0, hT3.two.c1, hT3.f0 0, hT3.f0 1, hO.below hb', hO', by omega, by have := hO.lt; omega, (hb00.trans (hb.mono hb00.size)).trans (hb'.mono (Nat.le_trans hb00.size hb.size)), hT3⟩
  clear hT1 hT2 hs
  have hn2 : 1 ≤ n' := by omega
  clear hi hi' hb0 hb00 hl hl' hlen h1 hn
  go_enter Try.func45, Try.ntmps45
  go_wp2_with fail
  go_region_with (first | (refine HC.out.mono ?_; rintro e w2 ⟨g, c2, rfl, hcA, hcB, hC2⟩) | (refine hC2.out.mono ?_; rintro e w3 ⟨g', c3, rfl, hcC, hcD, hfC, hfD, hO'⟩))
  all_goals
    go_wp2_with fail
    obtain ⟨hO1, hO2, hg1, hg2, hB, hT⟩ := hO'.out
    exact bodyPost_ret (results_cell_row (fn := Try.f45) rfl _ _ (w.heap.size + 1) 25 #[.slice (some ⟨g, 0, none⟩) n' c2, .slice (some ⟨g', 0, none⟩) n' c3] (0, 0) _ rfl (hT.set _ _) Try.underlying25 rfl (by kernel_rfl)) rfl
      ⟨g, c2, g', c3, rfl, hO1.set2 (by omega) _ _, hO2.set2 (by omega) _ _, by omega, hg2, below_set2 hB (by omega) _ _⟩
end Go.Proofs.Ytmnpmjioahnjoaa.bk
/- A region whose operations make new blocks: the blocks of different operations are different. No program here. -/
namespace Go.Proofs.Ytmnpmjioahnjoaa.wk

open Go.RowKit

set_option linter.unusedVariables false

section

variable {P : Program} {ops : Array Oper} {Q : Exit → Act → World → Prop}
/-- what is new of each operation lies in the heap, and apart from what is new of the others -/
def FInv (ops : Array Oper) (blk : Nat → Value → Nat → Prop) (L : Nat → Bool) (a : Act) (w : World) : Prop :=
  ∀ i, L i = true → ∀ d v, dstOf ops i = some d → a.tmps[d]? = some v → (∀ b, blk i v b → b < w.heap.size) ∧ ∀ j, L j = true → j ≠ i → ∀ d' v', dstOf ops j = some d' → a.tmps[d']? = some v' → ∀ b, blk i v b → ¬ blk j v' b
theorem does_old {o : Oper} {E : Operand → Value} {w : World} {R S : World → Value → Prop} (hS : ∀ w' v, S w' v) (h : Does P Q o E w R) : Does P Q o E w fun w' v => R w' v ∧ S w' v := fun a K hE hK => h a K hE fun v w' hb hr => hK v w' hb ⟨hr, hS _ _⟩
theorem vinv_stepF (blk : Nat → Value → Nat → Prop) (hbu : ∀ i b, ¬ blk i undef b) {a0 : Act} {B : World} {k : Nat} (R : List SP) (hap : apart ops a0.tmps.size = true) (hg : guardedS ops R k = true) (hsk : ∀ i, i < k → skips ops R i = true → R.getD i SP.any = .is undef) {L : Nat → Bool} {a : Act} {w : World} {i : Nat} {o : Oper} (hik : i < k) (hI : VInv ops R B a0 L a w) (ho : ops[i]? = some o) (hLi : L i = false) (hdep : ∀ e ∈ o.after, Region.binds .any e = true → L e.on = true) (hF : FInv ops blk L a w)
    (hstep : skips ops R i = false → ∀ E w, Below B.heap.size B w → Due ops R a0 o E w → Does P Q o E w fun w' v => (R.getD i SP.any).has w' v ∧ ∀ b, blk i v b → w.heap.size ≤ b ∧ b < w'.heap.size) :
    wpOp P ops Q i (fun a' w' => VInv ops R B a0 (fun j => if j = i then true else L j) a' w' ∧ FInv ops blk (fun j => if j = i then true else L j) a' w') a w := by
  have hio : i < ops.size := (Array.getElem?_eq_some_iff.1 ho).1
  have hdv : ∀ e ∈ o.after, Region.binds .any e = true → ∃ v, (R.getD e.on SP.any).has w v ∧ ∀ d, dstOf ops e.on = some d → a.tmps[d]? = some v := fun e he hb => hI.vals e.on (hdep e he hb)
  have hfin : ∀ v w', Below w.heap.size w w' → (R.getD i SP.any).has w' v → VInv ops R B a0 (fun j => if j = i then true else L j) (a.put o.dst v) w' := fun v w' hb hR => by
    have hB := hI.below.trans (hb.mono hI.below.size)
    have hdo : dstOf ops i = o.dst := by unfold dstOf; rw [ho]; rfl
    refine ⟨hB, ?_, ?_, fun j hj => ?_, fun k hk => ?_⟩
    · cases hd : o.dst <;> exact hI.defers
    · cases hd : o.dst <;> simp only [Act.put, Array.size_setIfInBounds] <;> exact hI.size
    · by_cases hji : j = i
      · subst hji
        refine ⟨v, hR, fun d hd => ?_⟩
        rw [hdo] at hd
        have hlt := apart_lt hap hio (by rw [hdo]; exact hd)
        rw [hd]
        show (a.tmps.setIfInBounds d v)[d]? = some v
        rw [Array.getElem?_setIfInBounds, if_pos rfl, if_pos (by rw [hI.size]; exact hlt)]
      · rw [if_neg hji] at hj
        obtain ⟨u, hu, hud⟩ := hI.vals j hj
        refine ⟨u, SP.has_below hu hb, fun d hd => ?_⟩
        cases hod : o.dst with
        | none => exact hud d hd
        | some d' =>
          have hne : d' ≠ d := fun e => hji (apart_ne hap (dst_lt hd) hio hd (by rw [hdo, hod, e]))
          show (a.tmps.setIfInBounds d' v)[d]? = some u
          rw [Array.getElem?_setIfInBounds, if_neg hne]
          exact hud d hd
    · have hk' : ∀ j, L j = true → dstOf ops j ≠ some k := fun j hj => hk j (by by_cases h : j = i <;> simp [h, hj])
      have hki : o.dst ≠ some k := by rw [← hdo]; exact hk i (by simp)
      cases hod : o.dst with
      | none => exact hI.rest k hk'
      | some d' =>
        have hne : d' ≠ k := fun e => hki (by rw [hod, e])
        show (a.tmps.setIfInBounds d' v)[k]? = _
        rw [Array.getElem?_setIfInBounds, if_neg hne]
        exact hI.rest k hk'
  have hff : ∀ v w', Below w.heap.size w w' → (∀ b, blk i v b → w.heap.size ≤ b ∧ b < w'.heap.size) → FInv ops blk (fun j => if j = i then true else L j) (a.put o.dst v) w' := fun v w' hb hR => by
    have hdo : dstOf ops i = o.dst := by unfold dstOf; rw [ho]; rfl
    have hold : ∀ x d u, x ≠ i → dstOf ops x = some d → (a.put o.dst v).tmps[d]? = some u → a.tmps[d]? = some u := fun x d u hx hd hu => by
      cases hod : o.dst with
      | none => rw [hod] at hu; exact hu
      | some d' =>
        have hne : d' ≠ d := fun e => hx (apart_ne hap (dst_lt hd) hio hd (by rw [hdo, hod, e]))
        rw [hod] at hu
        have hu' : (a.tmps.setIfInBounds d' v)[d]? = some u := hu
        rw [Array.getElem?_setIfInBounds, if_neg hne] at hu'
        exact hu'
    have hnew : ∀ d u, dstOf ops i = some d → (a.put o.dst v).tmps[d]? = some u → u = v := fun d u hd hu => by
      rw [hdo] at hd
      rw [hd] at hu
      have hu' : (a.tmps.setIfInBounds d v)[d]? = some u := hu
      rw [Array.getElem?_setIfInBounds, if_pos rfl] at hu'
      split at hu'
      · exact (Option.some.inj hu').symm
      · cases hu'
    intro x hx d u hd hu
    by_cases hxi : x = i
    · subst hxi
      obtain rfl := hnew d u hd hu
      refine ⟨fun b hbb => (hR b hbb).2, fun y hy hyx d' u' hd' hu' b hbb hbb' => ?_⟩
      replace hy : L y = true := by simpa [hyx] using hy
      have h1 := (hF y hy d' u' hd' (hold y d' u' hyx hd' hu')).1 b hbb'
      have h2 := (hR b hbb).1
      omega
    · replace hx : L x = true := by simpa [hxi] using hx
      have hu2 := hold x d u hxi hd hu
      have h0 := hF x hx d u hd hu2
      refine ⟨fun b hbb => Nat.lt_of_lt_of_le (h0.1 b hbb) hb.size, fun y hy hyx d' u' hd' hu' b hbb hbb' => ?_⟩
      by_cases hyi : y = i
      · subst hyi
        obtain rfl := hnew d' u' hd' hu'
        have h1 := h0.1 b hbb
        have h2 := (hR b hbb').1
        omega
      · replace hy : L y = true := by simpa [hyi] using hy
        exact h0.2 y hy hyx d' u' hd' (hold y d' u' hyi hd' hu') b hbb hbb'
  by_cases hs : skips ops R i = true
  · have hw : Region.wanted o (yielded ops a.tmps) = false := by
      have h1 := List.all_eq_true.1 hg i (List.mem_range.2 hik)
      unfold skips at hs
      simp only [ho] at h1 hs
      unfold Region.wanted
      cases hgd : o.guard with
      | none => rw [hgd] at hs; cases hs
      | some x =>
        obtain ⟨j, want⟩ := x
        simp only [hgd, Bool.and_eq_true] at h1 hs
        obtain ⟨⟨_, hsm⟩, h2⟩ := h1
        obtain ⟨ix, hix, h3⟩ := Array.any_eq_true.1 h2
        have he : o.after[ix] ∈ o.after := Array.getElem_mem hix
        generalize o.after[ix] = e at *
        simp only [Bool.and_eq_true, beq_iff_eq] at h3
        obtain ⟨h3, h4⟩ := h3
        obtain ⟨v, hv, hd⟩ := hdv e he h4
        rw [h3] at hv hd
        have hvb : v = .bool (!want) := by
          cases hr : R.getD j SP.any with
          | is x =>
            rw [hr] at hs hv
            cases x <;> simp only [SP.bool?, reduceCtorEq, Bool.false_eq_true] at hs
            rename_i bb
            have hbb : bb = !want := by cases bb <;> cases want <;> simp_all
            rw [hbb] at hv
            exact hv
          | st p hp => rw [hr] at hs; simp [SP.bool?] at hs
        obtain ⟨d, hdj⟩ := Option.isSome_iff_exists.1 hsm
        have hy : yielded ops a.tmps j = some (!want) := by
          unfold yielded
          have e1 : (ops[j]?).bind (·.dst) = some d := hdj
          rw [e1]
          simp only [Option.bind_some, hd d hdj, hvb]
        simp only [hy]
        cases want <;> rfl
    refine wpOp_step ho fun K' hK => ?_
    rw [if_neg (by rw [hw]; exact Bool.false_ne_true)]
    exact hK _ _ ⟨hfin undef w (Below.refl _ _) (by rw [hsk i hik hs]; rfl), hff undef w (Below.refl _ _) (fun b hb => (hbu i b hb).elim)⟩
  have hw : Region.wanted o (yielded ops a.tmps) = true := by
    have h1 := List.all_eq_true.1 hg i (List.mem_range.2 hik)
    unfold skips at hs
    simp only [ho] at h1 hs
    unfold Region.wanted
    cases hgd : o.guard with
    | none => rfl
    | some x =>
      obtain ⟨j, want⟩ := x
      simp only [hgd, Bool.and_eq_true] at h1 hs
      obtain ⟨⟨⟨hbs, _⟩, hsm⟩, h2⟩ := h1
      obtain ⟨ix, hix, h3⟩ := Array.any_eq_true.1 h2
      have he : o.after[ix] ∈ o.after := Array.getElem_mem hix
      generalize o.after[ix] = e at *
      simp only [Bool.and_eq_true, beq_iff_eq] at h3
      obtain ⟨h3, h4⟩ := h3
      obtain ⟨v, hv, hd⟩ := hdv e he h4
      rw [h3] at hv hd
      have hvb : v = .bool want := by
        cases hr : R.getD j SP.any with
        | is x =>
          rw [hr] at hs hv hbs
          cases x <;> simp only [SP.bool?, Option.isSome_none, Bool.false_eq_true] at hbs
          rename_i bb
          simp only [SP.bool?] at hs
          have hbb : bb = want := by cases bb <;> cases want <;> simp_all
          rw [hbb] at hv
          exact hv
        | st p hp => rw [hr] at hbs; simp [SP.bool?] at hbs
      obtain ⟨d, hdj⟩ := Option.isSome_iff_exists.1 hsm
      have hy : yielded ops a.tmps j = some want := by
        unfold yielded
        have e1 : (ops[j]?).bind (·.dst) = some d := hdj
        rw [e1]
        simp only [Option.bind_some, hd d hdj, hvb]
      simp only [hy, beq_self_eq_true]
  refine wpOp_step ho fun K' hK => ?_
  rw [if_pos hw]
  refine hstep (by simpa using hs) a.eval w hI.below ⟨fun _ => rfl, fun _ => rfl, fun k hk => ?_, fun e he hb => ?_⟩ a K' rfl fun v w' hb hR => ?_
  · show a.tmps.getD k undef = a0.tmps.getD k undef
    rw [Array.getD_eq_getD_getElem?, Array.getD_eq_getD_getElem?, hI.rest k fun j hj h => ?_]
    have := List.all_eq_true.1 hk j (List.mem_range.2 (dst_lt h))
    rw [h] at this
    simp at this
  · obtain ⟨v, hv, hd⟩ := hdv e he hb
    exact ⟨v, hv, fun d hdd => getD_of (hd d hdd)⟩
  · exact hK _ _ ⟨hfin v w' hb hR.1, hff v w' hb hR.2⟩
theorem region_tailF (blk : Nat → Value → Nat → Prop) (hbu : ∀ i b, ¬ blk i undef b) {id : Nat} {a0 : Act} {w0 : World} (k : Nat) (R : List SP) (ds : List (Option Tmp)) (hm : P.follows .mixedOrders = true) (hord : orderedB .any ops = true) (hap : apart ops a0.tmps.size = true) (hg : guardedS ops R k = true) (sk : List Nat) (hskl : skipped ops R k = sk) (hsk0 : ∀ p ∈ sk, R.getD p SP.any = .is undef) (hds : (List.range k).map (dstOf ops) = ds) (htl : tailed ops k = true)
    (hstep : ∀ i o, ops[i]? = some o → i < k → skips ops R i = false → ∀ E w, Below w0.drew.heap.size w0.drew w → Due ops R a0 o E w → Does P Q o E w fun w' v => (R.getD i SP.any).has w' v ∧ ∀ b, blk i v b → w.heap.size ≤ b ∧ b < w'.heap.size)
    (hdone : ∀ (vals : Nat → Value) w, Below w0.drew.heap.size w0.drew w → (∀ i, i < k → (R.getD i SP.any).has w (vals i)) → (∀ i j, i < k → j < k → i ≠ j → (dstOf ops i).isSome = true → (dstOf ops j).isSome = true → ∀ b, blk i (vals i) b → ¬ blk j (vals j) b) → wpList P ops Q (ops.toList.drop k) { a0 with tmps := setL ds vals 0 a0.tmps } w) : (Code.region id ops true).wp P Q a0 w0 := by
  have hsk := skip_of hskl hsk0
  unfold tailed at htl
  simp only [Bool.and_eq_true, decide_eq_true_eq] at htl
  obtain ⟨⟨hkn, hcov⟩, hch⟩ := htl
  have hchain : ∀ i, k ≤ i → i + 1 < ops.size → waitsFor ops (i + 1) i = true := fun i h1 h2 => by
    have := List.all_eq_true.1 hch i (List.mem_range.2 (by omega))
    simp only [Bool.or_eq_true, decide_eq_true_eq] at this
    rcases this with (h | h) | h
    · omega
    · omega
    · exact h
  have hcover : ∀ j, j < k → k < ops.size → ∃ i, j < i ∧ i ≤ k ∧ waitsFor ops i j = true := fun j h1 h2 => by
    have := List.all_eq_true.1 hcov j (List.mem_range.2 h1)
    simp only [Bool.or_eq_true, beq_iff_eq] at this
    rcases this with h | h
    · omega
    · obtain ⟨i, hi, h⟩ := List.any_eq_true.1 h
      simp only [Bool.and_eq_true, decide_eq_true_eq] at h
      exact ⟨i, h.1, by have := List.mem_range.1 hi; omega, h.2⟩
  have hfin : ∀ L a w, VInv ops R w0.drew a0 L a w → FInv ops blk L a w → (∀ j, j < k → L j = true) → (∀ j, k ≤ j → L j = false) → wpList P ops Q (ops.toList.drop k) a w := fun L a w hI hFI hall hno => by
    have hv : ∀ i, ∃ v, i < k → (R.getD i SP.any).has w v ∧ ∀ d, dstOf ops i = some d → a.tmps[d]? = some v := fun i => by
      by_cases hi : i < k
      · obtain ⟨v, h⟩ := hI.vals i (hall i hi); exact ⟨v, fun _ => h⟩
      · exact ⟨undef, fun h => absurd h hi⟩
    obtain ⟨vals, hvals⟩ := Classical.axiomOfChoice hv
    have ha : a = { a0 with tmps := setAll ops vals k a0.tmps } := by
      obtain ⟨tm, df⟩ := a
      have h1 : df = a0.defers := hI.defers
      have h2 : tm = setAll ops vals k a0.tmps := by
        refine Array.ext_getElem? fun s => ?_
        have hset := setAll_get vals hap s k a0.tmps hkn rfl
        by_cases hk : ∃ i, i < k ∧ dstOf ops i = some s
        · obtain ⟨i, hik, hi⟩ := hk
          rw [hset.2 i hik hi]
          exact (hvals i hik).2 s hi
        · rw [hset.1 fun i hi h => hk ⟨i, hi, h⟩]
          refine hI.rest s fun i hi h => ?_
          rcases Nat.lt_or_ge i k with hl | hl
          · exact hk ⟨i, hl, h⟩
          · rw [hno i hl] at hi; cases hi
      rw [h1, h2]
    rw [ha, setAll_eq, hds]
    refine hdone vals w hI.below (fun i hi => (hvals i hi).1) fun i j hi hj hij hdi hdj b hb1 hb2 => ?_
    obtain ⟨d, hd⟩ := Option.isSome_iff_exists.1 hdi
    obtain ⟨d', hd'⟩ := Option.isSome_iff_exists.1 hdj
    exact (hFI i (hall i hi) d _ hd ((hvals i hi).2 d hd)).2 j (hall j hj) (Ne.symm hij) d' _ hd' ((hvals j hj).2 d' hd') b hb1 hb2
  refine region_invB (fun a0 B L a w => ((VInv ops R B a0 L a w ∧ FInv ops blk L a w) ∧ (∀ i, k ≤ i → L i = false) ∧ Closed ops L) ∨ ∃ m, k ≤ m ∧ m ≤ ops.size ∧ (∀ i, L i = decide (i < m)) ∧ wpList P ops Q (ops.toList.drop m) a w) hm hord
    (Or.inl ⟨⟨⟨Below.refl _ _, rfl, rfl, fun i h => (Bool.noConfusion h), fun k _ => rfl⟩, fun i h => (Bool.noConfusion h)⟩, fun _ _ => rfl, fun i o _ h => (Bool.noConfusion h)⟩) ?_ ?_
  · intro L a w hI i o ho hLi hdep
    have hio : i < ops.size := (Array.getElem?_eq_some_iff.1 ho).1
    rcases hI with ⟨hI, hno, hcl⟩ | ⟨m, hm1, hm2, hL, hwp⟩
    · by_cases hik : i < k
      · refine wpOp_mono (fun a' w' h => Or.inl ?_) (vinv_stepF blk hbu R hap hg hsk hik hI.1 ho hLi hdep hI.2 (hstep i o ho hik))
        refine ⟨h, fun j hj => ?_, fun j o' ho' hj e he hb => ?_⟩
        · have hji : j ≠ i := by omega
          simp only [hji, if_false]
          exact hno j hj
        · by_cases hji : j = i
          · subst hji
            rw [ho] at ho'; cases ho'
            by_cases h2 : e.on = j
            · simp [h2]
            · simp only [h2, if_false]; exact hdep e he hb
          · simp only [hji, if_false] at hj
            by_cases h2 : e.on = i
            · simp [h2]
            · simp only [h2, if_false]; exact hcl j o' ho' hj e he hb
      · have hik' : i = k := by
          rcases Nat.lt_or_ge k i with h | h
          · have := waits_done (L := L) (hchain (i - 1) (by omega) (by omega)) (by rw [show i - 1 + 1 = i by omega]; exact ho) hdep
            rw [hno (i - 1) (by omega)] at this; cases this
          · omega
        subst hik'
        have hall : ∀ d j, i - j ≤ d → j < i → L j = true := by
          intro d
          induction d with
          | zero => intro j h1 h2; omega
          | succ d ih =>
            intro j h1 h2
            obtain ⟨q, hq1, hq2, hq3⟩ := hcover j h2 hio
            by_cases hqi : q = i
            · subst hqi; exact waits_done hq3 ho hdep
            · have hq : L q = true := ih q (by omega) (by omega)
              have hqo : ops[q]? = some ops[q] := Array.getElem?_eq_getElem (by omega)
              exact waits_done hq3 hqo (hcl q _ hqo hq)
        refine wpOp_mono (fun a' w' h => Or.inr ⟨i + 1, by omega, by omega, fun j => ?_, h⟩) (wpList_to_op ho (hfin L a w hI.1 hI.2 (fun j hj => hall _ j (Nat.le_refl _) hj) hno))
        by_cases hji : j = i
        · subst hji; simp
        · simp only [hji, if_false]
          rcases Nat.lt_or_ge j i with h1 | h1
          · rw [hall _ j (Nat.le_refl _) h1]; simp; omega
          · rw [hno j h1]; simp; omega
    · have him : i = m := by
        have h1 : ¬ i < m := fun h => by rw [hL i] at hLi; simp [h] at hLi
        rcases Nat.lt_or_ge m i with h | h
        · have := waits_done (L := L) (hchain (i - 1) (by omega) (by omega)) (by rw [show i - 1 + 1 = i by omega]; exact ho) hdep
          rw [hL (i - 1)] at this
          simp at this; omega
        · omega
      subst him
      refine wpOp_mono (fun a' w' h => Or.inr ⟨i + 1, by omega, by omega, fun j => ?_, h⟩) (wpList_to_op ho hwp)
      by_cases hji : j = i
      · subst hji; simp
      · simp only [hji, if_false]
        rw [hL j]
        rcases Nat.lt_or_ge j i with h1 | h1
        · simp [h1]; omega
        · simp; omega
  · intro L a w hall hI
    rcases hI with ⟨hI, hno, hcl⟩ | ⟨m, hm1, hm2, hL, hwp⟩
    · have hk : k = ops.size := by
        rcases Nat.lt_or_ge k ops.size with h | h
        · have := hall k h; rw [hno k (Nat.le_refl _)] at this; cases this
        · omega
      have := hfin L a w hI.1 hI.2 (fun j hj => hall j (by omega)) hno
      rw [hk, ← Array.length_toList, List.drop_length] at this
      exact this
    · have hk : m = ops.size := by
        rcases Nat.lt_or_ge m ops.size with h | h
        · have := hall m h; rw [hL m] at this; simp at this
        · omega
      rw [hk, ← Array.length_toList, List.drop_length] at hwp
      exact hwp
end

end Go.Proofs.Ytmnpmjioahnjoaa.wk
