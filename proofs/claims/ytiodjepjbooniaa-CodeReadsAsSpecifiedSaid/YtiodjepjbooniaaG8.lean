/- Joined: Val6 Uq Ur Ui U2. -/
import Derived.Test.YtiodjepjbooniaaG7

import Derived.OwnWalkIn
/- A region whose tail writes a slot that its first operations read. No program here. -/
namespace Go.Proofs.Ytiodjepjbooniaa.wk

open Go.RowKit

set_option linter.unusedVariables false

section

variable {P : Program} {ops : Array Oper} {Q : Exit → Act → World → Prop}
/-- none of the first k operations writes this slot -/
def unwK (ops : Array Oper) (k s : Nat) : Bool := (List.range k).all fun i => dstOf ops i != some s
theorem vinv_stepK {a0 : Act} {B : World} {k : Nat} (R : List SP) (hap : apart ops a0.tmps.size = true) (hg : guardedS ops R k = true) (hsk : ∀ i, i < k → skips ops R i = true → R.getD i SP.any = .is undef) {L : Nat → Bool} {a : Act} {w : World} {i : Nat} {o : Oper} (hik : i < k) (hI : VInv ops R B a0 L a w) (ho : ops[i]? = some o) (hLi : L i = false) (hdep : ∀ e ∈ o.after, Region.binds .any e = true → L e.on = true) (hno : ∀ j, k ≤ j → L j = false)
    (hstep : skips ops R i = false → ∀ E w, Below B.heap.size B w → Due ops R a0 o E w → (∀ s, unwK ops k s = true → E (.tmp s) = a0.eval (.tmp s)) → Does P Q o E w (R.getD i SP.any).has) :
    wpOp P ops Q i (fun a' w' => VInv ops R B a0 (fun j => if j = i then true else L j) a' w') a w := by
  have hio : i < ops.size := (Array.getElem?_eq_some_iff.1 ho).1
  have hdv : ∀ e ∈ o.after, Region.binds .any e = true → ∃ v, (R.getD e.on SP.any).has w v ∧ ∀ d, dstOf ops e.on = some d → a.tmps[d]? = some v := fun e he hb => hI.vals e.on (hdep e he hb)
  have hfin : ∀ v w', Below w.heap.size w w' → (R.getD i SP.any).has w' v → VInv ops R B a0 (fun j => if j = i then true else L j) (a.put o.dst v) w' := fun v w' hb hR => by
    have hB := hI.below.trans (hb.mono hI.below.size)
    have hdo : dstOf ops i = o.dst := by unfold dstOf; rw [ho]; rfl
    refine ⟨hB, ?_, ?_, fun j hj => ?_, fun k hk => ?_⟩
    · cases hd : o.dst <;> exact hI.defers
    · cases hd : o.dst <;> simp only [Act.put, Array.size_setIfInBounds] <;> exact hI.size
    · by_cases hji : j = i
      · subst hji
        refine ⟨v, hR, fun d hd => ?_⟩
        rw [hdo] at hd
        have hlt := apart_lt hap hio (by rw [hdo]; exact hd)
        rw [hd]
        show (a.tmps.setIfInBounds d v)[d]? = some v
        rw [Array.getElem?_setIfInBounds, if_pos rfl, if_pos (by rw [hI.size]; exact hlt)]
      · rw [if_neg hji] at hj
        obtain ⟨u, hu, hud⟩ := hI.vals j hj
        refine ⟨u, SP.has_below hu hb, fun d hd => ?_⟩
        cases hod : o.dst with
        | none => exact hud d hd
        | some d' =>
          have hne : d' ≠ d := fun e => hji (apart_ne hap (dst_lt hd) hio hd (by rw [hdo, hod, e]))
          show (a.tmps.setIfInBounds d' v)[d]? = some u
          rw [Array.getElem?_setIfInBounds, if_neg hne]
          exact hud d hd
    · have hk' : ∀ j, L j = true → dstOf ops j ≠ some k := fun j hj => hk j (by by_cases h : j = i <;> simp [h, hj])
      have hki : o.dst ≠ some k := by rw [← hdo]; exact hk i (by simp)
      cases hod : o.dst with
      | none => exact hI.rest k hk'
      | some d' =>
        have hne : d' ≠ k := fun e => hki (by rw [hod, e])
        show (a.tmps.setIfInBounds d' v)[k]? = _
        rw [Array.getElem?_setIfInBounds, if_neg hne]
        exact hI.rest k hk'
  by_cases hs : skips ops R i = true
  · have hw : Region.wanted o (yielded ops a.tmps) = false := by
      have h1 := List.all_eq_true.1 hg i (List.mem_range.2 hik)
      unfold skips at hs
      simp only [ho] at h1 hs
      unfold Region.wanted
      cases hgd : o.guard with
      | none => rw [hgd] at hs; cases hs
      | some x =>
        obtain ⟨j, want⟩ := x
        simp only [hgd, Bool.and_eq_true] at h1 hs
        obtain ⟨⟨_, hsm⟩, h2⟩ := h1
        obtain ⟨ix, hix, h3⟩ := Array.any_eq_true.1 h2
        have he : o.after[ix] ∈ o.after := Array.getElem_mem hix
        generalize o.after[ix] = e at *
        simp only [Bool.and_eq_true, beq_iff_eq] at h3
        obtain ⟨h3, h4⟩ := h3
        obtain ⟨v, hv, hd⟩ := hdv e he h4
        rw [h3] at hv hd
        have hvb : v = .bool (!want) := by
          cases hr : R.getD j SP.any with
          | is x =>
            rw [hr] at hs hv
            cases x <;> simp only [SP.bool?, Bool.false_eq_true] at hs
            rename_i bb
            have hbb : bb = !want := by cases bb <;> cases want <;> simp_all
            rw [hbb] at hv
            exact hv
          | st p hp => rw [hr] at hs; simp [SP.bool?] at hs
        obtain ⟨d, hdj⟩ := Option.isSome_iff_exists.1 hsm
        have hy : yielded ops a.tmps j = some (!want) := by
          unfold yielded
          have e1 : (ops[j]?).bind (·.dst) = some d := hdj
          rw [e1]
          simp only [Option.bind_some, hd d hdj, hvb]
        simp only [hy]
        cases want <;> rfl
    refine wpOp_step ho fun K' hK => ?_
    rw [if_neg (by rw [hw]; exact Bool.false_ne_true)]
    exact hK _ _ (hfin undef w (Below.refl _ _) (by rw [hsk i hik hs]; rfl))
  have hw : Region.wanted o (yielded ops a.tmps) = true := by
    have h1 := List.all_eq_true.1 hg i (List.mem_range.2 hik)
    unfold skips at hs
    simp only [ho] at h1 hs
    unfold Region.wanted
    cases hgd : o.guard with
    | none => rfl
    | some x =>
      obtain ⟨j, want⟩ := x
      simp only [hgd, Bool.and_eq_true] at h1 hs
      obtain ⟨⟨⟨hbs, _⟩, hsm⟩, h2⟩ := h1
      obtain ⟨ix, hix, h3⟩ := Array.any_eq_true.1 h2
      have he : o.after[ix] ∈ o.after := Array.getElem_mem hix
      generalize o.after[ix] = e at *
      simp only [Bool.and_eq_true, beq_iff_eq] at h3
      obtain ⟨h3, h4⟩ := h3
      obtain ⟨v, hv, hd⟩ := hdv e he h4
      rw [h3] at hv hd
      have hvb : v = .bool want := by
        cases hr : R.getD j SP.any with
        | is x =>
          rw [hr] at hs hv hbs
          cases x <;> simp only [SP.bool?, Option.isSome_none, Bool.false_eq_true] at hbs
          rename_i bb
          simp only [SP.bool?] at hs
          have hbb : bb = want := by cases bb <;> cases want <;> simp_all
          rw [hbb] at hv
          exact hv
        | st p hp => rw [hr] at hbs; simp [SP.bool?] at hbs
      obtain ⟨d, hdj⟩ := Option.isSome_iff_exists.1 hsm
      have hy : yielded ops a.tmps j = some want := by
        unfold yielded
        have e1 : (ops[j]?).bind (·.dst) = some d := hdj
        rw [e1]
        simp only [Option.bind_some, hd d hdj, hvb]
      simp only [hy, beq_self_eq_true]
  refine wpOp_step ho fun K' hK => ?_
  rw [if_pos hw]
  refine hstep (by simpa using hs) a.eval w hI.below ⟨fun _ => rfl, fun _ => rfl, fun k hk => ?_, fun e he hb => ?_⟩ (fun s hs2 => ?_) a K' rfl fun v w' hb hR => ?_
  · show a.tmps.getD k undef = a0.tmps.getD k undef
    rw [Array.getD_eq_getD_getElem?, Array.getD_eq_getD_getElem?, hI.rest k fun j hj h => ?_]
    have := List.all_eq_true.1 hk j (List.mem_range.2 (dst_lt h))
    rw [h] at this
    simp at this
  · obtain ⟨v, hv, hd⟩ := hdv e he hb
    exact ⟨v, hv, fun d hdd => getD_of (hd d hdd)⟩
  · show a.tmps.getD s undef = a0.tmps.getD s undef
    rw [Array.getD_eq_getD_getElem?, Array.getD_eq_getD_getElem?, hI.rest s fun j hj h => ?_]
    have hjk : j < k := by
      rcases Nat.lt_or_ge j k with h1 | h1
      · exact h1
      · rw [hno j h1] at hj; cases hj
    have := List.all_eq_true.1 hs2 j (List.mem_range.2 hjk)
    rw [h] at this
    simp at this
  · exact hK _ _ (hfin v w' hb hR)
theorem region_tailK {id : Nat} {a0 : Act} {w0 : World} (k : Nat) (R : List SP) (ds : List (Option Tmp)) (hm : P.follows .mixedOrders = true) (hord : orderedB .any ops = true) (hap : apart ops a0.tmps.size = true) (hg : guardedS ops R k = true) (sk : List Nat) (hskl : skipped ops R k = sk) (hsk0 : ∀ p ∈ sk, R.getD p SP.any = .is undef) (hds : (List.range k).map (dstOf ops) = ds) (htl : tailed ops k = true)
    (hstep : ∀ i o, ops[i]? = some o → i < k → skips ops R i = false → ∀ E w, Below w0.drew.heap.size w0.drew w → Due ops R a0 o E w → (∀ s, unwK ops k s = true → E (.tmp s) = a0.eval (.tmp s)) → Does P Q o E w (R.getD i SP.any).has)
    (hdone : ∀ (vals : Nat → Value) w, Below w0.drew.heap.size w0.drew w → (∀ i, i < k → (R.getD i SP.any).has w (vals i)) → wpList P ops Q (ops.toList.drop k) { a0 with tmps := setL ds vals 0 a0.tmps } w) : (Code.region id ops true).wp P Q a0 w0 := by
  have hsk := skip_of hskl hsk0
  unfold tailed at htl
  simp only [Bool.and_eq_true, decide_eq_true_eq] at htl
  obtain ⟨⟨hkn, hcov⟩, hch⟩ := htl
  have hchain : ∀ i, k ≤ i → i + 1 < ops.size → waitsFor ops (i + 1) i = true := fun i h1 h2 => by
    have := List.all_eq_true.1 hch i (List.mem_range.2 (by omega))
    simp only [Bool.or_eq_true, decide_eq_true_eq] at this
    rcases this with (h | h) | h
    · omega
    · omega
    · exact h
  have hcover : ∀ j, j < k → k < ops.size → ∃ i, j < i ∧ i ≤ k ∧ waitsFor ops i j = true := fun j h1 h2 => by
    have := List.all_eq_true.1 hcov j (List.mem_range.2 h1)
    simp only [Bool.or_eq_true, beq_iff_eq] at this
    rcases this with h | h
    · omega
    · obtain ⟨i, hi, h⟩ := List.any_eq_true.1 h
      simp only [Bool.and_eq_true, decide_eq_true_eq] at h
      exact ⟨i, h.1, by have := List.mem_range.1 hi; omega, h.2⟩
  have hfin : ∀ L a w, VInv ops R w0.drew a0 L a w → (∀ j, j < k → L j = true) → (∀ j, k ≤ j → L j = false) → wpList P ops Q (ops.toList.drop k) a w := fun L a w hI hall hno => by
    have hv : ∀ i, ∃ v, i < k → (R.getD i SP.any).has w v ∧ ∀ d, dstOf ops i = some d → a.tmps[d]? = some v := fun i => by
      by_cases hi : i < k
      · obtain ⟨v, h⟩ := hI.vals i (hall i hi); exact ⟨v, fun _ => h⟩
      · exact ⟨undef, fun h => absurd h hi⟩
    obtain ⟨vals, hvals⟩ := Classical.axiomOfChoice hv
    have ha : a = { a0 with tmps := setAll ops vals k a0.tmps } := by
      obtain ⟨tm, df⟩ := a
      have h1 : df = a0.defers := hI.defers
      have h2 : tm = setAll ops vals k a0.tmps := by
        refine Array.ext_getElem? fun s => ?_
        have hset := setAll_get vals hap s k a0.tmps hkn rfl
        by_cases hk : ∃ i, i < k ∧ dstOf ops i = some s
        · obtain ⟨i, hik, hi⟩ := hk
          rw [hset.2 i hik hi]
          exact (hvals i hik).2 s hi
        · rw [hset.1 fun i hi h => hk ⟨i, hi, h⟩]
          refine hI.rest s fun i hi h => ?_
          rcases Nat.lt_or_ge i k with hl | hl
          · exact hk ⟨i, hl, h⟩
          · rw [hno i hl] at hi; cases hi
      rw [h1, h2]
    rw [ha, setAll_eq, hds]
    exact hdone vals w hI.below fun i hi => (hvals i hi).1
  refine region_invB (fun a0 B L a w => (VInv ops R B a0 L a w ∧ (∀ i, k ≤ i → L i = false) ∧ Closed ops L) ∨ ∃ m, k ≤ m ∧ m ≤ ops.size ∧ (∀ i, L i = decide (i < m)) ∧ wpList P ops Q (ops.toList.drop m) a w) hm hord
    (Or.inl ⟨⟨Below.refl _ _, rfl, rfl, fun i h => (Bool.noConfusion h), fun k _ => rfl⟩, fun _ _ => rfl, fun i o _ h => (Bool.noConfusion h)⟩) ?_ ?_
  · intro L a w hI i o ho hLi hdep
    have hio : i < ops.size := (Array.getElem?_eq_some_iff.1 ho).1
    rcases hI with ⟨hI, hno, hcl⟩ | ⟨m, hm1, hm2, hL, hwp⟩
    · by_cases hik : i < k
      · refine wpOp_mono (fun a' w' h => Or.inl ?_) (vinv_stepK R hap hg hsk hik hI ho hLi hdep hno (hstep i o ho hik))
        refine ⟨h, fun j hj => ?_, fun j o' ho' hj e he hb => ?_⟩
        · have hji : j ≠ i := by omega
          simp only [hji, if_false]
          exact hno j hj
        · by_cases hji : j = i
          · subst hji
            rw [ho] at ho'; cases ho'
            by_cases h2 : e.on = j
            · simp [h2]
            · simp only [h2, if_false]; exact hdep e he hb
          · simp only [hji, if_false] at hj
            by_cases h2 : e.on = i
            · simp [h2]
            · simp only [h2, if_false]; exact hcl j o' ho' hj e he hb
      · have hik' : i = k := by
          rcases Nat.lt_or_ge k i with h | h
          · have := waits_done (L := L) (hchain (i - 1) (by omega) (by omega)) (by rw [show i - 1 + 1 = i by omega]; exact ho) hdep
            rw [hno (i - 1) (by omega)] at this; cases this
          · omega
        subst hik'
        have hall : ∀ d j, i - j ≤ d → j < i → L j = true := by
          intro d
          induction d with
          | zero => intro j h1 h2; omega
          | succ d ih =>
            intro j h1 h2
            obtain ⟨q, hq1, hq2, hq3⟩ := hcover j h2 hio
            by_cases hqi : q = i
            · subst hqi; exact waits_done hq3 ho hdep
            · have hq : L q = true := ih q (by omega) (by omega)
              have hqo : ops[q]? = some ops[q] := Array.getElem?_eq_getElem (by omega)
              exact waits_done hq3 hqo (hcl q _ hqo hq)
        refine wpOp_mono (fun a' w' h => Or.inr ⟨i + 1, by omega, by omega, fun j => ?_, h⟩) (wpList_to_op ho (hfin L a w hI (fun j hj => hall _ j (Nat.le_refl _) hj) hno))
        by_cases hji : j = i
        · subst hji; simp
        · simp only [hji, if_false]
          rcases Nat.lt_or_ge j i with h1 | h1
          · rw [hall _ j (Nat.le_refl _) h1]; simp; omega
          · rw [hno j h1]; simp; omega
    · have him : i = m := by
        have h1 : ¬ i < m := fun h => by rw [hL i] at hLi; simp [h] at hLi
        rcases Nat.lt_or_ge m i with h | h
        · have := waits_done (L := L) (hchain (i - 1) (by omega) (by omega)) (by rw [show i - 1 + 1 = i by omega]; exact ho) hdep
          rw [hL (i - 1)] at this
          simp at this; omega
        · omega
      subst him
      refine wpOp_mono (fun a' w' h => Or.inr ⟨i + 1, by omega, by omega, fun j => ?_, h⟩) (wpList_to_op ho hwp)
      by_cases hji : j = i
      · subst hji; simp
      · simp only [hji, if_false]
        rw [hL j]
        rcases Nat.lt_or_ge j i with h1 | h1
        · simp [h1]; omega
        · simp; omega
  · intro L a w hall hI
    rcases hI with ⟨hI, hno, hcl⟩ | ⟨m, hm1, hm2, hL, hwp⟩
    · have hk : k = ops.size := by
        rcases Nat.lt_or_ge k ops.size with h | h
        · have := hall k h; rw [hno k (Nat.le_refl _)] at this; cases this
        · omega
      have := hfin L a w hI (fun j hj => hall j (by omega)) hno
      rw [hk, ← Array.length_toList, List.drop_length] at this
      exact this
    · have hk : m = ops.size := by
        rcases Nat.lt_or_ge m ops.size with h | h
        · have := hall m h; rw [hL m] at this; simp at this
        · omega
      rw [hk, ← Array.length_toList, List.drop_length] at hwp
      exact hwp
end

end Go.Proofs.Ytiodjepjbooniaa.wk
/- A region that draws, in a round: slots that its head reads may be written by its tail. No program here. -/
namespace Go.Proofs.Ytiodjepjbooniaa.wk

open Go.RowKit

set_option linter.unusedVariables false

section

variable {P : Program} {ops : Array Oper} {Q : Exit → Act → World → Prop}
theorem region_tailK_in {id n : Nat} {a0 : Act} {w0 : World} (l : Nat) (hnd : noDefer ops = true) (hq : ¬ LetsOut Q) (k : Nat) (R : List SP) (ds : List (Option Tmp)) (hm : P.follows .mixedOrders = true) (hord : orderedB .any ops = true) (hap : apart ops a0.tmps.size = true) (hg : guardedS ops R k = true) (sk : List Nat) (hskl : skipped ops R k = sk) (hsk0 : ∀ p ∈ sk, R.getD p SP.any = .is undef) (hds : (List.range k).map (dstOf ops) = ds) (htl : tailed ops k = true)
    (hstep : ∀ i o, ops[i]? = some o → i < k → skips ops R i = false → ∀ E w, Below w0.drew.heap.size w0.drew w → Due ops R a0 o E w → (∀ s, unwK ops k s = true → E (.tmp s) = a0.eval (.tmp s)) → Does P Q o E w (R.getD i SP.any).has)
    (hdone : ∀ (vals : Nat → Value) w, Below w0.drew.heap.size w0.drew w → (∀ i, i < k → (R.getD i SP.any).has w (vals i)) → wpList P ops Q (ops.toList.drop k) { a0 with tmps := setL ds vals 0 a0.tmps } w) : (Code.region id ops true).wpIn (Fence.wide.inRound l) n P Q a0 w0 := by
  have hsk := skip_of hskl hsk0
  unfold tailed at htl
  simp only [Bool.and_eq_true, decide_eq_true_eq] at htl
  obtain ⟨⟨hkn, hcov⟩, hch⟩ := htl
  have hchain : ∀ i, k ≤ i → i + 1 < ops.size → waitsFor ops (i + 1) i = true := fun i h1 h2 => by
    have := List.all_eq_true.1 hch i (List.mem_range.2 (by omega))
    simp only [Bool.or_eq_true, decide_eq_true_eq] at this
    rcases this with (h | h) | h
    · omega
    · omega
    · exact h
  have hcover : ∀ j, j < k → k < ops.size → ∃ i, j < i ∧ i ≤ k ∧ waitsFor ops i j = true := fun j h1 h2 => by
    have := List.all_eq_true.1 hcov j (List.mem_range.2 h1)
    simp only [Bool.or_eq_true, beq_iff_eq] at this
    rcases this with h | h
    · omega
    · obtain ⟨i, hi, h⟩ := List.any_eq_true.1 h
      simp only [Bool.and_eq_true, decide_eq_true_eq] at h
      exact ⟨i, h.1, by have := List.mem_range.1 hi; omega, h.2⟩
  have hfin : ∀ L a w, VInv ops R w0.drew a0 L a w → (∀ j, j < k → L j = true) → (∀ j, k ≤ j → L j = false) → wpList P ops Q (ops.toList.drop k) a w := fun L a w hI hall hno => by
    have hv : ∀ i, ∃ v, i < k → (R.getD i SP.any).has w v ∧ ∀ d, dstOf ops i = some d → a.tmps[d]? = some v := fun i => by
      by_cases hi : i < k
      · obtain ⟨v, h⟩ := hI.vals i (hall i hi); exact ⟨v, fun _ => h⟩
      · exact ⟨undef, fun h => absurd h hi⟩
    obtain ⟨vals, hvals⟩ := Classical.axiomOfChoice hv
    have ha : a = { a0 with tmps := setAll ops vals k a0.tmps } := by
      obtain ⟨tm, df⟩ := a
      have h1 : df = a0.defers := hI.defers
      have h2 : tm = setAll ops vals k a0.tmps := by
        refine Array.ext_getElem? fun s => ?_
        have hset := setAll_get vals hap s k a0.tmps hkn rfl
        by_cases hk : ∃ i, i < k ∧ dstOf ops i = some s
        · obtain ⟨i, hik, hi⟩ := hk
          rw [hset.2 i hik hi]
          exact (hvals i hik).2 s hi
        · rw [hset.1 fun i hi h => hk ⟨i, hi, h⟩]
          refine hI.rest s fun i hi h => ?_
          rcases Nat.lt_or_ge i k with hl | hl
          · exact hk ⟨i, hl, h⟩
          · rw [hno i hl] at hi; cases hi
      rw [h1, h2]
    rw [ha, setAll_eq, hds]
    exact hdone vals w hI.below fun i hi => (hvals i hi).1
  refine region_invB_in l hnd hq (fun a0 B L a w => (VInv ops R B a0 L a w ∧ (∀ i, k ≤ i → L i = false) ∧ Closed ops L) ∨ ∃ m, k ≤ m ∧ m ≤ ops.size ∧ (∀ i, L i = decide (i < m)) ∧ wpList P ops Q (ops.toList.drop m) a w) hm hord
    (Or.inl ⟨⟨Below.refl _ _, rfl, rfl, fun i h => (Bool.noConfusion h), fun k _ => rfl⟩, fun _ _ => rfl, fun i o _ h => (Bool.noConfusion h)⟩) ?_ ?_
  · intro L a w hI i o ho hLi hdep
    have hio : i < ops.size := (Array.getElem?_eq_some_iff.1 ho).1
    rcases hI with ⟨hI, hno, hcl⟩ | ⟨m, hm1, hm2, hL, hwp⟩
    · by_cases hik : i < k
      · refine wpOp_mono (fun a' w' h => Or.inl ?_) (vinv_stepK R hap hg hsk hik hI ho hLi hdep hno (hstep i o ho hik))
        refine ⟨h, fun j hj => ?_, fun j o' ho' hj e he hb => ?_⟩
        · have hji : j ≠ i := by omega
          simp only [hji, if_false]
          exact hno j hj
        · by_cases hji : j = i
          · subst hji
            rw [ho] at ho'; cases ho'
            by_cases h2 : e.on = j
            · simp [h2]
            · simp only [h2, if_false]; exact hdep e he hb
          · simp only [hji, if_false] at hj
            by_cases h2 : e.on = i
            · simp [h2]
            · simp only [h2, if_false]; exact hcl j o' ho' hj e he hb
      · have hik' : i = k := by
          rcases Nat.lt_or_ge k i with h | h
          · have := waits_done (L := L) (hchain (i - 1) (by omega) (by omega)) (by rw [show i - 1 + 1 = i by omega]; exact ho) hdep
            rw [hno (i - 1) (by omega)] at this; cases this
          · omega
        subst hik'
        have hall : ∀ d j, i - j ≤ d → j < i → L j = true := by
          intro d
          induction d with
          | zero => intro j h1 h2; omega
          | succ d ih =>
            intro j h1 h2
            obtain ⟨q, hq1, hq2, hq3⟩ := hcover j h2 hio
            by_cases hqi : q = i
            · subst hqi; exact waits_done hq3 ho hdep
            · have hq : L q = true := ih q (by omega) (by omega)
              have hqo : ops[q]? = some ops[q] := Array.getElem?_eq_getElem (by omega)
              exact waits_done hq3 hqo (hcl q _ hqo hq)
        refine wpOp_mono (fun a' w' h => Or.inr ⟨i + 1, by omega, by omega, fun j => ?_, h⟩) (wpList_to_op ho (hfin L a w hI (fun j hj => hall _ j (Nat.le_refl _) hj) hno))
        by_cases hji : j = i
        · subst hji; simp
        · simp only [hji, if_false]
          rcases Nat.lt_or_ge j i with h1 | h1
          · rw [hall _ j (Nat.le_refl _) h1]; simp; omega
          · rw [hno j h1]; simp; omega
    · have him : i = m := by
        have h1 : ¬ i < m := fun h => by rw [hL i] at hLi; simp [h] at hLi
        rcases Nat.lt_or_ge m i with h | h
        · have := waits_done (L := L) (hchain (i - 1) (by omega) (by omega)) (by rw [show i - 1 + 1 = i by omega]; exact ho) hdep
          rw [hL (i - 1)] at this
          simp at this; omega
        · omega
      subst him
      refine wpOp_mono (fun a' w' h => Or.inr ⟨i + 1, by omega, by omega, fun j => ?_, h⟩) (wpList_to_op ho hwp)
      by_cases hji : j = i
      · subst hji; simp
      · simp only [hji, if_false]
        rw [hL j]
        rcases Nat.lt_or_ge j i with h1 | h1
        · simp [h1]; omega
        · simp; omega
  · intro L a w hall hI
    rcases hI with ⟨hI, hno, hcl⟩ | ⟨m, hm1, hm2, hL, hwp⟩
    · have hk : k = ops.size := by
        rcases Nat.lt_or_ge k ops.size with h | h
        · have := hall k h; rw [hno k (Nat.le_refl _)] at this; cases this
        · omega
      have := hfin L a w hI (fun j hj => hall j (by omega)) hno
      rw [hk, ← Array.length_toList, List.drop_length] at this
      exact this
    · have hk : m = ops.size := by
        rcases Nat.lt_or_ge m ops.size with h | h
        · have := hall m h; rw [hL m] at this; simp at this
        · omega
      rw [hk, ← Array.length_toList, List.drop_length] at hwp
      exact hwp
end

end Go.Proofs.Ytiodjepjbooniaa.wk
/- Rows of fresh memory: they stand whatever lies below may become. -/
namespace Go.Proofs.Ytiodjepjbooniaa.uk

open Go.ChangeShapes Go.WideShapes Go.ChangeAt Go.RowKit

open Go.Proofs.Ytiodjepjbooniaa.cq Go.Proofs.Ytiodjepjbooniaa.vk Go.Proofs.Ytiodjepjbooniaa.bk

set_option linter.unusedVariables false
/-- cells of blocks from B on stand, but where their type is in es -/
structure Kq (B : Nat) (es : List TypeId) (w w' : World) : Prop where
  size : w.heap.size ≤ w'.heap.size
  high : ∀ (k : Nat) (cs : Array Value) (t : TypeId) (fr : Nat × Nat), B ≤ k → w.heap[k]? = some (.cells cs t fr) → t ∉ es → w'.heap[k]? = some (.cells cs t fr)
theorem Kq.refl (B : Nat) (es : List TypeId) (w : World) : Kq B es w w := ⟨Nat.le_refl _, fun _ _ _ _ _ h _ => h⟩
theorem Kq.trans {B : Nat} {es : List TypeId} {a b c : World} (h : Kq B es a b) (k : Kq B es b c) : Kq B es a c := ⟨Nat.le_trans h.size k.size, fun i cs t fr hB hi ht => k.high i cs t fr hB (h.high i cs t fr hB hi ht) ht⟩
theorem Kq.mono {B B' : Nat} {es : List TypeId} {a b : World} (h : Kq B es a b) (hB : B ≤ B') : Kq B' es a b := ⟨h.size, fun i cs t fr hk hi ht => h.high i cs t fr (Nat.le_trans hB hk) hi ht⟩
theorem Kq.more {B : Nat} {es es' : List TypeId} {a b : World} (h : Kq B es a b) (hs : ∀ e ∈ es, e ∈ es') : Kq B es' a b := ⟨h.size, fun k cs t fr hB hk ht => h.high k cs t fr hB hk (fun hh => ht (hs t hh))⟩
theorem Kq.of_below {B : Nat} {es : List TypeId} {w w' : World} (h : Below w.heap.size w w') : Kq B es w w' := ⟨h.size, fun k cs t fr _ hk _ => (h.block k (Array.getElem?_eq_some_iff.1 hk).1).trans hk⟩
theorem Kq.of_low {B r : Nat} {es : List TypeId} {w w' : World} (h : w.grownBy w' (some r)) (hr : r < B) : Kq B es w w' := ⟨h.size, fun k cs t fr hB hk _ => (h.block k (Array.getElem?_eq_some_iff.1 hk).1 (fun e => by injection e with e; omega)).trans hk⟩
theorem Kq.of_kp {B : Nat} {es : List TypeId} {w w' : World} (h : Kp B es w w') : Kq B es w w' := ⟨h.below.size, fun k cs t fr _ hk ht => h.high k cs t fr hk ht⟩
theorem Kq.of_grown {B B' n size : Nat} {es : List TypeId} {w w' : World} {e : TypeId} {v : Value} {xs : List Value} (ho : w.ownsRow B' e size v n xs) (he : e ∈ es) (hg : w.grownBy w' v.ownBlock) : Kq B es w w' := by
  refine ⟨hg.size, fun k cs t fr _ hk ht => (hg.block k (Array.getElem?_eq_some_iff.1 hk).1 ?_).trans hk⟩
  intro hh
  rcases ho.2 with ⟨rfl, _⟩ | ⟨g1, cap1, cur1, rfl, _, hh1, _⟩
  · simp [Value.ownBlock] at hh
  · have : k = g1 := by injection hh
    subst this
    rw [hk] at hh1
    injection hh1 with hh1
    injection hh1 with _ h3 _
    exact ht (h3 ▸ he)
theorem Kq.of_set {B : Nat} {es : List TypeId} {w : World} {g i : Nat} {cs : Array Value} {t : TypeId} {fr : Nat × Nat} (v : Value) (h : w.heap[g]? = some (.cells cs t fr)) (ht : t ∈ es ∨ g < B) : Kq B es w (w.setCell ⟨g, i, none⟩ v) := by
  refine ⟨by simp, fun k cs' t' fr' hB hk ht' => ?_⟩
  have hne : k ≠ g := by
    rintro rfl
    rw [h] at hk
    injection hk with hk
    injection hk with _ h2 _
    rcases ht with ht | ht
    · exact ht' (h2 ▸ ht)
    · omega
  exact (Below.heap_setCell _ _ _ _ hne).trans hk
theorem Kq.of_own {B : Nat} {es : List TypeId} {w w' : World} {row : Option Nat} (hg : w.grownBy w' row) (hr : ∀ r, row = some r → ∃ o : Obj, w.heap[r]? = some o ∧ o.isCells = false) : Kq B es w w' := by
  refine ⟨hg.size, fun k cs t fr _ hk ht => (hg.block k (Array.getElem?_eq_some_iff.1 hk).1 ?_).trans hk⟩
  intro hh
  obtain ⟨o, ho, hc⟩ := hr k hh.symm
  rw [hk] at ho
  cases ho
  cases hc
def Sq (B : Nat) (es : List TypeId) (p : World → Prop) (w : World) : Prop := ∀ w', Kq B es w w' → p w'
theorem Sq.now {B : Nat} {es : List TypeId} {p : World → Prop} {w : World} (h : Sq B es p w) : p w := h w (Kq.refl _ _ _)
theorem Sq.keep {B : Nat} {es : List TypeId} {p : World → Prop} {w w' : World} (h : Sq B es p w) (k : Kq B es w w') : Sq B es p w' := fun w2 h2 => h w2 (k.trans h2)
theorem Sq.below {B : Nat} {es : List TypeId} {p : World → Prop} {w w' : World} (h : Sq B es p w) (k : Below w.heap.size w w') : Sq B es p w' := h.keep (Kq.of_below k)
theorem Sq.down {B B' : Nat} {es es' : List TypeId} {p : World → Prop} {w : World} (h : Sq B es p w) (hB : B' ≤ B) (hs : ∀ e ∈ es', e ∈ es) : Sq B' es' p w := fun w' k => h w' ((k.mono hB).more hs)
theorem Sq.imp {B : Nat} {es : List TypeId} {p q : World → Prop} {w : World} (h : Sq B es p w) (hpq : ∀ w', p w' → q w') : Sq B es q w := fun w' k => hpq w' (h w' k)
theorem Sq.st {B : Nat} {es : List TypeId} {p : World → Prop} {w : World} (h : Sq B es p w) : St B es p w := fun w' k => h w' (Kq.of_kp k)
theorem own_sq {B B' n size : Nat} {es : List TypeId} {w : World} {e : TypeId} {v : Value} {xs : List Value} (h : w.ownsRow B' e size v n xs) (hB : B ≤ B') (he : e ∉ es) : Sq B es (fun w' => w'.ownsRow B' e size v n xs) w := fun w' k => by
  refine ⟨h.1, ?_⟩
  rcases h.2 with h1 | ⟨g, cap, cur, h1, h2, h3, h4⟩
  · exact .inl h1
  · exact .inr ⟨g, cap, cur, h1, h2, k.high _ _ _ _ (Nat.le_trans hB h2) h3 he, h4⟩
theorem isI_own_sq {w : World} {B B' n : Nat} {es : List TypeId} {v : Value} {l : List Int} (h : w.ownsRow B' 3 1 v n (iv l)) (hB : B ≤ B') (hb : ∀ x ∈ l, I64 x) (he : 3 ∉ es) : ∃ A c, v = .slice A n c ∧ Sq B es (fun w' => wo.IsI w' A n c l) w := by
  obtain ⟨A, c, rfl⟩ := own_slice h
  refine ⟨A, c, rfl, (own_sq h hB he).imp fun w' h' => ?_⟩
  obtain ⟨A', n', c', e, hI⟩ := isV_own h' hb
  cases e
  exact hI
structure RowQ {α : Type} (E : World → Value → α → Prop) (B : Nat) (es : List TypeId) (e : TypeId) (w : World) (v : Value) (L : List α) (vals : List Value) : Prop where
  own : w.ownsRow B e 1 v L.length vals
  at' : ∀ (i : Nat) (x : α), L[i]? = some x → ∃ u : Value, vals[i]? = some u ∧ Sq B es (fun w' => E w' u x) w
theorem RowQ.len {α : Type} {E : World → Value → α → Prop} {B : Nat} {es : List TypeId} {e : TypeId} {w : World} {v : Value} {L : List α} {vals : List Value} (h : RowQ E B es e w v L vals) : vals.length = L.length := by have := h.own.1; omega
theorem RowQ.nil {α : Type} (E : World → Value → α → Prop) (B : Nat) (es : List TypeId) (e : TypeId) (w : World) : RowQ E B es e w (.slice none 0 0) [] [] := ⟨World.ownsRow_nil _ _ _ _, fun i x h => by simp at h⟩
theorem RowQ.start {α : Type} {E : World → Value → α → Prop} {B : Nat} {es : List TypeId} {e : TypeId} {w : World} {v : Value} (h : w.ownsRow B e 1 v 0 []) : RowQ E B es e w v ([] : List α) [] := ⟨h, fun i x h => by simp at h⟩
theorem RowQ.below {α : Type} {E : World → Value → α → Prop} {B : Nat} {es : List TypeId} {e : TypeId} {w w' : World} {v : Value} {L : List α} {vals : List Value} (h : RowQ E B es e w v L vals) (hb : Below w.heap.size w w') : RowQ E B es e w' v L vals :=
  ⟨keptB h.own hb, fun i x hx => by obtain ⟨u, h1, h2⟩ := h.at' i x hx; exact ⟨u, h1, h2.below hb⟩⟩
theorem RowQ.push {α : Type} {E : World → Value → α → Prop} {B : Nat} {es : List TypeId} {e : TypeId} {w w' : World} {v v' : Value} {L : List α} {vals : List Value} {u : Value} {x : α} (h : RowQ E B es e w v L vals) (he : e ∈ es) (hs : Sq B es (fun w' => E w' u x) w)
    (o : Obj) (hg : (w.alloc o).grownBy w' v.ownBlock) (ho : w'.ownsRow B e 1 v' (L.length + 1) (vals ++ [u])) : RowQ E B es e w' v' (L ++ [x]) (vals ++ [u]) := by
  have hk : Kq B es w w' := by
    have h1 : Kq B es w (w.alloc o) := Kq.of_below (below_new w o)
    refine h1.trans (Kq.of_grown (keptB h.own (below_new w o)) he hg)
  have hl := h.len
  refine ⟨by simpa using ho, fun i y hy => ?_⟩
  rcases Nat.lt_trichotomy i L.length with hi | hi | hi
  · rw [List.getElem?_append_left hi] at hy
    obtain ⟨z, h1, h2⟩ := h.at' i y hy
    exact ⟨z, by rw [List.getElem?_append_left (by omega)]; exact h1, h2.keep hk⟩
  · subst hi
    rw [List.getElem?_append_right (Nat.le_refl _), Nat.sub_self] at hy
    simp at hy
    subst hy
    exact ⟨u, by rw [← hl, List.getElem?_append_right (Nat.le_refl _), Nat.sub_self]; rfl, hs.keep hk⟩
  · rw [List.getElem?_eq_none (by simp; omega)] at hy; cases hy
theorem RowQ.isVV {B : Nat} {es : List TypeId} {w : World} {v : Value} {L : VV} {vals : List Value} (h : RowQ IsV B es 22 w v L vals) : ∃ A c, v = .slice A L.length c ∧ IsVV w A L.length c L := by
  have hl := h.len
  rcases h.own.2 with ⟨hv, hn0⟩ | ⟨g, cap, cur, hv, hb2, hh, h3, h4, h5, h6⟩
  · subst hv
    exact ⟨none, 0, by rw [hn0], rfl, by omega, by omega, fun k l hk => by have := (List.getElem?_eq_some_iff.1 hk).1; omega⟩
  · subst hv
    refine ⟨_, _, rfl, rfl, h3, by unfold maxLen at h4; omega, fun k l hk => ?_⟩
    obtain ⟨u, hu, hs⟩ := h.at' k l hk
    obtain ⟨A', n', c', rfl, hI⟩ := hs.now
    have hc := h.own.cells rfl k _ hu
    rw [wk.add_at] at hc
    exact ⟨g, 0, A', n', c', rfl, (Array.getElem?_eq_some_iff.1 hh).1, hc, hI⟩
theorem RowQ.isVV_sq {B : Nat} {es es' : List TypeId} {w : World} {v : Value} {L : VV} {vals : List Value} (h : RowQ IsV B es 22 w v L vals) (hs : ∀ x ∈ es', x ∈ es) (he : 22 ∉ es') : ∃ A c, v = .slice A L.length c ∧ Sq B es' (fun w' => IsVV w' A L.length c L) w := by
  obtain ⟨A, c, rfl⟩ := own_slice h.own
  refine ⟨A, c, rfl, fun w' k => ?_⟩
  have h' : RowQ IsV B es' 22 w' (.slice A L.length c) L vals :=
    ⟨own_sq (B := B) h.own (Nat.le_refl _) he w' k, fun i x hx => by obtain ⟨u, h1, h2⟩ := h.at' i x hx; exact ⟨u, h1, (h2.down (Nat.le_refl _) hs).keep k⟩⟩
  obtain ⟨A', c', e, hI⟩ := h'.isVV
  cases e
  exact hI
theorem RowQ.isW {B : Nat} {es : List TypeId} {w : World} {v : Value} {L : List VV} {vals : List Value} (h : RowQ IsZ B es 39 w v L vals) : ∃ A c, v = .slice A L.length c ∧ IsW w A L.length c L := by
  have hl := h.len
  rcases h.own.2 with ⟨hv, hn0⟩ | ⟨g, cap, cur, hv, hb2, hh, h3, h4, h5, h6⟩
  · subst hv
    exact ⟨none, 0, by rw [hn0], rfl, by omega, by omega, fun k l hk => by have := (List.getElem?_eq_some_iff.1 hk).1; omega⟩
  · subst hv
    refine ⟨_, _, rfl, rfl, h3, by unfold maxLen at h4; omega, fun k l hk => ?_⟩
    obtain ⟨u, hu, hs⟩ := h.at' k l hk
    obtain ⟨A', n', c', rfl, hI⟩ := hs.now
    have hc := h.own.cells rfl k _ hu
    rw [wk.add_at] at hc
    exact ⟨g, 0, A', n', c', rfl, (Array.getElem?_eq_some_iff.1 hh).1, hc, hI⟩
theorem RowQ.isW_sq {B : Nat} {es es' : List TypeId} {w : World} {v : Value} {L : List VV} {vals : List Value} (h : RowQ IsZ B es 39 w v L vals) (hs : ∀ x ∈ es', x ∈ es) (he : 39 ∉ es') : ∃ A c, v = .slice A L.length c ∧ Sq B es' (fun w' => IsW w' A L.length c L) w := by
  obtain ⟨A, c, rfl⟩ := own_slice h.own
  refine ⟨A, c, rfl, fun w' k => ?_⟩
  have h' : RowQ IsZ B es' 39 w' (.slice A L.length c) L vals :=
    ⟨own_sq (B := B) h.own (Nat.le_refl _) he w' k, fun i x hx => by obtain ⟨u, h1, h2⟩ := h.at' i x hx; exact ⟨u, h1, (h2.down (Nat.le_refl _) hs).keep k⟩⟩
  obtain ⟨A', c', e, hI⟩ := h'.isW
  cases e
  exact hI
theorem RowQ.own_from {α : Type} {E : World → Value → α → Prop} {B : Nat} {es : List TypeId} {e : TypeId} {w w' : World} {v : Value} {L : List α} {vals : List Value} (h : RowQ E B es e w v L vals) {row : Option Nat} (hg : w.grownBy w' row) (hr : ∀ r, row = some r → ∃ o : Obj, w.heap[r]? = some o ∧ o.isCells = false) : RowQ E B es e w' v L vals := by
  refine ⟨World.ownsRow.kept h.own hg ?_, fun i x hx => by
    obtain ⟨u, h1, h2⟩ := h.at' i x hx
    exact ⟨u, h1, h2.keep (Kq.of_own hg hr)⟩⟩
  cases hv : v.ownBlock with
  | none => exact .inl rfl
  | some b =>
    refine .inr fun he => ?_
    obtain ⟨o, ho, hc⟩ := hr b he.symm
    rcases h.own.2 with ⟨rfl, _⟩ | ⟨g1, cap1, cur1, rfl, _, hh1, _⟩
    · simp [Value.ownBlock] at hv
    · have : g1 = b := by simpa [Value.ownBlock] using hv
      subst this
      rw [hh1] at ho
      cases ho
      cases hc
theorem RowQ.setBox {α : Type} {E : World → Value → α → Prop} {B S i : Nat} {es : List TypeId} {e : TypeId} {w : World} {v : Value} {L : List α} {vals : List Value} (h : RowQ E B es e w v L vals) {cs : Array Value} {t : TypeId} {fr : Nat × Nat} (hs : w.heap[S]? = some (.cells cs t fr)) (ht : t ∈ es ∨ S < B) (hne : t ≠ e) (u : Value) : RowQ E B es e (w.setCell ⟨S, i, none⟩ u) v L vals := by
  refine ⟨⟨h.own.1, ?_⟩, fun j x hx => by
    obtain ⟨z, h1, h2⟩ := h.at' j x hx
    exact ⟨z, h1, h2.keep (Kq.of_set u hs ht)⟩⟩
  rcases h.own.2 with h1 | ⟨g, cap, cur, h1, h2, h3, h4⟩
  · exact .inl h1
  · refine .inr ⟨g, cap, cur, h1, h2, ?_, h4⟩
    have hg : g ≠ S := by
      rintro rfl
      rw [hs] at h3
      injection h3 with h3
      injection h3 with _ h5 _
      exact hne h5
    exact (Below.heap_setCell _ _ _ _ hg).trans h3
end Go.Proofs.Ytiodjepjbooniaa.uk
/- Table. -/
namespace Go.Proofs.Ytiodjepjbooniaa.uk

open Go.ChangeShapes Go.WideShapes Go.ChangeAt Go.RowKit

open Go.Proofs.Ytiodjepjbooniaa.cq Go.Proofs.Ytiodjepjbooniaa.vk Go.Proofs.Ytiodjepjbooniaa.bk Go.Proofs.Ytiodjepjbooniaa.wk

set_option linter.unusedVariables false
attribute [local go_sem] Oper.semAt_some
theorem Turn.grown {M : List Nat} {B r : Nat} {W W' : World} (h : W.grownBy W' (some r)) (hr : r ∈ M) (hB : r < B) (hW : B ≤ W.heap.size) : Turn M B W W' :=
  ⟨KeepsFrom.of_grownBy h (fun j hj => by cases hj; exact hB), ⟨h.os, h.tape, h.output, h.size, fun k hk hm => h.block k (by omega) (fun e => by injection e with e; subst e; exact hm hr)⟩⟩
def Row1 (w : World) (g : Nat) (t : TypeId) (v : Value) : Prop := w.heap[g]? = some (.cells #[v] t (0, 0))
theorem Row1.lt {w : World} {g : Nat} {t : TypeId} {v : Value} (h : Row1 w g t v) : g < w.heap.size := (Array.getElem?_eq_some_iff.1 h).1
theorem Row1.below {w w' : World} {g : Nat} {t : TypeId} {v : Value} (h : Row1 w g t v) (hb : Below w.heap.size w w') : Row1 w' g t v := (hb.block g h.lt).trans h
theorem Row1.new (w : World) (t : TypeId) (v : Value) : Row1 (w.alloc (.cells #[v] t)) w.heap.size t v := heap_alloc_new w _
theorem Row1.cells {w : World} {g : Nat} {t : TypeId} {v : Value} (h : Row1 w g t v) : ∀ j u, [v][j]? = some u → w.cell? ((⟨g, 0, none⟩ : Addr).add j) = some u := fun j u hu => by
  rw [wk.add_at, Nat.zero_add, cell_of_row _ _ _ _ _ _ h]
  simpa using hu
def rowk (m : Int) (b : Bk) (q : List Int) (k : Nat) : List Int := trow m q (b.W.getD k [], spa (sp b.cuts b.d) k)
theorem tbl_range {m : Int} {b : Bk} (hR : Rt b) (q : List Int) : tbl m b q = (List.range b.cuts.length).map (rowk m b q) := by
  refine List.ext_getElem? fun k => ?_
  rcases Nat.lt_or_ge k b.cuts.length with hk | hk
  · have hl := List.getElem?_eq_getElem (show k < b.W.length by rw [hR.wl]; exact hk)
    have hy := List.getElem?_eq_getElem hk
    rw [tbl_at hl hy, List.getElem?_map, List.getElem?_range hk]
    simp only [Option.map_some, rowk]
    rw [spa_of (sp_at hy), List.getD_eq_getElem?_getD, hl]; rfl
  · rw [List.getElem?_eq_none (by rw [tbl_len hR, hR.wl]; exact hk), List.getElem?_eq_none (by simpa using hk)]
theorem map_range {α : Type} {n : Nat} {ys : List (Nth n)} (hy : ys.map (·.1) = List.range n) (f : Nat → α) : ys.map (fun x => f x.1) = (List.range n).map f := by
  rw [← hy, List.map_map]; rfl
theorem mem_pt {q : List Int} {p : Int × Int} {x : Int} (h : x ∈ pt q p) : x ∈ q := List.mem_of_mem_drop (List.mem_of_mem_take h)
/-- 'q[from:to]' -/
theorem run_part {A : Option Addr} {n c : Nat} {l : List Int} {w0 : World} (h : wo.IsI w0 A n c l) {x y : Int} (h0 : 0 ≤ x) (h1 : x < y) (h2 : y ≤ n) :
    ∃ A' c', (∀ w', (Instr.slice 22 (.slice A n c) (some (.int .i64 x)) (some (.int .i64 y)) none).run Try.prog w' = .ok (.slice A' (y - x).toNat c') w') ∧ (∀ w', Below w0.heap.size w0 w' → wo.IsI w' A' (y - x).toNat c' (pt l (x, y))) := by
  have hl := h.1
  have hnc := h.2.1
  have ht : Try.prog.underlying 22 = some (.slice (Try.prog.elem 22)) := by simp [Program.elem, Try.underlying22]
  have he : Try.prog.elem 22 = 3 := by simp [Program.elem, Try.underlying22]
  obtain ⟨b, o, rfl, hb, hc⟩ := h.2.2.2.1 (by simp; omega)
  refine ⟨some ⟨b, o + x.toNat, none⟩, c - x.toNat, fun w' => ?_, fun w' hw => ?_⟩
  · rw [run_slice_lh w' 22 _ n c ht .i64 .i64 x y (by omega) (by omega) (by omega), he, wk.run_sizeOf w' 3 1 (by kernel_rfl)]
    simp only [Result.andThen, sliced]
    rw [if_neg (by omega), show (y - x).toNat = y.toNat - x.toNat by omega]
    simp [wk.add_at]
  · have hlen : (pt l (x, y)).length = (y - x).toNat := by simp only [pt, List.length_take, List.length_drop]; omega
    refine ⟨hlen, by omega, by have := h.2.2.1; omega, fun _ => ⟨b, o + x.toNat, rfl, Nat.lt_of_lt_of_le hb hw.size, fun j u hu => ?_⟩, fun z hz => h.2.2.2.2 z (List.mem_of_mem_drop (List.mem_of_mem_take hz))⟩
    have hj := (List.getElem?_eq_some_iff.1 hu).1
    rw [List.length_map, hlen] at hj
    rw [hw.cell (p := ⟨b, o + x.toNat + j, none⟩) hb, Nat.add_assoc]
    refine hc (x.toNat + j) u ?_
    rw [← hu]
    simp only [pt, List.map_take, List.map_drop]
    rw [List.getElem?_take_of_lt (by omega), List.getElem?_drop]
set_option maxRecDepth 100000 in
set_option maxHeartbeats 4000000 in
theorem table_calls (v : Value) (b : Bk) (m : Int) (A : Option Addr) (n c : Nat) (q : List Int) (w : World) (h : IsBk w v b) (hR : Rt b) (hm1 : 1 ≤ m) (hm3 : m ≤ 3) (h2 : wo.IsI w A n c q) (hq : vq.Vec q) (hnd : (n : Int) = b.d) :
    Calls Try.prog 26 #[v, .int .i64 m, .slice A n c] w fun e w' => ∃ A' n' c', e = .returned (.slice A' n' c') ∧ Sq w.heap.size [] (fun w2 => IsVV w2 A' n' c' (tbl m b q)) w' ∧ Below w.heap.size w w' := by
  obtain ⟨A0, n0, c0, AW, nW, cW, rfl, hi, hW, hd⟩ := h
  obtain ⟨i0, hi9, hz0, hz1, hz2⟩ := info_parts infoVz
  obtain ⟨i1, hj9, hj0, hj1, hj2⟩ := info_parts infoIz
  have hmq := h2.2.2.1
  have hncq := h2.2.1
  have hm0 := hi.2.2.1
  have hnc0 := hi.2.1
  have hmW := hW.2.2.1
  have hncW := hW.2.1
  have hn0 : n0 = nW := by have := hi.1; have := hW.1; have := hR.wl; omega
  subst hn0
  have hn8 : n0 ≤ 8 := by have := hW.1; have := hR.wl; have := hR.div.n8; omega
  have hn1 : 1 ≤ n0 := by have := hW.1; have := hR.wl; have := hR.div.n1; omega
  have hB0 : Below w.heap.size w (((w.alloc (.cells #[.int .i64 b.d, .slice A0 n0 c0, .slice AW n0 cW] 25)).alloc (.cells #[.int .i64 m] 3)).alloc (.cells #[.slice A n c] 22)) := Below.andThen (Below.andThen (below_new w _) (below_new _ _)) (below_new _ _)
  have hT0 : Three (((w.alloc (.cells #[.int .i64 b.d, .slice A0 n0 c0, .slice AW n0 cW] 25)).alloc (.cells #[.int .i64 m] 3)).alloc (.cells #[.slice A n c] 22)) w.heap.size (.int .i64 b.d) (.slice A0 n0 c0) (.slice AW n0 cW) := ((Three.new w _ _ _).below (below_new _ _)).below (below_new _ _)
  have hM0 : Box (((w.alloc (.cells #[.int .i64 b.d, .slice A0 n0 c0, .slice AW n0 cW] 25)).alloc (.cells #[.int .i64 m] 3)).alloc (.cells #[.slice A n c] 22)) (w.heap.size + 1) (.int .i64 m) := by have := (Box.new (w.alloc (.cells #[.int .i64 b.d, .slice A0 n0 c0, .slice AW n0 cW] 25)) (.int .i64 m) 3).below (below_new _ (.cells #[.slice A n c] 22)); rw [size_new] at this; exact this
  have hQ0 : Box (((w.alloc (.cells #[.int .i64 b.d, .slice A0 n0 c0, .slice AW n0 cW] 25)).alloc (.cells #[.int .i64 m] 3)).alloc (.cells #[.slice A n c] 22)) (w.heap.size + 1 + 1) (.slice A n c) := by have := Box.new ((w.alloc (.cells #[.int .i64 b.d, .slice A0 n0 c0, .slice AW n0 cW] 25)).alloc (.cells #[.int .i64 m] 3)) (.slice A n c) 22; rw [size_new, size_new] at this; exact this
  have HDV := Lib.hid (divided_calls b.d A0 n0 c0 b.cuts _ (isI_below hi hB0) hd)
  rw [hR.dv] at HDV
  have HI := Lib.hid hi
  have HW := Lib.hid hW
  have HQI := Lib.hid h2
  have HVQ := Lib.hid hq
  have HD := Lib.hid hd
  have HR := Lib.hid hR
  have hc0 := hT0.c0
  have hc1 := hT0.c1
  have hc2 := hT0.c2
  have hcq := hQ0.cell
  have HT := Lib.hid hT0
  have HM := Lib.hid hM0
  have HQ := Lib.hid hQ0
  have HB0 := Lib.hid hB0
  have hne : ((n : Int) != b.d) = false := by rw [hnd]; simp
  have HIL : Hid (n0 = b.cuts.length) := hi.1.symm
  have HND := Lib.hid hnd
  clear hi hW hd hT0 hM0 hQ0 hB0 h2 hq hR hnd
  refine enter_marks Try.func26 rfl ?_
  simp only [Try.ntmps26, List.size_toArray, List.length_cons, List.length_nil, Nat.reduceAdd, Nat.reduceSub, Array.replicate_succ, Array.replicate_zero, List.push_toArray, List.append_toArray, List.nil_append, List.cons_append]
  go_wp2_with fail
  refine HDV.out.mono ?_
  rintro e w1 ⟨rfl, hb1⟩
  have HB1 := Lib.hid (HB0.out.trans (hb1.mono HB0.out.size))
  have hT1 := HT.out.below hb1
  have hM1 := HM.out.below hb1
  have hQ1 := HQ.out.below hb1
  clear HDV hb1 hc0 hc1 hc2 hcq HT HM HQ HB0
  have hc0 := hT1.c0
  have hc1 := hT1.c1
  have hc2 := hT1.c2
  have hcq := hQ1.cell
  have hs1 := hQ1.lt
  have HT1 := Lib.hid hT1
  have HM1 := Lib.hid hM1
  have HQ1 := Lib.hid hQ1
  clear hT1 hM1 hQ1
  generalize hG : w.heap.size = G at *
  have hnI : (i0.bytes : Nat) * n0 ≤ 281474976710656 := by rw [hz2]; omega
  obtain ⟨w2, hmk, hown, hgr⟩ := run_make_own (P := Try.prog) w1 G 39 22 i0 (.slice none 0 0) 1 Try.underlying39 hi9 hz0 hz1 .i64 .i64 n0 hnI (by unfold maxLen; omega) (by omega)
  have hb2 : Below w1.heap.size w1 w2 := (Below.refl _ _).grown hgr (Nat.le_refl _) (fun k hk => by cases hk)
  have HB2 : Hid (Below G w w2) := HB1.out.trans (hb2.mono (by omega))
  have HT2 := Lib.hid (HT1.out.below hb2)
  have HM2 := Lib.hid (HM1.out.below hb2)
  have HQ2 := Lib.hid (HQ1.out.below hb2)
  have HOWN := Lib.hid hown
  have hs2 : w1.heap.size < w2.heap.size := (hown.lt _ rfl).2
  clear hown hgr hb2 HT1 HM1 HQ1
  have hb3 := below_new w2 (.cells #[.slice (some ⟨w1.heap.size, 0, none⟩) 0 n0] 39)
  have hT3 := HT2.out.below hb3
  have hO3 := One.new w2 39 (.slice (some ⟨w1.heap.size, 0, none⟩) 0 n0)
  have HM3 := Lib.hid (HM2.out.below hb3)
  have HQ3 := Lib.hid (HQ2.out.below hb3)
  have HOWN3 := Lib.hid (keptB HOWN.out hb3)
  have HB3 : Hid (Below G w (w2.alloc (.cells #[.slice (some ⟨w1.heap.size, 0, none⟩) 0 n0] 39))) := HB2.out.trans (hb3.mono (by omega))
  have hs3 := size_new w2 (.cells #[.slice (some ⟨w1.heap.size, 0, none⟩) 0 n0] 39)
  have hd0 := hT3.c0
  have hd1 := hT3.c1
  have HT3 := Lib.hid hT3
  have HO3 := Lib.hid hO3
  clear hb3 hT3 hO3 HT2 HM2 HQ2 HOWN
  go_wp2_with fail
  refine (parts_calls _ _ _ _ _).mono ?_
  rintro e w' ⟨rfl, rfl⟩
  unfold partsF
  clear hmk hc0 hc1 hc2 hcq hd0 hd1
  generalize (w2.alloc (.cells #[.slice (some ⟨w1.heap.size, 0, none⟩) 0 n0] 39)) = w3 at *
  generalize hr0 : w1.heap.size = r0 at *
  generalize hSS : w2.heap.size = S at *
  have hx2 := alloc2 w3 (.int .i64 b.d) (.slice A0 n0 c0) 3 22
  have hs4 : ((w3.alloc (.cells #[.int .i64 b.d] 3)).alloc (.cells #[.slice A0 n0 c0] 22)).heap.size = S + 3 := by simp only [size_new, hs3]
  rw [hs3] at hx2
  have hx22 : Below w3.heap.size w3 ((w3.alloc (.cells #[.int .i64 b.d] 3)).alloc (.cells #[.slice A0 n0 c0] 22)) := by rw [hs3]; exact hx2.2.2
  have HT4 := Lib.hid (HT3.out.below hx22)
  have HO4 := Lib.hid (HO3.out.below hx22)
  have HM4 := Lib.hid (HM3.out.below hx22)
  have HQ4 := Lib.hid (HQ3.out.below hx22)
  have HOWN4 := Lib.hid (keptB HOWN3.out hx22)
  have HB4 : Hid (Below G w ((w3.alloc (.cells #[.int .i64 b.d] 3)).alloc (.cells #[.slice A0 n0 c0] 22))) := HB3.out.trans (hx22.mono (by omega))
  rw [hs3]
  generalize (w3.alloc (.cells #[.int .i64 b.d] 3)).alloc (.cells #[.slice A0 n0 c0] 22) = w4 at *
  have HX2 := Lib.hid hx2
  clear HT3 HO3 HM3 HQ3 HOWN3 HB3 hx22 hx2
  go_wp2_with fail
  have hGr : G ≤ r0 := by omega
  refine range_parts' (some 8) 9 G (S + 1 + 1) (S + 1) [S, r0] A0 n0 c0 b.cuts b.d ?cg ?c1 ?c2 ?c0 ?c3 ?c0' ?c3' HD.out ?c4 ?c6 (fun pre W => One W S 39 (.slice (some ⟨r0, 0, none⟩) pre.length n0) ∧ ∃ vals, RowQ IsV G [22, 39] 22 W (.slice (some ⟨r0, 0, none⟩) pre.length n0) (pre.map fun x => rowk m b q x.1) vals) (fun c W => False) ?c7 ?c8 ?c9 ?hassign ?hbody ?hdone ?hstop
  case cg => rfl
  case c0 => exact HX2.out.2.1
  case c0' => exact HX2.out.1
  case c1 => intro j hj; simp only [List.mem_cons, List.not_mem_nil, or_false] at hj; omega
  case c2 => omega
  case c3 => intro hh; simp only [List.mem_cons, List.not_mem_nil, or_false] at hh; omega
  case c3' => intro hh; simp only [List.mem_cons, List.not_mem_nil, or_false] at hh; omega
  case c4 => intro j hj; simp only [List.mem_cons, List.not_mem_nil, or_false] at hj; omega
  case c6 =>
    intro w' hb
    have hb' : Below G w w' := HB4.out.trans hb
    rw [← hG] at hb'
    exact isI_below HI.out hb'
  case c7 =>
    intro s W W' row hs hg hr
    obtain ⟨h1, vals, h2⟩ := hs
    have hlt := h1.lt
    have hr0lt := (h2.own.lt _ rfl).2
    refine ⟨h1.at (hg.block S hlt fun e => ?_), vals, h2.own_from hg (fun r e => (hr r e).2)⟩
    have := (hr S e.symm).1
    omega
  case c8 => intro c' s W W' row hs; exact hs.elim
  case c9 => exact ⟨HO4.out, [], RowQ.start HOWN4.out⟩
  case hassign =>
    intro l m i a b W K hK
    unfold rng at hK ⊢
    simp only [roundT, List.setIfInBounds_toArray, List.set_cons_succ, List.set_cons_zero] at hK ⊢
    gi_wp2
    exact hK
  case hbody =>
    rintro l mm pre x Bx W hBx hT hx ⟨hO, vals, hRow⟩ hlen
    simp only [roundT, List.setIfInBounds_toArray, List.set_cons_succ, List.set_cons_zero]
    have hxlt := x.2
    have hcut : b.cuts[x.1]? = some (b.cuts[x.1]'(by rw [← HIL.out]; exact x.2)) := List.getElem?_eq_getElem _
    have hDA := HR.out.div.at hcut
    have hspa := spa_of (sp_at (d := b.d) hcut)
    have hGW : Below G w W := HB4.out.trans (hx.below (by omega) (by intro j hj; simp only [List.mem_cons, List.not_mem_nil, or_false] at hj; omega))
    have hGW' := hGW
    rw [← hG] at hGW'
    obtain ⟨b', o', A7, n7, c7, L7, rfl, hbW, hcW, hV7, hL7⟩ := isW_get (isW_below HW.out hGW') x.2
    have hrk : rowk m b q x.1 = trow m q (L7, spa (sp b.cuts b.d) x.1) := by unfold rowk; rw [List.getD_eq_getElem?_getD, hL7]; rfl
    have hok7 := HR.out.ok _ _ _ hL7 hcut
    have hn7 : n7 ≤ 256 := by rw [← hV7.1]; exact hok7.1.2
    have hm7 := hV7.2.2.1
    have hnc7 := hV7.2.1
    have hwl := hx.size
    have hTW := HT4.out.at (hx.block G (by omega) (by simp; omega))
    have hMW := Box.at HM4.out (hx.block (G + 1) (by omega) (by simp; omega))
    have hQW := Box.at HQ4.out (hx.block (G + 1 + 1) (by omega) (by simp; omega))
    have hc2 := hTW.c2
    rw [hspa] at hT hrk ⊢
    dsimp only at hT ⊢
    have hyd : endAt b.cuts b.d x.1 ≤ (n : Int) := by rw [HND.out]; exact hDA.2.2
    have hPT := run_part HQI.out hDA.1 hDA.2.1 hyd
    generalize b.cuts[x.1]'(by rw [← HIL.out]; exact x.2) = y0 at *
    generalize endAt b.cuts b.d x.1 = y1 at *
    obtain ⟨A5, c5, hsl, hpart⟩ := hPT
    have hxi : ((x.1 : Nat) : Int) < (n0 : Int) := by omega
    have hnJ : (i1.bytes : Nat) * n7 ≤ 281474976710656 := by rw [hj2]; omega
    obtain ⟨W1, hmk, hown, hgr⟩ := run_make_own (P := Try.prog) W W.heap.size 22 3 i1 (.int .i64 0) 1 Try.underlying22 hj9 hj0 hj1 .i64 .i64 n7 hnJ (by unfold maxLen; omega) (Nat.le_refl _)
    have hbW1 : Below W.heap.size W W1 := (Below.refl _ _).grown hgr (Nat.le_refl _) (fun k hk => by cases hk)
    have hT1 := hTW.below hbW1
    have hc3 := hT1.c2
    have hcW1 := (hbW1.cell (p := ⟨b', o' + x.1, none⟩) hbW).trans hcW
    have HSL := Lib.hid hsl
    have HPART := Lib.hid hpart
    have HV7 := Lib.hid hV7
    have HOK7 := Lib.hid hok7
    have HRK := Lib.hid hrk
    have HTW := Lib.hid hTW
    have HMW := Lib.hid hMW
    have HQW := Lib.hid hQW
    have HTB := Lib.hid hT
    have HGW := Lib.hid hGW
    have HOWN1 := Lib.hid hown
    have HBW1 := Lib.hid hbW1
    have HROW := Lib.hid hRow
    have HX := Lib.hid hx
    have HO := Lib.hid hO
    generalize hBk : W.heap.size = Bk at *
    have HBK := Lib.hid hBk
    clear hcut hspa hGW' hGW hV7 hok7 hrk hTW hMW hQW hT hown hgr hbW1 hRow hx hO hsl hpart hT1 hDA hyd hL7 hBk
    gi_wp2
    gi_loopw [10, 59] (fun u y wr => ∃ (j : Nat) (v0 : Value), j ≤ n7 ∧ v0 = u ∧ y = .int .i64 (j : Int) ∧ wr.ownsRow Bk 3 1 v0 j (iv ((trow m q (L7, (y0, y1))).take j)) ∧ Below Bk W wr) (fun _ y _ => n7 - (intOf y).toNat)
    case atStart => exact ⟨0, _, Nat.zero_le _, rfl, rfl, HOWN1.out, HBW1.out⟩
    case round =>
      obtain ⟨j, v0, hj, rfl, rfl, hown, hbel⟩ := hrel
      have HOWN2 := Lib.hid hown
      have HBEL := Lib.hid hbel
      by_cases hlt : j < n7
      · have hbelW : Below W.heap.size W wr := by rw [HBK.out]; exact hbel
        obtain ⟨b8, o8, A8, n8, c8, l8, rfl, hb8, hc8, hI8, hL8⟩ := isVV_get (isVV_below HV7.out hbelW) hlt
        have hw8 := HOK7.out.2 l8 (List.mem_of_getElem? hL8)
        obtain rfl : n8 = (y1 - y0).toNat := by have := hI8.1; have := hw8.1; omega
        have hp32 : (y1 - y0).toNat ≤ 32 := by have := hw8.2.le; have := hI8.1; omega
        have hgw : Below w.heap.size w wr := by rw [hG]; exact HGW.out.trans (hbel.mono (by have := HGW.out.size; have := HBK.out; omega))
        have hptl : (pt q (y0, y1)).length = (y1 - y0).toNat := (HPART.out wr hgw).1
        have hptv : vq.Vec (pt q (y0, y1)) := ⟨by rw [hptl, ← hI8.1]; exact hw8.2.pos, by omega, fun x hx => HVQ.out.lo x (mem_pt hx), fun x hx => HVQ.out.hi x (mem_pt hx)⟩
        have HKC := Lib.hid (fun w' (hb : Below wr.heap.size wr w') => key_calls m A8 A5 (y1 - y0).toNat c8 c5 l8 (pt q (y0, y1)) w' (by omega) (by omega) (isI_below hI8 hb) (HPART.out w' (hgw.trans (hb.mono hgw.size))) (vq.sub_bound hw8.2 hptv) hp32)
        have htr : (trow m q (L7, (y0, y1)))[j]? = some (vq.key m l8 (pt q (y0, y1))) := by unfold trow; rw [List.getElem?_map, hL8]; rfl
        have HS : Hid ((trow m q (L7, (y0, y1))).take (j + 1) = (trow m q (L7, (y0, y1))).take j ++ [vq.key m l8 (pt q (y0, y1))]) := by
          show _ = _
          rw [List.take_add_one, htr]; rfl
        have HMR := Lib.hid (HMW.out.below hbelW)
        have HQR := Lib.hid (HQW.out.below hbelW)
        have HTR := Lib.hid (HTB.out.below hbelW)
        have hlt0 : (j : Int) < (n7 : Int) := by omega
        generalize vq.key m l8 (pt q (y0, y1)) = z at *
        clear hown hbel hbelW hI8 hL8 hw8 hptl hptv htr hgw
        gi_wp2
        refine wk.region_tailK_in l (by kernel_rfl) (fun ⟨_, _, h⟩ => h) 11 [.is (v0), .is (.int .i64 m), .is (.slice A8 (y1 - y0).toNat c8), .is (.slice A n c), .is (.pointer (some ⟨Bx, 0, none⟩)), .is (.int .i64 y0), .is (.pointer (some ⟨Bx, 1, none⟩)), .is (.int .i64 y1), .is (.slice A5 (y1 - y0).toNat c5), .is (.int .i64 z), .st (fun u x => ∃ g, x = .slice (some ⟨g, 0, none⟩) 1 1 ∧ Row1 u g 3 (.int .i64 z)) (fun u u2 x h hb => by obtain ⟨g, h1, h2⟩ := h; exact ⟨g, h1, h2.below hb⟩)] [some 63, some 64, some 65, some 66, some 67, some 68, some 69, some 70, some 71, some 72, some 73] (by kernel_rfl) (by kernel_rfl) (by kernel_rfl) (by kernel_rfl) [] (by kernel_rfl) (by intro p hp; cases hp) (by kernel_rfl) (by kernel_rfl) ?rstep ?rdone
        case rstep =>
          intro i o ho hi hns E w4 hb4 D hold
          have hi2 : i = 0 ∨ i = 1 ∨ i = 2 ∨ i = 3 ∨ i = 4 ∨ i = 5 ∨ i = 6 ∨ i = 7 ∨ i = 8 ∨ i = 9 ∨ i = 10 := by omega
          clear hi
          rcases hi2 with rfl | rfl | rfl | rfl | rfl | rfl | rfl | rfl | rfl | rfl | rfl
          ·
            have ho2 := (Array.getElem?_eq_some_iff.1 ho).2
            simp only [List.getElem_toArray, List.getElem_cons_zero] at ho2
            subst ho2
            clear ho
            have e10 := hold 10 (by kernel_rfl)
            exact wk.does_move rfl (by rw [e10]; rfl)
          ·
            have ho2 := (Array.getElem?_eq_some_iff.1 ho).2
            simp only [List.getElem_toArray, List.getElem_cons_succ, List.getElem_cons_zero] at ho2
            subst ho2
            clear ho
            have e4 := D.old 4 (by kernel_rfl)
            exact wk.does_load1 rfl (by rw [e4]; rfl) ((HMR.out.below ((Below.refl _ _).drew.trans hb4 : Below wr.heap.size wr w4)).cell) Try.underlying3 rfl rfl
          ·
            have ho2 := (Array.getElem?_eq_some_iff.1 ho).2
            simp only [List.getElem_toArray, List.getElem_cons_succ, List.getElem_cons_zero] at ho2
            subst ho2
            clear ho
            have e12 := D.old 12 (by kernel_rfl)
            exact wk.does_move rfl (by rw [e12]; rfl)
          ·
            have ho2 := (Array.getElem?_eq_some_iff.1 ho).2
            simp only [List.getElem_toArray, List.getElem_cons_succ, List.getElem_cons_zero] at ho2
            subst ho2
            clear ho
            have e5 := D.old 5 (by kernel_rfl)
            exact wk.does_load1 rfl (by rw [e5]; rfl) ((HQR.out.below ((Below.refl _ _).drew.trans hb4 : Below wr.heap.size wr w4)).cell) Try.underlying22 rfl rfl
          ·
            have ho2 := (Array.getElem?_eq_some_iff.1 ho).2
            simp only [List.getElem_toArray, List.getElem_cons_succ, List.getElem_cons_zero] at ho2
            subst ho2
            clear ho
            have e9 := D.old 9 (by kernel_rfl)
            exact wk.does_run (by simp only [execOp]; rw [show E (.tmp 9) = .pointer (some ⟨Bx, 0, none⟩) by rw [e9]; rfl]; go_simp) rfl
          ·
            have ho2 := (Array.getElem?_eq_some_iff.1 ho).2
            simp only [List.getElem_toArray, List.getElem_cons_succ, List.getElem_cons_zero] at ho2
            subst ho2
            clear ho
            have e67 := D.is { on := 4, ground := .data } (by simp) rfl rfl 67 rfl
            exact wk.does_load1 rfl e67 ((HTR.out.below ((Below.refl _ _).drew.trans hb4 : Below wr.heap.size wr w4)).c0) Try.underlying3 rfl rfl
          ·
            have ho2 := (Array.getElem?_eq_some_iff.1 ho).2
            simp only [List.getElem_toArray, List.getElem_cons_succ, List.getElem_cons_zero] at ho2
            subst ho2
            clear ho
            have e9 := D.old 9 (by kernel_rfl)
            exact wk.does_run (by simp only [execOp]; rw [show E (.tmp 9) = .pointer (some ⟨Bx, 0, none⟩) by rw [e9]; rfl]; go_simp) rfl
          ·
            have ho2 := (Array.getElem?_eq_some_iff.1 ho).2
            simp only [List.getElem_toArray, List.getElem_cons_succ, List.getElem_cons_zero] at ho2
            subst ho2
            clear ho
            have e69 := D.is { on := 6, ground := .data } (by simp) rfl rfl 69 rfl
            exact wk.does_load1 rfl e69 ((HTR.out.below ((Below.refl _ _).drew.trans hb4 : Below wr.heap.size wr w4)).c1) Try.underlying3 rfl rfl
          ·
            have ho2 := (Array.getElem?_eq_some_iff.1 ho).2
            simp only [List.getElem_toArray, List.getElem_cons_succ, List.getElem_cons_zero] at ho2
            subst ho2
            clear ho
            have e66 := D.is { on := 3, ground := .data } (by simp) rfl rfl 66 rfl
            have e68 := D.is { on := 5, ground := .data } (by simp) rfl rfl 68 rfl
            have e70 := D.is { on := 7, ground := .data } (by simp) rfl rfl 70 rfl
            exact wk.does_run (wk.op_slice rfl e66 (by simp only [Option.map_some]; rw [e68]) (by simp only [Option.map_some]; rw [e70]) rfl (HSL.out _)) rfl
          ·
            have ho2 := (Array.getElem?_eq_some_iff.1 ho).2
            simp only [List.getElem_toArray, List.getElem_cons_succ, List.getElem_cons_zero] at ho2
            subst ho2
            clear ho
            have e64 := D.is { on := 1, ground := .data } (by simp) rfl rfl 64 rfl
            have e65 := D.is { on := 2, ground := .data } (by simp) rfl rfl 65 rfl
            have e71 := D.is { on := 8, ground := .data } (by simp) rfl rfl 71 rfl
            refine wk.does_fn (f := 48) (vs := #[.int .i64 m, .slice A8 (y1 - y0).toNat c8, .slice A5 (y1 - y0).toNat c5]) rfl (D.fn _) (by simp [e64, e65, e71]) (by go_simp) ?_
            refine (HKC.out w4 ((Below.refl _ _).drew.trans hb4 : Below wr.heap.size wr w4)).mono ?_
            rintro e w7 ⟨rfl, hb7⟩
            exact ⟨_, rfl, hb7, rfl⟩
          ·
            have ho2 := (Array.getElem?_eq_some_iff.1 ho).2
            simp only [List.getElem_toArray, List.getElem_cons_succ, List.getElem_cons_zero] at ho2
            subst ho2
            clear ho
            have e72 := D.is { on := 9, ground := .data } (by simp) rfl rfl 72 rfl
            refine wk.does_new (v := .slice (some ⟨w4.heap.size, 0, none⟩) 1 1) (w' := w4.alloc (.cells #[.int .i64 z] 3)) (by simp only [execOp, List.map_toArray, List.map_cons, List.map_nil]; rw [e72]; go_simp) (below_new _ _) ⟨_, rfl, Row1.new _ _ _⟩
        case rdone =>
          intro vals w4 hb4 hv
          have h0 := hv 0 (by omega)
          have h10 := hv 10 (by omega)
          clear hv
          replace h0 : vals 0 = (v0) := h0
          simp only [List.drop_succ_cons, List.drop_zero, wk.setL, List.setIfInBounds_toArray, List.set_cons_zero, List.set_cons_succ, Nat.zero_add, Nat.reduceAdd, h0]
          generalize vals 1 = x1
          generalize vals 2 = x2
          generalize vals 3 = x3
          generalize vals 4 = x4
          generalize vals 5 = x5
          generalize vals 6 = x6
          generalize vals 7 = x7
          generalize vals 8 = x8
          generalize vals 9 = x9
          generalize vals 10 = x10 at *
          obtain ⟨g, rfl, hg⟩ := h10
          have HOW := Lib.hid (keptB HOWN2.out ((Below.refl _ _).drew.trans hb4 : Below wr.heap.size wr w4))
          have HCG := Lib.hid hg.cells
          have HBELx := Lib.hid (HBEL.out.trans (((Below.refl _ _).drew.trans hb4 : Below wr.heap.size wr w4).mono (by have := HBEL.out.size; have := HBK.out; omega)))
          have HBWx : Hid (Bk ≤ w4.heap.size) := by have := HBEL.out.size; have := HBK.out; have := ((Below.refl _ _).drew.trans hb4 : Below wr.heap.size wr w4).size; show _ ≤ _; omega
          clear hb4 hg
          go_wp2_with (at_builtin; refine wpList_append_own _ rfl _ _ 22 rfl Bk 3 i1 (.int .i64 0) 1 8 Try.underlying22 hj9 hj0 hj1 hj2 rfl (by decide) _ _ _ rfl HOW.out ⟨g, 0, none⟩ 1 1 [.int .i64 z] rfl rfl HCG.out ?c2 ?c3 ?c4 ?c5 ?_)
          case c2 => simp [Value.oneCell']
          case c3 => unfold maxLen; omega
          case c4 => omega
          case c5 => exact HBWx.out
          intro v' w5 hown2 hgrow _
          have hbe : Below Bk W w5 := HBELx.out.grown hgrow (by have := HBWx.out; omega) (fun q hq => (HOW.out.lt q hq).1)
          have HB5 := Lib.hid hbe
          have HO5 := Lib.hid hown2
          clear hown2 hgrow hbe
          go_wp2_with fail
          gi_wp2
          go_roundw
          case measure => simp [intOf]; omega
          case rel =>
            refine ⟨j + 1, _, by omega, rfl, by simp, ?_, HB5.out⟩
            have h := HO5.out
            rw [HS.out]
            unfold iv at h ⊢
            rw [List.map_append]
            simpa using h
      · obtain rfl : j = n7 := by omega
        have hbelW : Below W.heap.size W wr := by rw [HBK.out]; exact hbel
        have hoW := HO.out.below hbelW
        have hrW := HROW.out.below hbelW
        have hlT : (trow m q (L7, (y0, y1))).length = j := by rw [trow_len]; exact HV7.out.1
        rw [List.take_of_length_le (by omega)] at hown
        obtain ⟨A9, c9, rfl, hst⟩ := isI_own_sq (B := G) (es := [22, 39]) hown (by omega) (fun y hy => by
          unfold trow at hy
          obtain ⟨w8, hw8, rfl⟩ := List.mem_map.1 hy
          have hw := HOK7.out.2 w8 hw8
          have hb0 := key_nonneg m w8 (pt q (y0, y1))
          have hgw : Below w.heap.size w wr := by rw [hG]; exact HGW.out.trans (hbel.mono (by have := HGW.out.size; have := HBK.out; omega))
          have hptl : (pt q (y0, y1)).length = (y1 - y0).toNat := (HPART.out wr hgw).1
          have hptv : vq.Vec (pt q (y0, y1)) := ⟨by rw [hptl]; have := hw.2.pos; have := hw.1; omega, by have := hw.2.le; have := hw.1; omega, fun x hx => HVQ.out.lo x (mem_pt hx), fun x hx => HVQ.out.hi x (mem_pt hx)⟩
          have hb1 := key_max (m := m) hw.2 hptv (by rw [hptl]; have := hw.1; omega)
          show I64 (vq.key m w8 (pt q (y0, y1)))
          unfold I64; omega) (by decide)
        have hwlt : Bk ≤ wr.heap.size := by have := hbelW.size; have := HBK.out; omega
        have hOW5 : wr.ownsRow G 22 1 (.slice (some ⟨r0, 0, none⟩) pre.length n0) pre.length vals := by have := hrW.own; simpa using this
        have hOWN5 := Lib.hid hOW5
        clear hOW5
        have HST := Lib.hid hst
        have HRW := Lib.hid hrW
        have HOW := Lib.hid hoW
        have ho0 := hoW.cell
        have ho1 := hoW.frozen
        have HBW := Lib.hid hbelW
        have HXS := Lib.hid HX.out.size
        clear hoW hrW hown hst hbel hbelW
        gi_wp2_with (gi_at_builtin; refine wpListIn_append_fits _ rfl _ _ 39 rfl G 22 i0 1 Try.underlying39 hi9 hz1 r0 pre.length n0 vals rfl (hOWN5.out.alloc _) ⟨wr.heap.size, 0, none⟩ 1 1 [.slice A9 j c9] rfl rfl ?c1 ?c2 ?c3 ?_)
        case c1 => exact cell_one_new _ _ _
        case c2 => simp [Value.oneCell']
        case c3 => omega
        intro w5 hown5 hgrow5
        have hS5 : One w5 S 39 (.slice (some ⟨r0, 0, none⟩) pre.length n0) := by
          have h1 := HOW.out.below (below_new wr (.cells #[.slice A9 j c9] 22))
          exact h1.at (hgrow5.block S h1.lt (fun e => by injection e with e; omega))
        have hp5 := HRW.out.push (by simp) (HST.out.imp fun w' h => (⟨A9, j, c9, rfl, h⟩ : IsV w' (.slice A9 j c9) _)) _ hgrow5 (by simpa using hown5)
        have hq0 := hS5.cell
        have hq1 := hS5.frozen
        have HT5 : Hid (Turn [S, r0] w4.heap.size W w5) := ((Turn.of_below HBW.out HXS.out).trans (Turn.of_below (below_new wr (.cells #[.slice A9 j c9] 22)) (by have := HXS.out; have := HBW.out.size; omega))).trans (Turn.grown hgrow5 (by simp) (by omega) (by rw [size_new]; have := HXS.out; have := HBW.out.size; omega))
        have HS5 := Lib.hid hS5
        have HP5 := Lib.hid hp5
        clear hS5 hown5 hgrow5 hp5
        gi_wp2
        refine ⟨HT5.out.trans (Turn.setCell _ (by simp)), by rw [List.length_append]; exact HS5.out.set _, vals ++ [.slice A9 j c9], ?_⟩
        rw [List.map_append]
        simp only [List.map_cons, List.map_nil, HRK.out, List.length_append, List.length_cons, List.length_nil, Nat.zero_add]
        exact HP5.out.setBox HS5.out (.inl (by simp)) (by decide) _
  case hdone =>
    rintro D ys W hD hys hx ⟨hO, vals, hRow⟩ hK
    have ho0 := hO.cell
    have hTE : (List.range n0).map (rowk m b q) = tbl m b q := by rw [tbl_range HR.out, ← HIL.out]
    rw [map_range hys, hTE] at hRow
    have hlen : ys.length = n0 := len_range hys
    have hb5 : Below G w W := HB4.out.trans (hx.below (by omega) (by intro j hj; simp only [List.mem_cons, List.not_mem_nil, or_false] at hj; omega))
    have hp := hRow.own_from (grownBy_putObj' W D (.deferred none)) (fun r hr => by cases hr; exact ⟨_, hK, rfl⟩)
    obtain ⟨A9, c9, e9, hVV⟩ := hp.isVV_sq (es' := []) (by simp) (by simp)
    injection e9 with e1 e2 e3
    subst e1 e3
    rw [← e2, hlen] at hVV
    have HVV := Lib.hid hVV
    have HK := Lib.hid hK
    have HB5 := Lib.hid hb5
    clear hp hRow hVV hK hb5 hx
    go_wp2_with fail
    exact leave_mark HK.out (results_tmp rfl _ _ _) ⟨some ⟨r0, 0, none⟩, n0, n0, rfl, by rw [hG]; exact HVV.out, by rw [hG]; exact below_mark HB5.out (by omega)⟩
  case hstop =>
    rintro D c W hD hx hf hK
    exact hf.elim
end Go.Proofs.Ytiodjepjbooniaa.uk
/- The reference: Few, SameRows, Same. -/
namespace Go.Proofs.Ytiodjepjbooniaa.uk

open Go.ChangeShapes Go.WideShapes Go.ChangeAt Go.RowKit

open Go.Proofs.Ytiodjepjbooniaa.cq Go.Proofs.Ytiodjepjbooniaa.vk Go.Proofs.Ytiodjepjbooniaa.bk Go.Proofs.Ytiodjepjbooniaa.wk

set_option linter.unusedVariables false
def AnyB (e : Ending) : Prop := ∃ r, e = .returned (.bool r)
set_option maxRecDepth 100000 in
set_option maxHeartbeats 4000000 in
theorem rfew_calls (v : Value) (b : Bk) (w : World) (h : IsBk w v b) :
    Calls Try.prog 10 #[v] w fun e w' => AnyB e ∧ Below w.heap.size w w' := by
  obtain ⟨A0, n0, c0, AW, nW, cW, rfl, hi, hW, hd⟩ := h
  have hT0 := Three.new w (.int .i64 b.d) (.slice A0 n0 c0) (.slice AW nW cW)
  have hb0 := below_new w (.cells #[.int .i64 b.d, .slice A0 n0 c0, .slice AW nW cW] 25)
  have hm := hi.2.2.1
  have hnc := hi.2.1
  have hm2 := hW.2.2.1
  have hnc2 := hW.2.1
  have HW := Lib.hid (isW_below hW hb0)
  have HB0 := Lib.hid hb0
  have HT := Lib.hid hT0
  clear hi hW hd
  go_enter Try.func10, Try.ntmps10
  generalize hwE : w.alloc (.cells #[.int .i64 b.d, .slice A0 n0 c0, .slice AW nW cW] 25) = wE at *
  have hc1 := hT0.c1
  have hc2 := hT0.c2
  by_cases h1 : nW > 9
  · go_wp2_with fail
    go_ret
    exact ⟨⟨_, rfl⟩, HB0.out⟩
  by_cases h2 : n0 > 9
  · go_wp2_with fail
    go_ret
    exact ⟨⟨_, rfl⟩, HB0.out⟩
  go_wp2_with fail
  go_loopg [3] nW (fun g x wr => ∃ k : Nat, k + g = nW ∧ x = .int .i64 (k : Int) ∧ wr = wE)
  case atStart => exact ⟨0, by omega, rfl, rfl⟩
  case round =>
    obtain ⟨k, hk, rfl, rfl⟩ := hrel
    have HK := Lib.hid hk
    have hkn : k ≤ nW := by omega
    clear hk
    by_cases hlt : k < nW
    · obtain ⟨b1, o1, A1, n1, c1, l1, rfl, hb1, hcc1, hI1, hX1⟩ := isW_get HW.out hlt
      have hlt0 : (k : Int) < (nW : Int) := by omega
      have hm3 := hI1.2.2.1
      have hnc3 := hI1.2.1
      have HI1 := Lib.hid hI1
      clear hI1 hX1
      by_cases h3 : n1 > 30
      · by_cases h4 : n1 ≤ 256
        · go_wp2_with fail
          go_ret
          exact ⟨⟨_, rfl⟩, HB0.out⟩
        · by_cases h5 : n1 > 300
          · go_wp2_with fail
            go_ret
            exact ⟨⟨_, rfl⟩, HB0.out⟩
          · go_wp2_with fail
            obtain ⟨w0, hw0⟩ : ∃ u, u = wr := ⟨_, rfl⟩
            go_loopg [4] n1 (fun g x wr => ∃ j : Nat, j + g = n1 ∧ x = .int .i64 (j : Int) ∧ wr = w0)
            case atStart => exact ⟨0, by omega, rfl, hw0.symm⟩
            case round =>
              obtain ⟨j, hj, rfl, rfl⟩ := hrel
              subst hw0
              have HJ := Lib.hid hj
              have hjn : j ≤ n1 := by omega
              clear hj
              by_cases hlt2 : j < n1
              · obtain ⟨b2, o2, A2, n2, c2, l2, rfl, hb2, hcc2, hI2, hX2⟩ := isVV_get HI1.out hlt2
                have hlt3 : (j : Int) < (n1 : Int) := by omega
                have hm4 := hI2.2.2.1
                have hnc4 := hI2.2.1
                clear hI2 hX2
                by_cases h6 : n2 > 33
                · go_wp2_with fail
                  go_ret
                  exact ⟨⟨_, rfl⟩, HB0.out⟩
                · go_wp2_with fail
                  go_roundg (gk - 1)
                  case measure => have := HJ.out; omega
                  case rel => exact ⟨j + 1, by have := HJ.out; omega, by go_num, rfl⟩
              · obtain rfl : j = n1 := by omega
                go_wp2_with fail
                go_roundg (nW - (k + 1))
                case measure => have := HK.out; omega
                case rel => exact ⟨k + 1, by omega, by go_num, rfl⟩
      · have h5 : ¬ n1 > 300 := by omega
        go_wp2_with fail
        obtain ⟨w0, hw0⟩ : ∃ u, u = wr := ⟨_, rfl⟩
        go_loopg [4] n1 (fun g x wr => ∃ j : Nat, j + g = n1 ∧ x = .int .i64 (j : Int) ∧ wr = w0)
        case atStart => exact ⟨0, by omega, rfl, hw0.symm⟩
        case round =>
          obtain ⟨j, hj, rfl, rfl⟩ := hrel
          subst hw0
          have HJ := Lib.hid hj
          have hjn : j ≤ n1 := by omega
          clear hj
          by_cases hlt2 : j < n1
          · obtain ⟨b2, o2, A2, n2, c2, l2, rfl, hb2, hcc2, hI2, hX2⟩ := isVV_get HI1.out hlt2
            have hlt3 : (j : Int) < (n1 : Int) := by omega
            have hm4 := hI2.2.2.1
            have hnc4 := hI2.2.1
            clear hI2 hX2
            by_cases h6 : n2 > 33
            · go_wp2_with fail
              go_ret
              exact ⟨⟨_, rfl⟩, HB0.out⟩
            · go_wp2_with fail
              go_roundg (gk - 1)
              case measure => have := HJ.out; omega
              case rel => exact ⟨j + 1, by have := HJ.out; omega, by go_num, rfl⟩
          · obtain rfl : j = n1 := by omega
            go_wp2_with fail
            go_roundg (nW - (k + 1))
            case measure => have := HK.out; omega
            case rel => exact ⟨k + 1, by omega, by go_num, rfl⟩
    · obtain rfl : k = nW := by omega
      go_wp2_with fail
      go_ret
      exact ⟨⟨_, rfl⟩, HB0.out⟩
set_option maxRecDepth 100000 in
set_option maxHeartbeats 4000000 in
theorem sameRows_calls (A A' : Option Addr) (n n' c c' : Nat) (L L' : VV) (w : World) (h : IsVV w A n c L) (h' : IsVV w A' n' c' L') :
    Calls Try.prog 25 #[.slice A n c, .slice A' n' c'] w fun e w' => e = .returned (.bool (decide (L = L'))) ∧ ∃ q, w' = w.drewN q := by
  have hm := h.2.2.1
  have hnc := h.2.1
  have hm2 := h'.2.2.1
  have hnc2 := h'.2.1
  have hl := h.1
  have hl' := h'.1
  have H := Lib.hid h
  have H' := Lib.hid h'
  have HL := Lib.hid hl
  have HL' := Lib.hid hl'
  clear h h'
  by_cases hnn : n = n'
  · subst hnn
    clear hl hl'
    go_enter Try.func25, Try.ntmps25
    go_wp2_with fail
    go_loopg [5] n (fun g x wr => ∃ k q : Nat, k + g = n ∧ x = .int .i64 (k : Int) ∧ wr = w.drewN q ∧ L.take k = L'.take k)
    case atStart => exact ⟨0, 0, by omega, rfl, rfl, rfl⟩
    case round =>
      obtain ⟨k, q, hk, rfl, hw, hr⟩ := hrel
      have H3 : Hid (IsVV wr A n c L) := by rw [hw]; exact H.out
      have H4 : Hid (IsVV wr A' n c' L') := by rw [hw]; exact H'.out
      have HWQ := Lib.hid hw
      clear hw
      have HK := Lib.hid hk
      have HR := Lib.hid hr
      have hkn : k ≤ n := by omega
      clear hk hr
      by_cases hlt : k < n
      · obtain ⟨b1, o1, A1, n1, c1, l1, rfl, hb1, hc1, hI1, hX1⟩ := isVV_get H3.out hlt
        obtain ⟨b2, o2, A2, n2, c2, l2, rfl, hb2, hc2, hI2, hX2⟩ := isVV_get H4.out hlt
        have HC := Lib.hid (fun m => vk.same_calls A1 A2 n1 n2 c1 c2 l1 l2 (wr.drewN m) hI1 hI2)
        have hlt0 : (k : Int) < (n : Int) := by omega
        have HX1 := Lib.hid hX1
        have HX2 := Lib.hid hX2
        have HTK : Hid (l1 = l2 → L.take (k + 1) = L'.take (k + 1)) := fun he => by rw [List.take_add_one, List.take_add_one, HR.out, HX1.out, HX2.out, he]
        have HTN : Hid (l1 ≠ l2 → decide (L = L') = false) := fun he => by
          refine decide_eq_false fun hh => he ?_
          have h1 := HX1.out
          rw [hh, HX2.out] at h1
          injection h1 with h1
          exact h1.symm
        clear hI1 hI2 hX1 hX2
        obtain ⟨r, hr⟩ : ∃ r, (l1 == l2) = r := ⟨_, rfl⟩
        rw [hr] at HC
        cases r
        · have HN : Hid (decide (L = L') = false) := HTN.out (by simpa using hr)
          clear hr HX1 HX2 HTK HTN HR
          go_wp2_with fail
          go_quiet (exact Calls.quiet_of (HC.out _))
          go_wp2_with fail
          go_ret
          exact ⟨by rw [HN.out]; rfl, _, by rw [HWQ.out]; simp only [drewN_add]; rfl⟩
        · have HN : Hid (L.take (k + 1) = L'.take (k + 1)) := HTK.out (by simpa using hr)
          clear hr HX1 HX2 HTK HTN HR
          go_wp2_with fail
          go_quiet (exact Calls.quiet_of (HC.out _))
          go_wp2_with fail
          go_roundg (gk - 1)
          case measure => have := HK.out; omega
          case rel => exact ⟨k + 1, _, by have := HK.out; omega, by go_num, by rw [HWQ.out]; simp only [drewN_add]; rfl, HN.out⟩
      · obtain rfl : k = n := by omega
        have HE : Hid (decide (L = L') = true) := by
          have h1 := HR.out
          rw [List.take_of_length_le (by have := HL.out; omega), List.take_of_length_le (by have := HL'.out; omega)] at h1
          exact decide_eq_true h1
        go_wp2_with fail
        go_ret
        exact ⟨by rw [HE.out]; rfl, _, HWQ.out⟩
  · have hne : ((n : Int) != (n' : Int)) = true := by simp; omega
    have HN : Hid (decide (L = L') = false) := decide_eq_false fun hh => hnn (by rw [← hl, ← hl', hh])
    clear hl hl'
    go_enter Try.func25, Try.ntmps25
    go_wp2_with fail
    go_ret
    exact ⟨by rw [HN.out]; rfl, 0, rfl⟩
set_option maxRecDepth 100000 in
set_option maxHeartbeats 4000000 in
theorem rsameBk_calls (v v' : Value) (b b' : Bk) (w : World) (h : IsBk w v b) (h' : IsBk w v' b') (heq : b = b') :
    Calls Try.prog 32 #[v, v'] w fun e w' => e = .returned (.bool true) ∧ Below w.heap.size w w' := by
  subst heq
  obtain ⟨A0, n0, c0, AW, nW, cW, rfl, hi, hW, hd⟩ := h
  obtain ⟨A1, n1, c1, AX, nX, cX, rfl, hi', hW', -⟩ := h'
  obtain rfl : n1 = n0 := by rw [← hi.1, ← hi'.1]
  obtain rfl : nX = nW := by rw [← hW.1, ← hW'.1]
  have hT0 := (Three.new w (.int .i64 b.d) (.slice A0 n1 c0) (.slice AW nX cW)).below (below_new _ (.cells #[.int .i64 b.d, .slice A1 n1 c1, .slice AX nX cX] 25))
  have hT1 := Three.new (w.alloc (.cells #[.int .i64 b.d, .slice A0 n1 c0, .slice AW nX cW] 25)) (.int .i64 b.d) (.slice A1 n1 c1) (.slice AX nX cX)
  rw [size_new] at hT1
  have hb0 := Below.andThen (below_new w (.cells #[.int .i64 b.d, .slice A0 n1 c0, .slice AW nX cW] 25)) (below_new _ (.cells #[.int .i64 b.d, .slice A1 n1 c1, .slice AX nX cX] 25))
  have HI := Lib.hid (isI_below hi hb0)
  have HI' := Lib.hid (isI_below hi' hb0)
  have HW := Lib.hid (isW_below hW hb0)
  have HW' := Lib.hid (isW_below hW' hb0)
  have hm := hi.2.2.1
  have hnc := hi.2.1
  have hm2 := hi'.2.2.1
  have hnc2 := hi'.2.1
  have hm3 := hW.2.2.1
  have hnc3 := hW.2.1
  have hm4 := hW'.2.2.1
  have hnc4 := hW'.2.1
  have HB0 := Lib.hid hb0
  clear hi hi' hW hW' hd hb0
  go_enter Try.func32, Try.ntmps32
  have hc00 := hT0.c0
  have hc01 := hT0.c1
  have hc02 := hT0.c2
  have hc10 := hT1.c0
  have hc11 := hT1.c1
  have hc12 := hT1.c2
  generalize hwE : (w.alloc (.cells #[.int .i64 b.d, .slice A0 n1 c0, .slice AW nX cW] 25)).alloc (.cells #[.int .i64 b.d, .slice A1 n1 c1, .slice AX nX cX] 25) = wE at *
  have HC := Lib.hid (fun q => vk.same_calls A0 A1 n1 n1 c0 c1 b.cuts b.cuts (wE.drewN q) HI.out HI'.out)
  rw [show (b.cuts == b.cuts) = true by simp] at HC
  generalize hdd : b.d = bd at *
  clear hdd
  clear hT0 hT1
  go_wp2_with fail
  refine (HC.out 0).mono ?_
  rintro e w' ⟨rfl, q0, rfl⟩
  have HC02 := Lib.hid hc02
  have HC12 := Lib.hid hc12
  go_wp2_with fail
  clear hc02 hc12
  go_loopg [5] nX (fun g x wr => ∃ k q : Nat, k + g = nX ∧ x = .int .i64 (k : Int) ∧ wr = wE.drewN q)
  case atStart => exact ⟨0, q0, by omega, rfl, rfl⟩
  case round =>
    obtain ⟨k, q, hk, rfl, hw⟩ := hrel
    have H3 : Hid (IsW wr AW nX cW b.W) := by rw [hw]; exact HW.out
    have H4 : Hid (IsW wr AX nX cX b.W) := by rw [hw]; exact HW'.out
    have HWQ := Lib.hid hw
    have hc02 : wr.cell? ⟨w.heap.size, 2, none⟩ = some (.slice AW nX cW) := by rw [hw]; exact HC02.out
    have hc12 : wr.cell? ⟨w.heap.size + 1, 2, none⟩ = some (.slice AX nX cX) := by rw [hw]; exact HC12.out
    clear hw
    have HK := Lib.hid hk
    have hkn : k ≤ nX := by omega
    clear hk
    by_cases hlt : k < nX
    · obtain ⟨b1, o1, A1, n1, c1, l1, rfl, hb1, hc1, hI1, hX1⟩ := isW_get H3.out hlt
      obtain ⟨b2, o2, A2, n2, c2, l2, rfl, hb2, hc2, hI2, hX2⟩ := isW_get H4.out hlt
      rw [hX1] at hX2
      injection hX2 with hX2
      subst hX2
      have HR := Lib.hid (fun m => sameRows_calls A1 A2 n1 n2 c1 c2 l1 l1 (wr.drewN m) hI1 hI2)
      rw [show decide (l1 = l1) = true by simp] at HR
      have hlt0 : (k : Int) < (nX : Int) := by omega
      clear hI1 hI2 hX1
      go_wp2_with fail
      go_quiet (exact Calls.quiet_of (HR.out _))
      go_wp2_with fail
      go_roundg (gk - 1)
      case measure => have := HK.out; omega
      case rel => exact ⟨k + 1, _, by have := HK.out; omega, by go_num, by rw [HWQ.out]; simp only [drewN_add]; rfl⟩
    · obtain rfl : k = nX := by omega
      go_wp2_with fail
      go_ret
      exact ⟨rfl, by rw [HWQ.out]; exact below_drewN HB0.out _⟩
end Go.Proofs.Ytiodjepjbooniaa.uk
