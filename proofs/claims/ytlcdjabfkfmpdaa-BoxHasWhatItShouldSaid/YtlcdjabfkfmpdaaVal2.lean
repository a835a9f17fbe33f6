/- A region that draws its order and passes over operations whose guard says no. -/
import Derived.Test.YtlcdjabfkfmpdaaVal

namespace Go.Proofs.Ytlcdjabfkfmpdaa.wk

open Go.ChangeShapes Go.WideShapes Go.ChangeAt Go.RowKit

section

variable {P : Program} {ops : Array Oper} {Q : Exit → Act → World → Prop}
/-- the operation's guard says no -/
def skips (ops : Array Oper) (R : List SP) (i : Nat) : Bool :=
  match ops[i]? with
  | none => false
  | some o => match o.guard with
    | none => false
    | some (j, want) => match (R.getD j SP.any).bool? with
      | some b => b != want
      | none => false
def guardedS (ops : Array Oper) (R : List SP) (k : Nat) : Bool :=
  (List.range k).all fun i => match ops[i]? with
    | none => true
    | some o => match o.guard with
      | none => true
      | some (j, want) => (R.getD j SP.any).bool?.isSome && o.dst.isSome && (dstOf ops j).isSome && o.after.any fun e => e.on == j && Region.binds .any e
def skipped (ops : Array Oper) (R : List SP) (k : Nat) : List Nat := (List.range k).filter fun i => skips ops R i
theorem skip_of {R : List SP} {k : Nat} {l : List Nat} (hl : skipped ops R k = l) (h : ∀ p ∈ l, R.getD p SP.any = .is undef) : ∀ i, i < k → skips ops R i = true → R.getD i SP.any = .is undef := fun i hi hs => by
  refine h i ?_
  rw [← hl]
  exact List.mem_filter.2 ⟨List.mem_range.2 hi, hs⟩
theorem vinv_stepS {a0 : Act} {B : World} {k : Nat} (R : List SP) (hap : apart ops a0.tmps.size = true) (hg : guardedS ops R k = true) (hsk : ∀ i, i < k → skips ops R i = true → R.getD i SP.any = .is undef) {L : Nat → Bool} {a : Act} {w : World} {i : Nat} {o : Oper} (hik : i < k) (hI : VInv ops R B a0 L a w) (ho : ops[i]? = some o) (hLi : L i = false) (hdep : ∀ e ∈ o.after, Region.binds .any e = true → L e.on = true)
    (hstep : skips ops R i = false → ∀ E w, Below B.heap.size B w → Due ops R a0 o E w → Does P Q o E w (R.getD i SP.any).has) :
    wpOp P ops Q i (fun a' w' => VInv ops R B a0 (fun j => if j = i then true else L j) a' w') a w := by
  have hio : i < ops.size := (Array.getElem?_eq_some_iff.1 ho).1
  have hdv : ∀ e ∈ o.after, Region.binds .any e = true → ∃ v, (R.getD e.on SP.any).has w v ∧ ∀ d, dstOf ops e.on = some d → a.tmps[d]? = some v := fun e he hb => hI.vals e.on (hdep e he hb)
  have hfin : ∀ v w', Below w.heap.size w w' → (R.getD i SP.any).has w' v → VInv ops R B a0 (fun j => if j = i then true else L j) (a.put o.dst v) w' := fun v w' hb hR => by
    have hB := hI.below.trans (hb.mono hI.below.size)
    have hdo : dstOf ops i = o.dst := by unfold dstOf; rw [ho]; rfl
    refine ⟨hB, ?_, ?_, fun j hj => ?_, fun k hk => ?_⟩
    · cases hd : o.dst <;> exact hI.defers
    · cases hd : o.dst <;> simp only [Act.put, Array.size_setIfInBounds] <;> exact hI.size
    · by_cases hji : j = i
      · subst hji
        refine ⟨v, hR, fun d hd => ?_⟩
        rw [hdo] at hd
        have hlt := apart_lt hap hio (by rw [hdo]; exact hd)
        rw [hd]
        show (a.tmps.setIfInBounds d v)[d]? = some v
        rw [Array.getElem?_setIfInBounds, if_pos rfl, if_pos (by rw [hI.size]; exact hlt)]
      · rw [if_neg hji] at hj
        obtain ⟨u, hu, hud⟩ := hI.vals j hj
        refine ⟨u, SP.has_below hu hb, fun d hd => ?_⟩
        cases hod : o.dst with
        | none => exact hud d hd
        | some d' =>
          have hne : d' ≠ d := fun e => hji (apart_ne hap (dst_lt hd) hio hd (by rw [hdo, hod, e]))
          show (a.tmps.setIfInBounds d' v)[d]? = some u
          rw [Array.getElem?_setIfInBounds, if_neg hne]
          exact hud d hd
    · have hk' : ∀ j, L j = true → dstOf ops j ≠ some k := fun j hj => hk j (by by_cases h : j = i <;> simp [h, hj])
      have hki : o.dst ≠ some k := by rw [← hdo]; exact hk i (by simp)
      cases hod : o.dst with
      | none => exact hI.rest k hk'
      | some d' =>
        have hne : d' ≠ k := fun e => hki (by rw [hod, e])
        show (a.tmps.setIfInBounds d' v)[k]? = _
        rw [Array.getElem?_setIfInBounds, if_neg hne]
        exact hI.rest k hk'
  by_cases hs : skips ops R i = true
  · have hw : Region.wanted o (yielded ops a.tmps) = false := by
      have h1 := List.all_eq_true.1 hg i (List.mem_range.2 hik)
      unfold skips at hs
      simp only [ho] at h1 hs
      unfold Region.wanted
      cases hgd : o.guard with
      | none => rw [hgd] at hs; cases hs
      | some x =>
        obtain ⟨j, want⟩ := x
        simp only [hgd, Bool.and_eq_true] at h1 hs
        obtain ⟨⟨_, hsm⟩, h2⟩ := h1
        obtain ⟨ix, hix, h3⟩ := Array.any_eq_true.1 h2
        have he : o.after[ix] ∈ o.after := Array.getElem_mem hix
        generalize o.after[ix] = e at *
        simp only [Bool.and_eq_true, beq_iff_eq] at h3
        obtain ⟨h3, h4⟩ := h3
        obtain ⟨v, hv, hd⟩ := hdv e he h4
        rw [h3] at hv hd
        have hvb : v = .bool (!want) := by
          cases hr : R.getD j SP.any with
          | is x =>
            rw [hr] at hs hv
            cases x <;> simp only [SP.bool?, reduceCtorEq, Bool.false_eq_true] at hs
            rename_i bb
            have hbb : bb = !want := by cases bb <;> cases want <;> simp_all
            rw [hbb] at hv
            exact hv
          | st p hp => rw [hr] at hs; simp [SP.bool?] at hs
        obtain ⟨d, hdj⟩ := Option.isSome_iff_exists.1 hsm
        have hy : yielded ops a.tmps j = some (!want) := by
          unfold yielded
          have e1 : (ops[j]?).bind (·.dst) = some d := hdj
          rw [e1]
          simp only [Option.bind_some, hd d hdj, hvb]
        simp only [hy]
        cases want <;> rfl
    refine wpOp_step ho fun K' hK => ?_
    rw [if_neg (by rw [hw]; exact Bool.false_ne_true)]
    exact hK _ _ (hfin undef w (Below.refl _ _) (by rw [hsk i hik hs]; rfl))
  have hw : Region.wanted o (yielded ops a.tmps) = true := by
    have h1 := List.all_eq_true.1 hg i (List.mem_range.2 hik)
    unfold skips at hs
    simp only [ho] at h1 hs
    unfold Region.wanted
    cases hgd : o.guard with
    | none => rfl
    | some x =>
      obtain ⟨j, want⟩ := x
      simp only [hgd, Bool.and_eq_true] at h1 hs
      obtain ⟨⟨⟨hbs, _⟩, hsm⟩, h2⟩ := h1
      obtain ⟨ix, hix, h3⟩ := Array.any_eq_true.1 h2
      have he : o.after[ix] ∈ o.after := Array.getElem_mem hix
      generalize o.after[ix] = e at *
      simp only [Bool.and_eq_true, beq_iff_eq] at h3
      obtain ⟨h3, h4⟩ := h3
      obtain ⟨v, hv, hd⟩ := hdv e he h4
      rw [h3] at hv hd
      have hvb : v = .bool want := by
        cases hr : R.getD j SP.any with
        | is x =>
          rw [hr] at hs hv hbs
          cases x <;> simp only [SP.bool?, Option.isSome_none, Bool.false_eq_true] at hbs
          rename_i bb
          simp only [SP.bool?] at hs
          have hbb : bb = want := by cases bb <;> cases want <;> simp_all
          rw [hbb] at hv
          exact hv
        | st p hp => rw [hr] at hbs; simp [SP.bool?] at hbs
      obtain ⟨d, hdj⟩ := Option.isSome_iff_exists.1 hsm
      have hy : yielded ops a.tmps j = some want := by
        unfold yielded
        have e1 : (ops[j]?).bind (·.dst) = some d := hdj
        rw [e1]
        simp only [Option.bind_some, hd d hdj, hvb]
      simp only [hy, beq_self_eq_true]
  refine wpOp_step ho fun K' hK => ?_
  rw [if_pos hw]
  refine hstep (by simpa using hs) a.eval w hI.below ⟨fun _ => rfl, fun _ => rfl, fun k hk => ?_, fun e he hb => ?_⟩ a K' rfl fun v w' hb hR => ?_
  · show a.tmps.getD k undef = a0.tmps.getD k undef
    rw [Array.getD_eq_getD_getElem?, Array.getD_eq_getD_getElem?, hI.rest k fun j hj h => ?_]
    have := List.all_eq_true.1 hk j (List.mem_range.2 (dst_lt h))
    rw [h] at this
    simp at this
  · obtain ⟨v, hv, hd⟩ := hdv e he hb
    exact ⟨v, hv, fun d hdd => getD_of (hd d hdd)⟩
  · exact hK _ _ (hfin v w' hb hR)
theorem region_tailS {id : Nat} {a0 : Act} {w0 : World} (k : Nat) (R : List SP) (ds : List (Option Tmp)) (hm : P.follows .mixedOrders = true) (hord : orderedB .any ops = true) (hap : apart ops a0.tmps.size = true) (hg : guardedS ops R k = true) (sk : List Nat) (hskl : skipped ops R k = sk) (hsk0 : ∀ p ∈ sk, R.getD p SP.any = .is undef) (hds : (List.range k).map (dstOf ops) = ds) (htl : tailed ops k = true)
    (hstep : ∀ i o, ops[i]? = some o → i < k → skips ops R i = false → ∀ E w, Below w0.drew.heap.size w0.drew w → Due ops R a0 o E w → Does P Q o E w (R.getD i SP.any).has)
    (hdone : ∀ (vals : Nat → Value) w, Below w0.drew.heap.size w0.drew w → (∀ i, i < k → (R.getD i SP.any).has w (vals i)) → wpList P ops Q (ops.toList.drop k) { a0 with tmps := setL ds vals 0 a0.tmps } w) : (Code.region id ops true).wp P Q a0 w0 := by
  have hsk := skip_of hskl hsk0
  unfold tailed at htl
  simp only [Bool.and_eq_true, decide_eq_true_eq] at htl
  obtain ⟨⟨hkn, hcov⟩, hch⟩ := htl
  have hchain : ∀ i, k ≤ i → i + 1 < ops.size → waitsFor ops (i + 1) i = true := fun i h1 h2 => by
    have := List.all_eq_true.1 hch i (List.mem_range.2 (by omega))
    simp only [Bool.or_eq_true, decide_eq_true_eq] at this
    rcases this with (h | h) | h
    · omega
    · omega
    · exact h
  have hcover : ∀ j, j < k → k < ops.size → ∃ i, j < i ∧ i ≤ k ∧ waitsFor ops i j = true := fun j h1 h2 => by
    have := List.all_eq_true.1 hcov j (List.mem_range.2 h1)
    simp only [Bool.or_eq_true, beq_iff_eq] at this
    rcases this with h | h
    · omega
    · obtain ⟨i, hi, h⟩ := List.any_eq_true.1 h
      simp only [Bool.and_eq_true, decide_eq_true_eq] at h
      exact ⟨i, h.1, by have := List.mem_range.1 hi; omega, h.2⟩
  have hfin : ∀ L a w, VInv ops R w0.drew a0 L a w → (∀ j, j < k → L j = true) → (∀ j, k ≤ j → L j = false) → wpList P ops Q (ops.toList.drop k) a w := fun L a w hI hall hno => by
    have hv : ∀ i, ∃ v, i < k → (R.getD i SP.any).has w v ∧ ∀ d, dstOf ops i = some d → a.tmps[d]? = some v := fun i => by
      by_cases hi : i < k
      · obtain ⟨v, h⟩ := hI.vals i (hall i hi); exact ⟨v, fun _ => h⟩
      · exact ⟨undef, fun h => absurd h hi⟩
    obtain ⟨vals, hvals⟩ := Classical.axiomOfChoice hv
    have ha : a = { a0 with tmps := setAll ops vals k a0.tmps } := by
      obtain ⟨tm, df⟩ := a
      have h1 : df = a0.defers := hI.defers
      have h2 : tm = setAll ops vals k a0.tmps := by
        refine Array.ext_getElem? fun s => ?_
        have hset := setAll_get vals hap s k a0.tmps hkn rfl
        by_cases hk : ∃ i, i < k ∧ dstOf ops i = some s
        · obtain ⟨i, hik, hi⟩ := hk
          rw [hset.2 i hik hi]
          exact (hvals i hik).2 s hi
        · rw [hset.1 fun i hi h => hk ⟨i, hi, h⟩]
          refine hI.rest s fun i hi h => ?_
          rcases Nat.lt_or_ge i k with hl | hl
          · exact hk ⟨i, hl, h⟩
          · rw [hno i hl] at hi; cases hi
      rw [h1, h2]
    rw [ha, setAll_eq, hds]
    exact hdone vals w hI.below fun i hi => (hvals i hi).1
  refine region_invB (fun a0 B L a w => (VInv ops R B a0 L a w ∧ (∀ i, k ≤ i → L i = false) ∧ Closed ops L) ∨ ∃ m, k ≤ m ∧ m ≤ ops.size ∧ (∀ i, L i = decide (i < m)) ∧ wpList P ops Q (ops.toList.drop m) a w) hm hord
    (Or.inl ⟨⟨Below.refl _ _, rfl, rfl, fun i h => (Bool.noConfusion h), fun k _ => rfl⟩, fun _ _ => rfl, fun i o _ h => (Bool.noConfusion h)⟩) ?_ ?_
  · intro L a w hI i o ho hLi hdep
    have hio : i < ops.size := (Array.getElem?_eq_some_iff.1 ho).1
    rcases hI with ⟨hI, hno, hcl⟩ | ⟨m, hm1, hm2, hL, hwp⟩
    · by_cases hik : i < k
      · refine wpOp_mono (fun a' w' h => Or.inl ?_) (vinv_stepS R hap hg hsk hik hI ho hLi hdep (hstep i o ho hik))
        refine ⟨h, fun j hj => ?_, fun j o' ho' hj e he hb => ?_⟩
        · have hji : j ≠ i := by omega
          simp only [hji, if_false]
          exact hno j hj
        · by_cases hji : j = i
          · subst hji
            rw [ho] at ho'; cases ho'
            by_cases h2 : e.on = j
            · simp [h2]
            · simp only [h2, if_false]; exact hdep e he hb
          · simp only [hji, if_false] at hj
            by_cases h2 : e.on = i
            · simp [h2]
            · simp only [h2, if_false]; exact hcl j o' ho' hj e he hb
      · have hik' : i = k := by
          rcases Nat.lt_or_ge k i with h | h
          · have := waits_done (L := L) (hchain (i - 1) (by omega) (by omega)) (by rw [show i - 1 + 1 = i by omega]; exact ho) hdep
            rw [hno (i - 1) (by omega)] at this; cases this
          · omega
        subst hik'
        have hall : ∀ d j, i - j ≤ d → j < i → L j = true := by
          intro d
          induction d with
          | zero => intro j h1 h2; omega
          | succ d ih =>
            intro j h1 h2
            obtain ⟨q, hq1, hq2, hq3⟩ := hcover j h2 hio
            by_cases hqi : q = i
            · subst hqi; exact waits_done hq3 ho hdep
            · have hq : L q = true := ih q (by omega) (by omega)
              have hqo : ops[q]? = some ops[q] := Array.getElem?_eq_getElem (by omega)
              exact waits_done hq3 hqo (hcl q _ hqo hq)
        refine wpOp_mono (fun a' w' h => Or.inr ⟨i + 1, by omega, by omega, fun j => ?_, h⟩) (wpList_to_op ho (hfin L a w hI (fun j hj => hall _ j (Nat.le_refl _) hj) hno))
        by_cases hji : j = i
        · subst hji; simp
        · simp only [hji, if_false]
          rcases Nat.lt_or_ge j i with h1 | h1
          · rw [hall _ j (Nat.le_refl _) h1]; simp; omega
          · rw [hno j h1]; simp; omega
    · have him : i = m := by
        have h1 : ¬ i < m := fun h => by rw [hL i] at hLi; simp [h] at hLi
        rcases Nat.lt_or_ge m i with h | h
        · have := waits_done (L := L) (hchain (i - 1) (by omega) (by omega)) (by rw [show i - 1 + 1 = i by omega]; exact ho) hdep
          rw [hL (i - 1)] at this
          simp at this; omega
        · omega
      subst him
      refine wpOp_mono (fun a' w' h => Or.inr ⟨i + 1, by omega, by omega, fun j => ?_, h⟩) (wpList_to_op ho hwp)
      by_cases hji : j = i
      · subst hji; simp
      · simp only [hji, if_false]
        rw [hL j]
        rcases Nat.lt_or_ge j i with h1 | h1
        · simp [h1]; omega
        · simp; omega
  · intro L a w hall hI
    rcases hI with ⟨hI, hno, hcl⟩ | ⟨m, hm1, hm2, hL, hwp⟩
    · have hk : k = ops.size := by
        rcases Nat.lt_or_ge k ops.size with h | h
        · have := hall k h; rw [hno k (Nat.le_refl _)] at this; cases this
        · omega
      have := hfin L a w hI (fun j hj => hall j (by omega)) hno
      rw [hk, ← Array.length_toList, List.drop_length] at this
      exact this
    · have hk : m = ops.size := by
        rcases Nat.lt_or_ge m ops.size with h | h
        · have := hall m h; rw [hL m] at this; simp at this
        · omega
      rw [hk, ← Array.length_toList, List.drop_length] at hwp
      exact hwp
end

end Go.Proofs.Ytlcdjabfkfmpdaa.wk
