/- Joined: Val2 Rf Mem Bb. -/
import Derived.Test.YtmnpmjioahnjoaaG5

import Derived.RangeFuncNested

import Derived.RangeFuncBound

import Derived.RangeFuncCalls

import Derived.RangeFuncLeaves

import Derived.OrdersIn

import Derived.TacticsIn

import Derived.Lib.MinMax
/- A region that draws its order and passes over operations whose guard says no. -/
namespace Go.Proofs.Ytmnpmjioahnjoaa.wk

open Go.ChangeShapes Go.WideShapes Go.ChangeAt Go.RowKit

section

variable {P : Program} {ops : Array Oper} {Q : Exit → Act → World → Prop}
/-- the operation's guard says no -/
def skips (ops : Array Oper) (R : List SP) (i : Nat) : Bool :=
  match ops[i]? with
  | none => false
  | some o => match o.guard with
    | none => false
    | some (j, want) => match (R.getD j SP.any).bool? with
      | some b => b != want
      | none => false
def guardedS (ops : Array Oper) (R : List SP) (k : Nat) : Bool :=
  (List.range k).all fun i => match ops[i]? with
    | none => true
    | some o => match o.guard with
      | none => true
      | some (j, _) => (R.getD j SP.any).bool?.isSome && o.dst.isSome && (dstOf ops j).isSome && o.after.any fun e => e.on == j && Region.binds .any e
def skipped (ops : Array Oper) (R : List SP) (k : Nat) : List Nat := (List.range k).filter fun i => skips ops R i
theorem skip_of {R : List SP} {k : Nat} {l : List Nat} (hl : skipped ops R k = l) (h : ∀ p ∈ l, R.getD p SP.any = .is undef) : ∀ i, i < k → skips ops R i = true → R.getD i SP.any = .is undef := fun i hi hs => by
  refine h i ?_
  rw [← hl]
  exact List.mem_filter.2 ⟨List.mem_range.2 hi, hs⟩
theorem vinv_stepS {a0 : Act} {B : World} {k : Nat} (R : List SP) (hap : apart ops a0.tmps.size = true) (hg : guardedS ops R k = true) (hsk : ∀ i, i < k → skips ops R i = true → R.getD i SP.any = .is undef) {L : Nat → Bool} {a : Act} {w : World} {i : Nat} {o : Oper} (hik : i < k) (hI : VInv ops R B a0 L a w) (ho : ops[i]? = some o) (hLi : L i = false) (hdep : ∀ e ∈ o.after, Region.binds .any e = true → L e.on = true)
    (hstep : skips ops R i = false → ∀ E w, Below B.heap.size B w → Due ops R a0 o E w → Does P Q o E w (R.getD i SP.any).has) :
    wpOp P ops Q i (fun a' w' => VInv ops R B a0 (fun j => if j = i then true else L j) a' w') a w := by
  have hio : i < ops.size := (Array.getElem?_eq_some_iff.1 ho).1
  have hdv : ∀ e ∈ o.after, Region.binds .any e = true → ∃ v, (R.getD e.on SP.any).has w v ∧ ∀ d, dstOf ops e.on = some d → a.tmps[d]? = some v := fun e he hb => hI.vals e.on (hdep e he hb)
  have hfin : ∀ v w', Below w.heap.size w w' → (R.getD i SP.any).has w' v → VInv ops R B a0 (fun j => if j = i then true else L j) (a.put o.dst v) w' := fun v w' hb hR => by
    have hB := hI.below.trans (hb.mono hI.below.size)
    have hdo : dstOf ops i = o.dst := by unfold dstOf; rw [ho]; rfl
    refine ⟨hB, ?_, ?_, fun j hj => ?_, fun k hk => ?_⟩
    · cases hd : o.dst <;> exact hI.defers
    · cases hd : o.dst <;> simp only [Act.put, Array.size_setIfInBounds] <;> exact hI.size
    · by_cases hji : j = i
      · subst hji
        refine ⟨v, hR, fun d hd => ?_⟩
        rw [hdo] at hd
        have hlt := apart_lt hap hio (by rw [hdo]; exact hd)
        rw [hd]
        show (a.tmps.setIfInBounds d v)[d]? = some v
        rw [Array.getElem?_setIfInBounds, if_pos rfl, if_pos (by rw [hI.size]; exact hlt)]
      · rw [if_neg hji] at hj
        obtain ⟨u, hu, hud⟩ := hI.vals j hj
        refine ⟨u, SP.has_below hu hb, fun d hd => ?_⟩
        cases hod : o.dst with
        | none => exact hud d hd
        | some d' =>
          have hne : d' ≠ d := fun e => hji (apart_ne hap (dst_lt hd) hio hd (by rw [hdo, hod, e]))
          show (a.tmps.setIfInBounds d' v)[d]? = some u
          rw [Array.getElem?_setIfInBounds, if_neg hne]
          exact hud d hd
    · have hk' : ∀ j, L j = true → dstOf ops j ≠ some k := fun j hj => hk j (by by_cases h : j = i <;> simp [h, hj])
      have hki : o.dst ≠ some k := by rw [← hdo]; exact hk i (by simp)
      cases hod : o.dst with
      | none => exact hI.rest k hk'
      | some d' =>
        have hne : d' ≠ k := fun e => hki (by rw [hod, e])
        show (a.tmps.setIfInBounds d' v)[k]? = _
        rw [Array.getElem?_setIfInBounds, if_neg hne]
        exact hI.rest k hk'
  by_cases hs : skips ops R i = true
  · have hw : Region.wanted o (yielded ops a.tmps) = false := by
      have h1 := List.all_eq_true.1 hg i (List.mem_range.2 hik)
      unfold skips at hs
      simp only [ho] at h1 hs
      unfold Region.wanted
      cases hgd : o.guard with
      | none => rw [hgd] at hs; cases hs
      | some x =>
        obtain ⟨j, want⟩ := x
        simp only [hgd, Bool.and_eq_true] at h1 hs
        obtain ⟨⟨_, hsm⟩, h2⟩ := h1
        obtain ⟨ix, hix, h3⟩ := Array.any_eq_true.1 h2
        have he : o.after[ix] ∈ o.after := Array.getElem_mem hix
        generalize o.after[ix] = e at *
        simp only [Bool.and_eq_true, beq_iff_eq] at h3
        obtain ⟨h3, h4⟩ := h3
        obtain ⟨v, hv, hd⟩ := hdv e he h4
        rw [h3] at hv hd
        have hvb : v = .bool (!want) := by
          cases hr : R.getD j SP.any with
          | is x =>
            rw [hr] at hs hv
            cases x <;> simp only [SP.bool?, Bool.false_eq_true] at hs
            rename_i bb
            have hbb : bb = !want := by cases bb <;> cases want <;> simp_all
            rw [hbb] at hv
            exact hv
          | st p hp => rw [hr] at hs; simp [SP.bool?] at hs
        obtain ⟨d, hdj⟩ := Option.isSome_iff_exists.1 hsm
        have hy : yielded ops a.tmps j = some (!want) := by
          unfold yielded
          have e1 : (ops[j]?).bind (·.dst) = some d := hdj
          rw [e1]
          simp only [Option.bind_some, hd d hdj, hvb]
        simp only [hy]
        cases want <;> rfl
    refine wpOp_step ho fun K' hK => ?_
    rw [if_neg (by rw [hw]; exact Bool.false_ne_true)]
    exact hK _ _ (hfin undef w (Below.refl _ _) (by rw [hsk i hik hs]; rfl))
  have hw : Region.wanted o (yielded ops a.tmps) = true := by
    have h1 := List.all_eq_true.1 hg i (List.mem_range.2 hik)
    unfold skips at hs
    simp only [ho] at h1 hs
    unfold Region.wanted
    cases hgd : o.guard with
    | none => rfl
    | some x =>
      obtain ⟨j, want⟩ := x
      simp only [hgd, Bool.and_eq_true] at h1 hs
      obtain ⟨⟨⟨hbs, _⟩, hsm⟩, h2⟩ := h1
      obtain ⟨ix, hix, h3⟩ := Array.any_eq_true.1 h2
      have he : o.after[ix] ∈ o.after := Array.getElem_mem hix
      generalize o.after[ix] = e at *
      simp only [Bool.and_eq_true, beq_iff_eq] at h3
      obtain ⟨h3, h4⟩ := h3
      obtain ⟨v, hv, hd⟩ := hdv e he h4
      rw [h3] at hv hd
      have hvb : v = .bool want := by
        cases hr : R.getD j SP.any with
        | is x =>
          rw [hr] at hs hv hbs
          cases x <;> simp only [SP.bool?, Option.isSome_none, Bool.false_eq_true] at hbs
          rename_i bb
          simp only [SP.bool?] at hs
          have hbb : bb = want := by cases bb <;> cases want <;> simp_all
          rw [hbb] at hv
          exact hv
        | st p hp => rw [hr] at hbs; simp [SP.bool?] at hbs
      obtain ⟨d, hdj⟩ := Option.isSome_iff_exists.1 hsm
      have hy : yielded ops a.tmps j = some want := by
        unfold yielded
        have e1 : (ops[j]?).bind (·.dst) = some d := hdj
        rw [e1]
        simp only [Option.bind_some, hd d hdj, hvb]
      simp only [hy, beq_self_eq_true]
  refine wpOp_step ho fun K' hK => ?_
  rw [if_pos hw]
  refine hstep (by simpa using hs) a.eval w hI.below ⟨fun _ => rfl, fun _ => rfl, fun k hk => ?_, fun e he hb => ?_⟩ a K' rfl fun v w' hb hR => ?_
  · show a.tmps.getD k undef = a0.tmps.getD k undef
    rw [Array.getD_eq_getD_getElem?, Array.getD_eq_getD_getElem?, hI.rest k fun j hj h => ?_]
    have := List.all_eq_true.1 hk j (List.mem_range.2 (dst_lt h))
    rw [h] at this
    simp at this
  · obtain ⟨v, hv, hd⟩ := hdv e he hb
    exact ⟨v, hv, fun d hdd => getD_of (hd d hdd)⟩
  · exact hK _ _ (hfin v w' hb hR)
theorem region_tailS {id : Nat} {a0 : Act} {w0 : World} (k : Nat) (R : List SP) (ds : List (Option Tmp)) (hm : P.follows .mixedOrders = true) (hord : orderedB .any ops = true) (hap : apart ops a0.tmps.size = true) (hg : guardedS ops R k = true) (sk : List Nat) (hskl : skipped ops R k = sk) (hsk0 : ∀ p ∈ sk, R.getD p SP.any = .is undef) (hds : (List.range k).map (dstOf ops) = ds) (htl : tailed ops k = true)
    (hstep : ∀ i o, ops[i]? = some o → i < k → skips ops R i = false → ∀ E w, Below w0.drew.heap.size w0.drew w → Due ops R a0 o E w → Does P Q o E w (R.getD i SP.any).has)
    (hdone : ∀ (vals : Nat → Value) w, Below w0.drew.heap.size w0.drew w → (∀ i, i < k → (R.getD i SP.any).has w (vals i)) → wpList P ops Q (ops.toList.drop k) { a0 with tmps := setL ds vals 0 a0.tmps } w) : (Code.region id ops true).wp P Q a0 w0 := by
  have hsk := skip_of hskl hsk0
  unfold tailed at htl
  simp only [Bool.and_eq_true, decide_eq_true_eq] at htl
  obtain ⟨⟨hkn, hcov⟩, hch⟩ := htl
  have hchain : ∀ i, k ≤ i → i + 1 < ops.size → waitsFor ops (i + 1) i = true := fun i h1 h2 => by
    have := List.all_eq_true.1 hch i (List.mem_range.2 (by omega))
    simp only [Bool.or_eq_true, decide_eq_true_eq] at this
    rcases this with (h | h) | h
    · omega
    · omega
    · exact h
  have hcover : ∀ j, j < k → k < ops.size → ∃ i, j < i ∧ i ≤ k ∧ waitsFor ops i j = true := fun j h1 h2 => by
    have := List.all_eq_true.1 hcov j (List.mem_range.2 h1)
    simp only [Bool.or_eq_true, beq_iff_eq] at this
    rcases this with h | h
    · omega
    · obtain ⟨i, hi, h⟩ := List.any_eq_true.1 h
      simp only [Bool.and_eq_true, decide_eq_true_eq] at h
      exact ⟨i, h.1, by have := List.mem_range.1 hi; omega, h.2⟩
  have hfin : ∀ L a w, VInv ops R w0.drew a0 L a w → (∀ j, j < k → L j = true) → (∀ j, k ≤ j → L j = false) → wpList P ops Q (ops.toList.drop k) a w := fun L a w hI hall hno => by
    have hv : ∀ i, ∃ v, i < k → (R.getD i SP.any).has w v ∧ ∀ d, dstOf ops i = some d → a.tmps[d]? = some v := fun i => by
      by_cases hi : i < k
      · obtain ⟨v, h⟩ := hI.vals i (hall i hi); exact ⟨v, fun _ => h⟩
      · exact ⟨undef, fun h => absurd h hi⟩
    obtain ⟨vals, hvals⟩ := Classical.axiomOfChoice hv
    have ha : a = { a0 with tmps := setAll ops vals k a0.tmps } := by
      obtain ⟨tm, df⟩ := a
      have h1 : df = a0.defers := hI.defers
      have h2 : tm = setAll ops vals k a0.tmps := by
        refine Array.ext_getElem? fun s => ?_
        have hset := setAll_get vals hap s k a0.tmps hkn rfl
        by_cases hk : ∃ i, i < k ∧ dstOf ops i = some s
        · obtain ⟨i, hik, hi⟩ := hk
          rw [hset.2 i hik hi]
          exact (hvals i hik).2 s hi
        · rw [hset.1 fun i hi h => hk ⟨i, hi, h⟩]
          refine hI.rest s fun i hi h => ?_
          rcases Nat.lt_or_ge i k with hl | hl
          · exact hk ⟨i, hl, h⟩
          · rw [hno i hl] at hi; cases hi
      rw [h1, h2]
    rw [ha, setAll_eq, hds]
    exact hdone vals w hI.below fun i hi => (hvals i hi).1
  refine region_invB (fun a0 B L a w => (VInv ops R B a0 L a w ∧ (∀ i, k ≤ i → L i = false) ∧ Closed ops L) ∨ ∃ m, k ≤ m ∧ m ≤ ops.size ∧ (∀ i, L i = decide (i < m)) ∧ wpList P ops Q (ops.toList.drop m) a w) hm hord
    (Or.inl ⟨⟨Below.refl _ _, rfl, rfl, fun i h => (Bool.noConfusion h), fun k _ => rfl⟩, fun _ _ => rfl, fun i o _ h => (Bool.noConfusion h)⟩) ?_ ?_
  · intro L a w hI i o ho hLi hdep
    have hio : i < ops.size := (Array.getElem?_eq_some_iff.1 ho).1
    rcases hI with ⟨hI, hno, hcl⟩ | ⟨m, hm1, hm2, hL, hwp⟩
    · by_cases hik : i < k
      · refine wpOp_mono (fun a' w' h => Or.inl ?_) (vinv_stepS R hap hg hsk hik hI ho hLi hdep (hstep i o ho hik))
        refine ⟨h, fun j hj => ?_, fun j o' ho' hj e he hb => ?_⟩
        · have hji : j ≠ i := by omega
          simp only [hji, if_false]
          exact hno j hj
        · by_cases hji : j = i
          · subst hji
            rw [ho] at ho'; cases ho'
            by_cases h2 : e.on = j
            · simp [h2]
            · simp only [h2, if_false]; exact hdep e he hb
          · simp only [hji, if_false] at hj
            by_cases h2 : e.on = i
            · simp [h2]
            · simp only [h2, if_false]; exact hcl j o' ho' hj e he hb
      · have hik' : i = k := by
          rcases Nat.lt_or_ge k i with h | h
          · have := waits_done (L := L) (hchain (i - 1) (by omega) (by omega)) (by rw [show i - 1 + 1 = i by omega]; exact ho) hdep
            rw [hno (i - 1) (by omega)] at this; cases this
          · omega
        subst hik'
        have hall : ∀ d j, i - j ≤ d → j < i → L j = true := by
          intro d
          induction d with
          | zero => intro j h1 h2; omega
          | succ d ih =>
            intro j h1 h2
            obtain ⟨q, hq1, hq2, hq3⟩ := hcover j h2 hio
            by_cases hqi : q = i
            · subst hqi; exact waits_done hq3 ho hdep
            · have hq : L q = true := ih q (by omega) (by omega)
              have hqo : ops[q]? = some ops[q] := Array.getElem?_eq_getElem (by omega)
              exact waits_done hq3 hqo (hcl q _ hqo hq)
        refine wpOp_mono (fun a' w' h => Or.inr ⟨i + 1, by omega, by omega, fun j => ?_, h⟩) (wpList_to_op ho (hfin L a w hI (fun j hj => hall _ j (Nat.le_refl _) hj) hno))
        by_cases hji : j = i
        · subst hji; simp
        · simp only [hji, if_false]
          rcases Nat.lt_or_ge j i with h1 | h1
          · rw [hall _ j (Nat.le_refl _) h1]; simp; omega
          · rw [hno j h1]; simp; omega
    · have him : i = m := by
        have h1 : ¬ i < m := fun h => by rw [hL i] at hLi; simp [h] at hLi
        rcases Nat.lt_or_ge m i with h | h
        · have := waits_done (L := L) (hchain (i - 1) (by omega) (by omega)) (by rw [show i - 1 + 1 = i by omega]; exact ho) hdep
          rw [hL (i - 1)] at this
          simp at this; omega
        · omega
      subst him
      refine wpOp_mono (fun a' w' h => Or.inr ⟨i + 1, by omega, by omega, fun j => ?_, h⟩) (wpList_to_op ho hwp)
      by_cases hji : j = i
      · subst hji; simp
      · simp only [hji, if_false]
        rw [hL j]
        rcases Nat.lt_or_ge j i with h1 | h1
        · simp [h1]; omega
        · simp; omega
  · intro L a w hall hI
    rcases hI with ⟨hI, hno, hcl⟩ | ⟨m, hm1, hm2, hL, hwp⟩
    · have hk : k = ops.size := by
        rcases Nat.lt_or_ge k ops.size with h | h
        · have := hall k h; rw [hno k (Nat.le_refl _)] at this; cases this
        · omega
      have := hfin L a w hI (fun j hj => hall j (by omega)) hno
      rw [hk, ← Array.length_toList, List.drop_length] at this
      exact this
    · have hk : m = ops.size := by
        rcases Nat.lt_or_ge m ops.size with h | h
        · have := hall m h; rw [hL m] at this; simp at this
        · omega
      rw [hk, ← Array.length_toList, List.drop_length] at hwp
      exact hwp
end

end Go.Proofs.Ytmnpmjioahnjoaa.wk
/- A range over a function: a round's regions walked by the plain laws; the law of the statement at the wide fence. No program here. -/
namespace Go.Proofs.Ytmnpmjioahnjoaa.wk

open Go.RowKit

set_option linter.unusedVariables false

section

variable {P : Program} {ops : Array Oper} {Q : Exit → Act → World → Prop}
def isDefer (o : Oper) : Bool := match o.op with | .defer _ => true | _ => false
def noDefer (ops : Array Oper) : Bool := ops.all fun o => !isDefer o
theorem noDefer_at {i : Nat} {o : Oper} (h : noDefer ops = true) (ho : ops[i]? = some o) : ∀ c, o.op ≠ .defer c := by
  intro c hc
  have h1 := Array.all_eq_true_iff_forall_mem.1 h o (Array.mem_of_getElem? ho)
  simp [isDefer, hc] at h1
theorem rows_in {n : Nat} {row : String} {args : Array Value} {w : World} {R : Value → World → Prop} (l : Nat) (h : Rows P row args w R) : RowsIn (Fence.wide.inRound l) n P row args w R :=
  fun c cs _ => let ⟨v, w', r, s⟩ := h c cs; ⟨v, w', r, stepsIn_wide.2 s⟩
theorem calls_in {n : Nat} {f : FuncId} {args : Array Value} {w : World} {R : Ending → World → Prop} (l : Nat) (h : Calls P f args w R) : CallsIn (Fence.wide.inRound l) n P f args w R := CallsIn.inRound l (callsIn_wide.2 h)
theorem oper_in {o : Oper} {a : Act} {w : World} {K : Act → World → Prop} {n : Nat} (l : Nat) (hd : ∀ c, o.op ≠ .defer c) (h : o.wp P a w K Q) : o.wpIn (Fence.wide.inRound l) n P a w K Q := by
  refine ⟨fun f _ => trivial, ?_⟩
  rw [Oper.semAt_eq _ _ _ hd]
  unfold Oper.wp at h
  generalize (execOp a.eval o).run P w = r at h
  cases r with
  | ok x w' =>
    cases x with
    | value v => exact h
    | skip => exact h
    | defer d => exact h
    | enter f args => exact ⟨(fun hh => by cases hh), calls_in l h⟩
    | row row args => exact ⟨(fun hh => by cases hh), rows_in l h⟩
    | _ => exact h.elim
  | halt hlt w' =>
    cases hlt with
    | panic v => exact h
    | _ => exact h.elim
theorem op_in {i : Nat} {a : Act} {w : World} {K : Act → World → Prop} {n : Nat} (l : Nat) (hd : noDefer ops = true) (hq : ¬ LetsOut Q) (h : wpOp P ops Q i K a w) : wpOpIn (Fence.wide.inRound l) n P ops Q i K a w := by
  unfold wpOp at h
  unfold wpOpIn
  cases ho : ops[i]? with
  | none => rw [ho] at h; exact h
  | some o =>
    simp only [ho] at h ⊢
    by_cases hw : Region.wanted o (yielded ops a.tmps) = true
    · simp only [hw, if_true] at h ⊢
      rcases h with h | ⟨_, h⟩
      · exact oper_in l (noDefer_at hd ho) h
      · exact absurd h hq
    · simp only [hw, if_false, Bool.false_eq_true] at h ⊢
      exact ⟨fun f _ => trivial, h⟩
theorem any_in {md : Region.Mode} {n : Nat} (l : Nat) (hd : noDefer ops = true) (hq : ¬ LetsOut Q) : ∀ (fuel : Nat) (listed : Array Bool) (a : Act) (w : World), wpAny P md ops Q fuel listed a w → wpAnyIn (Fence.wide.inRound l) n P md ops Q fuel listed a w
  | 0, _, _, _, h => h
  | fuel + 1, listed, a, w, h => ⟨h.1, fun i hi => wpOpIn_mono (fun a w => any_in l hd hq fuel _ a w) (op_in l hd hq (h.2 i hi))⟩
theorem list_in {n : Nat} (l : Nat) (hd : noDefer ops = true) (hq : ¬ LetsOut Q) : ∀ (L : List Oper) (k : Nat) (a : Act) (w : World), (∀ j o, L[j]? = some o → ops[k + j]? = some o) → wpList P ops Q L a w → wpListIn (Fence.wide.inRound l) n P ops Q L a w
  | [], _, _, _, _, h => h
  | o :: L, k, a, w, hL, h => by
    have ho : ops[k]? = some o := hL 0 o rfl
    simp only [wpList] at h
    simp only [wpListIn]
    have hL' : ∀ j o, L[j]? = some o → ops[k + 1 + j]? = some o := fun j o hj => by rw [show k + 1 + j = k + (j + 1) by omega]; exact hL (j + 1) o hj
    by_cases hw : Region.wanted o (yielded ops a.tmps) = true
    · simp only [hw, if_true] at h ⊢
      rcases h with h | ⟨_, h⟩
      · exact oper_in l (noDefer_at hd ho) (Oper.wp_mono (fun a w h => list_in l hd hq L (k + 1) a w hL' h) h)
      · exact absurd h hq
    · simp only [hw, if_false, Bool.false_eq_true] at h ⊢
      exact ⟨fun f _ => trivial, list_in l hd hq L (k + 1) _ w hL' h⟩
/-- a region that draws, in a round -/
theorem region_in {id n : Nat} {a : Act} {w : World} (l : Nat) (hm : P.follows .mixedOrders = true) (hd : noDefer ops = true) (hq : ¬ LetsOut Q)
    (h : wpAny P .any ops Q ops.size (Array.replicate ops.size false) a { w with drawn := w.drawn + 1 }) : (Code.region id ops true).wpIn (Fence.wide.inRound l) n P Q a w :=
  wpIn_region_any hm (any_in l hd hq _ _ _ _ h)
theorem region_invB_in {id n : Nat} {a0 : Act} {w0 : World} (l : Nat) (hd : noDefer ops = true) (hq : ¬ LetsOut Q) (I : Act → World → (Nat → Bool) → Act → World → Prop) (hm : P.follows .mixedOrders = true) (hord : orderedB .any ops = true)
    (h0 : I a0 w0.drew (fun _ => false) a0 w0.drew)
    (hstep : ∀ L a w, I a0 w0.drew L a w → ∀ i o, ops[i]? = some o → L i = false → (∀ e ∈ o.after, Region.binds .any e = true → L e.on = true) → wpOp P ops Q i (fun a' w' => I a0 w0.drew (fun j => if j = i then true else L j) a' w') a w)
    (hdone : ∀ L a w, (∀ i, i < ops.size → L i = true) → I a0 w0.drew L a w → Q .normal a w) : (Code.region id ops true).wpIn (Fence.wide.inRound l) n P Q a0 w0 :=
  region_in l hm hd hq (any_invB (I a0 w0.drew) hord hstep hdone _ _ a0 w0.drew (by simp) (Nat.le_trans (List.length_filter_le _ _) (by simp)) (by
    have e : done (Array.replicate ops.size false) = fun _ => false := funext fun j => by
      unfold done
      rw [Array.getD_eq_getD_getElem?, Array.getElem?_replicate]
      split <;> rfl
    rw [e]
    exact h0))
theorem region_tailS_in {id n : Nat} {a0 : Act} {w0 : World} (l : Nat) (hnd : noDefer ops = true) (hq : ¬ LetsOut Q) (k : Nat) (R : List SP) (ds : List (Option Tmp)) (hm : P.follows .mixedOrders = true) (hord : orderedB .any ops = true) (hap : apart ops a0.tmps.size = true) (hg : guardedS ops R k = true) (sk : List Nat) (hskl : skipped ops R k = sk) (hsk0 : ∀ p ∈ sk, R.getD p SP.any = .is undef) (hds : (List.range k).map (dstOf ops) = ds) (htl : tailed ops k = true)
    (hstep : ∀ i o, ops[i]? = some o → i < k → skips ops R i = false → ∀ E w, Below w0.drew.heap.size w0.drew w → Due ops R a0 o E w → Does P Q o E w (R.getD i SP.any).has)
    (hdone : ∀ (vals : Nat → Value) w, Below w0.drew.heap.size w0.drew w → (∀ i, i < k → (R.getD i SP.any).has w (vals i)) → wpList P ops Q (ops.toList.drop k) { a0 with tmps := setL ds vals 0 a0.tmps } w) : (Code.region id ops true).wpIn (Fence.wide.inRound l) n P Q a0 w0 := by
  have hsk := skip_of hskl hsk0
  unfold tailed at htl
  simp only [Bool.and_eq_true, decide_eq_true_eq] at htl
  obtain ⟨⟨hkn, hcov⟩, hch⟩ := htl
  have hchain : ∀ i, k ≤ i → i + 1 < ops.size → waitsFor ops (i + 1) i = true := fun i h1 h2 => by
    have := List.all_eq_true.1 hch i (List.mem_range.2 (by omega))
    simp only [Bool.or_eq_true, decide_eq_true_eq] at this
    rcases this with (h | h) | h
    · omega
    · omega
    · exact h
  have hcover : ∀ j, j < k → k < ops.size → ∃ i, j < i ∧ i ≤ k ∧ waitsFor ops i j = true := fun j h1 h2 => by
    have := List.all_eq_true.1 hcov j (List.mem_range.2 h1)
    simp only [Bool.or_eq_true, beq_iff_eq] at this
    rcases this with h | h
    · omega
    · obtain ⟨i, hi, h⟩ := List.any_eq_true.1 h
      simp only [Bool.and_eq_true, decide_eq_true_eq] at h
      exact ⟨i, h.1, by have := List.mem_range.1 hi; omega, h.2⟩
  have hfin : ∀ L a w, VInv ops R w0.drew a0 L a w → (∀ j, j < k → L j = true) → (∀ j, k ≤ j → L j = false) → wpList P ops Q (ops.toList.drop k) a w := fun L a w hI hall hno => by
    have hv : ∀ i, ∃ v, i < k → (R.getD i SP.any).has w v ∧ ∀ d, dstOf ops i = some d → a.tmps[d]? = some v := fun i => by
      by_cases hi : i < k
      · obtain ⟨v, h⟩ := hI.vals i (hall i hi); exact ⟨v, fun _ => h⟩
      · exact ⟨undef, fun h => absurd h hi⟩
    obtain ⟨vals, hvals⟩ := Classical.axiomOfChoice hv
    have ha : a = { a0 with tmps := setAll ops vals k a0.tmps } := by
      obtain ⟨tm, df⟩ := a
      have h1 : df = a0.defers := hI.defers
      have h2 : tm = setAll ops vals k a0.tmps := by
        refine Array.ext_getElem? fun s => ?_
        have hset := setAll_get vals hap s k a0.tmps hkn rfl
        by_cases hk : ∃ i, i < k ∧ dstOf ops i = some s
        · obtain ⟨i, hik, hi⟩ := hk
          rw [hset.2 i hik hi]
          exact (hvals i hik).2 s hi
        · rw [hset.1 fun i hi h => hk ⟨i, hi, h⟩]
          refine hI.rest s fun i hi h => ?_
          rcases Nat.lt_or_ge i k with hl | hl
          · exact hk ⟨i, hl, h⟩
          · rw [hno i hl] at hi; cases hi
      rw [h1, h2]
    rw [ha, setAll_eq, hds]
    exact hdone vals w hI.below fun i hi => (hvals i hi).1
  refine region_invB_in l hnd hq (fun a0 B L a w => (VInv ops R B a0 L a w ∧ (∀ i, k ≤ i → L i = false) ∧ Closed ops L) ∨ ∃ m, k ≤ m ∧ m ≤ ops.size ∧ (∀ i, L i = decide (i < m)) ∧ wpList P ops Q (ops.toList.drop m) a w) hm hord
    (Or.inl ⟨⟨Below.refl _ _, rfl, rfl, fun i h => (Bool.noConfusion h), fun k _ => rfl⟩, fun _ _ => rfl, fun i o _ h => (Bool.noConfusion h)⟩) ?_ ?_
  · intro L a w hI i o ho hLi hdep
    have hio : i < ops.size := (Array.getElem?_eq_some_iff.1 ho).1
    rcases hI with ⟨hI, hno, hcl⟩ | ⟨m, hm1, hm2, hL, hwp⟩
    · by_cases hik : i < k
      · refine wpOp_mono (fun a' w' h => Or.inl ?_) (vinv_stepS R hap hg hsk hik hI ho hLi hdep (hstep i o ho hik))
        refine ⟨h, fun j hj => ?_, fun j o' ho' hj e he hb => ?_⟩
        · have hji : j ≠ i := by omega
          simp only [hji, if_false]
          exact hno j hj
        · by_cases hji : j = i
          · subst hji
            rw [ho] at ho'; cases ho'
            by_cases h2 : e.on = j
            · simp [h2]
            · simp only [h2, if_false]; exact hdep e he hb
          · simp only [hji, if_false] at hj
            by_cases h2 : e.on = i
            · simp [h2]
            · simp only [h2, if_false]; exact hcl j o' ho' hj e he hb
      · have hik' : i = k := by
          rcases Nat.lt_or_ge k i with h | h
          · have := waits_done (L := L) (hchain (i - 1) (by omega) (by omega)) (by rw [show i - 1 + 1 = i by omega]; exact ho) hdep
            rw [hno (i - 1) (by omega)] at this; cases this
          · omega
        subst hik'
        have hall : ∀ d j, i - j ≤ d → j < i → L j = true := by
          intro d
          induction d with
          | zero => intro j h1 h2; omega
          | succ d ih =>
            intro j h1 h2
            obtain ⟨q, hq1, hq2, hq3⟩ := hcover j h2 hio
            by_cases hqi : q = i
            · subst hqi; exact waits_done hq3 ho hdep
            · have hq : L q = true := ih q (by omega) (by omega)
              have hqo : ops[q]? = some ops[q] := Array.getElem?_eq_getElem (by omega)
              exact waits_done hq3 hqo (hcl q _ hqo hq)
        refine wpOp_mono (fun a' w' h => Or.inr ⟨i + 1, by omega, by omega, fun j => ?_, h⟩) (wpList_to_op ho (hfin L a w hI (fun j hj => hall _ j (Nat.le_refl _) hj) hno))
        by_cases hji : j = i
        · subst hji; simp
        · simp only [hji, if_false]
          rcases Nat.lt_or_ge j i with h1 | h1
          · rw [hall _ j (Nat.le_refl _) h1]; simp; omega
          · rw [hno j h1]; simp; omega
    · have him : i = m := by
        have h1 : ¬ i < m := fun h => by rw [hL i] at hLi; simp [h] at hLi
        rcases Nat.lt_or_ge m i with h | h
        · have := waits_done (L := L) (hchain (i - 1) (by omega) (by omega)) (by rw [show i - 1 + 1 = i by omega]; exact ho) hdep
          rw [hL (i - 1)] at this
          simp at this; omega
        · omega
      subst him
      refine wpOp_mono (fun a' w' h => Or.inr ⟨i + 1, by omega, by omega, fun j => ?_, h⟩) (wpList_to_op ho hwp)
      by_cases hji : j = i
      · subst hji; simp
      · simp only [hji, if_false]
        rw [hL j]
        rcases Nat.lt_or_ge j i with h1 | h1
        · simp [h1]; omega
        · simp; omega
  · intro L a w hall hI
    rcases hI with ⟨hI, hno, hcl⟩ | ⟨m, hm1, hm2, hL, hwp⟩
    · have hk : k = ops.size := by
        rcases Nat.lt_or_ge k ops.size with h | h
        · have := hall k h; rw [hno k (Nat.le_refl _)] at this; cases this
        · omega
      have := hfin L a w hI (fun j hj => hall j (by omega)) hno
      rw [hk, ← Array.length_toList, List.drop_length] at this
      exact this
    · have hk : m = ops.size := by
        rcases Nat.lt_or_ge m ops.size with h | h
        · have := hall m h; rw [hL m] at this; simp at this
        · omega
      rw [hk, ← Array.length_toList, List.drop_length] at hwp
      exact hwp
end
/-- whatever lay below B lies as it lay, but for the blocks M -/
structure Exc (M : List Nat) (B : Nat) (w w' : World) : Prop where
  os : w'.os = w.os
  tape : w'.tape = w.tape
  output : w'.output = w.output
  size : w.heap.size ≤ w'.heap.size
  block : ∀ k, k < B → k ∉ M → w'.heap[k]? = w.heap[k]?
theorem Exc.refl (M : List Nat) (B : Nat) (w : World) : Exc M B w w := ⟨rfl, rfl, rfl, Nat.le_refl _, fun _ _ _ => rfl⟩
theorem Exc.trans {M : List Nat} {B : Nat} {a b c : World} (h : Exc M B a b) (k : Exc M B b c) : Exc M B a c :=
  ⟨k.os.trans h.os, k.tape.trans h.tape, k.output.trans h.output, Nat.le_trans h.size k.size, fun i hi hm => (k.block i hi hm).trans (h.block i hi hm)⟩
theorem Exc.of_below {M : List Nat} {B : Nat} {a b : World} (h : Below B a b) : Exc M B a b := ⟨h.os, h.tape, h.output, h.size, fun i hi _ => h.block i hi⟩
theorem Exc.below {M : List Nat} {B n : Nat} {a b : World} (h : Exc M B a b) (hn : n ≤ B) (hM : ∀ m ∈ M, n ≤ m) : Below n a b :=
  ⟨h.os, h.tape, h.output, h.size, fun i hi => h.block i (by omega) (fun hm => by have := hM i hm; omega)⟩
theorem Exc.put {M : List Nat} {B : Nat} {W : World} {l : Nat} (o : Obj) (h : B ≤ l) : Exc M B W (W.putObj l o) :=
  ⟨rfl, rfl, rfl, by simp, fun k hk _ => World.putObj_heap_other (by omega)⟩
theorem Exc.own {β : Type} {M : List Nat} {B : Nat} {w : World} (hB : B ≤ w.heap.size) : OwnFrom B (fun (_ : β) W => Exc M B w W) := by
  intro s W W' row hs hg hr
  refine hs.trans ⟨hg.os, hg.tape, hg.output, hg.size, fun k hk _ => hg.block k ?_ ?_⟩
  · have := hs.size; omega
  · intro e; have := (hr k e.symm).1; omega
theorem Exc.setCell {M : List Nat} {B : Nat} {W : World} {p : Addr} (v : Value) (h : p.block ∈ M ∨ B ≤ p.block) : Exc M B W (W.setCell p v) := by
  refine ⟨rfl, rfl, rfl, by simp, fun k hk hm => Below.heap_setCell _ _ _ _ fun e => ?_⟩
  subst e
  rcases h with h | h
  · exact hm h
  · omega
/-- a fact on blocks below B that are cells, or lie in M -/
theorem own_block {β : Type} {B m : Nat} {o : β → Option Obj} (hm : m < B) (hB : ∀ W : World, True) : OwnFrom B (fun s W => W.heap[m]? = o s ∧ m < W.heap.size) := by
  intro s W W' row hs hg hr
  have h : W'.heap[m]? = W.heap[m]? := hg.block m hs.2 (fun e => by have := (hr m e.symm).1; omega)
  exact ⟨h.trans hs.1, Nat.lt_of_lt_of_le hs.2 hg.size⟩
end Go.Proofs.Ytmnpmjioahnjoaa.wk

namespace Go.Proofs.Ytmnpmjioahnjoaa.wi

open Go.ChangeShapes Go.WideShapes Go.ChangeAt Go.RowKit

theorem RB_new {w : World} {g : Nat} (hg : w.heap.size = g) (l : List UInt8) {cs : Array Value} (t : TypeId) (hcs : cs = (wp.bc l).toArray) : wp.RB (w.alloc (.cells cs t)) (some ⟨g, 0, none⟩) l := fun hl => by
  subst hg hcs
  exact ⟨w.heap.size, 0, rfl, by simp, fun j u hu => by
    have := wk.cells_new w (wp.bc l) t j (.int .u8 (u.toNat : Int)) (by simp [wp.bc, hu])
    rw [wk.add_at] at this
    exact this⟩
theorem RC_new {w : World} {g : Nat} (hg : w.heap.size = g) (xs : List Value) {cs : Array Value} (t : TypeId) (hcs : cs = xs.toArray) : wp.RC (w.alloc (.cells cs t)) (some ⟨g, 0, none⟩) xs := fun hl => by
  subst hg hcs
  exact ⟨w.heap.size, 0, rfl, by simp, fun j u hu => by
    have := wk.cells_new w xs t j u hu
    rw [wk.add_at] at this
    exact this⟩

end Go.Proofs.Ytmnpmjioahnjoaa.wi
/- Boxes in memory; the program's small functions. -/
namespace Go.Proofs.Ytmnpmjioahnjoaa.bk

open Go.ChangeShapes Go.WideShapes Go.ChangeAt Go.RowKit

open Go.Proofs.Ytmnpmjioahnjoaa.bq Go.Proofs.Ytmnpmjioahnjoaa.vk

set_option linter.unusedVariables false
/-- a box: two slices of integers -/
def IsX (w : World) (v : Value) (p : Pair) : Prop := ∃ A n c A' n' c', v = .agg #[.slice A n c, .slice A' n' c'] ∧ wo.IsI w A n c p.1 ∧ wo.IsI w A' n' c' p.2
theorem IsX.below {w w' : World} {v : Value} {p : Pair} (h : IsX w v p) (hb : Below w.heap.size w w') : IsX w' v p := by
  obtain ⟨A, n, c, A', n', c', rfl, h1, h2⟩ := h
  exact ⟨A, n, c, A', n', c', rfl, isI_below h1 hb, isI_below h2 hb⟩
def IsV (w : World) (v : Value) (l : List Int) : Prop := ∃ A n c, v = .slice A n c ∧ wo.IsI w A n c l
theorem IsV.below {w w' : World} {v : Value} {l : List Int} (h : IsV w v l) (hb : Below w.heap.size w w') : IsV w' v l := by
  obtain ⟨A, n, c, rfl, h⟩ := h
  exact ⟨A, n, c, rfl, isI_below h hb⟩
/-- a variable of two cells -/
def Two (w : World) (g : Nat) (a b : Value) : Prop := ∃ t, w.heap[g]? = some (.cells #[a, b] t (0, 0))
theorem Two.lt {w : World} {g : Nat} {a b : Value} (h : Two w g a b) : g < w.heap.size := by
  obtain ⟨t, h⟩ := h
  rcases Nat.lt_or_ge g w.heap.size with h' | h'
  · exact h'
  · rw [Array.getElem?_eq_none h'] at h; cases h
theorem Two.at {w w' : World} {g : Nat} {a b : Value} (h : Two w g a b) (e : w'.heap[g]? = w.heap[g]?) : Two w' g a b := by
  obtain ⟨t, h⟩ := h
  exact ⟨t, e.trans h⟩
theorem Two.below {w w' : World} {g : Nat} {a b : Value} (h : Two w g a b) (hb : Below w.heap.size w w') : Two w' g a b := h.at (hb.block g h.lt)
theorem Two.c0 {w : World} {g : Nat} {a b : Value} (h : Two w g a b) : w.cell? ⟨g, 0, none⟩ = some a := by
  obtain ⟨t, h⟩ := h
  rw [cell_of_row _ _ _ _ _ _ h]; rfl
theorem Two.c1 {w : World} {g : Nat} {a b : Value} (h : Two w g a b) : w.cell? ⟨g, 1, none⟩ = some b := by
  obtain ⟨t, h⟩ := h
  rw [cell_of_row _ _ _ _ _ _ h]; rfl
theorem Two.new (w : World) (a b : Value) (t : TypeId) : Two (w.alloc (.cells #[a, b] t)) w.heap.size a b := ⟨t, heap_alloc_new w _⟩
def rng (a b : Int) : Value := .agg #[.int .i64 a, .int .i64 b]
theorem isI_get {w : World} {A : Option Addr} {n c k : Nat} {l : List Int} (h : wo.IsI w A n c l) (hk : k < n) : ∃ b o, A = some ⟨b, o, none⟩ ∧ w.cell? ⟨b, o + k, none⟩ = some (.int .i64 (at' l k)) ∧ b < w.heap.size := by
  obtain ⟨b, o, x, rfl, hc, hx, _⟩ := isI_at h hk
  exact ⟨b, o, rfl, by rw [at_of hx]; exact hc, block_lt_of_cell hc⟩
set_option maxRecDepth 100000 in
theorem isVector1_calls (x : Int) (w : World) : Calls Try.prog 52 #[.int .i64 x] w fun e w' => e = .returned (.bool (!vq.okc x)) ∧ w' = w := by
  by_cases h3 : -1000 ≤ x
  · by_cases h4 : x ≤ 1000
    · rw [show vq.okc x = true from vq.okc_iff.2 ⟨h3, h4⟩]
      have e1 : decide (x < -1000) = false := decide_eq_false (by omega)
      have e2 : decide (1000 < x) = false := decide_eq_false (by omega)
      go_enter Try.func52, Try.ntmps52
      go_wp2
      go_ret
      exact ⟨by simp [e1, e2], rfl⟩
    · rw [show vq.okc x = false by simp [vq.okc, h4]]
      have e2 : decide (1000 < x) = true := decide_eq_true (by omega)
      go_enter Try.func52, Try.ntmps52
      go_wp2
      go_ret
      exact ⟨by simp [e2], rfl⟩
  · rw [show vq.okc x = false by simp [vq.okc, h3]]
    have e1 : decide (x < -1000) = true := decide_eq_true (by omega)
    go_enter Try.func52, Try.ntmps52
    go_wp2
    go_ret
    exact ⟨by simp [e1], rfl⟩
set_option maxRecDepth 100000 in
theorem gap_calls (a b c d : Int) (w : World) (h1 : -1000 ≤ a ∧ a ≤ 1000) (h2 : -1000 ≤ b ∧ b ≤ 1000) (h3 : -1000 ≤ c ∧ c ≤ 1000) (h4 : -1000 ≤ d ∧ d ≤ 1000) :
    Calls Try.prog 43 #[rng a b, rng c d] w fun e w' => e = .returned (.int .i64 (bq.gap a b c d)) ∧ Below w.heap.size w w' := by
  unfold rng
  have HB := Lib.hid (Below.andThen (below_new w (.cells #[.int .i64 a, .int .i64 b] 69)) (below_new _ (.cells #[.int .i64 c, .int .i64 d] 69)))
  by_cases hh : a - d < c - b
  all_goals
    go_enter Try.func43, Try.ntmps43
    go_wp2
    all_goals
      go_ret
      exact ⟨wp.ret_i64 (by unfold bq.gap; omega), HB.out⟩
set_option maxRecDepth 100000 in
theorem reach_calls (a b c d : Int) (w : World) (h1 : -1000 ≤ a ∧ a ≤ 1000) (h2 : -1000 ≤ b ∧ b ≤ 1000) (h3 : -1000 ≤ c ∧ c ≤ 1000) (h4 : -1000 ≤ d ∧ d ≤ 1000) :
    Calls Try.prog 44 #[rng a b, rng c d] w fun e w' => e = .returned (.int .i64 (bq.reach a b c d)) ∧ Below w.heap.size w w' := by
  unfold rng
  have HB := Lib.hid (Below.andThen (below_new w (.cells #[.int .i64 a, .int .i64 b] 69)) (below_new _ (.cells #[.int .i64 c, .int .i64 d] 69)))
  go_enter Try.func44, Try.ntmps44
  go_wp2
  all_goals
    go_ret
    exact ⟨wp.ret_i64 (by unfold bq.reach; omega), HB.out⟩
set_option maxRecDepth 100000 in
theorem lesser_calls (a b : Int) (w : World) : Calls Try.prog 34 #[.int .i64 a, .int .i64 b] w fun e w' => e = .returned (.int .i64 (min a b)) ∧ w' = w := by
  obtain ⟨x, hx⟩ : ∃ x, min a b = x := ⟨_, rfl⟩
  rw [hx]
  go_enter Try.func34, Try.ntmps34
  go_wp2
  go_ret
  exact ⟨rfl, rfl⟩
set_option maxRecDepth 100000 in
theorem greater_calls (a b : Int) (w : World) : Calls Try.prog 35 #[.int .i64 a, .int .i64 b] w fun e w' => e = .returned (.int .i64 (max a b)) ∧ w' = w := by
  obtain ⟨x, hx⟩ : ∃ x, max a b = x := ⟨_, rfl⟩
  rw [hx]
  go_enter Try.func35, Try.ntmps35
  go_wp2
  go_ret
  exact ⟨rfl, rfl⟩
set_option maxRecDepth 100000 in
theorem index_calls (A : Option Addr) (n c : Nat) (l : List Int) (w : World) (h : wo.IsI w A n c l) :
    Calls Try.prog 56 #[.slice A n c, .func (.func 52) #[] #[]] w fun e w' => (∃ r : Int, e = .returned (.int .i64 r) ∧ decide (0 ≤ r) = !l.all vq.okc) ∧ w' = w := by
  have hl := h.1
  have hm := h.2.2.1
  have hnc := h.2.1
  have H := Lib.hid h
  have HL := Lib.hid hl
  clear h hl
  go_enter Try.func56, Try.ntmps56
  go_wp2_with fail
  go_loopg [8] n (fun g x wr => ∃ k : Nat, k + g = n ∧ x = .int .i64 (k : Int) ∧ wr = w ∧ (l.take k).all vq.okc = true)
  case atStart => exact ⟨0, by omega, rfl, rfl, by simp⟩
  case round =>
    obtain ⟨k, hk, rfl, rfl, hr⟩ := hrel
    have HK := Lib.hid hk
    have HR := Lib.hid hr
    have hkn : k ≤ n := by omega
    clear hk hr
    by_cases hlt : k < n
    · obtain ⟨b, o, rfl, hc, hb⟩ := isI_get H.out hlt
      have hlt0 : (k : Int) < (n : Int) := by omega
      have HC := Lib.hid (isVector1_calls (at' l k) wr)
      have HX : Hid (l[k]? = some (at' l k)) := of_at (by rw [HL.out]; exact hlt)
      generalize at' l k = x at *
      cases hx : vq.okc x
      · rw [hx] at HC
        go_wp2_with fail
        refine HC.out.mono ?_
        rintro e w' ⟨rfl, rfl⟩
        go_wp2_with fail
        go_ret
        refine ⟨⟨k, rfl, ?_⟩, rfl⟩
        have h1 : l.all vq.okc = false := by
          rw [List.all_eq_false]
          exact ⟨x, List.mem_of_getElem? HX.out, by simp [hx]⟩
        rw [h1]; simp
      · rw [hx] at HC
        go_wp2_with fail
        refine HC.out.mono ?_
        rintro e w' ⟨rfl, rfl⟩
        go_wp2_with fail
        go_roundg (gk - 1)
        case measure => have := HK.out; omega
        case rel =>
          refine ⟨k + 1, by have := HK.out; omega, by go_num, rfl, ?_⟩
          rw [vq.take_snoc HX.out, List.all_append, HR.out]
          simp [hx]
    · go_wp2_with fail
      go_ret
      refine ⟨⟨-1, rfl, ?_⟩, rfl⟩
      have h1 := HR.out
      rw [List.take_of_length_le (by have := HL.out; omega)] at h1
      rw [h1]; rfl
set_option maxRecDepth 100000 in
theorem contains_calls (A : Option Addr) (n c : Nat) (l : List Int) (w : World) (h : wo.IsI w A n c l) :
    Calls Try.prog 51 #[.slice A n c, .func (.func 52) #[] #[]] w fun e w' => e = .returned (.bool (!l.all vq.okc)) ∧ w' = w := by
  have HC := Lib.hid (index_calls A n c l w h)
  clear h
  go_enter Try.func51, Try.ntmps51
  go_wp2_with fail
  refine HC.out.mono ?_
  rintro e w' ⟨⟨r, rfl, hr⟩, rfl⟩
  have HR := Lib.hid hr
  clear hr
  go_wp2_with fail
  go_ret
  exact ⟨by rw [← HR.out]; rfl, rfl⟩
set_option maxRecDepth 100000 in
theorem isVector_calls (A : Option Addr) (n c : Nat) (l : List Int) (w : World) (h : wo.IsI w A n c l) :
    Calls Try.prog 39 #[.slice A n c] w fun e w' => e = .returned (.bool (vq.valid l)) ∧ w' = w := by
  have hl := h.1
  have hm := h.2.2.1
  have hnc := h.2.1
  have HC := Lib.hid (contains_calls A n c l w h)
  clear h
  by_cases h1 : 1 ≤ n
  · by_cases h2 : n ≤ 32
    · have hE : vq.valid l = l.all vq.okc := by simp only [vq.valid, hl, decide_eq_true h1, decide_eq_true h2, Bool.true_and]
      rw [hE]
      clear hE
      go_enter Try.func39, Try.ntmps39
      go_wp2_with fail
      refine HC.out.mono ?_
      rintro e w' ⟨rfl, rfl⟩
      go_wp2_with fail
      go_ret
      exact ⟨by simp, rfl⟩
    · have hE : vq.valid l = false := by simp [vq.valid, hl, h2]
      rw [hE]
      go_enter Try.func39, Try.ntmps39
      go_wp2_with fail
      go_ret
      exact ⟨rfl, rfl⟩
  · have hE : vq.valid l = false := by simp [vq.valid, hl, h1]
    rw [hE]
    go_enter Try.func39, Try.ntmps39
    go_wp2_with fail
    go_ret
    exact ⟨rfl, rfl⟩
set_option maxRecDepth 100000 in
theorem point_calls (A : Option Addr) (n c : Nat) (w : World) :
    Calls Try.prog 31 #[.slice A n c] w fun e w' => e = .returned (.agg #[.slice A n c, .slice A n c]) ∧ Below w.heap.size w w' := by
  have HB := Lib.hid (below_new w (.cells #[.slice A n c, .slice A n c] 25))
  go_enter Try.func31, Try.ntmps31
  go_wp2_with fail
  exact bodyPost_ret (v := .agg #[.slice A n c, .slice A n c]) (results_cell_row (fn := Try.f31) rfl _ _ w.heap.size 25 #[.slice A n c, .slice A n c] (0, 0) _ rfl (heap_alloc_new _ _) Try.underlying25 rfl (by kernel_rfl)) rfl ⟨rfl, HB.out⟩
set_option maxRecDepth 100000 in
theorem sides_calls (a b : Value) (w : World) :
    Calls Try.prog 40 #[.agg #[a, b]] w fun e w' => e = .returned (.func (.func 53) #[] #[.pointer (some ⟨w.heap.size, 0, none⟩)]) ∧ w' = w.alloc (.cells #[a, b] 25) := by
  go_enter Try.func40, Try.ntmps40
  go_wp2_with fail
  go_ret
  exact ⟨rfl, rfl⟩
set_option maxRecDepth 100000 in
theorem side_calls (v : Value) (p : Pair) (k : Nat) (w : World) (h : IsX w v p) (h1 : k < p.1.length) (h2 : k < p.2.length) :
    Calls Try.prog 41 #[v, .int .i64 k] w fun e w' => e = .returned (rng (at' p.1 k) (at' p.2 k)) ∧ Below w.heap.size w w' := by
  obtain ⟨A, n, c, A', n', c', rfl, hi, hi'⟩ := h
  rw [hi.1] at h1
  rw [hi'.1] at h2
  obtain ⟨b, o, rfl, hc, hb⟩ := isI_get hi h1
  obtain ⟨b', o', rfl, hc', hb'⟩ := isI_get hi' h2
  have hm := hi.2.2.1
  have hm' := hi'.2.2.1
  have hn := hi.2.1
  have hn' := hi'.2.1
  clear hi hi'
  generalize at' p.1 k = x at *
  generalize at' p.2 k = y at *
  have h1' : (k : Int) < (n : Int) := by omega
  have h2' : (k : Int) < (n' : Int) := by omega
  have HB := Lib.hid (Below.andThen (below_new w (.cells #[.slice (some ⟨b, o, none⟩) n c, .slice (some ⟨b', o', none⟩) n' c'] 25)) (below_new _ (.cells #[.int .i64 x, .int .i64 y] 69))).drew
  go_enter Try.func41, Try.ntmps41
  go_wp2_with fail
  go_region
  go_wp2_with fail
  exact bodyPost_ret (v := rng x y) (results_cell_row (fn := Try.f41) rfl _ _ (w.heap.size + 1) 69 #[.int .i64 x, .int .i64 y] (0, 0) _ rfl (heap_alloc2_new _ _ _) Try.underlying69 rfl (by kernel_rfl)) rfl ⟨rfl, HB.out⟩
end Go.Proofs.Ytmnpmjioahnjoaa.bk
