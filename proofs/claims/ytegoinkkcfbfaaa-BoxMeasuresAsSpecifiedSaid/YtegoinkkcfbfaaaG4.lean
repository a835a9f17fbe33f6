/- Joined: Val2 Rf Mem Bb Bc Bd Be Bf. -/
import Derived.Test.YtegoinkkcfbfaaaG3

import Derived.RangeFuncNested

import Derived.RangeFuncBound

import Derived.RangeFuncCalls

import Derived.RangeFuncLeaves

import Derived.OrdersIn

import Derived.TacticsIn

import Derived.Lib.MinMax

import Derived.Shelf.Abstract

import Derived.Shelf.RegionOpen

import Derived.WalkKit

import Derived.OwnWalkIn

import Derived.TacticsInMore

import Derived.LoopNIn

import Derived.LoopIn
/- A region that draws its order and passes over operations whose guard says no. -/
namespace Go.Proofs.Ytegoinkkcfbfaaa.wk

open Go.ChangeShapes Go.WideShapes Go.ChangeAt Go.RowKit

section

variable {P : Program} {ops : Array Oper} {Q : Exit → Act → World → Prop}
/-- the operation's guard says no -/
def skips (ops : Array Oper) (R : List SP) (i : Nat) : Bool :=
  match ops[i]? with
  | none => false
  | some o => match o.guard with
    | none => false
    | some (j, want) => match (R.getD j SP.any).bool? with
      | some b => b != want
      | none => false
def guardedS (ops : Array Oper) (R : List SP) (k : Nat) : Bool :=
  (List.range k).all fun i => match ops[i]? with
    | none => true
    | some o => match o.guard with
      | none => true
      | some (j, _) => (R.getD j SP.any).bool?.isSome && o.dst.isSome && (dstOf ops j).isSome && o.after.any fun e => e.on == j && Region.binds .any e
def skipped (ops : Array Oper) (R : List SP) (k : Nat) : List Nat := (List.range k).filter fun i => skips ops R i
theorem skip_of {R : List SP} {k : Nat} {l : List Nat} (hl : skipped ops R k = l) (h : ∀ p ∈ l, R.getD p SP.any = .is undef) : ∀ i, i < k → skips ops R i = true → R.getD i SP.any = .is undef := fun i hi hs => by
  refine h i ?_
  rw [← hl]
  exact List.mem_filter.2 ⟨List.mem_range.2 hi, hs⟩
theorem vinv_stepS {a0 : Act} {B : World} {k : Nat} (R : List SP) (hap : apart ops a0.tmps.size = true) (hg : guardedS ops R k = true) (hsk : ∀ i, i < k → skips ops R i = true → R.getD i SP.any = .is undef) {L : Nat → Bool} {a : Act} {w : World} {i : Nat} {o : Oper} (hik : i < k) (hI : VInv ops R B a0 L a w) (ho : ops[i]? = some o) (hLi : L i = false) (hdep : ∀ e ∈ o.after, Region.binds .any e = true → L e.on = true)
    (hstep : skips ops R i = false → ∀ E w, Below B.heap.size B w → Due ops R a0 o E w → Does P Q o E w (R.getD i SP.any).has) :
    wpOp P ops Q i (fun a' w' => VInv ops R B a0 (fun j => if j = i then true else L j) a' w') a w := by
  have hio : i < ops.size := (Array.getElem?_eq_some_iff.1 ho).1
  have hdv : ∀ e ∈ o.after, Region.binds .any e = true → ∃ v, (R.getD e.on SP.any).has w v ∧ ∀ d, dstOf ops e.on = some d → a.tmps[d]? = some v := fun e he hb => hI.vals e.on (hdep e he hb)
  have hfin : ∀ v w', Below w.heap.size w w' → (R.getD i SP.any).has w' v → VInv ops R B a0 (fun j => if j = i then true else L j) (a.put o.dst v) w' := fun v w' hb hR => by
    have hB := hI.below.trans (hb.mono hI.below.size)
    have hdo : dstOf ops i = o.dst := by unfold dstOf; rw [ho]; rfl
    refine ⟨hB, ?_, ?_, fun j hj => ?_, fun k hk => ?_⟩
    · cases hd : o.dst <;> exact hI.defers
    · cases hd : o.dst <;> simp only [Act.put, Array.size_setIfInBounds] <;> exact hI.size
    · by_cases hji : j = i
      · subst hji
        refine ⟨v, hR, fun d hd => ?_⟩
        rw [hdo] at hd
        have hlt := apart_lt hap hio (by rw [hdo]; exact hd)
        rw [hd]
        show (a.tmps.setIfInBounds d v)[d]? = some v
        rw [Array.getElem?_setIfInBounds, if_pos rfl, if_pos (by rw [hI.size]; exact hlt)]
      · rw [if_neg hji] at hj
        obtain ⟨u, hu, hud⟩ := hI.vals j hj
        refine ⟨u, SP.has_below hu hb, fun d hd => ?_⟩
        cases hod : o.dst with
        | none => exact hud d hd
        | some d' =>
          have hne : d' ≠ d := fun e => hji (apart_ne hap (dst_lt hd) hio hd (by rw [hdo, hod, e]))
          show (a.tmps.setIfInBounds d' v)[d]? = some u
          rw [Array.getElem?_setIfInBounds, if_neg hne]
          exact hud d hd
    · have hk' : ∀ j, L j = true → dstOf ops j ≠ some k := fun j hj => hk j (by by_cases h : j = i <;> simp [h, hj])
      have hki : o.dst ≠ some k := by rw [← hdo]; exact hk i (by simp)
      cases hod : o.dst with
      | none => exact hI.rest k hk'
      | some d' =>
        have hne : d' ≠ k := fun e => hki (by rw [hod, e])
        show (a.tmps.setIfInBounds d' v)[k]? = _
        rw [Array.getElem?_setIfInBounds, if_neg hne]
        exact hI.rest k hk'
  by_cases hs : skips ops R i = true
  · have hw : Region.wanted o (yielded ops a.tmps) = false := by
      have h1 := List.all_eq_true.1 hg i (List.mem_range.2 hik)
      unfold skips at hs
      simp only [ho] at h1 hs
      unfold Region.wanted
      cases hgd : o.guard with
      | none => rw [hgd] at hs; cases hs
      | some x =>
        obtain ⟨j, want⟩ := x
        simp only [hgd, Bool.and_eq_true] at h1 hs
        obtain ⟨⟨_, hsm⟩, h2⟩ := h1
        obtain ⟨ix, hix, h3⟩ := Array.any_eq_true.1 h2
        have he : o.after[ix] ∈ o.after := Array.getElem_mem hix
        generalize o.after[ix] = e at *
        simp only [Bool.and_eq_true, beq_iff_eq] at h3
        obtain ⟨h3, h4⟩ := h3
        obtain ⟨v, hv, hd⟩ := hdv e he h4
        rw [h3] at hv hd
        have hvb : v = .bool (!want) := by
          cases hr : R.getD j SP.any with
          | is x =>
            rw [hr] at hs hv
            cases x <;> simp only [SP.bool?, Bool.false_eq_true] at hs
            rename_i bb
            have hbb : bb = !want := by cases bb <;> cases want <;> simp_all
            rw [hbb] at hv
            exact hv
          | st p hp => rw [hr] at hs; simp [SP.bool?] at hs
        obtain ⟨d, hdj⟩ := Option.isSome_iff_exists.1 hsm
        have hy : yielded ops a.tmps j = some (!want) := by
          unfold yielded
          have e1 : (ops[j]?).bind (·.dst) = some d := hdj
          rw [e1]
          simp only [Option.bind_some, hd d hdj, hvb]
        simp only [hy]
        cases want <;> rfl
    refine wpOp_step ho fun K' hK => ?_
    rw [if_neg (by rw [hw]; exact Bool.false_ne_true)]
    exact hK _ _ (hfin undef w (Below.refl _ _) (by rw [hsk i hik hs]; rfl))
  have hw : Region.wanted o (yielded ops a.tmps) = true := by
    have h1 := List.all_eq_true.1 hg i (List.mem_range.2 hik)
    unfold skips at hs
    simp only [ho] at h1 hs
    unfold Region.wanted
    cases hgd : o.guard with
    | none => rfl
    | some x =>
      obtain ⟨j, want⟩ := x
      simp only [hgd, Bool.and_eq_true] at h1 hs
      obtain ⟨⟨⟨hbs, _⟩, hsm⟩, h2⟩ := h1
      obtain ⟨ix, hix, h3⟩ := Array.any_eq_true.1 h2
      have he : o.after[ix] ∈ o.after := Array.getElem_mem hix
      generalize o.after[ix] = e at *
      simp only [Bool.and_eq_true, beq_iff_eq] at h3
      obtain ⟨h3, h4⟩ := h3
      obtain ⟨v, hv, hd⟩ := hdv e he h4
      rw [h3] at hv hd
      have hvb : v = .bool want := by
        cases hr : R.getD j SP.any with
        | is x =>
          rw [hr] at hs hv hbs
          cases x <;> simp only [SP.bool?, Option.isSome_none, Bool.false_eq_true] at hbs
          rename_i bb
          simp only [SP.bool?] at hs
          have hbb : bb = want := by cases bb <;> cases want <;> simp_all
          rw [hbb] at hv
          exact hv
        | st p hp => rw [hr] at hbs; simp [SP.bool?] at hbs
      obtain ⟨d, hdj⟩ := Option.isSome_iff_exists.1 hsm
      have hy : yielded ops a.tmps j = some want := by
        unfold yielded
        have e1 : (ops[j]?).bind (·.dst) = some d := hdj
        rw [e1]
        simp only [Option.bind_some, hd d hdj, hvb]
      simp only [hy, beq_self_eq_true]
  refine wpOp_step ho fun K' hK => ?_
  rw [if_pos hw]
  refine hstep (by simpa using hs) a.eval w hI.below ⟨fun _ => rfl, fun _ => rfl, fun k hk => ?_, fun e he hb => ?_⟩ a K' rfl fun v w' hb hR => ?_
  · show a.tmps.getD k undef = a0.tmps.getD k undef
    rw [Array.getD_eq_getD_getElem?, Array.getD_eq_getD_getElem?, hI.rest k fun j hj h => ?_]
    have := List.all_eq_true.1 hk j (List.mem_range.2 (dst_lt h))
    rw [h] at this
    simp at this
  · obtain ⟨v, hv, hd⟩ := hdv e he hb
    exact ⟨v, hv, fun d hdd => getD_of (hd d hdd)⟩
  · exact hK _ _ (hfin v w' hb hR)
theorem region_tailS {id : Nat} {a0 : Act} {w0 : World} (k : Nat) (R : List SP) (ds : List (Option Tmp)) (hm : P.follows .mixedOrders = true) (hord : orderedB .any ops = true) (hap : apart ops a0.tmps.size = true) (hg : guardedS ops R k = true) (sk : List Nat) (hskl : skipped ops R k = sk) (hsk0 : ∀ p ∈ sk, R.getD p SP.any = .is undef) (hds : (List.range k).map (dstOf ops) = ds) (htl : tailed ops k = true)
    (hstep : ∀ i o, ops[i]? = some o → i < k → skips ops R i = false → ∀ E w, Below w0.drew.heap.size w0.drew w → Due ops R a0 o E w → Does P Q o E w (R.getD i SP.any).has)
    (hdone : ∀ (vals : Nat → Value) w, Below w0.drew.heap.size w0.drew w → (∀ i, i < k → (R.getD i SP.any).has w (vals i)) → wpList P ops Q (ops.toList.drop k) { a0 with tmps := setL ds vals 0 a0.tmps } w) : (Code.region id ops true).wp P Q a0 w0 := by
  have hsk := skip_of hskl hsk0
  unfold tailed at htl
  simp only [Bool.and_eq_true, decide_eq_true_eq] at htl
  obtain ⟨⟨hkn, hcov⟩, hch⟩ := htl
  have hchain : ∀ i, k ≤ i → i + 1 < ops.size → waitsFor ops (i + 1) i = true := fun i h1 h2 => by
    have := List.all_eq_true.1 hch i (List.mem_range.2 (by omega))
    simp only [Bool.or_eq_true, decide_eq_true_eq] at this
    rcases this with (h | h) | h
    · omega
    · omega
    · exact h
  have hcover : ∀ j, j < k → k < ops.size → ∃ i, j < i ∧ i ≤ k ∧ waitsFor ops i j = true := fun j h1 h2 => by
    have := List.all_eq_true.1 hcov j (List.mem_range.2 h1)
    simp only [Bool.or_eq_true, beq_iff_eq] at this
    rcases this with h | h
    · omega
    · obtain ⟨i, hi, h⟩ := List.any_eq_true.1 h
      simp only [Bool.and_eq_true, decide_eq_true_eq] at h
      exact ⟨i, h.1, by have := List.mem_range.1 hi; omega, h.2⟩
  have hfin : ∀ L a w, VInv ops R w0.drew a0 L a w → (∀ j, j < k → L j = true) → (∀ j, k ≤ j → L j = false) → wpList P ops Q (ops.toList.drop k) a w := fun L a w hI hall hno => by
    have hv : ∀ i, ∃ v, i < k → (R.getD i SP.any).has w v ∧ ∀ d, dstOf ops i = some d → a.tmps[d]? = some v := fun i => by
      by_cases hi : i < k
      · obtain ⟨v, h⟩ := hI.vals i (hall i hi); exact ⟨v, fun _ => h⟩
      · exact ⟨undef, fun h => absurd h hi⟩
    obtain ⟨vals, hvals⟩ := Classical.axiomOfChoice hv
    have ha : a = { a0 with tmps := setAll ops vals k a0.tmps } := by
      obtain ⟨tm, df⟩ := a
      have h1 : df = a0.defers := hI.defers
      have h2 : tm = setAll ops vals k a0.tmps := by
        refine Array.ext_getElem? fun s => ?_
        have hset := setAll_get vals hap s k a0.tmps hkn rfl
        by_cases hk : ∃ i, i < k ∧ dstOf ops i = some s
        · obtain ⟨i, hik, hi⟩ := hk
          rw [hset.2 i hik hi]
          exact (hvals i hik).2 s hi
        · rw [hset.1 fun i hi h => hk ⟨i, hi, h⟩]
          refine hI.rest s fun i hi h => ?_
          rcases Nat.lt_or_ge i k with hl | hl
          · exact hk ⟨i, hl, h⟩
          · rw [hno i hl] at hi; cases hi
      rw [h1, h2]
    rw [ha, setAll_eq, hds]
    exact hdone vals w hI.below fun i hi => (hvals i hi).1
  refine region_invB (fun a0 B L a w => (VInv ops R B a0 L a w ∧ (∀ i, k ≤ i → L i = false) ∧ Closed ops L) ∨ ∃ m, k ≤ m ∧ m ≤ ops.size ∧ (∀ i, L i = decide (i < m)) ∧ wpList P ops Q (ops.toList.drop m) a w) hm hord
    (Or.inl ⟨⟨Below.refl _ _, rfl, rfl, fun i h => (Bool.noConfusion h), fun k _ => rfl⟩, fun _ _ => rfl, fun i o _ h => (Bool.noConfusion h)⟩) ?_ ?_
  · intro L a w hI i o ho hLi hdep
    have hio : i < ops.size := (Array.getElem?_eq_some_iff.1 ho).1
    rcases hI with ⟨hI, hno, hcl⟩ | ⟨m, hm1, hm2, hL, hwp⟩
    · by_cases hik : i < k
      · refine wpOp_mono (fun a' w' h => Or.inl ?_) (vinv_stepS R hap hg hsk hik hI ho hLi hdep (hstep i o ho hik))
        refine ⟨h, fun j hj => ?_, fun j o' ho' hj e he hb => ?_⟩
        · have hji : j ≠ i := by omega
          simp only [hji, if_false]
          exact hno j hj
        · by_cases hji : j = i
          · subst hji
            rw [ho] at ho'; cases ho'
            by_cases h2 : e.on = j
            · simp [h2]
            · simp only [h2, if_false]; exact hdep e he hb
          · simp only [hji, if_false] at hj
            by_cases h2 : e.on = i
            · simp [h2]
            · simp only [h2, if_false]; exact hcl j o' ho' hj e he hb
      · have hik' : i = k := by
          rcases Nat.lt_or_ge k i with h | h
          · have := waits_done (L := L) (hchain (i - 1) (by omega) (by omega)) (by rw [show i - 1 + 1 = i by omega]; exact ho) hdep
            rw [hno (i - 1) (by omega)] at this; cases this
          · omega
        subst hik'
        have hall : ∀ d j, i - j ≤ d → j < i → L j = true := by
          intro d
          induction d with
          | zero => intro j h1 h2; omega
          | succ d ih =>
            intro j h1 h2
            obtain ⟨q, hq1, hq2, hq3⟩ := hcover j h2 hio
            by_cases hqi : q = i
            · subst hqi; exact waits_done hq3 ho hdep
            · have hq : L q = true := ih q (by omega) (by omega)
              have hqo : ops[q]? = some ops[q] := Array.getElem?_eq_getElem (by omega)
              exact waits_done hq3 hqo (hcl q _ hqo hq)
        refine wpOp_mono (fun a' w' h => Or.inr ⟨i + 1, by omega, by omega, fun j => ?_, h⟩) (wpList_to_op ho (hfin L a w hI (fun j hj => hall _ j (Nat.le_refl _) hj) hno))
        by_cases hji : j = i
        · subst hji; simp
        · simp only [hji, if_false]
          rcases Nat.lt_or_ge j i with h1 | h1
          · rw [hall _ j (Nat.le_refl _) h1]; simp; omega
          · rw [hno j h1]; simp; omega
    · have him : i = m := by
        have h1 : ¬ i < m := fun h => by rw [hL i] at hLi; simp [h] at hLi
        rcases Nat.lt_or_ge m i with h | h
        · have := waits_done (L := L) (hchain (i - 1) (by omega) (by omega)) (by rw [show i - 1 + 1 = i by omega]; exact ho) hdep
          rw [hL (i - 1)] at this
          simp at this; omega
        · omega
      subst him
      refine wpOp_mono (fun a' w' h => Or.inr ⟨i + 1, by omega, by omega, fun j => ?_, h⟩) (wpList_to_op ho hwp)
      by_cases hji : j = i
      · subst hji; simp
      · simp only [hji, if_false]
        rw [hL j]
        rcases Nat.lt_or_ge j i with h1 | h1
        · simp [h1]; omega
        · simp; omega
  · intro L a w hall hI
    rcases hI with ⟨hI, hno, hcl⟩ | ⟨m, hm1, hm2, hL, hwp⟩
    · have hk : k = ops.size := by
        rcases Nat.lt_or_ge k ops.size with h | h
        · have := hall k h; rw [hno k (Nat.le_refl _)] at this; cases this
        · omega
      have := hfin L a w hI (fun j hj => hall j (by omega)) hno
      rw [hk, ← Array.length_toList, List.drop_length] at this
      exact this
    · have hk : m = ops.size := by
        rcases Nat.lt_or_ge m ops.size with h | h
        · have := hall m h; rw [hL m] at this; simp at this
        · omega
      rw [hk, ← Array.length_toList, List.drop_length] at hwp
      exact hwp
end

end Go.Proofs.Ytegoinkkcfbfaaa.wk
/- A range over a function: a round's regions walked by the plain laws; the law of the statement at the wide fence. No program here. -/
namespace Go.Proofs.Ytegoinkkcfbfaaa.wk

open Go.RowKit

set_option linter.unusedVariables false

section

variable {P : Program} {ops : Array Oper} {Q : Exit → Act → World → Prop}
def isDefer (o : Oper) : Bool := match o.op with | .defer _ => true | _ => false
def noDefer (ops : Array Oper) : Bool := ops.all fun o => !isDefer o
theorem noDefer_at {i : Nat} {o : Oper} (h : noDefer ops = true) (ho : ops[i]? = some o) : ∀ c, o.op ≠ .defer c := by
  intro c hc
  have h1 := Array.all_eq_true_iff_forall_mem.1 h o (Array.mem_of_getElem? ho)
  simp [isDefer, hc] at h1
theorem rows_in {n : Nat} {row : String} {args : Array Value} {w : World} {R : Value → World → Prop} (l : Nat) (h : Rows P row args w R) : RowsIn (Fence.wide.inRound l) n P row args w R :=
  fun c cs _ => let ⟨v, w', r, s⟩ := h c cs; ⟨v, w', r, stepsIn_wide.2 s⟩
theorem calls_in {n : Nat} {f : FuncId} {args : Array Value} {w : World} {R : Ending → World → Prop} (l : Nat) (h : Calls P f args w R) : CallsIn (Fence.wide.inRound l) n P f args w R := CallsIn.inRound l (callsIn_wide.2 h)
theorem oper_in {o : Oper} {a : Act} {w : World} {K : Act → World → Prop} {n : Nat} (l : Nat) (hd : ∀ c, o.op ≠ .defer c) (h : o.wp P a w K Q) : o.wpIn (Fence.wide.inRound l) n P a w K Q := by
  refine ⟨fun f _ => trivial, ?_⟩
  rw [Oper.semAt_eq _ _ _ hd]
  unfold Oper.wp at h
  generalize (execOp a.eval o).run P w = r at h
  cases r with
  | ok x w' =>
    cases x with
    | value v => exact h
    | skip => exact h
    | defer d => exact h
    | enter f args => exact ⟨(fun hh => by cases hh), calls_in l h⟩
    | row row args => exact ⟨(fun hh => by cases hh), rows_in l h⟩
    | _ => exact h.elim
  | halt hlt w' =>
    cases hlt with
    | panic v => exact h
    | _ => exact h.elim
theorem op_in {i : Nat} {a : Act} {w : World} {K : Act → World → Prop} {n : Nat} (l : Nat) (hd : noDefer ops = true) (hq : ¬ LetsOut Q) (h : wpOp P ops Q i K a w) : wpOpIn (Fence.wide.inRound l) n P ops Q i K a w := by
  unfold wpOp at h
  unfold wpOpIn
  cases ho : ops[i]? with
  | none => rw [ho] at h; exact h
  | some o =>
    simp only [ho] at h ⊢
    by_cases hw : Region.wanted o (yielded ops a.tmps) = true
    · simp only [hw, if_true] at h ⊢
      rcases h with h | ⟨_, h⟩
      · exact oper_in l (noDefer_at hd ho) h
      · exact absurd h hq
    · simp only [hw, if_false, Bool.false_eq_true] at h ⊢
      exact ⟨fun f _ => trivial, h⟩
theorem any_in {md : Region.Mode} {n : Nat} (l : Nat) (hd : noDefer ops = true) (hq : ¬ LetsOut Q) : ∀ (fuel : Nat) (listed : Array Bool) (a : Act) (w : World), wpAny P md ops Q fuel listed a w → wpAnyIn (Fence.wide.inRound l) n P md ops Q fuel listed a w
  | 0, _, _, _, h => h
  | fuel + 1, listed, a, w, h => ⟨h.1, fun i hi => wpOpIn_mono (fun a w => any_in l hd hq fuel _ a w) (op_in l hd hq (h.2 i hi))⟩
theorem list_in {n : Nat} (l : Nat) (hd : noDefer ops = true) (hq : ¬ LetsOut Q) : ∀ (L : List Oper) (k : Nat) (a : Act) (w : World), (∀ j o, L[j]? = some o → ops[k + j]? = some o) → wpList P ops Q L a w → wpListIn (Fence.wide.inRound l) n P ops Q L a w
  | [], _, _, _, _, h => h
  | o :: L, k, a, w, hL, h => by
    have ho : ops[k]? = some o := hL 0 o rfl
    simp only [wpList] at h
    simp only [wpListIn]
    have hL' : ∀ j o, L[j]? = some o → ops[k + 1 + j]? = some o := fun j o hj => by rw [show k + 1 + j = k + (j + 1) by omega]; exact hL (j + 1) o hj
    by_cases hw : Region.wanted o (yielded ops a.tmps) = true
    · simp only [hw, if_true] at h ⊢
      rcases h with h | ⟨_, h⟩
      · exact oper_in l (noDefer_at hd ho) (Oper.wp_mono (fun a w h => list_in l hd hq L (k + 1) a w hL' h) h)
      · exact absurd h hq
    · simp only [hw, if_false, Bool.false_eq_true] at h ⊢
      exact ⟨fun f _ => trivial, list_in l hd hq L (k + 1) _ w hL' h⟩
/-- a region that draws, in a round -/
theorem region_in {id n : Nat} {a : Act} {w : World} (l : Nat) (hm : P.follows .mixedOrders = true) (hd : noDefer ops = true) (hq : ¬ LetsOut Q)
    (h : wpAny P .any ops Q ops.size (Array.replicate ops.size false) a { w with drawn := w.drawn + 1 }) : (Code.region id ops true).wpIn (Fence.wide.inRound l) n P Q a w :=
  wpIn_region_any hm (any_in l hd hq _ _ _ _ h)
theorem region_invB_in {id n : Nat} {a0 : Act} {w0 : World} (l : Nat) (hd : noDefer ops = true) (hq : ¬ LetsOut Q) (I : Act → World → (Nat → Bool) → Act → World → Prop) (hm : P.follows .mixedOrders = true) (hord : orderedB .any ops = true)
    (h0 : I a0 w0.drew (fun _ => false) a0 w0.drew)
    (hstep : ∀ L a w, I a0 w0.drew L a w → ∀ i o, ops[i]? = some o → L i = false → (∀ e ∈ o.after, Region.binds .any e = true → L e.on = true) → wpOp P ops Q i (fun a' w' => I a0 w0.drew (fun j => if j = i then true else L j) a' w') a w)
    (hdone : ∀ L a w, (∀ i, i < ops.size → L i = true) → I a0 w0.drew L a w → Q .normal a w) : (Code.region id ops true).wpIn (Fence.wide.inRound l) n P Q a0 w0 :=
  region_in l hm hd hq (any_invB (I a0 w0.drew) hord hstep hdone _ _ a0 w0.drew (by simp) (Nat.le_trans (List.length_filter_le _ _) (by simp)) (by
    have e : done (Array.replicate ops.size false) = fun _ => false := funext fun j => by
      unfold done
      rw [Array.getD_eq_getD_getElem?, Array.getElem?_replicate]
      split <;> rfl
    rw [e]
    exact h0))
theorem region_tailS_in {id n : Nat} {a0 : Act} {w0 : World} (l : Nat) (hnd : noDefer ops = true) (hq : ¬ LetsOut Q) (k : Nat) (R : List SP) (ds : List (Option Tmp)) (hm : P.follows .mixedOrders = true) (hord : orderedB .any ops = true) (hap : apart ops a0.tmps.size = true) (hg : guardedS ops R k = true) (sk : List Nat) (hskl : skipped ops R k = sk) (hsk0 : ∀ p ∈ sk, R.getD p SP.any = .is undef) (hds : (List.range k).map (dstOf ops) = ds) (htl : tailed ops k = true)
    (hstep : ∀ i o, ops[i]? = some o → i < k → skips ops R i = false → ∀ E w, Below w0.drew.heap.size w0.drew w → Due ops R a0 o E w → Does P Q o E w (R.getD i SP.any).has)
    (hdone : ∀ (vals : Nat → Value) w, Below w0.drew.heap.size w0.drew w → (∀ i, i < k → (R.getD i SP.any).has w (vals i)) → wpList P ops Q (ops.toList.drop k) { a0 with tmps := setL ds vals 0 a0.tmps } w) : (Code.region id ops true).wpIn (Fence.wide.inRound l) n P Q a0 w0 := by
  have hsk := skip_of hskl hsk0
  unfold tailed at htl
  simp only [Bool.and_eq_true, decide_eq_true_eq] at htl
  obtain ⟨⟨hkn, hcov⟩, hch⟩ := htl
  have hchain : ∀ i, k ≤ i → i + 1 < ops.size → waitsFor ops (i + 1) i = true := fun i h1 h2 => by
    have := List.all_eq_true.1 hch i (List.mem_range.2 (by omega))
    simp only [Bool.or_eq_true, decide_eq_true_eq] at this
    rcases this with (h | h) | h
    · omega
    · omega
    · exact h
  have hcover : ∀ j, j < k → k < ops.size → ∃ i, j < i ∧ i ≤ k ∧ waitsFor ops i j = true := fun j h1 h2 => by
    have := List.all_eq_true.1 hcov j (List.mem_range.2 h1)
    simp only [Bool.or_eq_true, beq_iff_eq] at this
    rcases this with h | h
    · omega
    · obtain ⟨i, hi, h⟩ := List.any_eq_true.1 h
      simp only [Bool.and_eq_true, decide_eq_true_eq] at h
      exact ⟨i, h.1, by have := List.mem_range.1 hi; omega, h.2⟩
  have hfin : ∀ L a w, VInv ops R w0.drew a0 L a w → (∀ j, j < k → L j = true) → (∀ j, k ≤ j → L j = false) → wpList P ops Q (ops.toList.drop k) a w := fun L a w hI hall hno => by
    have hv : ∀ i, ∃ v, i < k → (R.getD i SP.any).has w v ∧ ∀ d, dstOf ops i = some d → a.tmps[d]? = some v := fun i => by
      by_cases hi : i < k
      · obtain ⟨v, h⟩ := hI.vals i (hall i hi); exact ⟨v, fun _ => h⟩
      · exact ⟨undef, fun h => absurd h hi⟩
    obtain ⟨vals, hvals⟩ := Classical.axiomOfChoice hv
    have ha : a = { a0 with tmps := setAll ops vals k a0.tmps } := by
      obtain ⟨tm, df⟩ := a
      have h1 : df = a0.defers := hI.defers
      have h2 : tm = setAll ops vals k a0.tmps := by
        refine Array.ext_getElem? fun s => ?_
        have hset := setAll_get vals hap s k a0.tmps hkn rfl
        by_cases hk : ∃ i, i < k ∧ dstOf ops i = some s
        · obtain ⟨i, hik, hi⟩ := hk
          rw [hset.2 i hik hi]
          exact (hvals i hik).2 s hi
        · rw [hset.1 fun i hi h => hk ⟨i, hi, h⟩]
          refine hI.rest s fun i hi h => ?_
          rcases Nat.lt_or_ge i k with hl | hl
          · exact hk ⟨i, hl, h⟩
          · rw [hno i hl] at hi; cases hi
      rw [h1, h2]
    rw [ha, setAll_eq, hds]
    exact hdone vals w hI.below fun i hi => (hvals i hi).1
  refine region_invB_in l hnd hq (fun a0 B L a w => (VInv ops R B a0 L a w ∧ (∀ i, k ≤ i → L i = false) ∧ Closed ops L) ∨ ∃ m, k ≤ m ∧ m ≤ ops.size ∧ (∀ i, L i = decide (i < m)) ∧ wpList P ops Q (ops.toList.drop m) a w) hm hord
    (Or.inl ⟨⟨Below.refl _ _, rfl, rfl, fun i h => (Bool.noConfusion h), fun k _ => rfl⟩, fun _ _ => rfl, fun i o _ h => (Bool.noConfusion h)⟩) ?_ ?_
  · intro L a w hI i o ho hLi hdep
    have hio : i < ops.size := (Array.getElem?_eq_some_iff.1 ho).1
    rcases hI with ⟨hI, hno, hcl⟩ | ⟨m, hm1, hm2, hL, hwp⟩
    · by_cases hik : i < k
      · refine wpOp_mono (fun a' w' h => Or.inl ?_) (vinv_stepS R hap hg hsk hik hI ho hLi hdep (hstep i o ho hik))
        refine ⟨h, fun j hj => ?_, fun j o' ho' hj e he hb => ?_⟩
        · have hji : j ≠ i := by omega
          simp only [hji, if_false]
          exact hno j hj
        · by_cases hji : j = i
          · subst hji
            rw [ho] at ho'; cases ho'
            by_cases h2 : e.on = j
            · simp [h2]
            · simp only [h2, if_false]; exact hdep e he hb
          · simp only [hji, if_false] at hj
            by_cases h2 : e.on = i
            · simp [h2]
            · simp only [h2, if_false]; exact hcl j o' ho' hj e he hb
      · have hik' : i = k := by
          rcases Nat.lt_or_ge k i with h | h
          · have := waits_done (L := L) (hchain (i - 1) (by omega) (by omega)) (by rw [show i - 1 + 1 = i by omega]; exact ho) hdep
            rw [hno (i - 1) (by omega)] at this; cases this
          · omega
        subst hik'
        have hall : ∀ d j, i - j ≤ d → j < i → L j = true := by
          intro d
          induction d with
          | zero => intro j h1 h2; omega
          | succ d ih =>
            intro j h1 h2
            obtain ⟨q, hq1, hq2, hq3⟩ := hcover j h2 hio
            by_cases hqi : q = i
            · subst hqi; exact waits_done hq3 ho hdep
            · have hq : L q = true := ih q (by omega) (by omega)
              have hqo : ops[q]? = some ops[q] := Array.getElem?_eq_getElem (by omega)
              exact waits_done hq3 hqo (hcl q _ hqo hq)
        refine wpOp_mono (fun a' w' h => Or.inr ⟨i + 1, by omega, by omega, fun j => ?_, h⟩) (wpList_to_op ho (hfin L a w hI (fun j hj => hall _ j (Nat.le_refl _) hj) hno))
        by_cases hji : j = i
        · subst hji; simp
        · simp only [hji, if_false]
          rcases Nat.lt_or_ge j i with h1 | h1
          · rw [hall _ j (Nat.le_refl _) h1]; simp; omega
          · rw [hno j h1]; simp; omega
    · have him : i = m := by
        have h1 : ¬ i < m := fun h => by rw [hL i] at hLi; simp [h] at hLi
        rcases Nat.lt_or_ge m i with h | h
        · have := waits_done (L := L) (hchain (i - 1) (by omega) (by omega)) (by rw [show i - 1 + 1 = i by omega]; exact ho) hdep
          rw [hL (i - 1)] at this
          simp at this; omega
        · omega
      subst him
      refine wpOp_mono (fun a' w' h => Or.inr ⟨i + 1, by omega, by omega, fun j => ?_, h⟩) (wpList_to_op ho hwp)
      by_cases hji : j = i
      · subst hji; simp
      · simp only [hji, if_false]
        rw [hL j]
        rcases Nat.lt_or_ge j i with h1 | h1
        · simp [h1]; omega
        · simp; omega
  · intro L a w hall hI
    rcases hI with ⟨hI, hno, hcl⟩ | ⟨m, hm1, hm2, hL, hwp⟩
    · have hk : k = ops.size := by
        rcases Nat.lt_or_ge k ops.size with h | h
        · have := hall k h; rw [hno k (Nat.le_refl _)] at this; cases this
        · omega
      have := hfin L a w hI (fun j hj => hall j (by omega)) hno
      rw [hk, ← Array.length_toList, List.drop_length] at this
      exact this
    · have hk : m = ops.size := by
        rcases Nat.lt_or_ge m ops.size with h | h
        · have := hall m h; rw [hL m] at this; simp at this
        · omega
      rw [hk, ← Array.length_toList, List.drop_length] at hwp
      exact hwp
end
/-- whatever lay below B lies as it lay, but for the blocks M -/
structure Exc (M : List Nat) (B : Nat) (w w' : World) : Prop where
  os : w'.os = w.os
  tape : w'.tape = w.tape
  output : w'.output = w.output
  size : w.heap.size ≤ w'.heap.size
  block : ∀ k, k < B → k ∉ M → w'.heap[k]? = w.heap[k]?
theorem Exc.refl (M : List Nat) (B : Nat) (w : World) : Exc M B w w := ⟨rfl, rfl, rfl, Nat.le_refl _, fun _ _ _ => rfl⟩
theorem Exc.trans {M : List Nat} {B : Nat} {a b c : World} (h : Exc M B a b) (k : Exc M B b c) : Exc M B a c :=
  ⟨k.os.trans h.os, k.tape.trans h.tape, k.output.trans h.output, Nat.le_trans h.size k.size, fun i hi hm => (k.block i hi hm).trans (h.block i hi hm)⟩
theorem Exc.of_below {M : List Nat} {B : Nat} {a b : World} (h : Below B a b) : Exc M B a b := ⟨h.os, h.tape, h.output, h.size, fun i hi _ => h.block i hi⟩
theorem Exc.below {M : List Nat} {B n : Nat} {a b : World} (h : Exc M B a b) (hn : n ≤ B) (hM : ∀ m ∈ M, n ≤ m) : Below n a b :=
  ⟨h.os, h.tape, h.output, h.size, fun i hi => h.block i (by omega) (fun hm => by have := hM i hm; omega)⟩
theorem Exc.put {M : List Nat} {B : Nat} {W : World} {l : Nat} (o : Obj) (h : B ≤ l) : Exc M B W (W.putObj l o) :=
  ⟨rfl, rfl, rfl, by simp, fun k hk _ => World.putObj_heap_other (by omega)⟩
theorem Exc.own {β : Type} {M : List Nat} {B : Nat} {w : World} (hB : B ≤ w.heap.size) : OwnFrom B (fun (_ : β) W => Exc M B w W) := by
  intro s W W' row hs hg hr
  refine hs.trans ⟨hg.os, hg.tape, hg.output, hg.size, fun k hk _ => hg.block k ?_ ?_⟩
  · have := hs.size; omega
  · intro e; have := (hr k e.symm).1; omega
theorem Exc.setCell {M : List Nat} {B : Nat} {W : World} {p : Addr} (v : Value) (h : p.block ∈ M ∨ B ≤ p.block) : Exc M B W (W.setCell p v) := by
  refine ⟨rfl, rfl, rfl, by simp, fun k hk hm => Below.heap_setCell _ _ _ _ fun e => ?_⟩
  subst e
  rcases h with h | h
  · exact hm h
  · omega
/-- a fact on blocks below B that are cells, or lie in M -/
theorem own_block {β : Type} {B m : Nat} {o : β → Option Obj} (hm : m < B) (hB : ∀ W : World, True) : OwnFrom B (fun s W => W.heap[m]? = o s ∧ m < W.heap.size) := by
  intro s W W' row hs hg hr
  have h : W'.heap[m]? = W.heap[m]? := hg.block m hs.2 (fun e => by have := (hr m e.symm).1; omega)
  exact ⟨h.trans hs.1, Nat.lt_of_lt_of_le hs.2 hg.size⟩
end Go.Proofs.Ytegoinkkcfbfaaa.wk

namespace Go.Proofs.Ytegoinkkcfbfaaa.wi

open Go.ChangeShapes Go.WideShapes Go.ChangeAt Go.RowKit

theorem RB_new {w : World} {g : Nat} (hg : w.heap.size = g) (l : List UInt8) {cs : Array Value} (t : TypeId) (hcs : cs = (wp.bc l).toArray) : wp.RB (w.alloc (.cells cs t)) (some ⟨g, 0, none⟩) l := fun hl => by
  subst hg hcs
  exact ⟨w.heap.size, 0, rfl, by simp, fun j u hu => by
    have := wk.cells_new w (wp.bc l) t j (.int .u8 (u.toNat : Int)) (by simp [wp.bc, hu])
    rw [wk.add_at] at this
    exact this⟩
theorem RC_new {w : World} {g : Nat} (hg : w.heap.size = g) (xs : List Value) {cs : Array Value} (t : TypeId) (hcs : cs = xs.toArray) : wp.RC (w.alloc (.cells cs t)) (some ⟨g, 0, none⟩) xs := fun hl => by
  subst hg hcs
  exact ⟨w.heap.size, 0, rfl, by simp, fun j u hu => by
    have := wk.cells_new w xs t j u hu
    rw [wk.add_at] at this
    exact this⟩

end Go.Proofs.Ytegoinkkcfbfaaa.wi
/- Boxes in memory; the program's small functions. -/
namespace Go.Proofs.Ytegoinkkcfbfaaa.bk

open Go.ChangeShapes Go.WideShapes Go.ChangeAt Go.RowKit

open Go.Proofs.Ytegoinkkcfbfaaa.bq Go.Proofs.Ytegoinkkcfbfaaa.vk

set_option linter.unusedVariables false
/-- a box: two slices of integers -/
def IsX (w : World) (v : Value) (p : Pair) : Prop := ∃ A n c A' n' c', v = .agg #[.slice A n c, .slice A' n' c'] ∧ wo.IsI w A n c p.1 ∧ wo.IsI w A' n' c' p.2
theorem IsX.below {w w' : World} {v : Value} {p : Pair} (h : IsX w v p) (hb : Below w.heap.size w w') : IsX w' v p := by
  obtain ⟨A, n, c, A', n', c', rfl, h1, h2⟩ := h
  exact ⟨A, n, c, A', n', c', rfl, isI_below h1 hb, isI_below h2 hb⟩
def IsV (w : World) (v : Value) (l : List Int) : Prop := ∃ A n c, v = .slice A n c ∧ wo.IsI w A n c l
theorem IsV.below {w w' : World} {v : Value} {l : List Int} (h : IsV w v l) (hb : Below w.heap.size w w') : IsV w' v l := by
  obtain ⟨A, n, c, rfl, h⟩ := h
  exact ⟨A, n, c, rfl, isI_below h hb⟩
/-- a variable of two cells -/
def Two (w : World) (g : Nat) (a b : Value) : Prop := ∃ t, w.heap[g]? = some (.cells #[a, b] t (0, 0))
theorem Two.lt {w : World} {g : Nat} {a b : Value} (h : Two w g a b) : g < w.heap.size := by
  obtain ⟨t, h⟩ := h
  rcases Nat.lt_or_ge g w.heap.size with h' | h'
  · exact h'
  · rw [Array.getElem?_eq_none h'] at h; cases h
theorem Two.at {w w' : World} {g : Nat} {a b : Value} (h : Two w g a b) (e : w'.heap[g]? = w.heap[g]?) : Two w' g a b := by
  obtain ⟨t, h⟩ := h
  exact ⟨t, e.trans h⟩
theorem Two.below {w w' : World} {g : Nat} {a b : Value} (h : Two w g a b) (hb : Below w.heap.size w w') : Two w' g a b := h.at (hb.block g h.lt)
theorem Two.c0 {w : World} {g : Nat} {a b : Value} (h : Two w g a b) : w.cell? ⟨g, 0, none⟩ = some a := by
  obtain ⟨t, h⟩ := h
  rw [cell_of_row _ _ _ _ _ _ h]; rfl
theorem Two.c1 {w : World} {g : Nat} {a b : Value} (h : Two w g a b) : w.cell? ⟨g, 1, none⟩ = some b := by
  obtain ⟨t, h⟩ := h
  rw [cell_of_row _ _ _ _ _ _ h]; rfl
theorem Two.new (w : World) (a b : Value) (t : TypeId) : Two (w.alloc (.cells #[a, b] t)) w.heap.size a b := ⟨t, heap_alloc_new w _⟩
def rng (a b : Int) : Value := .agg #[.int .i64 a, .int .i64 b]
theorem isI_get {w : World} {A : Option Addr} {n c k : Nat} {l : List Int} (h : wo.IsI w A n c l) (hk : k < n) : ∃ b o, A = some ⟨b, o, none⟩ ∧ w.cell? ⟨b, o + k, none⟩ = some (.int .i64 (at' l k)) ∧ b < w.heap.size := by
  obtain ⟨b, o, x, rfl, hc, hx, _⟩ := isI_at h hk
  exact ⟨b, o, rfl, by rw [at_of hx]; exact hc, block_lt_of_cell hc⟩
set_option maxRecDepth 100000 in
theorem isVector1_calls (x : Int) (w : World) : Calls Try.prog 104 #[.int .i64 x] w fun e w' => e = .returned (.bool (!vq.okc x)) ∧ w' = w := by
  by_cases h3 : -1000 ≤ x
  · by_cases h4 : x ≤ 1000
    · rw [show vq.okc x = true from vq.okc_iff.2 ⟨h3, h4⟩]
      have e1 : decide (x < -1000) = false := decide_eq_false (by omega)
      have e2 : decide (1000 < x) = false := decide_eq_false (by omega)
      go_enter Try.func104, Try.ntmps104
      go_wp2
      go_ret
      exact ⟨by simp, rfl⟩
    · rw [show vq.okc x = false by simp [vq.okc, h4]]
      have e2 : decide (1000 < x) = true := decide_eq_true (by omega)
      go_enter Try.func104, Try.ntmps104
      go_wp2
      go_ret
      exact ⟨by simp, rfl⟩
  · rw [show vq.okc x = false by simp [vq.okc, h3]]
    have e1 : decide (x < -1000) = true := decide_eq_true (by omega)
    go_enter Try.func104, Try.ntmps104
    go_wp2
    go_ret
    exact ⟨by simp, rfl⟩
set_option maxRecDepth 100000 in
theorem gap_calls (a b c d : Int) (w : World) (h1 : -1000 ≤ a ∧ a ≤ 1000) (h2 : -1000 ≤ b ∧ b ≤ 1000) (h3 : -1000 ≤ c ∧ c ≤ 1000) (h4 : -1000 ≤ d ∧ d ≤ 1000) :
    Calls Try.prog 33 #[rng a b, rng c d] w fun e w' => e = .returned (.int .i64 (bq.gap a b c d)) ∧ Below w.heap.size w w' := by
  unfold rng
  have HB := Lib.hid (Below.andThen (below_new w (.cells #[.int .i64 a, .int .i64 b] 75)) (below_new _ (.cells #[.int .i64 c, .int .i64 d] 75)))
  by_cases hh : a - d < c - b
  all_goals
    go_enter Try.func33, Try.ntmps33
    go_wp2
    all_goals
      go_ret
      exact ⟨wp.ret_i64 (by unfold bq.gap; omega), HB.out⟩
set_option maxRecDepth 100000 in
theorem reach_calls (a b c d : Int) (w : World) (h1 : -1000 ≤ a ∧ a ≤ 1000) (h2 : -1000 ≤ b ∧ b ≤ 1000) (h3 : -1000 ≤ c ∧ c ≤ 1000) (h4 : -1000 ≤ d ∧ d ≤ 1000) :
    Calls Try.prog 34 #[rng a b, rng c d] w fun e w' => e = .returned (.int .i64 (bq.reach a b c d)) ∧ Below w.heap.size w w' := by
  unfold rng
  have HB := Lib.hid (Below.andThen (below_new w (.cells #[.int .i64 a, .int .i64 b] 75)) (below_new _ (.cells #[.int .i64 c, .int .i64 d] 75)))
  go_enter Try.func34, Try.ntmps34
  go_wp2
  all_goals
    go_ret
    exact ⟨wp.ret_i64 (by unfold bq.reach; omega), HB.out⟩
set_option maxRecDepth 100000 in
theorem lesser_calls (a b : Int) (w : World) : Calls Try.prog 72 #[.int .i64 a, .int .i64 b] w fun e w' => e = .returned (.int .i64 (min a b)) ∧ w' = w := by
  obtain ⟨x, hx⟩ : ∃ x, min a b = x := ⟨_, rfl⟩
  rw [hx]
  go_enter Try.func72, Try.ntmps72
  go_wp2
  go_ret
  exact ⟨rfl, rfl⟩
set_option maxRecDepth 100000 in
theorem greater_calls (a b : Int) (w : World) : Calls Try.prog 71 #[.int .i64 a, .int .i64 b] w fun e w' => e = .returned (.int .i64 (max a b)) ∧ w' = w := by
  obtain ⟨x, hx⟩ : ∃ x, max a b = x := ⟨_, rfl⟩
  rw [hx]
  go_enter Try.func71, Try.ntmps71
  go_wp2
  go_ret
  exact ⟨rfl, rfl⟩
set_option maxRecDepth 100000 in
theorem index_calls (A : Option Addr) (n c : Nat) (l : List Int) (w : World) (h : wo.IsI w A n c l) :
    Calls Try.prog 117 #[.slice A n c, .func (.func 104) #[] #[]] w fun e w' => (∃ r : Int, e = .returned (.int .i64 r) ∧ decide (0 ≤ r) = !l.all vq.okc) ∧ w' = w := by
  have hl := h.1
  have hm := h.2.2.1
  have hnc := h.2.1
  have H := Lib.hid h
  have HL := Lib.hid hl
  clear h hl
  go_enter Try.func117, Try.ntmps117
  go_wp2_with fail
  go_loopg [8] n (fun g x wr => ∃ k : Nat, k + g = n ∧ x = .int .i64 (k : Int) ∧ wr = w ∧ (l.take k).all vq.okc = true)
  case atStart => exact ⟨0, by omega, rfl, rfl, by simp⟩
  case round =>
    obtain ⟨k, hk, rfl, rfl, hr⟩ := hrel
    have HK := Lib.hid hk
    have HR := Lib.hid hr
    have hkn : k ≤ n := by omega
    clear hk hr
    by_cases hlt : k < n
    · obtain ⟨b, o, rfl, hc, hb⟩ := isI_get H.out hlt
      have hlt0 : (k : Int) < (n : Int) := by omega
      have HC := Lib.hid (isVector1_calls (at' l k) wr)
      have HX : Hid (l[k]? = some (at' l k)) := of_at (by rw [HL.out]; exact hlt)
      generalize at' l k = x at *
      cases hx : vq.okc x
      · rw [hx] at HC
        go_wp2_with fail
        refine HC.out.mono ?_
        rintro e w' ⟨rfl, rfl⟩
        go_wp2_with fail
        go_ret
        refine ⟨⟨k, rfl, ?_⟩, rfl⟩
        have h1 : l.all vq.okc = false := by
          rw [List.all_eq_false]
          exact ⟨x, List.mem_of_getElem? HX.out, by simp [hx]⟩
        rw [h1]; simp
      · rw [hx] at HC
        go_wp2_with fail
        refine HC.out.mono ?_
        rintro e w' ⟨rfl, rfl⟩
        go_wp2_with fail
        go_roundg (gk - 1)
        case measure => have := HK.out; omega
        case rel =>
          refine ⟨k + 1, by have := HK.out; omega, by go_num, rfl, ?_⟩
          rw [vq.take_snoc HX.out, List.all_append, HR.out]
          simp [hx]
    · go_wp2_with fail
      go_ret
      refine ⟨⟨-1, rfl, ?_⟩, rfl⟩
      have h1 := HR.out
      rw [List.take_of_length_le (by have := HL.out; omega)] at h1
      rw [h1]; rfl
set_option maxRecDepth 100000 in
theorem contains_calls (A : Option Addr) (n c : Nat) (l : List Int) (w : World) (h : wo.IsI w A n c l) :
    Calls Try.prog 103 #[.slice A n c, .func (.func 104) #[] #[]] w fun e w' => e = .returned (.bool (!l.all vq.okc)) ∧ w' = w := by
  have HC := Lib.hid (index_calls A n c l w h)
  clear h
  go_enter Try.func103, Try.ntmps103
  go_wp2_with fail
  refine HC.out.mono ?_
  rintro e w' ⟨⟨r, rfl, hr⟩, rfl⟩
  have HR := Lib.hid hr
  clear hr
  go_wp2_with fail
  go_ret
  exact ⟨by rw [← HR.out]; rfl, rfl⟩
set_option maxRecDepth 100000 in
theorem isVector_calls (A : Option Addr) (n c : Nat) (l : List Int) (w : World) (h : wo.IsI w A n c l) :
    Calls Try.prog 75 #[.slice A n c] w fun e w' => e = .returned (.bool (vq.valid l)) ∧ w' = w := by
  have hl := h.1
  have hm := h.2.2.1
  have hnc := h.2.1
  have HC := Lib.hid (contains_calls A n c l w h)
  clear h
  by_cases h1 : 1 ≤ n
  · by_cases h2 : n ≤ 32
    · have hE : vq.valid l = l.all vq.okc := by simp only [vq.valid, hl, decide_eq_true h1, decide_eq_true h2, Bool.true_and]
      rw [hE]
      clear hE
      go_enter Try.func75, Try.ntmps75
      go_wp2_with fail
      refine HC.out.mono ?_
      rintro e w' ⟨rfl, rfl⟩
      go_wp2_with fail
      go_ret
      exact ⟨by simp, rfl⟩
    · have hE : vq.valid l = false := by simp [vq.valid, hl, h2]
      rw [hE]
      go_enter Try.func75, Try.ntmps75
      go_wp2_with fail
      go_ret
      exact ⟨rfl, rfl⟩
  · have hE : vq.valid l = false := by simp [vq.valid, hl, h1]
    rw [hE]
    go_enter Try.func75, Try.ntmps75
    go_wp2_with fail
    go_ret
    exact ⟨rfl, rfl⟩
set_option maxRecDepth 100000 in
theorem point_calls (A : Option Addr) (n c : Nat) (w : World) :
    Calls Try.prog 32 #[.slice A n c] w fun e w' => e = .returned (.agg #[.slice A n c, .slice A n c]) ∧ Below w.heap.size w w' := by
  have HB := Lib.hid (below_new w (.cells #[.slice A n c, .slice A n c] 24))
  go_enter Try.func32, Try.ntmps32
  go_wp2_with fail
  exact bodyPost_ret (v := .agg #[.slice A n c, .slice A n c]) (results_cell_row (fn := Try.f32) rfl _ _ w.heap.size 24 #[.slice A n c, .slice A n c] (0, 0) _ rfl (heap_alloc_new _ _) Try.underlying24 rfl (by kernel_rfl)) rfl ⟨rfl, HB.out⟩
set_option maxRecDepth 100000 in
theorem sides_calls (a b : Value) (w : World) :
    Calls Try.prog 37 #[.agg #[a, b]] w fun e w' => e = .returned (.func (.func 76) #[] #[.pointer (some ⟨w.heap.size, 0, none⟩)]) ∧ w' = w.alloc (.cells #[a, b] 24) := by
  go_enter Try.func37, Try.ntmps37
  go_wp2_with fail
  go_ret
  exact ⟨rfl, rfl⟩
set_option maxRecDepth 100000 in
theorem side_calls (v : Value) (p : Pair) (k : Nat) (w : World) (h : IsX w v p) (h1 : k < p.1.length) (h2 : k < p.2.length) :
    Calls Try.prog 74 #[v, .int .i64 k] w fun e w' => e = .returned (rng (at' p.1 k) (at' p.2 k)) ∧ Below w.heap.size w w' := by
  obtain ⟨A, n, c, A', n', c', rfl, hi, hi'⟩ := h
  rw [hi.1] at h1
  rw [hi'.1] at h2
  obtain ⟨b, o, rfl, hc, hb⟩ := isI_get hi h1
  obtain ⟨b', o', rfl, hc', hb'⟩ := isI_get hi' h2
  have hm := hi.2.2.1
  have hm' := hi'.2.2.1
  have hn := hi.2.1
  have hn' := hi'.2.1
  clear hi hi'
  generalize at' p.1 k = x at *
  generalize at' p.2 k = y at *
  have h1' : (k : Int) < (n : Int) := by omega
  have h2' : (k : Int) < (n' : Int) := by omega
  have HB := Lib.hid (Below.andThen (below_new w (.cells #[.slice (some ⟨b, o, none⟩) n c, .slice (some ⟨b', o', none⟩) n' c'] 24)) (below_new _ (.cells #[.int .i64 x, .int .i64 y] 75))).drew
  go_enter Try.func74, Try.ntmps74
  go_wp2_with fail
  go_region
  go_wp2_with fail
  exact bodyPost_ret (v := rng x y) (results_cell_row (fn := Try.f74) rfl _ _ (w.heap.size + 1) 75 #[.int .i64 x, .int .i64 y] (0, 0) _ rfl (heap_alloc2_new _ _ _) Try.underlying75 rfl (by kernel_rfl)) rfl ⟨rfl, HB.out⟩
end Go.Proofs.Ytegoinkkcfbfaaa.bk
/- The iterator over a box's sides; the law of a range over it. -/
namespace Go.Proofs.Ytegoinkkcfbfaaa.bk

open Go.ChangeShapes Go.WideShapes Go.ChangeAt Go.RowKit

open Go.Proofs.Ytegoinkkcfbfaaa.bq Go.Proofs.Ytegoinkkcfbfaaa.vk Go.Proofs.Ytegoinkkcfbfaaa.wk

set_option linter.unusedVariables false
attribute [local go_sem] Oper.semAt_some
abbrev Nth (n : Nat) := { i : Nat // i < n }
def encs (p : Pair) {n : Nat} (x : Nth n) : Array Value := #[.int .i64 (x.1 : Int), rng (at' p.1 x.1) (at' p.2 x.1)]
theorem map_snoc {n : Nat} (pre : List (Nth n)) (x : Nth n) (hp : pre.map (·.1) = List.range x.1) : (pre ++ [x]).map (·.1) = List.range (x.1 + 1) := by
  rw [List.map_append, hp, List.range_succ]; rfl
theorem grown_of {w w' : World} (h : Below w.heap.size w w') : w.grownBy w' none := ⟨h.os, h.tape, h.output, h.size, fun k hk _ => h.block k hk⟩
theorem len_range {n k : Nat} {pre : List (Nth n)} (hp : pre.map (·.1) = List.range k) : pre.length = k := by
  have := congrArg List.length hp
  simpa using this
set_option maxRecDepth 100000 in
set_option maxHeartbeats 2000000 in
theorem sides1_in (m : Nat) (l Bs n₀ B : Nat) (M : List Nat) (p : Pair) (v1 v2 : Value) (hM : ∀ j ∈ M, n₀ ≤ j) (hBn : n₀ ≤ B) (hBs : Bs < B) (hBsM : Bs ∉ M)
    (hlen : p.1.length ≤ p.2.length) (J Jx : List (Nth p.1.length) → World → Prop) (W : World) (hX : ∀ w', Below n₀ W w' → IsX w' (.agg #[v1, v2]) p)
    (hJ : AbidesFrom W.heap.size J)
    (hY : ∀ pre x W, J pre W → pre.length < p.1.length → YieldAt Fence.wide (m - 1) Try.prog l (encs p x) W fun e W' =>
      (e = .returned (.bool true) ∧ J (pre ++ [x]) W' ∧ Exc M B W W') ∨ (e = .returned (.bool false) ∧ Jx (pre ++ [x]) W'))
    (hB : B ≤ W.heap.size) (hc : Two W Bs v1 v2) (h0 : J [] W) :
    CallsIn Fence.wide m Try.prog 76 #[.func (.yield l) #[] #[], .pointer (some ⟨Bs, 0, none⟩)] W fun e W' => (∃ v, e = .returned v) ∧
      ((∃ ys, ys.map (·.1) = List.range p.1.length ∧ J ys W') ∨ (∃ pre, Jx pre W')) := by
  refine callsIn_of_wp Try.func76 rfl trivial ?_ rfl
  simp only [Try.ntmps76, List.size_toArray, List.length_cons, List.length_nil, Nat.reduceAdd, Nat.reduceSub, Array.replicate_succ, Array.replicate_zero, List.push_toArray, List.append_toArray, List.nil_append, List.cons_append]
  obtain ⟨A, n, c, A', n', c', hv, hi, hi'⟩ := hX W (Below.refl _ _)
  obtain ⟨rfl, rfl⟩ : v1 = .slice A n c ∧ v2 = .slice A' n' c' := by simpa using hv
  have hn := hi.1
  have hm := hi.2.2.1
  have hnc := hi.2.1
  have hc0 := hc.c0
  have HC := Lib.hid hc
  have HX := Lib.hid hX
  have HI := Lib.hid hi
  have HN := Lib.hid hn
  clear hv hi hi' hc hX hn
  gi_wp2
  gi_loopw [7] (fun i wr => ∃ (k : Nat) (pre : List (Nth p.1.length)), k ≤ n ∧ i = .int .i64 k ∧ pre.map (·.1) = List.range k ∧ J pre wr ∧ Exc M B W wr)
    (fun i _ => n - (intOf i).toNat)
  case atStart => exact ⟨0, [], Nat.zero_le _, rfl, rfl, h0, Exc.refl _ _ _⟩
  case round =>
    obtain ⟨k, pre, hk, rfl, hpre, hJs, hx⟩ := hrel
    by_cases hlt : k < n
    · have hlt' : k < p.1.length := by rw [HN.out]; exact hlt
      have hlt2 : (k : Int) < (n : Int) := by omega
      have hT : Two wr Bs (.slice A n c) (.slice A' n' c') := HC.out.at (hx.block Bs hBs hBsM)
      have hT0 := hT.c0
      have hT1 := hT.c1
      have hS := Lib.hid (side_calls (.agg #[.slice A n c, .slice A' n' c']) p k wr (HX.out wr (hx.below hBn hM)) hlt' (by omega))
      clear hT
      gi_wp2
      refine ⟨trivial, (fun hh => by cases hh), (callsIn_wide.2 hS.out).mono ?_⟩
      rintro e w2 ⟨rfl, hb2⟩
      have hJ2 : J pre w2 := hJ _ _ _ none hJs (grown_of hb2) (by intro r hr; cases hr)
      obtain ⟨fn, tmps, assign, body, hy, hR⟩ := hY pre ⟨k, hlt'⟩ w2 hJ2 (by rw [len_range hpre]; exact hlt')
      unfold encs at hy
      dsimp only at hy
      have hx2 : Exc M B W w2 := hx.trans (Exc.of_below (hb2.mono (by have := hx.size; omega)))
      clear hb2 hJ2
      gi_wp2
      refine ⟨(fun hh => by cases hh), hR.mono ?_⟩
      rintro e W3 (⟨rfl, hJ3, hk3⟩ | ⟨rfl, hJx3⟩)
      · gi_wp2
        go_roundw
        case rel => exact ⟨k + 1, _, by omega, by simp, map_snoc pre ⟨k, hlt'⟩ hpre, hJ3, hx2.trans hk3⟩
        case measure => simp [intOf]; omega
      · gi_wp2
        refine bodyPost_ret (results_none rfl _ _ _) rfl ?_
        exact ⟨⟨_, rfl⟩, .inr ⟨_, hJx3⟩⟩
    · obtain rfl : k = n := by omega
      have hpre' : pre.map (·.1) = List.range p.1.length := hpre.trans (congrArg List.range HN.out.symm)
      gi_wp2
      go_end0
      exact ⟨⟨_, rfl⟩, .inl ⟨_, hpre', hJs⟩⟩
/-- what a round may do: nothing to what is no cells from B on, nothing below B but to the blocks M -/
structure Turn (M : List Nat) (B : Nat) (W W' : World) : Prop where
  keeps : KeepsFrom B W W'
  exc : Exc M B W W'
theorem Turn.refl (M : List Nat) (B : Nat) (W : World) : Turn M B W W := ⟨KeepsFrom.refl _ _, Exc.refl _ _ _⟩
theorem Turn.trans {M : List Nat} {B : Nat} {a b c : World} (h : Turn M B a b) (k : Turn M B b c) : Turn M B a c := ⟨h.keeps.trans k.keeps, h.exc.trans k.exc⟩
theorem keeps_below {B : Nat} {W W' : World} (h : Below W.heap.size W W') : KeepsFrom B W W' := ⟨h.size, fun k o _ hk _ => (h.block k (Array.getElem?_eq_some_iff.1 hk).1).trans hk⟩
theorem Turn.of_below {M : List Nat} {B : Nat} {W W' : World} (h : Below W.heap.size W W') (hB : B ≤ W.heap.size) : Turn M B W W' := ⟨keeps_below h, Exc.of_below (h.mono hB)⟩
theorem Turn.setCell {M : List Nat} {B : Nat} {W : World} {p : Addr} (v : Value) (h : p.block ∈ M) : Turn M B W (W.setCell p v) := ⟨(KeepsOthers.setCell _ _ _).from _, Exc.setCell v (.inl h)⟩
def roundPost' {α : Type} (M : List Nat) (B : Nat) (I : List α → World → Prop) (Ix : Code → World → Prop) (xs : List α) (W : World) : Exit → Act → World → Prop
  | .normal, _, W' => Turn M B W W' ∧ I xs W'
  | .ret, _, W' => Turn M B W W' ∧ Ix .ret W'
  | _, _, _ => False
theorem not_out {α : Type} {M : List Nat} {B : Nat} {I : List α → World → Prop} {Ix : Code → World → Prop} {xs : List α} {W : World} : ¬ LetsOut (roundPost' M B I Ix xs W) := fun ⟨_, _, h⟩ => h
theorem range_sides {g : Operand} {ps : Array Tmp} {assign body : Code} {Q : Exit → Act → World → Prop} {a : Act} {w : World} (n₀ Bs : Nat) (M : List Nat) (p : Pair) (v1 v2 : Value)
    (hg : a.eval g = .func (.func 76) #[] #[.pointer (some ⟨Bs, 0, none⟩)]) (hps : ps.size = 2) (hM : ∀ j ∈ M, n₀ ≤ j) (hn₀ : n₀ ≤ w.heap.size) (hBs : Two w Bs v1 v2) (hBsM : Bs ∉ M) (hMB : ∀ j ∈ M, j < w.heap.size)
    (hlen : p.1.length ≤ p.2.length) (hX : ∀ w', Below n₀ w w' → IsX w' (.agg #[v1, v2]) p)
    (I : List (Nth p.1.length) → World → Prop) (Ix : Code → World → Prop) (hI : OwnFrom w.heap.size I) (hIx : ∀ c, OwnFrom w.heap.size (fun (_ : Unit) W => Ix c W)) (h0 : I [] w)
    (F : Nth p.1.length → Nat → Act)
    (hassign : ∀ (l m : Nat) (x : Nth p.1.length) (W : World) (K : Act → World → Prop), K (F x W.heap.size) (W.alloc (.cells #[.int .i64 (at' p.1 x.1), .int .i64 (at' p.2 x.1)] 75)) →
      assign.wpIn (Fence.wide.inRound l) m Try.prog (Exit.then K (fun _ _ _ => False)) { tmps := (ps.zip (encs p x)).foldl (fun t (p, v) => t.setIfInBounds p v) a.tmps, defers := [] } W)
    (hbody : ∀ (l m : Nat) (pre : List (Nth p.1.length)) (x : Nth p.1.length) (Bx : Nat) (W : World), w.heap.size ≤ Bx → Two W Bx (.int .i64 (at' p.1 x.1)) (.int .i64 (at' p.2 x.1)) → Exc M w.heap.size w W → I pre W → pre.length < p.1.length →
      body.wpIn (Fence.wide.inRound l) m Try.prog (roundPost' M w.heap.size I Ix (pre ++ [x]) W) (F x Bx) W)
    (hdone : ∀ (D : Nat) (ys : List (Nth p.1.length)) (W : World), w.heap.size ≤ D → ys.map (·.1) = List.range p.1.length → Exc M w.heap.size w W → I ys W → W.heap[D]? = some (.deferred (some [])) → Q .normal { a with defers := { target := .collected D, args := #[] } :: a.defers } W)
    (hstop : ∀ (D : Nat) (c : Code) (W : World), w.heap.size ≤ D → Exc M w.heap.size w W → Ix c W → W.heap[D]? = some (.deferred (some [])) → c.wp Try.prog Q { a with defers := { target := .collected D, args := #[] } :: a.defers } W) :
    (Code.rangeFunc g ps assign body).wp Try.prog Q a w := by
  refine wpIn_wide.1 (wpIn_rangeFunc_ownH (F := Fence.wide) (n := 4) (w := w) (w0 := w) rfl (by omega) hg trivial (enters_of Try.func76 (by kernel_rfl) rfl)
    (encs := encs p) (Kp := Exc M w.heap.size) (S := fun ys => ys.map (·.1) = List.range p.1.length) (Sp := fun _ => True) (N := p.1.length) ?seq
    (fun h k => h.trans k) (fun W l o o' hl _ _ _ => Exc.put _ hl) (Below.refl _ _) (fun x => by simp [encs, hps])
    (fun pre W => I pre W ∧ Exc M w.heap.size w W) (fun c _ W => Ix c W ∧ Exc M w.heap.size w W)
    (OwnFrom.and hI (Exc.own (Nat.le_refl _))) (fun c => OwnFrom.and (fun s W W' row hs hg' hr => hIx c () W W' row hs hg' hr) (Exc.own (Nat.le_refl _))) ⟨h0, Exc.refl _ _ _⟩
    (fun x a' W => ∃ Bx, w.heap.size ≤ Bx ∧ Two W Bx (.int .i64 (at' p.1 x.1)) (.int .i64 (at' p.2 x.1)) ∧ a' = F x Bx) ?hAx ?hassign ?hbody ?hdone ?hstop)
  case seq =>
    intro l J Jx W hW hJ hJx hY hJ0
    have hXW : ∀ w', Below n₀ W w' → IsX w' (.agg #[v1, v2]) p := fun w' hb => hX w' ((hW.mono hn₀).trans hb)
    refine (sides1_in 3 l Bs n₀ w.heap.size M p v1 v2 hM hn₀ hBs.lt hBsM hlen J Jx W hXW hJ hY hW.size (hBs.at (hW.block _ hBs.lt)) hJ0).mono ?_
    rintro e W' ⟨he, ⟨ys, hy, hj⟩ | ⟨pre, hj⟩⟩
    · exact ⟨he, .inl ⟨ys, hy, hj⟩⟩
    · exact ⟨he, .inr ⟨pre, trivial, hj⟩⟩
  case hAx =>
    rintro x a' u W W' row ⟨Bx, h1, ⟨t, h2⟩, h3⟩ hg' hr
    refine ⟨Bx, h1, ⟨t, ?_⟩, h3⟩
    have hlt := (Array.getElem?_eq_some_iff.1 h2).1
    refine (hg'.block Bx hlt fun e => ?_).trans h2
    obtain ⟨_, o, ho, hnc⟩ := hr Bx e.symm
    rw [h2] at ho
    cases ho
    cases hnc
  case hassign =>
    rintro l pre x W K ⟨hi, hx⟩ hK
    refine hassign l _ x W K ?_
    have hb : Below W.heap.size W (W.alloc (.cells #[.int .i64 (at' p.1 x.1), .int .i64 (at' p.2 x.1)] 75)) := below_new _ _
    have hT := Turn.of_below (M := M) hb hx.size
    exact hK _ _ hT.keeps hT.exc ⟨hI.alloc _ hi, hx.trans hT.exc⟩ ⟨_, hx.size, Two.new _ _ _ _, rfl⟩
  case hbody =>
    rintro l pre x a' W hl hr ⟨hi, hx⟩ ⟨Bx, h1, h2, rfl⟩ hlen'
    refine wpIn_mono (hbody l _ pre x Bx W h1 h2 hx hi hlen') ?_
    intro e a3 W3 hp
    cases e with
    | normal => exact ⟨hp.1.keeps, hp.1.exc, hp.2, hx.trans hp.1.exc⟩
    | ret => exact ⟨hp.1.keeps, hp.2, hx.trans hp.1.exc⟩
    | exit id => exact hp.elim
    | goto t => exact hp.elim
    | panic c => exact hp.elim
    | outgrown => exact hp.elim
  case hdone => rintro D ys W hD hy ⟨hi, hx⟩ hK; exact hdone D ys W hD hy hx hi hK
  case hstop => rintro D c pre W hD _ ⟨hi, hx⟩ hK; exact wpIn_wide.2 (hstop D c W hD hx hi hK)
/-- the temporaries of a round: the two that are handed over; the index, if it is wanted; the box -/
def roundT (T : Array Value) (pi pr : Nat) (si : Option Nat) (sb : Nat) (i r : Value) (Bx : Nat) : Array Value :=
  match si with
  | none => ((T.setIfInBounds pi i).setIfInBounds pr r).setIfInBounds sb (.pointer (some ⟨Bx, 0, none⟩))
  | some s => (((T.setIfInBounds pi i).setIfInBounds pr r).setIfInBounds s i).setIfInBounds sb (.pointer (some ⟨Bx, 0, none⟩))
theorem range_sides' {g : Operand} {pi pr : Nat} {assign body : Code} {Q : Exit → Act → World → Prop} {T : Array Value} {w : World} (si : Option Nat) (sb : Nat) (n₀ Bs : Nat) (M : List Nat) (p : Pair) (v1 v2 : Value)
    (hg : Act.eval { tmps := T, defers := [] } g = .func (.func 76) #[] #[.pointer (some ⟨Bs, 0, none⟩)]) (hM : ∀ j ∈ M, n₀ ≤ j) (hn₀ : n₀ ≤ w.heap.size) (hBs : Two w Bs v1 v2) (hBsM : Bs ∉ M) (hMB : ∀ j ∈ M, j < w.heap.size)
    (hlen : p.1.length ≤ p.2.length) (hX : ∀ w', Below n₀ w w' → IsX w' (.agg #[v1, v2]) p)
    (I : List (Nth p.1.length) → World → Prop) (Ix : Code → World → Prop) (hI : OwnFrom w.heap.size I) (hIx : ∀ c, OwnFrom w.heap.size (fun (_ : Unit) W => Ix c W)) (h0 : I [] w)
    (hassign : ∀ (l m : Nat) (i : Int) (a b : Int) (W : World) (K : Act → World → Prop), K { tmps := roundT T pi pr si sb (.int .i64 i) (rng a b) W.heap.size, defers := [] } (W.alloc (.cells #[.int .i64 a, .int .i64 b] 75)) →
      assign.wpIn (Fence.wide.inRound l) m Try.prog (Exit.then K (fun _ _ _ => False)) { tmps := (T.setIfInBounds pi (.int .i64 i)).setIfInBounds pr (rng a b), defers := [] } W)
    (hbody : ∀ (l m : Nat) (pre : List (Nth p.1.length)) (x : Nth p.1.length) (Bx : Nat) (W : World), w.heap.size ≤ Bx → Two W Bx (.int .i64 (at' p.1 x.1)) (.int .i64 (at' p.2 x.1)) → Exc M w.heap.size w W → I pre W → pre.length < p.1.length →
      body.wpIn (Fence.wide.inRound l) m Try.prog (roundPost' M w.heap.size I Ix (pre ++ [x]) W) { tmps := roundT T pi pr si sb (.int .i64 (x.1 : Int)) (rng (at' p.1 x.1) (at' p.2 x.1)) Bx, defers := [] } W)
    (hdone : ∀ (D : Nat) (ys : List (Nth p.1.length)) (W : World), w.heap.size ≤ D → ys.map (·.1) = List.range p.1.length → Exc M w.heap.size w W → I ys W → W.heap[D]? = some (.deferred (some [])) → Q .normal { tmps := T, defers := [{ target := .collected D, args := #[] }] } W)
    (hstop : ∀ (D : Nat) (c : Code) (W : World), w.heap.size ≤ D → Exc M w.heap.size w W → Ix c W → W.heap[D]? = some (.deferred (some [])) → c.wp Try.prog Q { tmps := T, defers := [{ target := .collected D, args := #[] }] } W) :
    (Code.rangeFunc g #[pi, pr] assign body).wp Try.prog Q { tmps := T, defers := [] } w := by
  refine range_sides n₀ Bs M p v1 v2 hg rfl hM hn₀ hBs hBsM hMB hlen hX I Ix hI hIx h0 (fun x Bx => { tmps := roundT T pi pr si sb (.int .i64 (x.1 : Int)) (rng (at' p.1 x.1) (at' p.2 x.1)) Bx, defers := [] }) ?_ hbody hdone hstop
  intro l m x W K hK
  have e : (#[pi, pr].zip (encs p x)).foldl (fun t (q : Nat × Value) => t.setIfInBounds q.1 q.2) T = (T.setIfInBounds pi (.int .i64 (x.1 : Int))).setIfInBounds pr (rng (at' p.1 x.1) (at' p.2 x.1)) := by
    simp [encs]
  have := hassign l m x.1 _ _ W K hK
  rw [← e] at this
  exact this
/-- a function that holds such a range: how it is entered, and how it leaves -/
theorem enter_marks {f : FuncId} {fn : Func} {c : Code} {args : Array Value} {w : World} {R : Ending → World → Prop} {P : Program}
    (hf : P.funcs[f]? = some fn) (hb : fn.body = some c) (h : c.wp P (bodyPostM Fence.wide 4 P fn R) { tmps := args ++ Array.replicate (fn.ntmps - args.size) undef, defers := [] } w) : Calls P f args w R :=
  callsIn_wide.1 (callsIn_of_wp_marks (n := 4) hf hb trivial (wpIn_wide.2 h) rfl)
theorem leave_mark {fn : Func} {tmps : Array Value} {D : Nat} {W : World} {R : Ending → World → Prop} {P : Program} {v : Value} (hK : W.heap[D]? = some (.deferred (some [])))
    (hr : (results fn tmps).run P (W.putObj D (.deferred none)) = .ok v (W.putObj D (.deferred none))) (hR : R (.returned v) (W.putObj D (.deferred none))) :
    bodyPostM Fence.wide 4 P fn R .ret { tmps := tmps, defers := [{ target := .collected D, args := #[] }] } W :=
  ⟨by simp, .inl ⟨_, _, rfl, run_takeDeferred hK, ⟨_, hr, hR⟩⟩⟩
theorem leave_bare {fn : Func} {tmps : Array Value} {W : World} {R : Ending → World → Prop} {P : Program} {v : Value}
    (hr : (results fn tmps).run P W = .ok v W) (hR : R (.returned v) W) : bodyPostM Fence.wide 4 P fn R .ret { tmps := tmps, defers := [] } W := ⟨_, hr, hR⟩
theorem below_mark {n : Nat} {w W : World} {D : Nat} {o : Obj} (h : Below n w W) (hD : n ≤ D) : Below n w (W.putObj D o) :=
  ⟨h.os, h.tape, h.output, by simp [h.size], fun k hk => (World.putObj_heap_other (by omega)).trans (h.block k hk)⟩
/-- a variable of one cell, its type known -/
def One (w : World) (g : Nat) (t : TypeId) (v : Value) : Prop := w.heap[g]? = some (.cells #[v] t (0, 0))
theorem One.lt {w : World} {g : Nat} {t : TypeId} {v : Value} (h : One w g t v) : g < w.heap.size := (Array.getElem?_eq_some_iff.1 h).1
theorem One.cell {w : World} {g : Nat} {t : TypeId} {v : Value} (h : One w g t v) : w.cell? ⟨g, 0, none⟩ = some v := by
  rw [cell_of_row _ _ _ _ _ _ h]; rfl
theorem One.frozen {w : World} {g : Nat} {t : TypeId} {v : Value} (h : One w g t v) : w.frozen? ⟨g, 0, none⟩ = false := frozen_of_row _ _ _ _ _ h
theorem One.at {w w' : World} {g : Nat} {t : TypeId} {v : Value} (h : One w g t v) (e : w'.heap[g]? = w.heap[g]?) : One w' g t v := e.trans h
theorem One.below {w w' : World} {g : Nat} {t : TypeId} {v : Value} (h : One w g t v) (hb : Below w.heap.size w w') : One w' g t v := h.at (hb.block g h.lt)
theorem One.new (w : World) (t : TypeId) (v : Value) : One (w.alloc (.cells #[v] t)) w.heap.size t v := heap_alloc_new w _
theorem One.set {w : World} {g : Nat} {t : TypeId} {v : Value} (h : One w g t v) (u : Value) : One (w.setCell ⟨g, 0, none⟩ u) g t u := heap_setCell_same _ _ _ _ _ _ h
theorem One.other {w : World} {g k : Nat} {t : TypeId} {v : Value} (h : One w g t v) (u : Value) (hk : g ≠ k) : One (w.setCell ⟨k, 0, none⟩ u) g t v := h.at (Below.heap_setCell _ _ _ _ hk)
theorem One.put {w : World} {g D : Nat} {t : TypeId} {v : Value} {o : Obj} (h : One w g t v) (hk : g ≠ D) : One (w.putObj D o) g t v := h.at (World.putObj_heap_other hk)
theorem own_one {β : Type} {B g : Nat} {t : TypeId} {v : β → Value} (hg : g < B) : OwnFrom B (fun s W => One W g t (v s)) := by
  intro s W W' row hs hgr hr
  exact hs.at (hgr.block g hs.lt fun e => by have := (hr g e.symm).1; omega)
theorem own_pure {β : Type} {B : Nat} {p : β → Prop} : OwnFrom B (fun s _ => p s) := fun _ _ _ _ hs _ _ => hs
theorem all_range {n : Nat} {ys : List (Nth n)} (hy : ys.map (·.1) = List.range n) {P : Nat → Prop} (h : ∀ x ∈ ys, P x.1) : ∀ i, i < n → P i := by
  intro i hi
  have h1 : i ∈ ys.map (·.1) := by rw [hy]; simpa using hi
  obtain ⟨x, hx, rfl⟩ := List.mem_map.1 h1
  exact h x hx
/-- a bool that is handed back out of a variable, behind a range over a function -/
theorem leave_bool {fn : Func} {p : Nat} {ty : TypeId} (hres : fn.results = #[.cell p ty]) {tmps : Array Value} {D g : Nat} {W : World} {R : Ending → World → Prop} {v : Value} {d : TypeDesc}
    (hp : tmps.getD p undef = .pointer (some ⟨g, 0, none⟩)) (hd : (match d with | .struct _ | .array _ _ => true | _ => false) = false) (hu : Try.prog.underlying ty = some d)
    (h1 : One W g ty v) (hK : W.heap[D]? = some (.deferred (some []))) (hgD : g ≠ D) (hR : R (.returned v) (W.putObj D (.deferred none))) :
    bodyPostM Fence.wide 4 Try.prog fn R .ret { tmps := tmps, defers := [{ target := .collected D, args := #[] }] } W :=
  leave_mark hK (wk.results_cell1 hres tmps _ ⟨g, 0, none⟩ v d hp (h1.put hgD).cell hu (by revert hd; cases d <;> simp)) hR
theorem leave_bool0 {fn : Func} {p : Nat} {ty : TypeId} (hres : fn.results = #[.cell p ty]) {tmps : Array Value} {g : Nat} {W : World} {R : Ending → World → Prop} {v : Value} {d : TypeDesc}
    (hp : tmps.getD p undef = .pointer (some ⟨g, 0, none⟩)) (hd : (match d with | .struct _ | .array _ _ => true | _ => false) = false) (hu : Try.prog.underlying ty = some d)
    (h1 : One W g ty v) (hR : R (.returned v) W) :
    bodyPostM Fence.wide 4 Try.prog fn R .ret { tmps := tmps, defers := [] } W :=
  leave_bare (wk.results_cell1 hres tmps _ ⟨g, 0, none⟩ v d hp h1.cell hu (by revert hd; cases d <;> simp)) hR
end Go.Proofs.Ytegoinkkcfbfaaa.bk
/- Valid. -/
namespace Go.Proofs.Ytegoinkkcfbfaaa.bk

open Go.ChangeShapes Go.WideShapes Go.ChangeAt Go.RowKit

open Go.Proofs.Ytegoinkkcfbfaaa.bq Go.Proofs.Ytegoinkkcfbfaaa.vk Go.Proofs.Ytegoinkkcfbfaaa.wk

set_option linter.unusedVariables false
attribute [local go_sem] Oper.semAt_some
set_option maxRecDepth 100000 in
set_option maxHeartbeats 2000000 in
theorem valid_calls (v : Value) (p : Pair) (w : World) (h : IsX w v p) :
    Calls Try.prog 35 #[v] w fun e w' => e = .returned (.bool (bvalid p)) ∧ Below w.heap.size w w' := by
  obtain ⟨A, n, c, A', n', c', rfl, hi, hi'⟩ := h
  have hm := hi.2.2.1
  have hm' := hi'.2.2.1
  have hn := hi.2.1
  have hn' := hi'.2.1
  have hl := hi.1
  have hl' := hi'.1
  have hB0 := Below.andThen (below_new w (.cells #[.slice A n c, .slice A' n' c'] 24)) (below_new _ (.cells #[.bool false] 4))
  have hB1 := Below.andThen (below_new w (.cells #[.slice A n c, .slice A' n' c'] 24)) (below_new _ (.cells #[.bool true] 4))
  have HI := Lib.hid hi
  have HI' := Lib.hid hi'
  have HB0 := Lib.hid hB0
  have HV := Lib.hid (fun w' hb => isVector_calls A n c p.1 w' (isI_below hi hb))
  have HV' := Lib.hid (fun w' hb => isVector_calls A' n' c' p.2 w' (isI_below hi' hb))
  have HO := Lib.hid (One.new (w.alloc (.cells #[.slice A n c, .slice A' n' c'] 24)) 4 (.bool false))
  have hS := size_new w (.cells #[.slice A n c, .slice A' n' c'] 24)
  rw [hS] at HO
  clear hi hi' hB0 hS
  refine enter_marks Try.func35 rfl ?_
  simp only [Try.ntmps35, List.size_toArray, List.length_cons, List.length_nil, Nat.reduceAdd, Nat.reduceSub, Array.replicate_succ, Array.replicate_zero, List.push_toArray, List.append_toArray, List.nil_append, List.cons_append]
  by_cases hlen : n = n'
  · subst hlen
    by_cases hv1 : vq.valid p.1 = true
    · rw [hv1] at HV
      by_cases hv2 : vq.valid p.2 = true
      · rw [hv2] at HV'
        have hV : bvalid p = le p.1 p.2 := by simp [bvalid, hv1, hv2, hl, hl']
        rw [hV]
        go_wp2_with fail
        refine (HV.out _ HB0.out).mono ?_
        rintro e w' ⟨rfl, rfl⟩
        go_wp2_with fail
        refine (HV'.out _ HB0.out).mono ?_
        rintro e w' ⟨rfl, rfl⟩
        go_wp2_with fail
        refine (sides_calls _ _ _).mono ?_
        rintro e w' ⟨rfl, rfl⟩
        go_wp2_with fail
        generalize hG : w.heap.size = G at *
        have hs3 : ∀ o1 o2 o3, (((w.alloc o1).alloc o2).alloc o3).heap.size = G + 3 := by intro o1 o2 o3; simp only [size_new, hG]
        have hB3 : Below G w (((w.alloc (.cells #[.slice A n c, .slice A' n c'] 24)).alloc (.cells #[.bool false] 4)).alloc (.cells #[.slice A n c, .slice A' n c'] 24)) := HB0.out.trans ((below_new _ _).mono (by simp only [size_new, hG]; omega))
        refine range_sides' none 4 G (G + 1 + 1) [G + 1] p (.slice A n c) (.slice A' n c') rfl ?c1 ?c2 ?c0 ?c3 ?c4 ?c5 ?c6 (fun pre W => One W (G + 1) 4 (.bool false) ∧ ∀ x ∈ pre, at' p.1 x.1 ≤ at' p.2 x.1) (fun c W => (c = .ret ∧ le p.1 p.2 = false) ∧ One W (G + 1) 4 (.bool false)) ?c7 ?c8 ?c9 ?hassign ?hbody ?hdone ?hstop
        case c0 => have := Two.new ((w.alloc (.cells #[.slice A n c, .slice A' n c'] 24)).alloc (.cells #[.bool false] 4)) (.slice A n c) (.slice A' n c') 24; simp only [size_new, hG] at this; exact this
        case c1 => simp
        case c2 => rw [hs3]; omega
        case c3 => simp
        case c4 => rw [hs3]; simp
        case c5 => omega
        case c6 =>
          intro w' hb
          have hb' : Below G w w' := hB3.trans hb
          rw [← hG] at hb'
          exact ⟨A, n, c, A', n, c', rfl, isI_below HI.out hb', isI_below HI'.out hb'⟩
        case c7 => exact OwnFrom.and (own_one (by rw [hs3]; omega)) own_pure
        case c8 => intro c'; exact OwnFrom.and own_pure (own_one (by rw [hs3]; omega))
        case c9 => exact ⟨HO.out.below (below_new _ _), fun x hx => by cases hx⟩
        case hassign =>
          intro l m i a b W K hK
          unfold rng at hK ⊢
          simp only [roundT, List.setIfInBounds_toArray, List.set_cons_succ, List.set_cons_zero] at hK ⊢
          gi_wp2
          exact hK
        case hbody =>
          rintro l m pre x Bx W hBx hT hx ⟨hO, hI⟩ hlen
          simp only [roundT, List.setIfInBounds_toArray, List.set_cons_succ, List.set_cons_zero]
          have hT0 := hT.c0
          have hT1 := hT.c1
          have hO0 := hO.cell
          have hO1 := hO.frozen
          by_cases hle : at' p.1 x.1 ≤ at' p.2 x.1
          · gi_wp2
            exact ⟨Turn.refl _ _ _, hO, fun y hy => by rcases List.mem_append.1 hy with h | h; exact hI y h; rw [List.mem_singleton] at h; subst h; exact hle⟩
          · gi_wp2
            exact ⟨Turn.setCell _ (by simp), ⟨rfl, le_not x.2 (by omega)⟩, hO.set _⟩
        case hdone =>
          rintro D ys W hD hys hx ⟨hO, hI⟩ hK
          have hO0 := hO.cell
          have hO1 := hO.frozen
          have hle : le p.1 p.2 = true := le_iff.2 (all_range hys hI)
          rw [hs3] at hD
          go_wp2_with fail
          refine leave_bool (fn := Try.f35) rfl rfl rfl Try.underlying4 (hO.set _) ?_ (by omega) ⟨by rw [hle], ?_⟩
          · exact (Below.heap_setCell _ _ _ _ (by show D ≠ G + 1; omega)).trans hK
          · rw [hG]; exact below_mark (((hB3.trans (hx.below (by rw [hs3]; omega) (by simp))).setCell (p := ⟨G + 1, 0, none⟩) (by show G ≤ G + 1; omega) _)) (by omega)
        case hstop =>
          rintro D c W hD hx ⟨⟨rfl, hle⟩, hO⟩ hK
          rw [hs3] at hD
          go_wp2_with fail
          refine leave_bool (fn := Try.f35) rfl rfl rfl Try.underlying4 hO hK (by omega) ⟨by rw [hle], ?_⟩
          rw [hG]
          exact below_mark (hB3.trans (hx.below (by rw [hs3]; omega) (by simp))) (by omega)
      · have hV : bvalid p = false := by simp [bvalid, hv2]
        have hv2' : vq.valid p.2 = false := by simpa using hv2
        rw [hv2'] at HV'
        rw [hV]
        go_wp2_with fail
        refine (HV.out _ HB0.out).mono ?_
        rintro e w' ⟨rfl, rfl⟩
        go_wp2_with fail
        refine (HV'.out _ HB0.out).mono ?_
        rintro e w' ⟨rfl, rfl⟩
        go_wp2_with fail
        exact leave_bool0 (fn := Try.f35) rfl rfl rfl Try.underlying4 HO.out ⟨rfl, HB0.out⟩
    · have hV : bvalid p = false := by simp [bvalid, hv1]
      have hv1' : vq.valid p.1 = false := by simpa using hv1
      rw [hv1'] at HV
      rw [hV]
      go_wp2_with fail
      refine (HV.out _ HB0.out).mono ?_
      rintro e w' ⟨rfl, rfl⟩
      go_wp2_with fail
      exact leave_bool0 (fn := Try.f35) rfl rfl rfl Try.underlying4 HO.out ⟨rfl, HB0.out⟩
  · have hV : bvalid p = false := by simp [bvalid, hl, hl', hlen]
    rw [hV]
    go_wp2_with fail
    exact leave_bool0 (fn := Try.f35) rfl rfl rfl Try.underlying4 HO.out ⟨rfl, HB0.out⟩
end Go.Proofs.Ytegoinkkcfbfaaa.bk
/- Alike, the functions on pairs of boxes. -/
namespace Go.Proofs.Ytegoinkkcfbfaaa.bk

open Go.ChangeShapes Go.WideShapes Go.ChangeAt Go.RowKit

open Go.Proofs.Ytegoinkkcfbfaaa.bq Go.Proofs.Ytegoinkkcfbfaaa.vk Go.Proofs.Ytegoinkkcfbfaaa.wk

set_option linter.unusedVariables false
set_option maxRecDepth 100000 in
set_option maxHeartbeats 2000000 in
theorem alike_calls (v u : Value) (p q : Pair) (w : World) (h : IsX w v p) (h2 : IsX w u q) :
    Calls Try.prog 69 #[v, u] w fun e w' => e = .returned (.bool (balike p q)) ∧ Below w.heap.size w w' := by
  have HV := Lib.hid (fun w' hb => valid_calls v p w' (h.below hb))
  have HU := Lib.hid (fun w' hb => valid_calls u q w' (h2.below hb))
  obtain ⟨A, n, c, A', n', c', rfl, hi, hi'⟩ := h
  obtain ⟨A2, n2, c2, A2', n2', c2', rfl, hi2, hi2'⟩ := h2
  have hm := hi.2.2.1
  have hm2 := hi2.2.2.1
  have hn := hi.2.1
  have hn2 := hi2.2.1
  have hl := hi.1
  have hl2 := hi2.1
  have HB0 := Lib.hid (Below.andThen (below_new w (.cells #[.slice A n c, .slice A' n' c'] 24)) (below_new _ (.cells #[.slice A2 n2 c2, .slice A2' n2' c2'] 24)))
  have hT1 := (Two.new w (.slice A n c) (.slice A' n' c') 24).below (below_new _ (.cells #[.slice A2 n2 c2, .slice A2' n2' c2'] 24))
  have hT2 := Two.new (w.alloc (.cells #[.slice A n c, .slice A' n' c'] 24)) (.slice A2 n2 c2) (.slice A2' n2' c2') 24
  simp only [size_new] at hT2
  have HT1 := Lib.hid hT1
  have HT2 := Lib.hid hT2
  clear hi hi' hi2 hi2' hT1 hT2
  by_cases hlen : n = n2
  · subst hlen
    by_cases hv1 : bvalid p = true
    · rw [hv1] at HV
      have hV : balike p q = bvalid q := by simp [balike, hl, hl2, hv1]
      rw [hV]
      go_enter Try.func69, Try.ntmps69
      go_wp2_with fail
      refine (HV.out _ HB0.out).mono ?_
      rintro e w1 ⟨rfl, hb⟩
      have HB1 := Lib.hid (HB0.out.trans (hb.mono HB0.out.size))
      have hT := HT2.out.below hb
      have hc0 := hT.c0
      have hc1 := hT.c1
      clear hb hT
      go_wp2_with fail
      refine (HU.out _ HB1.out).mono ?_
      rintro e w2 ⟨rfl, hb⟩
      have HB2 := Lib.hid (HB1.out.trans (hb.mono HB1.out.size))
      clear hb
      go_wp2_with fail
      go_ret
      exact ⟨rfl, HB2.out⟩
    · have hV : balike p q = false := by simp [balike, hv1]
      have hv1' : bvalid p = false := by simpa using hv1
      rw [hv1'] at HV
      rw [hV]
      go_enter Try.func69, Try.ntmps69
      go_wp2_with fail
      refine (HV.out _ HB0.out).mono ?_
      rintro e w1 ⟨rfl, hb⟩
      have HB1 := Lib.hid (HB0.out.trans (hb.mono HB0.out.size))
      clear hb
      go_wp2_with fail
      go_ret
      exact ⟨rfl, HB1.out⟩
  · have hV : balike p q = false := by simp [balike, hl, hl2, hlen]
    rw [hV]
    go_enter Try.func69, Try.ntmps69
    go_wp2_with fail
    go_ret
    exact ⟨rfl, HB0.out⟩
abbrev iv (l : List Int) : List Value := l.map (Value.int .i64)
theorem isI_of_own {w : World} {B n : Nat} {v : Value} {l : List Int} (h : w.ownsRow B 3 1 v n (iv l)) (hb : ∀ x ∈ l, -9223372036854775808 ≤ x ∧ x ≤ 9223372036854775807) : ∃ A c, v = .slice A n c ∧ wo.IsI w A n c l := by
  have hl : l.length = n := by have := h.1; simpa [iv] using this
  obtain ⟨A, c, rfl, h1, h2, hR⟩ := wp.RC.of_own h
  exact ⟨A, c, rfl, hl, h1, by unfold maxLen at h2; omega, hR, hb⟩
/-- joined, with lesser or greater -/
def pickf (f : Nat) (a b : Int) : Int := if f = 72 then min a b else max a b
theorem pick_calls (f : Nat) (hf : f = 72 ∨ f = 71) (a b : Int) (w : World) : Calls Try.prog f #[.int .i64 a, .int .i64 b] w fun e w' => e = .returned (.int .i64 (pickf f a b)) ∧ w' = w := by
  rcases hf with rfl | rfl
  · exact lesser_calls a b w
  · exact greater_calls a b w
theorem pick_enters (f : Nat) (hf : f = 72 ∨ f = 71) : ∀ args w, (callFunc f args).run Try.prog w = .ok (.enter f args) w := by
  rcases hf with rfl | rfl
  · intro args w; kernel_rfl
  · intro args w; kernel_rfl
def joinf (f : Nat) (a b : List Int) : List Int := (List.range a.length).map fun i => pickf f (at' a i) (at' b i)
theorem joinf_snoc (f : Nat) (a b : List Int) {k : Nat} (hk : k < a.length) : (joinf f a b).take (k + 1) = (joinf f a b).take k ++ [pickf f (at' a k) (at' b k)] := by
  rw [List.take_add_one]
  congr 1
  simp [joinf, hk]
set_option maxRecDepth 100000 in
set_option maxHeartbeats 2000000 in
theorem joined_calls (f : Nat) (hf : f = 72 ∨ f = 71) (A A' : Option Addr) (n c n' c' : Nat) (a b : List Int) (w : World) (h : wo.IsI w A n c a) (h' : wo.IsI w A' n' c' b) (hn : n ≤ n') (hn1 : n ≤ 1000) :
    Calls Try.prog 70 #[.slice A n c, .slice A' n' c', .func (.func f) #[] #[]] w fun e w' => ∃ v, e = .returned v ∧ IsV w' v (joinf f a b) ∧ Below w.heap.size w w' := by
  obtain ⟨i0, hi, hz0, hz1, hz2⟩ := info_parts wi.infoI
  have HP := Lib.hid (fun x y w' => pick_calls f hf x y w')
  have hE := pick_enters f hf
  have hm := h.2.2.1
  have hm' := h'.2.2.1
  have hnc := h.2.1
  have hnc' := h'.2.1
  have HI := Lib.hid h
  have HI' := Lib.hid h'
  have HL := Lib.hid h.1
  have HL' := Lib.hid h'.1
  clear h h' hf
  have hnI : (i0.bytes : Nat) * n ≤ 281474976710656 := by rw [hz2]; omega
  obtain ⟨w1, hmk, hown, hgr⟩ := run_make_own (P := Try.prog) w w.heap.size 22 3 i0 (.int .i64 0) 1 Try.underlying22 hi hz0 hz1 .i64 .i64 n hnI (by unfold maxLen; omega) (Nat.le_refl _)
  have HB1 : Hid (Below w.heap.size w w1) := (Below.refl _ _).grown hgr (Nat.le_refl _) (fun k hk => by cases hk)
  have HOWN := Lib.hid hown
  have HBND : Hid (∀ x ∈ joinf f a b, -9223372036854775808 ≤ x ∧ x ≤ 9223372036854775807) := fun x hx => by
    simp only [joinf, List.mem_map, List.mem_range] at hx
    obtain ⟨i, hi, rfl⟩ := hx
    have h1 := HI.out.2.2.2.2 (at' a i) (List.mem_of_getElem? (of_at hi))
    have h2 := HI'.out.2.2.2.2 (at' b i) (List.mem_of_getElem? (of_at (by rw [HL'.out]; rw [HL.out] at hi; omega)))
    unfold pickf
    split <;> omega
  have HJL : Hid ((joinf f a b).length = n) := by show _ = _; rw [joinf, List.length_map, List.length_range, HL.out]
  clear hown hgr
  generalize hG : w.heap.size = B at *
  have HG := Lib.hid hG
  clear hG
  go_enter Try.func70, Try.ntmps70
  go_wp2_with fail
  go_loopg [7, 15] n (fun g v x wr => ∃ (k : Nat), k + g = n ∧ x = .int .i64 (k : Int) ∧ wr.ownsRow B 3 1 v k (iv ((joinf f a b).take k)) ∧ Below B w wr)
  case atStart => exact ⟨0, by omega, rfl, HOWN.out, HB1.out⟩
  case round =>
    obtain ⟨k, hk, rfl, hown, hbel⟩ := hrel
    have HK := Lib.hid hk
    have HOWN2 := Lib.hid hown
    have HBEL := Lib.hid hbel
    have HBW : Hid (B ≤ wr.heap.size) := by have := hbel.size; have := HG.out; show _ ≤ _; omega
    have hkn : k ≤ n := by omega
    by_cases hlt : k < n
    · have hb1 : Below w.heap.size w wr := by rw [HG.out]; exact hbel
      obtain ⟨bb, o, rfl, hc, hb⟩ := isI_get (isI_below HI.out hb1) hlt
      obtain ⟨bb', o', rfl, hc', hb'⟩ := isI_get (isI_below HI'.out hb1) (show k < n' by omega)
      have HS : Hid ((joinf f a b).take (k + 1) = (joinf f a b).take k ++ [pickf f (at' a k) (at' b k)]) := joinf_snoc f a b (by rw [HL.out]; exact hlt)
      have HP2 := Lib.hid (fun w' => HP.out (at' a k) (at' b k) w')
      generalize pickf f (at' a k) (at' b k) = z at *
      generalize at' a k = x at *
      generalize at' b k = y at *
      have h1' : (k : Int) < (n : Int) := by omega
      have h2' : (k : Int) < (n' : Int) := by omega
      clear hown hbel hb1 hk hb hb'
      go_wp2_with fail
      refine (HP2.out _).mono ?_
      rintro e w' ⟨rfl, rfl⟩
      go_wp2_with (at_builtin; refine wpList_append_own _ rfl _ _ 22 rfl B 3 i0 (.int .i64 0) 1 8 Try.underlying22 hi hz0 hz1 hz2 rfl (by decide) _ _ _ rfl (HOWN2.out.alloc _) ⟨w'.heap.size, 0, none⟩ 1 1 [.int .i64 z] rfl rfl ?c1 ?c2 ?c3 ?c4 ?c5 ?_)
      case c1 => exact cell_one_new _ _ _
      case c2 => simp [Value.oneCell']
      case c3 => unfold maxLen; omega
      case c4 => omega
      case c5 => have := HBW.out; simp; omega
      intro v' w2 hown2 hgrow _
      have hbe : Below B w w2 := (HBEL.out.alloc HBW.out _).grown hgrow (by have := HBW.out; simp; omega) (fun q hq => (HOWN2.out.lt q hq).1)
      have HB2 := Lib.hid hbe
      have HO2 := Lib.hid hown2
      clear hown2 hgrow hbe
      go_wp2_with fail
      go_roundg (gk - 1)
      case measure => have := HK.out; omega
      case rel =>
        refine ⟨k + 1, by have := HK.out; omega, by go_num, ?_, HB2.out⟩
        have h := HO2.out
        rw [HS.out]
        unfold iv at h ⊢
        rw [List.map_append]
        simpa using h
    · obtain rfl : k = n := by omega
      have ho := hown
      rw [List.take_of_length_le (by have := HJL.out; omega)] at ho
      obtain ⟨A2, c2, rfl, hI⟩ := isI_of_own ho HBND.out
      have HI2 := Lib.hid hI
      clear ho hI hown hbel
      go_wp2_with fail
      go_ret
      exact ⟨_, rfl, ⟨A2, k, c2, rfl, HI2.out⟩, HBEL.out⟩
end Go.Proofs.Ytegoinkkcfbfaaa.bk
/- Join, Meet. -/
namespace Go.Proofs.Ytegoinkkcfbfaaa.bk

open Go.ChangeShapes Go.WideShapes Go.ChangeAt Go.RowKit

open Go.Proofs.Ytegoinkkcfbfaaa.bq Go.Proofs.Ytegoinkkcfbfaaa.vk Go.Proofs.Ytegoinkkcfbfaaa.wk

set_option linter.unusedVariables false
theorem joinf_lesser (a b : List Int) : joinf 72 a b = mins a b := rfl
theorem joinf_greater (a b : List Int) : joinf 71 a b = maxs a b := rfl
theorem res_x1 {fn : Func} {p u : Tmp} (h : fn.results = #[.cell p 24, .tmp u]) (tmps : Array Value) (w : World) (g : Nat) (a b : Value) (hp : tmps.getD p undef = .pointer (some ⟨g, 0, none⟩)) (hg : w.heap[g]? = some (.cells #[a, b] 24 (0, 0))) :
    (results fn tmps).run Try.prog w = .ok (.tuple #[.agg #[a, b], tmps.getD u undef]) w := by
  have hp' : tmps[p]?.getD undef = .pointer (some ⟨g, 0, none⟩) := by simpa using hp
  simp [results, h, hp', asAddr, run_loadVar_row w g _ _ #[a, b] (0, 0) _ hg Try.underlying24 rfl (by kernel_rfl)]
theorem res_x2 {fn : Func} {p u v : Tmp} (h : fn.results = #[.cell p 24, .tmp u, .tmp v]) (tmps : Array Value) (w : World) (g : Nat) (a b : Value) (hp : tmps.getD p undef = .pointer (some ⟨g, 0, none⟩)) (hg : w.heap[g]? = some (.cells #[a, b] 24 (0, 0))) :
    (results fn tmps).run Try.prog w = .ok (.tuple #[.agg #[a, b], tmps.getD u undef, tmps.getD v undef]) w := by
  have hp' : tmps[p]?.getD undef = .pointer (some ⟨g, 0, none⟩) := by simpa using hp
  simp [results, h, hp', asAddr, run_loadVar_row w g _ _ #[a, b] (0, 0) _ hg Try.underlying24 rfl (by kernel_rfl)]
theorem isX_nil (w : World) : IsX w (.agg #[.slice none 0 0, .slice none 0 0]) ([], []) := by
  have h : wo.IsI w none 0 0 [] := ⟨rfl, Nat.le_refl _, by omega, fun h => absurd h (by simp), by simp⟩
  exact ⟨_, _, _, _, _, _, rfl, h, h⟩
/-- a variable of two cells, its type known -/
def TwoX (w : World) (g : Nat) (a b : Value) : Prop := w.heap[g]? = some (.cells #[a, b] 24 (0, 0))
theorem TwoX.two {w : World} {g : Nat} {a b : Value} (h : TwoX w g a b) : Two w g a b := ⟨_, h⟩
theorem TwoX.below {w w' : World} {g : Nat} {a b : Value} (h : TwoX w g a b) (hb : Below w.heap.size w w') : TwoX w' g a b := (hb.block g (Array.getElem?_eq_some_iff.1 h).1).trans h
theorem TwoX.f0 {w : World} {g : Nat} {a b : Value} (h : TwoX w g a b) (j : Nat) : w.frozen? ⟨g, j, none⟩ = false := frozen_of_row _ _ _ _ _ h
theorem TwoX.set {w : World} {g : Nat} {a b : Value} (h : TwoX w g a b) (x y : Value) : TwoX ((w.setCell ⟨g, 0, none⟩ x).setCell ⟨g, 1, none⟩ y) g x y := by
  have h1 := heap_setCell_same w g 0 #[a, b] 24 x h
  have h2 := heap_setCell_same (w.setCell ⟨g, 0, none⟩ x) g 1 _ 24 y h1
  exact h2
theorem TwoX.notInt {w : World} {g : Nat} {A A' : Option Addr} {n c n' c' : Nat} (h : TwoX w g (.slice A n c) (.slice A' n' c')) (o : Nat) (x : Int) : w.cell? ⟨g, o, none⟩ ≠ some (.int .i64 x) := by
  rw [cell_of_row _ _ _ _ _ _ h]
  intro hh
  match o with
  | 0 => cases hh
  | 1 => cases hh
  | o + 2 => simp at hh
theorem isI_but {w w' : World} {g : Nat} {A : Option Addr} {n c : Nat} {l : List Int} (h : wo.IsI w A n c l) (hne : ∀ o x, w.cell? ⟨g, o, none⟩ ≠ some (.int .i64 x)) (hs : w.heap.size ≤ w'.heap.size) (hk : ∀ k, k < w.heap.size → k ≠ g → w'.heap[k]? = w.heap[k]?) : wo.IsI w' A n c l := by
  refine ⟨h.1, h.2.1, h.2.2.1, fun hp => ?_, h.2.2.2.2⟩
  obtain ⟨b, o, rfl, hb, hc⟩ := h.2.2.2.1 hp
  have hbg : b ≠ g := by
    rintro rfl
    have hp' : 0 < l.length := by simpa using hp
    have h0 := hc 0 (.int .i64 l[0]) (by simp [hp'])
    exact hne _ _ h0
  exact ⟨b, o, rfl, Nat.lt_of_lt_of_le hb hs, fun j u hu => (World.cell?_of_block (hk b hb hbg)).trans (hc j u hu)⟩
theorem set2_size (w : World) (g : Nat) (x y : Value) : ((w.setCell ⟨g, 0, none⟩ x).setCell ⟨g, 1, none⟩ y).heap.size = w.heap.size := by simp
theorem set2_other (w : World) (g : Nat) (x y : Value) (k : Nat) (hk : k ≠ g) : ((w.setCell ⟨g, 0, none⟩ x).setCell ⟨g, 1, none⟩ y).heap[k]? = w.heap[k]? :=
  (Below.heap_setCell _ _ _ _ hk).trans (Below.heap_setCell _ _ _ _ hk)
theorem isI_set2 {w : World} {g : Nat} {A A1 A2 : Option Addr} {n c n1 c1 n2 c2 : Nat} {l : List Int} (h : wo.IsI w A n c l) (hg : TwoX w g (.slice A1 n1 c1) (.slice A2 n2 c2)) (x y : Value) : wo.IsI ((w.setCell ⟨g, 0, none⟩ x).setCell ⟨g, 1, none⟩ y) A n c l :=
  isI_but h hg.notInt (by rw [set2_size]; exact Nat.le_refl _) (fun k _ hk => set2_other w g x y k hk)
theorem below_set2 {n g : Nat} {w0 w : World} (h : Below n w0 w) (hg : n ≤ g) (x y : Value) : Below n w0 ((w.setCell ⟨g, 0, none⟩ x).setCell ⟨g, 1, none⟩ y) :=
  (h.setCell (p := ⟨g, 0, none⟩) hg _).setCell (p := ⟨g, 1, none⟩) hg _
theorem TwoX.new (w : World) (a b : Value) : TwoX (w.alloc (.cells #[a, b] 24)) w.heap.size a b := heap_alloc_new w _
set_option maxRecDepth 100000 in
set_option maxHeartbeats 2000000 in
theorem join_calls (v u : Value) (p q : Pair) (w : World) (h : IsX w v p) (h2 : IsX w u q) :
    Calls Try.prog 68 #[v, u] w fun e w' => ∃ x, e = .returned (.tuple #[x, .int .i64 (if balike p q then 0 else 1)]) ∧ IsX w' x (if balike p q then join p q else ([], [])) ∧ Below w.heap.size w w' := by
  have HA := Lib.hid (fun w' hb => alike_calls v u p q w' (h.below hb) (h2.below hb))
  obtain ⟨A, n, c, A', n', c', rfl, hi, hi'⟩ := h
  obtain ⟨A2, n2, c2, A2', n2', c2', rfl, hi2, hi2'⟩ := h2
  have HB0 := Lib.hid (Below.andThen (Below.andThen (below_new w (.cells #[.slice A n c, .slice A' n' c'] 24)) (below_new _ (.cells #[.slice A2 n2 c2, .slice A2' n2' c2'] 24))) (below_new _ (.cells #[.slice none 0 0, .slice none 0 0] 24)))
  have hT1 := ((Two.new w (.slice A n c) (.slice A' n' c') 24).below (below_new _ (.cells #[.slice A2 n2 c2, .slice A2' n2' c2'] 24))).below (below_new _ (.cells #[.slice none 0 0, .slice none 0 0] 24))
  have hT2 := (Two.new (w.alloc (.cells #[.slice A n c, .slice A' n' c'] 24)) (.slice A2 n2 c2) (.slice A2' n2' c2') 24).below (below_new _ (.cells #[.slice none 0 0, .slice none 0 0] 24))
  have hT3 := TwoX.new ((w.alloc (.cells #[.slice A n c, .slice A' n' c'] 24)).alloc (.cells #[.slice A2 n2 c2, .slice A2' n2' c2'] 24)) (.slice none 0 0) (.slice none 0 0)
  simp only [size_new] at hT2 hT3
  by_cases hal : balike p q = true
  · obtain ⟨hl, hp, hq⟩ := balike_iff.1 hal
    have hn1 := hp.lo.le
    have hnn := hp.len
    have hnn2 := hq.len
    have HJ1 := Lib.hid (fun w' (hb : Below w.heap.size w w') => joined_calls 72 (.inl rfl) A A2 n c n2 c2 p.1 q.1 w' (isI_below hi hb) (isI_below hi2 hb) (by rw [← hi.1, ← hi2.1]; omega) (by rw [← hi.1]; omega))
    have HJ2 := Lib.hid (fun w' (hb : Below w.heap.size w w') => joined_calls 71 (.inr rfl) A' A2' n' c' n2' c2' p.2 q.2 w' (isI_below hi' hb) (isI_below hi2' hb) (by rw [← hi'.1, ← hi2'.1]; omega) (by rw [← hi'.1]; omega))
    clear hi hi' hi2 hi2'
    rw [hal] at HA ⊢
    go_enter Try.func68, Try.ntmps68
    go_wp2_with fail
    refine (HA.out _ HB0.out).mono ?_
    rintro e w1 ⟨rfl, hb⟩
    have HB1 := Lib.hid (HB0.out.trans (hb.mono HB0.out.size))
    have HT1 := Lib.hid (hT1.below hb)
    have HT2 := Lib.hid (hT2.below hb)
    have HT3 := Lib.hid (hT3.below hb)
    replace HJ1 := Lib.hid (fun w' (hb : Below w1.heap.size w1 w') => HJ1.out w' (HB1.out.trans (hb.mono HB1.out.size)))
    replace HJ2 := Lib.hid (fun w' (hb : Below w1.heap.size w1 w') => HJ2.out w' (HB1.out.trans (hb.mono HB1.out.size)))
    clear hb hT1 hT2 hT3
    go_wp2_with fail
    generalize hG : w.heap.size = G at *
    refine wk.region_tailS 11 [.is (.pointer (some ⟨G, 0, none⟩)), .is (.slice A n c), .is (.pointer (some ⟨G + 1, 0, none⟩)), .is (.slice A2 n2 c2), .st (fun u x => IsV u x (joinf 72 p.1 q.1)) (fun u u2 x h hb => h.below hb), .is (.pointer (some ⟨G, 1, none⟩)), .is (.slice A' n' c'), .is (.pointer (some ⟨G + 1, 1, none⟩)), .is (.slice A2' n2' c2'), .st (fun u x => IsV u x (joinf 71 p.2 q.2)) (fun u u2 x h hb => h.below hb), .st (fun u x => IsX u x (joinf 72 p.1 q.1, joinf 71 p.2 q.2)) (fun u u2 x h hb => h.below hb)] [some 11, some 12, some 13, some 14, some 15, some 16, some 17, some 18, some 19, some 20, some 21] (by kernel_rfl) (by kernel_rfl) (by kernel_rfl) (by kernel_rfl) [] (by kernel_rfl) (by intro p hp; cases hp) (by kernel_rfl) (by kernel_rfl) ?hstep ?hdone
    case hstep =>
      intro i o ho hi hns E w4 hb4 D
      have hi2 : i = 0 ∨ i = 1 ∨ i = 2 ∨ i = 3 ∨ i = 4 ∨ i = 5 ∨ i = 6 ∨ i = 7 ∨ i = 8 ∨ i = 9 ∨ i = 10 := by omega
      clear hi
      rcases hi2 with rfl | rfl | rfl | rfl | rfl | rfl | rfl | rfl | rfl | rfl | rfl
      ·
        have ho2 := (Array.getElem?_eq_some_iff.1 ho).2
        simp only [List.getElem_toArray, List.getElem_cons_zero] at ho2
        subst ho2
        clear ho
        have e2 := D.old 2 (by kernel_rfl)
        exact wk.does_run (by simp only [execOp]; rw [show E (.tmp 2) = .pointer (some ⟨G, 0, none⟩) by rw [e2]; rfl]; go_simp) rfl
      ·
        have ho2 := (Array.getElem?_eq_some_iff.1 ho).2
        simp only [List.getElem_toArray, List.getElem_cons_succ, List.getElem_cons_zero] at ho2
        subst ho2
        clear ho
        have e11 := D.is { on := 0, ground := .data } (by simp) rfl rfl 11 rfl
        exact wk.does_load1 rfl e11 ((HT1.out.below ((Below.refl _ _).drew.trans hb4)).c0) Try.underlying22 rfl rfl
      ·
        have ho2 := (Array.getElem?_eq_some_iff.1 ho).2
        simp only [List.getElem_toArray, List.getElem_cons_succ, List.getElem_cons_zero] at ho2
        subst ho2
        clear ho
        have e3 := D.old 3 (by kernel_rfl)
        exact wk.does_run (by simp only [execOp]; rw [show E (.tmp 3) = .pointer (some ⟨G + 1, 0, none⟩) by rw [e3]; rfl]; go_simp) rfl
      ·
        have ho2 := (Array.getElem?_eq_some_iff.1 ho).2
        simp only [List.getElem_toArray, List.getElem_cons_succ, List.getElem_cons_zero] at ho2
        subst ho2
        clear ho
        have e13 := D.is { on := 2, ground := .data } (by simp) rfl rfl 13 rfl
        exact wk.does_load1 rfl e13 ((HT2.out.below ((Below.refl _ _).drew.trans hb4)).c0) Try.underlying22 rfl rfl
      ·
        have ho2 := (Array.getElem?_eq_some_iff.1 ho).2
        simp only [List.getElem_toArray, List.getElem_cons_succ, List.getElem_cons_zero] at ho2
        subst ho2
        clear ho
        have e12 := D.is { on := 1, ground := .data } (by simp) rfl rfl 12 rfl
        have e14 := D.is { on := 3, ground := .data } (by simp) rfl rfl 14 rfl
        refine wk.does_fn (f := 70) (vs := #[.slice A n c, .slice A2 n2 c2, .func (.func 72) #[] #[]]) rfl (D.fn _) (by simp [e12, e14, D.fn _]) (by go_simp) ?_
        refine (HJ1.out w4 ((Below.refl _ _).drew.trans hb4)).mono ?_
        rintro e w7 ⟨v7, rfl, hI7, hb7⟩
        exact ⟨_, rfl, hb7, hI7⟩
      ·
        have ho2 := (Array.getElem?_eq_some_iff.1 ho).2
        simp only [List.getElem_toArray, List.getElem_cons_succ, List.getElem_cons_zero] at ho2
        subst ho2
        clear ho
        have e2 := D.old 2 (by kernel_rfl)
        exact wk.does_run (by simp only [execOp]; rw [show E (.tmp 2) = .pointer (some ⟨G, 0, none⟩) by rw [e2]; rfl]; go_simp) rfl
      ·
        have ho2 := (Array.getElem?_eq_some_iff.1 ho).2
        simp only [List.getElem_toArray, List.getElem_cons_succ, List.getElem_cons_zero] at ho2
        subst ho2
        clear ho
        have e16 := D.is { on := 5, ground := .data } (by simp) rfl rfl 16 rfl
        exact wk.does_load1 rfl e16 ((HT1.out.below ((Below.refl _ _).drew.trans hb4)).c1) Try.underlying22 rfl rfl
      ·
        have ho2 := (Array.getElem?_eq_some_iff.1 ho).2
        simp only [List.getElem_toArray, List.getElem_cons_succ, List.getElem_cons_zero] at ho2
        subst ho2
        clear ho
        have e3 := D.old 3 (by kernel_rfl)
        exact wk.does_run (by simp only [execOp]; rw [show E (.tmp 3) = .pointer (some ⟨G + 1, 0, none⟩) by rw [e3]; rfl]; go_simp) rfl
      ·
        have ho2 := (Array.getElem?_eq_some_iff.1 ho).2
        simp only [List.getElem_toArray, List.getElem_cons_succ, List.getElem_cons_zero] at ho2
        subst ho2
        clear ho
        have e18 := D.is { on := 7, ground := .data } (by simp) rfl rfl 18 rfl
        exact wk.does_load1 rfl e18 ((HT2.out.below ((Below.refl _ _).drew.trans hb4)).c1) Try.underlying22 rfl rfl
      ·
        have ho2 := (Array.getElem?_eq_some_iff.1 ho).2
        simp only [List.getElem_toArray, List.getElem_cons_succ, List.getElem_cons_zero] at ho2
        subst ho2
        clear ho
        have e17 := D.is { on := 6, ground := .data } (by simp) rfl rfl 17 rfl
        have e19 := D.is { on := 8, ground := .data } (by simp) rfl rfl 19 rfl
        refine wk.does_fn (f := 70) (vs := #[.slice A' n' c', .slice A2' n2' c2', .func (.func 71) #[] #[]]) rfl (D.fn _) (by simp [e17, e19, D.fn _]) (by go_simp) ?_
        refine (HJ2.out w4 ((Below.refl _ _).drew.trans hb4)).mono ?_
        rintro e w7 ⟨v7, rfl, hI7, hb7⟩
        exact ⟨_, rfl, hb7, hI7⟩
      ·
        have ho2 := (Array.getElem?_eq_some_iff.1 ho).2
        simp only [List.getElem_toArray, List.getElem_cons_succ, List.getElem_cons_zero] at ho2
        subst ho2
        clear ho
        have s15 := D.st { on := 4, ground := .data } (by simp) rfl rfl 15 rfl
        have s20 := D.st { on := 9, ground := .data } (by simp) rfl rfl 20 rfl
        obtain ⟨A7, n7, c7, e7, hI7⟩ := s15
        obtain ⟨A8, n8, c8, e8, hI8⟩ := s20
        exact wk.does_run (by simp only [execOp, List.map_toArray, List.map_cons, List.map_nil]; rw [show E (.tmp 15) = _ from e7, show E (.tmp 20) = _ from e8]; go_simp) ⟨A7, n7, c7, A8, n8, c8, rfl, hI7, hI8⟩
    case hdone =>
      intro vals w4 hb4 hv
      have h10 := hv 10 (by omega)
      clear hv
      simp only [List.drop_succ_cons, List.drop_zero, wk.setL, List.setIfInBounds_toArray, List.set_cons_zero, List.set_cons_succ, Nat.zero_add, Nat.reduceAdd]
      generalize vals 0 = x0
      generalize vals 1 = x1
      generalize vals 2 = x2
      generalize vals 3 = x3
      generalize vals 4 = x4
      generalize vals 5 = x5
      generalize vals 6 = x6
      generalize vals 7 = x7
      generalize vals 8 = x8
      generalize vals 9 = x9
      generalize vals 10 = x10 at *
      obtain ⟨A7, n7, c7, A8, n8, c8, rfl, hI7, hI8⟩ := h10
      have hb5 := ((Below.refl _ _).drew.trans hb4 : Below w1.heap.size w1 w4)
      have hx3 := HT3.out.below hb5
      have hc0 := hx3.two.c0
      have hc1 := hx3.two.c1
      have hf0 := hx3.f0 0
      have hf1 := hx3.f0 1
      have hB5 := Lib.hid (HB1.out.trans (hb5.mono (by rw [← hG]; exact HB1.out.size)))
      have HX := Lib.hid (⟨_, _, _, _, _, _, rfl, isI_set2 hI7 hx3 _ _, isI_set2 hI8 hx3 _ _⟩ : IsX ((w4.setCell ⟨G + 1 + 1, 0, none⟩ (.slice A7 n7 c7)).setCell ⟨G + 1 + 1, 1, none⟩ (.slice A8 n8 c8)) (.agg #[.slice A7 n7 c7, .slice A8 n8 c8]) (join p q))
      clear hb4 hb5
      have HT := Lib.hid (hx3.set (.slice A7 n7 c7) (.slice A8 n8 c8))
      clear hx3 hI7 hI8
      go_wp2_with fail
      exact bodyPost_ret (v := .tuple #[.agg #[.slice A7 n7 c7, .slice A8 n8 c8], .int .i64 0]) (res_x1 (fn := Try.f68) rfl _ _ (G + 1 + 1) _ _ rfl HT.out) rfl ⟨_, rfl, HX.out, below_set2 hB5.out (by omega) _ _⟩
  · have hal' : balike p q = false := by simpa using hal
    clear hi hi' hi2 hi2' hT1 hT2
    rw [hal'] at HA ⊢
    have HT3 := Lib.hid hT3
    clear hT3
    go_enter Try.func68, Try.ntmps68
    go_wp2_with fail
    refine (HA.out _ HB0.out).mono ?_
    rintro e w1 ⟨rfl, hb⟩
    have HB1 := Lib.hid (HB0.out.trans (hb.mono HB0.out.size))
    have hx3 := HT3.out.below hb
    have hc0 := hx3.two.c0
    have hc1 := hx3.two.c1
    have hf0 := hx3.f0 0
    have hf1 := hx3.f0 1
    have HX3 := Lib.hid hx3
    clear hb hx3
    go_wp2_with fail
    exact bodyPost_ret (v := .tuple #[.agg #[.slice none 0 0, .slice none 0 0], .int .i64 1]) (res_x1 (fn := Try.f68) rfl _ _ (w.heap.size + 1 + 1) _ _ rfl (HX3.out.set _ _)) rfl ⟨_, rfl, isX_nil _, below_set2 HB1.out (by omega) _ _⟩
end Go.Proofs.Ytegoinkkcfbfaaa.bk
