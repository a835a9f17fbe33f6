/- Joined: Val Qd. -/
import Derived.Test.YtieipbobijnmlaaG2

import Derived.Maps.Own
/- A region that draws its order and writes only new memory: what each operation yields is said by a table. No program here. -/
namespace Go.Proofs.Ytieipbobijnmlaa.wk

open Go.RowKit

set_option linter.unusedVariables false
/-- what is said of a value: that it is a given one, or something that lasts while only new memory is written -/
inductive SP where
  | is (v : Value)
  | st (p : World → Value → Prop) (h : ∀ w w' v, p w v → Below w.heap.size w w' → p w' v)
namespace SP
def has : SP → World → Value → Prop
  | .is v, _, x => x = v
  | .st p _, w, x => p w x
def bool? : SP → Option Bool
  | .is (.bool b) => some b
  | _ => none
theorem has_below {s : SP} {w w' : World} {v : Value} (h : s.has w v) (hb : Below w.heap.size w w') : s.has w' v := by
  cases s with
  | is x => exact h
  | st p hp => exact hp _ _ _ h hb
def any : SP := .st (fun _ _ => True) (fun _ _ _ _ _ => trivial)
end SP
def dstOf (ops : Array Oper) (i : Nat) : Option Tmp := (ops[i]?).bind (·.dst)
/-- no operation of the region writes this slot -/
def unw (ops : Array Oper) (k : Nat) : Bool := (List.range ops.size).all fun i => dstOf ops i != some k
/-- the slots written are different, and are there -/
def apart (ops : Array Oper) (n : Nat) : Bool :=
  (List.range ops.size).all fun i => match dstOf ops i with
    | none => true
    | some d => decide (d < n) && (List.range i).all fun j => dstOf ops j != some d
def guarded (ops : Array Oper) (R : List SP) (k : Nat) : Bool :=
  (List.range k).all fun i => match ops[i]? with
    | none => true
    | some o => match o.guard with
      | none => true
      | some (j, want) => (R.getD j SP.any).bool? == some want && (dstOf ops j).isSome && o.after.any fun e => e.on == j && Region.binds .any e
def setAll (ops : Array Oper) (vals : Nat → Value) : Nat → Array Value → Array Value
  | 0, t => t
  | n + 1, t => match dstOf ops n with
    | none => setAll ops vals n t
    | some d => (setAll ops vals n t).setIfInBounds d (vals n)
/-- an operation comes to an end with a value, and a world in which only new memory was written -/
def Does (P : Program) (Q : Exit → Act → World → Prop) (o : Oper) (E : Operand → Value) (w : World) (R : World → Value → Prop) : Prop :=
  ∀ (a : Act) (K : Act → World → Prop), a.eval = E → (∀ v w', Below w.heap.size w w' → R w' v → K (a.put o.dst v) w') → o.wp P a w K Q
/-- what an operation may rest on -/
structure Due (ops : Array Oper) (R : List SP) (a0 : Act) (o : Oper) (E : Operand → Value) (w : World) : Prop where
  con : ∀ c, E (.const c) = c
  fn : ∀ f, E (.func f) = .func (.func f) #[] #[]
  old : ∀ k, unw ops k = true → E (.tmp k) = a0.eval (.tmp k)
  dep : ∀ e ∈ o.after, Region.binds .any e = true → ∃ v, (R.getD e.on SP.any).has w v ∧ ∀ d, dstOf ops e.on = some d → E (.tmp d) = v
theorem Due.is {ops : Array Oper} {R : List SP} {a0 : Act} {o : Oper} {E : Operand → Value} {w : World} (h : Due ops R a0 o E w) {v : Value} (e : Edge) (he : e ∈ o.after) (hb : Region.binds .any e = true) (hr : R.getD e.on SP.any = .is v) (d : Nat) (hd : dstOf ops e.on = some d) : E (.tmp d) = v := by
  obtain ⟨u, hu, hud⟩ := h.dep e he hb
  rw [hr] at hu
  rw [hud d hd]
  exact hu
theorem Due.st {ops : Array Oper} {R : List SP} {a0 : Act} {o : Oper} {E : Operand → Value} {w : World} (h : Due ops R a0 o E w) {p : World → Value → Prop} {hp} (e : Edge) (he : e ∈ o.after) (hb : Region.binds .any e = true) (hr : R.getD e.on SP.any = .st p hp) (d : Nat) (hd : dstOf ops e.on = some d) : p w (E (.tmp d)) := by
  obtain ⟨u, hu, hud⟩ := h.dep e he hb
  rw [hr] at hu
  rw [hud d hd]
  exact hu
section

variable {P : Program} {ops : Array Oper} {Q : Exit → Act → World → Prop}
structure VInv (ops : Array Oper) (R : List SP) (B : World) (a0 : Act) (L : Nat → Bool) (a : Act) (w : World) : Prop where
  below : Below B.heap.size B w
  defers : a.defers = a0.defers
  size : a.tmps.size = a0.tmps.size
  vals : ∀ i, L i = true → ∃ v, (R.getD i SP.any).has w v ∧ ∀ d, dstOf ops i = some d → a.tmps[d]? = some v
  rest : ∀ k, (∀ i, L i = true → dstOf ops i ≠ some k) → a.tmps[k]? = a0.tmps[k]?
theorem getD_of {a : Array Value} {k : Nat} {v : Value} (h : a[k]? = some v) : a.getD k undef = v := by
  rw [Array.getD_eq_getD_getElem?, h]; rfl
theorem apart_ne {n : Nat} (h : apart ops n = true) {i j d : Nat} (hi : i < ops.size) (hj : j < ops.size) (h1 : dstOf ops i = some d) (h2 : dstOf ops j = some d) : i = j := by
  have key : ∀ i j, i < ops.size → j < i → dstOf ops i = some d → dstOf ops j = some d → False := fun i j hi hj h1 h2 => by
    have := List.all_eq_true.1 h i (List.mem_range.2 hi)
    rw [h1] at this
    simp only [Bool.and_eq_true] at this
    have := List.all_eq_true.1 this.2 j (List.mem_range.2 hj)
    rw [h2] at this
    simp at this
  rcases Nat.lt_trichotomy i j with hlt | he | hgt
  · exact (key j i hj hlt h2 h1).elim
  · exact he
  · exact (key i j hi hgt h1 h2).elim
theorem apart_lt {n : Nat} (h : apart ops n = true) {i d : Nat} (hi : i < ops.size) (h1 : dstOf ops i = some d) : d < n := by
  have := List.all_eq_true.1 h i (List.mem_range.2 hi)
  rw [h1] at this
  simp only [Bool.and_eq_true, decide_eq_true_eq] at this
  exact this.1
theorem dst_lt {i d : Nat} (h : dstOf ops i = some d) : i < ops.size := by
  unfold dstOf at h
  rcases Nat.lt_or_ge i ops.size with hl | hl
  · exact hl
  · rw [Array.getElem?_eq_none hl] at h; cases h
theorem setAll_size (vals : Nat → Value) : ∀ n t, (setAll ops vals n t).size = t.size
  | 0, t => rfl
  | n + 1, t => by
    unfold setAll
    split
    · exact setAll_size vals n t
    · rw [Array.size_setIfInBounds]; exact setAll_size vals n t
theorem setAll_get (vals : Nat → Value) {N : Nat} (ha : apart ops N = true) (k : Nat) : ∀ n t, n ≤ ops.size → t.size = N →
    ((∀ i, i < n → dstOf ops i ≠ some k) → (setAll ops vals n t)[k]? = t[k]?) ∧ (∀ i, i < n → dstOf ops i = some k → (setAll ops vals n t)[k]? = some (vals i))
  | 0, t, _, _ => ⟨fun _ => rfl, fun i h => absurd h (Nat.not_lt_zero _)⟩
  | n + 1, t, hn, hN => by
    have ih := setAll_get vals ha k n t (by omega) hN
    have hs := setAll_size (ops := ops) vals n t
    unfold setAll
    cases hd : dstOf ops n with
    | none =>
      refine ⟨fun h => ih.1 fun i hi => h i (by omega), fun i hi hik => ?_⟩
      rcases Nat.lt_or_ge i n with hl | hl
      · exact ih.2 i hl hik
      · have : i = n := by omega
        subst this; rw [hd] at hik; cases hik
    | some d =>
      simp only
      rw [Array.getElem?_setIfInBounds]
      refine ⟨fun h => ?_, fun i hi hik => ?_⟩
      · have hne : d ≠ k := fun e => h n (by omega) (by rw [hd, e])
        rw [if_neg hne]
        exact ih.1 fun i hi => h i (by omega)
      · rcases Nat.lt_or_ge i n with hl | hl
        · have hne : d ≠ k := fun e => by
            have := apart_ne ha (i := i) (j := n) (d := k) (by omega) (by omega) hik (by rw [hd, e])
            omega
          rw [if_neg hne]
          exact ih.2 i hl hik
        · have e : i = n := by omega
          subst e
          rw [hd] at hik
          cases hik
          have := apart_lt ha (i := i) (by omega) hd
          rw [if_pos rfl, if_pos (by omega)]
def setL : List (Option Tmp) → (Nat → Value) → Nat → Array Value → Array Value
  | [], _, _, t => t
  | none :: r, v, i, t => setL r v (i + 1) t
  | some d :: r, v, i, t => setL r v (i + 1) (t.setIfInBounds d (v i))
theorem setL_snoc (v : Nat → Value) (x : Option Tmp) : ∀ (l : List (Option Tmp)) (i : Nat) (t : Array Value), setL (l ++ [x]) v i t = match x with | none => setL l v i t | some d => (setL l v i t).setIfInBounds d (v (i + l.length))
  | [], i, t => by cases x <;> rfl
  | none :: r, i, t => by
    show setL (r ++ [x]) v (i + 1) t = _
    rw [setL_snoc v x r, show i + 1 + r.length = i + (none :: r).length from by simp only [List.length_cons]; omega]
    rfl
  | some d :: r, i, t => by
    show setL (r ++ [x]) v (i + 1) _ = _
    rw [setL_snoc v x r, show i + 1 + r.length = i + (some d :: r).length from by simp only [List.length_cons]; omega]
    rfl
theorem setAll_eq (vals : Nat → Value) : ∀ n t, setAll ops vals n t = setL ((List.range n).map (dstOf ops)) vals 0 t
  | 0, t => rfl
  | n + 1, t => by
    rw [List.range_succ, List.map_append, List.map_cons, List.map_nil, setL_snoc, ← setAll_eq vals n t, List.length_map, List.length_range, Nat.zero_add]
    rw [setAll]
theorem vinv_step {a0 : Act} {B : World} {k : Nat} (R : List SP) (hap : apart ops a0.tmps.size = true) (hg : guarded ops R k = true) {L : Nat → Bool} {a : Act} {w : World} {i : Nat} {o : Oper} (hik : i < k) (hI : VInv ops R B a0 L a w) (ho : ops[i]? = some o) (hdep : ∀ e ∈ o.after, Region.binds .any e = true → L e.on = true)
    (hstep : ∀ E w, Below B.heap.size B w → Due ops R a0 o E w → Does P Q o E w (R.getD i SP.any).has) :
    wpOp P ops Q i (fun a' w' => VInv ops R B a0 (fun j => if j = i then true else L j) a' w') a w := by
  have hio : i < ops.size := (Array.getElem?_eq_some_iff.1 ho).1
  have hdv : ∀ e ∈ o.after, Region.binds .any e = true → ∃ v, (R.getD e.on SP.any).has w v ∧ ∀ d, dstOf ops e.on = some d → a.tmps[d]? = some v := fun e he hb => hI.vals e.on (hdep e he hb)
  have hw : Region.wanted o (yielded ops a.tmps) = true := by
    have h1 := List.all_eq_true.1 hg i (List.mem_range.2 hik)
    simp only [ho] at h1
    unfold Region.wanted
    cases hgd : o.guard with
    | none => rfl
    | some x =>
      obtain ⟨j, want⟩ := x
      simp only [hgd, Bool.and_eq_true, beq_iff_eq] at h1
      obtain ⟨⟨h1, hsm⟩, h2⟩ := h1
      obtain ⟨ix, hix, h3⟩ := Array.any_eq_true.1 h2
      obtain ⟨e, rfl⟩ : ∃ e, e = o.after[ix] := ⟨_, rfl⟩
      have he : o.after[ix] ∈ o.after := Array.getElem_mem hix
      generalize o.after[ix] = e at *
      simp only [Bool.and_eq_true, beq_iff_eq] at h3
      obtain ⟨h3, h4⟩ := h3
      obtain ⟨v, hv, hd⟩ := hdv e he h4
      rw [h3] at hv hd
      have hvb : v = .bool want := by
        cases hr : R.getD j SP.any with
        | is x =>
          rw [hr] at h1 hv
          cases x <;> simp only [SP.bool?, reduceCtorEq, Option.some.injEq] at h1
          rw [h1] at hv
          exact hv
        | st p hp => rw [hr] at h1; simp [SP.bool?] at h1
      obtain ⟨d, hdj⟩ := Option.isSome_iff_exists.1 hsm
      have hy : yielded ops a.tmps j = some want := by
        unfold yielded
        have e1 : (ops[j]?).bind (·.dst) = some d := hdj
        rw [e1]
        simp only [Option.bind_some, hd d hdj, hvb]
      simp only [hy, beq_self_eq_true]
  refine wpOp_step ho fun K' hK => ?_
  rw [if_pos hw]
  refine hstep a.eval w hI.below ⟨fun _ => rfl, fun _ => rfl, fun k hk => ?_, fun e he hb => ?_⟩ a K' rfl fun v w' hb hR => ?_
  · show a.tmps.getD k undef = a0.tmps.getD k undef
    rw [Array.getD_eq_getD_getElem?, Array.getD_eq_getD_getElem?, hI.rest k fun j hj h => ?_]
    have := List.all_eq_true.1 hk j (List.mem_range.2 (dst_lt h))
    rw [h] at this
    simp at this
  · obtain ⟨v, hv, hd⟩ := hdv e he hb
    exact ⟨v, hv, fun d hdd => getD_of (hd d hdd)⟩
  · have hB := hI.below.trans (hb.mono hI.below.size)
    have hdo : dstOf ops i = o.dst := by unfold dstOf; rw [ho]; rfl
    refine hK _ _ ⟨hB, ?_, ?_, fun j hj => ?_, fun k hk => ?_⟩
    · cases hd : o.dst <;> exact hI.defers
    · cases hd : o.dst <;> simp only [Act.put, Array.size_setIfInBounds] <;> exact hI.size
    · by_cases hji : j = i
      · subst hji
        refine ⟨v, hR, fun d hd => ?_⟩
        rw [hdo] at hd
        have hlt := apart_lt hap hio (by rw [hdo]; exact hd)
        rw [hd]
        show (a.tmps.setIfInBounds d v)[d]? = some v
        rw [Array.getElem?_setIfInBounds, if_pos rfl, if_pos (by rw [hI.size]; exact hlt)]
      · rw [if_neg hji] at hj
        obtain ⟨u, hu, hud⟩ := hI.vals j hj
        refine ⟨u, SP.has_below hu hb, fun d hd => ?_⟩
        cases hod : o.dst with
        | none => exact hud d hd
        | some d' =>
          have hne : d' ≠ d := fun e => hji (apart_ne hap (dst_lt hd) hio hd (by rw [hdo, hod, e]))
          show (a.tmps.setIfInBounds d' v)[d]? = some u
          rw [Array.getElem?_setIfInBounds, if_neg hne]
          exact hud d hd
    · have hk' : ∀ j, L j = true → dstOf ops j ≠ some k := fun j hj => hk j (by by_cases h : j = i <;> simp [h, hj])
      have hki : o.dst ≠ some k := by rw [← hdo]; exact hk i (by simp)
      cases hod : o.dst with
      | none => exact hI.rest k hk'
      | some d' =>
        have hne : d' ≠ k := fun e => hki (by rw [hod, e])
        show (a.tmps.setIfInBounds d' v)[k]? = _
        rw [Array.getElem?_setIfInBounds, if_neg hne]
        exact hI.rest k hk'
def waitsFor (ops : Array Oper) (i j : Nat) : Bool := ((ops[i]?).map fun o => o.after.any fun e => e.on == j && Region.binds .any e).getD false
/-- from operation k on they come one behind the other, behind all the others -/
def tailed (ops : Array Oper) (k : Nat) : Bool :=
  decide (k ≤ ops.size) && ((List.range k).all fun j => k == ops.size || (List.range (k + 1)).any fun i => decide (j < i) && waitsFor ops i j) && ((List.range ops.size).all fun i => decide (i < k) || decide (ops.size ≤ i + 1) || waitsFor ops (i + 1) i)
theorem waits_done {i j : Nat} {o : Oper} {L : Nat → Bool} (h : waitsFor ops i j = true) (ho : ops[i]? = some o) (hdep : ∀ e ∈ o.after, Region.binds .any e = true → L e.on = true) : L j = true := by
  unfold waitsFor at h
  simp only [ho, Option.map_some, Option.getD_some] at h
  obtain ⟨ix, hix, h3⟩ := Array.any_eq_true.1 h
  have he : o.after[ix] ∈ o.after := Array.getElem_mem hix
  simp only [Bool.and_eq_true, beq_iff_eq] at h3
  rw [← h3.1]
  exact hdep _ he h3.2
def Closed (ops : Array Oper) (L : Nat → Bool) : Prop := ∀ i o, ops[i]? = some o → L i = true → ∀ e ∈ o.after, Region.binds .any e = true → L e.on = true
theorem wpList_to_op {i : Nat} {o : Oper} {a : Act} {w : World} (ho : ops[i]? = some o) (h : wpList P ops Q (ops.toList.drop i) a w) : wpOp P ops Q i (wpList P ops Q (ops.toList.drop (i + 1))) a w := by
  obtain ⟨hi, he⟩ := Array.getElem?_eq_some_iff.1 ho
  have hl : ops.toList.drop i = o :: ops.toList.drop (i + 1) := by
    rw [List.drop_eq_getElem_cons (by simpa using hi)]
    congr 1
  rw [hl] at h
  unfold wpOp
  rw [ho]
  exact h
/-- the rule: one obligation for each of the first operations, the rest in their order; no order is left open -/
theorem region_tail {id : Nat} {a0 : Act} {w0 : World} (k : Nat) (R : List SP) (ds : List (Option Tmp)) (hm : P.follows .mixedOrders = true) (hord : ordered ops = true) (hap : apart ops a0.tmps.size = true) (hg : guarded ops R k = true) (hds : (List.range k).map (dstOf ops) = ds) (htl : tailed ops k = true)
    (hstep : ∀ i o, ops[i]? = some o → i < k → ∀ E w, Below w0.drew.heap.size w0.drew w → Due ops R a0 o E w → Does P Q o E w (R.getD i SP.any).has)
    (hdone : ∀ (vals : Nat → Value) w, Below w0.drew.heap.size w0.drew w → (∀ i, i < k → (R.getD i SP.any).has w (vals i)) → wpList P ops Q (ops.toList.drop k) { a0 with tmps := setL ds vals 0 a0.tmps } w) : (Code.region id ops true).wp P Q a0 w0 := by
  unfold tailed at htl
  simp only [Bool.and_eq_true, decide_eq_true_eq] at htl
  obtain ⟨⟨hkn, hcov⟩, hch⟩ := htl
  have hchain : ∀ i, k ≤ i → i + 1 < ops.size → waitsFor ops (i + 1) i = true := fun i h1 h2 => by
    have := List.all_eq_true.1 hch i (List.mem_range.2 (by omega))
    simp only [Bool.or_eq_true, decide_eq_true_eq] at this
    rcases this with (h | h) | h
    · omega
    · omega
    · exact h
  have hcover : ∀ j, j < k → k < ops.size → ∃ i, j < i ∧ i ≤ k ∧ waitsFor ops i j = true := fun j h1 h2 => by
    have := List.all_eq_true.1 hcov j (List.mem_range.2 h1)
    simp only [Bool.or_eq_true, beq_iff_eq] at this
    rcases this with h | h
    · omega
    · obtain ⟨i, hi, h⟩ := List.any_eq_true.1 h
      simp only [Bool.and_eq_true, decide_eq_true_eq] at h
      exact ⟨i, h.1, by have := List.mem_range.1 hi; omega, h.2⟩
  have hfin : ∀ L a w, VInv ops R w0.drew a0 L a w → (∀ j, j < k → L j = true) → (∀ j, k ≤ j → L j = false) → wpList P ops Q (ops.toList.drop k) a w := fun L a w hI hall hno => by
    have hv : ∀ i, ∃ v, i < k → (R.getD i SP.any).has w v ∧ ∀ d, dstOf ops i = some d → a.tmps[d]? = some v := fun i => by
      by_cases hi : i < k
      · obtain ⟨v, h⟩ := hI.vals i (hall i hi); exact ⟨v, fun _ => h⟩
      · exact ⟨undef, fun h => absurd h hi⟩
    obtain ⟨vals, hvals⟩ := Classical.axiomOfChoice hv
    have ha : a = { a0 with tmps := setAll ops vals k a0.tmps } := by
      obtain ⟨tm, df⟩ := a
      have h1 : df = a0.defers := hI.defers
      have h2 : tm = setAll ops vals k a0.tmps := by
        refine Array.ext_getElem? fun s => ?_
        have hset := setAll_get vals hap s k a0.tmps hkn rfl
        by_cases hk : ∃ i, i < k ∧ dstOf ops i = some s
        · obtain ⟨i, hik, hi⟩ := hk
          rw [hset.2 i hik hi]
          exact (hvals i hik).2 s hi
        · rw [hset.1 fun i hi h => hk ⟨i, hi, h⟩]
          refine hI.rest s fun i hi h => ?_
          rcases Nat.lt_or_ge i k with hl | hl
          · exact hk ⟨i, hl, h⟩
          · rw [hno i hl] at hi; cases hi
      rw [h1, h2]
    rw [ha, setAll_eq, hds]
    exact hdone vals w hI.below fun i hi => (hvals i hi).1
  refine region_inv (fun a0 B L a w => (VInv ops R B a0 L a w ∧ (∀ i, k ≤ i → L i = false) ∧ Closed ops L) ∨ ∃ m, k ≤ m ∧ m ≤ ops.size ∧ (∀ i, L i = decide (i < m)) ∧ wpList P ops Q (ops.toList.drop m) a w) hm hord
    (Or.inl ⟨⟨Below.refl _ _, rfl, rfl, fun i h => (Bool.noConfusion h), fun k _ => rfl⟩, fun _ _ => rfl, fun i o _ h => (Bool.noConfusion h)⟩) ?_ ?_
  · intro L a w hI i o ho hLi hdep
    have hio : i < ops.size := (Array.getElem?_eq_some_iff.1 ho).1
    rcases hI with ⟨hI, hno, hcl⟩ | ⟨m, hm1, hm2, hL, hwp⟩
    · by_cases hik : i < k
      · refine wpOp_mono (fun a' w' h => Or.inl ?_) (vinv_step R hap hg hik hI ho hdep (hstep i o ho hik))
        refine ⟨h, fun j hj => ?_, fun j o' ho' hj e he hb => ?_⟩
        · have hji : j ≠ i := by omega
          simp only [hji, if_false]
          exact hno j hj
        · by_cases hji : j = i
          · subst hji
            rw [ho] at ho'; cases ho'
            by_cases h2 : e.on = j
            · simp [h2]
            · simp only [h2, if_false]; exact hdep e he hb
          · simp only [hji, if_false] at hj
            by_cases h2 : e.on = i
            · simp [h2]
            · simp only [h2, if_false]; exact hcl j o' ho' hj e he hb
      · have hik' : i = k := by
          rcases Nat.lt_or_ge k i with h | h
          · have := waits_done (L := L) (hchain (i - 1) (by omega) (by omega)) (by rw [show i - 1 + 1 = i by omega]; exact ho) hdep
            rw [hno (i - 1) (by omega)] at this; cases this
          · omega
        subst hik'
        have hall : ∀ d j, i - j ≤ d → j < i → L j = true := by
          intro d
          induction d with
          | zero => intro j h1 h2; omega
          | succ d ih =>
            intro j h1 h2
            obtain ⟨q, hq1, hq2, hq3⟩ := hcover j h2 hio
            by_cases hqi : q = i
            · subst hqi; exact waits_done hq3 ho hdep
            · have hq : L q = true := ih q (by omega) (by omega)
              have hqo : ops[q]? = some ops[q] := Array.getElem?_eq_getElem (by omega)
              exact waits_done hq3 hqo (hcl q _ hqo hq)
        refine wpOp_mono (fun a' w' h => Or.inr ⟨i + 1, by omega, by omega, fun j => ?_, h⟩) (wpList_to_op ho (hfin L a w hI (fun j hj => hall _ j (Nat.le_refl _) hj) hno))
        by_cases hji : j = i
        · subst hji; simp
        · simp only [hji, if_false]
          rcases Nat.lt_or_ge j i with h1 | h1
          · rw [hall _ j (Nat.le_refl _) h1]; simp; omega
          · rw [hno j h1]; simp; omega
    · have him : i = m := by
        have h1 : ¬ i < m := fun h => by rw [hL i] at hLi; simp [h] at hLi
        rcases Nat.lt_or_ge m i with h | h
        · have := waits_done (L := L) (hchain (i - 1) (by omega) (by omega)) (by rw [show i - 1 + 1 = i by omega]; exact ho) hdep
          rw [hL (i - 1)] at this
          simp at this; omega
        · omega
      subst him
      refine wpOp_mono (fun a' w' h => Or.inr ⟨i + 1, by omega, by omega, fun j => ?_, h⟩) (wpList_to_op ho hwp)
      by_cases hji : j = i
      · subst hji; simp
      · simp only [hji, if_false]
        rw [hL j]
        rcases Nat.lt_or_ge j i with h1 | h1
        · simp [h1]; omega
        · simp; omega
  · intro L a w hall hI
    rcases hI with ⟨hI, hno, hcl⟩ | ⟨m, hm1, hm2, hL, hwp⟩
    · have hk : k = ops.size := by
        rcases Nat.lt_or_ge k ops.size with h | h
        · have := hall k h; rw [hno k (Nat.le_refl _)] at this; cases this
        · omega
      have := hfin L a w hI (fun j hj => hall j (by omega)) hno
      rw [hk, ← Array.length_toList, List.drop_length] at this
      exact this
    · have hk : m = ops.size := by
        rcases Nat.lt_or_ge m ops.size with h | h
        · have := hall m h; rw [hL m] at this; simp at this
        · omega
      rw [hk, ← Array.length_toList, List.drop_length] at hwp
      exact hwp
end

section

variable {P : Program} {ops : Array Oper} {Q : Exit → Act → World → Prop} {md : Region.Mode}
/-- every operation stands behind those that it waits for, of the edges that bind -/
def orderedB (md : Region.Mode) (ops : Array Oper) : Bool := (List.range ops.size).all fun i => ((ops[i]?).map (·.after.all fun e => !Region.binds md e || decide (e.on < i))).getD false
theorem ready_nilB {listed : Array Bool} (hs : listed.size = ops.size) (hord : orderedB md ops = true) (h : Region.ready md ops listed = []) : ∀ i, i < ops.size → done listed i = true := by
  intro i
  induction i using Nat.strongRecOn with
  | ind i ih =>
    intro hi
    cases hd : done listed i with
    | true => rfl
    | false =>
      exfalso
      have ho : ops[i]? = some ops[i] := Array.getElem?_eq_getElem hi
      have hmem : i ∈ Region.ready md ops listed := by
        unfold Region.ready
        rw [List.mem_filter, List.mem_range]
        refine ⟨hi, ?_⟩
        rw [Bool.and_eq_true]
        constructor
        · unfold done at hd
          rw [Array.getD_eq_getD_getElem?, Array.getElem?_eq_getElem (by omega)] at *
          simpa using hd
        · rw [ho]
          simp only [Option.map_some, Option.getD_some]
          refine Array.all_eq_true_iff_forall_mem.2 fun e he => ?_
          have h1 := List.all_eq_true.1 hord i (List.mem_range.2 hi)
          rw [ho] at h1
          simp only [Option.map_some, Option.getD_some] at h1
          have h3 := Array.all_eq_true_iff_forall_mem.1 h1 e he
          cases hb : Region.binds md e with
          | false => rfl
          | true =>
            rw [hb] at h3
            have h2 : e.on < i := of_decide_eq_true (by simpa using h3)
            have := ih e.on h2 (by omega)
            unfold done at this
            rw [this]; simp
      rw [h] at hmem
      cases hmem

theorem any_invB (I : (Nat → Bool) → Act → World → Prop) (hord : orderedB md ops = true)
    (hstep : ∀ L a w, I L a w → ∀ i o, ops[i]? = some o → L i = false → (∀ e ∈ o.after, Region.binds md e = true → L e.on = true) → wpOp P ops Q i (fun a' w' => I (fun j => if j = i then true else L j) a' w') a w)
    (hdone : ∀ L a w, (∀ i, i < ops.size → L i = true) → I L a w → Q .normal a w) :
    ∀ (fuel : Nat) (listed : Array Bool) (a : Act) (w : World), listed.size = ops.size → (listed.toList.filter (!·)).length ≤ fuel → I (done listed) a w → wpAny P md ops Q fuel listed a w
  | 0, listed, a, w, hs, hf, hI => by
    have hall : ∀ i, i < ops.size → done listed i = true := fun i hi => by
      have h0 : listed.toList.filter (!·) = [] := List.eq_nil_of_length_eq_zero (by omega)
      rw [List.filter_eq_nil_iff] at h0
      have := h0 listed[i] (by simp)
      unfold done
      rw [Array.getD_eq_getD_getElem?, Array.getElem?_eq_getElem (by omega)]
      simpa using this
    refine ⟨?_, hdone _ a w hall hI⟩
    cases hr : Region.ready md ops listed with
    | nil => rfl
    | cons i r =>
      obtain ⟨o, ho, h1, _⟩ := ready_mem (i := i) hs (by rw [hr]; exact List.mem_cons_self)
      have hi : i < ops.size := (Array.getElem?_eq_some_iff.1 ho).1
      rw [hall i hi] at h1
      cases h1
  | fuel + 1, listed, a, w, hs, hf, hI => by
    refine ⟨fun hr => hdone _ a w (ready_nilB hs hord hr) hI, fun i hi => ?_⟩
    obtain ⟨o, ho, h1, h2⟩ := ready_mem hs hi
    have hil : i < listed.size := by rw [hs]; exact (Array.getElem?_eq_some_iff.1 ho).1
    refine wpOp_mono (fun a' w' h => any_invB I hord hstep hdone fuel (listed.setIfInBounds i true) a' w' (by simpa using hs) ?_ ?_) (hstep (done listed) a w hI i o ho h1 h2)
    · have hl : listed.toList[i]? = some false := by
        unfold done at h1
        rw [Array.getD_eq_getD_getElem?, Array.getElem?_eq_getElem hil] at h1
        rw [Array.getElem?_toList, Array.getElem?_eq_getElem hil]
        simpa using h1
      have key : ∀ (l : List Bool) (i : Nat), l[i]? = some false → ((l.set i true).filter (!·)).length + 1 = (l.filter (!·)).length := by
        intro l
        induction l with
        | nil => intro i h; simp at h
        | cons b r ih =>
          intro i h
          cases i with
          | zero =>
            simp only [List.getElem?_cons_zero, Option.some.injEq] at h
            subst h
            simp
          | succ i =>
            have := ih i (by simpa using h)
            cases b <;> simp <;> omega
      have := key _ _ hl
      simp only [Array.toList_setIfInBounds]
      omega
    · have e : done (listed.setIfInBounds i true) = fun j => if j = i then true else done listed j := funext fun j => getD_set listed i j hil
      rw [e]
      exact h

/-- the frame, the start of a region known: a region that draws, by an invariant -/
theorem region_invB {id : Nat} {a0 : Act} {w0 : World} (I : Act → World → (Nat → Bool) → Act → World → Prop) (hm : P.follows .mixedOrders = true) (hord : orderedB .any ops = true)
    (h0 : I a0 w0.drew (fun _ => false) a0 w0.drew)
    (hstep : ∀ L a w, I a0 w0.drew L a w → ∀ i o, ops[i]? = some o → L i = false → (∀ e ∈ o.after, Region.binds .any e = true → L e.on = true) → wpOp P ops Q i (fun a' w' => I a0 w0.drew (fun j => if j = i then true else L j) a' w') a w)
    (hdone : ∀ L a w, (∀ i, i < ops.size → L i = true) → I a0 w0.drew L a w → Q .normal a w) : (Code.region id ops true).wp P Q a0 w0 :=
  wp_region_any hm (any_invB (I a0 w0.drew) hord hstep hdone _ _ a0 w0.drew (by simp) (Nat.le_trans (List.length_filter_le _ _) (by simp)) (by
    have e : done (Array.replicate ops.size false) = fun _ => false := funext fun j => by
      unfold done
      rw [Array.getD_eq_getD_getElem?, Array.getElem?_replicate]
      split <;> rfl
    rw [e]
    exact h0))
end

section

variable {P : Program} {ops : Array Oper} {Q : Exit → Act → World → Prop}
structure UInv (ops : Array Oper) (vs : List Value) (a0 : Act) (L : Nat → Bool) (a : Act) : Prop where
  defers : a.defers = a0.defers
  size : a.tmps.size = a0.tmps.size
  vals : ∀ i, L i = true → ∀ d, dstOf ops i = some d → a.tmps[d]? = some (vs.getD i undef)
  rest : ∀ k, (∀ i, L i = true → dstOf ops i ≠ some k) → a.tmps[k]? = a0.tmps[k]?
/-- an operation comes to an end with a value and a world -/
def DoesT (P : Program) (Q : Exit → Act → World → Prop) (o : Oper) (E : Operand → Value) (w : World) (R : World → Value → Prop) : Prop :=
  ∀ (a : Act) (K : Act → World → Prop), a.eval = E → (∀ v w', R w' v → K (a.put o.dst v) w') → o.wp P a w K Q
theorem Does.t {o : Oper} {E : Operand → Value} {w : World} {R : World → Value → Prop} (h : Does P Q o E w R) : DoesT P Q o E w fun w' v => R w' v ∧ Below w.heap.size w w' :=
  fun a K hE hK => h a K hE fun v w' hb hR => hK v w' ⟨hR, hb⟩
theorem getD_is (vs : List Value) {j : Nat} (h : j < vs.length) : (vs.map SP.is).getD j SP.any = .is (vs.getD j undef) := by
  rw [List.getD_eq_getElem?_getD, List.getElem?_map, List.getElem?_eq_getElem h, List.getD_eq_getElem?_getD, List.getElem?_eq_getElem h]; rfl
theorem uinv_step {a0 : Act} {k : Nat} (vs : List Value) (hk : k = vs.length) (hord : ordered ops = true) (hap : apart ops a0.tmps.size = true) (hg : guarded ops (vs.map SP.is) k = true) {L : Nat → Bool} {a : Act} {w : World} {i : Nat} {o : Oper} (hik : i < k) (hI : UInv ops vs a0 L a) (ho : ops[i]? = some o) (hdep : ∀ e ∈ o.after, Region.binds .any e = true → L e.on = true)
    {S : World → Prop} (hstep : ∀ E, Due ops (vs.map SP.is) a0 o E w → DoesT P Q o E w fun w' v => v = vs.getD i undef ∧ S w') :
    wpOp P ops Q i (fun a' w' => UInv ops vs a0 (fun j => if j = i then true else L j) a' ∧ S w') a w := by
  have hio : i < ops.size := (Array.getElem?_eq_some_iff.1 ho).1
  have hlt : ∀ e ∈ o.after, e.on < vs.length := fun e he => by
    have h1 := List.all_eq_true.1 hord i (List.mem_range.2 hio)
    rw [ho] at h1
    simp only [Option.map_some, Option.getD_some] at h1
    have h2 := of_decide_eq_true (Array.all_eq_true_iff_forall_mem.1 h1 e he)
    omega
  have hdv : ∀ e ∈ o.after, Region.binds .any e = true → ∃ v, ((vs.map SP.is).getD e.on SP.any).has w v ∧ ∀ d, dstOf ops e.on = some d → a.tmps[d]? = some v := fun e he hb => ⟨vs.getD e.on undef, by rw [getD_is vs (hlt e he)]; rfl, hI.vals e.on (hdep e he hb)⟩
  have hw : Region.wanted o (yielded ops a.tmps) = true := by
    have h1 := List.all_eq_true.1 hg i (List.mem_range.2 hik)
    simp only [ho] at h1
    unfold Region.wanted
    cases hgd : o.guard with
    | none => rfl
    | some x =>
      obtain ⟨j, want⟩ := x
      simp only [hgd, Bool.and_eq_true, beq_iff_eq] at h1
      obtain ⟨⟨h1, hsm⟩, h2⟩ := h1
      obtain ⟨ix, hix, h3⟩ := Array.any_eq_true.1 h2
      obtain ⟨e, rfl⟩ : ∃ e, e = o.after[ix] := ⟨_, rfl⟩
      have he : o.after[ix] ∈ o.after := Array.getElem_mem hix
      generalize o.after[ix] = e at *
      simp only [Bool.and_eq_true, beq_iff_eq] at h3
      obtain ⟨h3, h4⟩ := h3
      obtain ⟨v, hv, hd⟩ := hdv e he h4
      rw [h3] at hv hd
      have hvb : v = .bool want := by
        cases hr : (vs.map SP.is).getD j SP.any with
        | is x =>
          rw [hr] at h1 hv
          cases x <;> simp only [SP.bool?, reduceCtorEq, Option.some.injEq] at h1
          rw [h1] at hv
          exact hv
        | st p hp => rw [hr] at h1; simp [SP.bool?] at h1
      obtain ⟨d, hdj⟩ := Option.isSome_iff_exists.1 hsm
      have hy : yielded ops a.tmps j = some want := by
        unfold yielded
        have e1 : (ops[j]?).bind (·.dst) = some d := hdj
        rw [e1]
        simp only [Option.bind_some, hd d hdj, hvb]
      simp only [hy, beq_self_eq_true]
  refine wpOp_step ho fun K' hK => ?_
  rw [if_pos hw]
  refine hstep a.eval ⟨fun _ => rfl, fun _ => rfl, fun k hk => ?_, fun e he hb => ?_⟩ a K' rfl fun v w' hR => ?_
  · show a.tmps.getD k undef = a0.tmps.getD k undef
    rw [Array.getD_eq_getD_getElem?, Array.getD_eq_getD_getElem?, hI.rest k fun j hj h => ?_]
    have := List.all_eq_true.1 hk j (List.mem_range.2 (dst_lt h))
    rw [h] at this
    simp at this
  · obtain ⟨v, hv, hd⟩ := hdv e he hb
    exact ⟨v, hv, fun d hdd => getD_of (hd d hdd)⟩
  · obtain ⟨rfl, hS⟩ := hR
    have hdo : dstOf ops i = o.dst := by unfold dstOf; rw [ho]; rfl
    refine hK _ _ ⟨⟨?_, ?_, fun j hj => ?_, fun k hk => ?_⟩, hS⟩
    · cases hd : o.dst <;> exact hI.defers
    · cases hd : o.dst <;> simp only [Act.put, Array.size_setIfInBounds] <;> exact hI.size
    · by_cases hji : j = i
      · subst hji
        intro d hd
        rw [hdo] at hd
        have hlt := apart_lt hap hio (by rw [hdo]; exact hd)
        rw [hd]
        show (a.tmps.setIfInBounds d _)[d]? = some _
        rw [Array.getElem?_setIfInBounds, if_pos rfl, if_pos (by rw [hI.size]; exact hlt)]
      · rw [if_neg hji] at hj
        intro d hd
        have hud := hI.vals j hj
        cases hod : o.dst with
        | none => exact hud d hd
        | some d' =>
          have hne : d' ≠ d := fun e => hji (apart_ne hap (dst_lt hd) hio hd (by rw [hdo, hod, e]))
          show (a.tmps.setIfInBounds d' _)[d]? = _
          rw [Array.getElem?_setIfInBounds, if_neg hne]
          exact hud d hd
    · have hk' : ∀ j, L j = true → dstOf ops j ≠ some k := fun j hj => hk j (by by_cases h : j = i <;> simp [h, hj])
      have hki : o.dst ≠ some k := by rw [← hdo]; exact hk i (by simp)
      cases hod : o.dst with
      | none => exact hI.rest k hk'
      | some d' =>
        have hne : d' ≠ k := fun e => hki (by rw [hod, e])
        show (a.tmps.setIfInBounds d' _)[k]? = _
        rw [Array.getElem?_setIfInBounds, if_neg hne]
        exact hI.rest k hk'
/-- .. where one operation turns what is said of the world, and all values are known -/
theorem region_state {id : Nat} {a0 : Act} {w0 : World} (k c : Nat) (vs : List Value) (ds : List (Option Tmp)) (S : Bool → World → Prop) (hS : ∀ b w w', S b w → Below w.heap.size w w' → S b w') (h0 : S false w0.drew) (hk : k = vs.length) (hck : c < k) (hm : P.follows .mixedOrders = true) (hord : ordered ops = true) (hap : apart ops a0.tmps.size = true) (hg : guarded ops (vs.map SP.is) k = true) (hds : (List.range k).map (dstOf ops) = ds) (htl : tailed ops k = true)
    (hstep : ∀ i o, ops[i]? = some o → i < k → i ≠ c → ∀ E b w, S b w → Due ops (vs.map SP.is) a0 o E w → Does P Q o E w (fun _ v => v = vs.getD i undef))
    (hturn : ∀ o, ops[c]? = some o → ∀ E w, S false w → Due ops (vs.map SP.is) a0 o E w → DoesT P Q o E w (fun w' v => v = vs.getD c undef ∧ S true w'))
    (hdone : ∀ w, S true w → wpList P ops Q (ops.toList.drop k) { a0 with tmps := setL ds (fun i => vs.getD i undef) 0 a0.tmps } w) : (Code.region id ops true).wp P Q a0 w0 := by
  unfold tailed at htl
  simp only [Bool.and_eq_true, decide_eq_true_eq] at htl
  obtain ⟨⟨hkn, hcov⟩, hch⟩ := htl
  have hchain : ∀ i, k ≤ i → i + 1 < ops.size → waitsFor ops (i + 1) i = true := fun i h1 h2 => by
    have := List.all_eq_true.1 hch i (List.mem_range.2 (by omega))
    simp only [Bool.or_eq_true, decide_eq_true_eq] at this
    rcases this with (h | h) | h
    · omega
    · omega
    · exact h
  have hcover : ∀ j, j < k → k < ops.size → ∃ i, j < i ∧ i ≤ k ∧ waitsFor ops i j = true := fun j h1 h2 => by
    have := List.all_eq_true.1 hcov j (List.mem_range.2 h1)
    simp only [Bool.or_eq_true, beq_iff_eq] at this
    rcases this with h | h
    · omega
    · obtain ⟨i, hi, h⟩ := List.any_eq_true.1 h
      simp only [Bool.and_eq_true, decide_eq_true_eq] at h
      exact ⟨i, h.1, by have := List.mem_range.1 hi; omega, h.2⟩
  have hfin : ∀ L a w, UInv ops vs a0 L a → S (L c) w → (∀ j, j < k → L j = true) → (∀ j, k ≤ j → L j = false) → wpList P ops Q (ops.toList.drop k) a w := fun L a w hI hw hall hno => by
    rw [hall c hck] at hw
    have ha : a = { a0 with tmps := setAll ops (fun i => vs.getD i undef) k a0.tmps } := by
      obtain ⟨tm, df⟩ := a
      have h1 : df = a0.defers := hI.defers
      have h2 : tm = setAll ops (fun i => vs.getD i undef) k a0.tmps := by
        refine Array.ext_getElem? fun s => ?_
        have hset := setAll_get (fun i => vs.getD i undef) hap s k a0.tmps hkn rfl
        by_cases hk : ∃ i, i < k ∧ dstOf ops i = some s
        · obtain ⟨i, hik, hi⟩ := hk
          rw [hset.2 i hik hi]
          exact hI.vals i (hall i hik) s hi
        · rw [hset.1 fun i hi h => hk ⟨i, hi, h⟩]
          refine hI.rest s fun i hi h => ?_
          rcases Nat.lt_or_ge i k with hl | hl
          · exact hk ⟨i, hl, h⟩
          · rw [hno i hl] at hi; cases hi
      rw [h1, h2]
    rw [ha, setAll_eq, hds]
    exact hdone w hw
  refine region_inv (fun a0' B L a w => (UInv ops vs a0 L a ∧ S (L c) w ∧ (∀ i, k ≤ i → L i = false) ∧ Closed ops L) ∨ ∃ m, k ≤ m ∧ m ≤ ops.size ∧ (∀ i, L i = decide (i < m)) ∧ wpList P ops Q (ops.toList.drop m) a w) hm hord
    (Or.inl ⟨⟨rfl, rfl, fun i h => (Bool.noConfusion h), fun k _ => rfl⟩, h0, fun _ _ => rfl, fun i o _ h => (Bool.noConfusion h)⟩) ?_ ?_
  · intro L a w hI i o ho hLi hdep
    have hio : i < ops.size := (Array.getElem?_eq_some_iff.1 ho).1
    rcases hI with ⟨hI, hSw, hno, hcl⟩ | ⟨m, hm1, hm2, hL, hwp⟩
    · by_cases hik : i < k
      · have hdo : ∀ E, Due ops (vs.map SP.is) a0 o E w → DoesT P Q o E w fun w' v => v = vs.getD i undef ∧ S (if c = i then true else L c) w' := fun E hE => by
          by_cases hic : i = c
          · subst hic
            rw [hLi] at hSw
            rw [if_pos rfl]
            exact hturn o ho E w hSw hE
          · rw [if_neg (fun e => hic e.symm)]
            intro a' K hE' hK
            exact (hstep i o ho hik hic E _ w hSw hE).t a' K hE' fun v w' h => hK v w' ⟨h.1, hS _ _ _ hSw h.2⟩
        refine wpOp_mono (fun a' w' h => Or.inl ?_) (uinv_step vs hk hord hap hg hik hI ho hdep hdo)
        refine ⟨h.1, h.2, fun j hj => ?_, fun j o' ho' hj e he hb => ?_⟩
        · have hji : j ≠ i := by omega
          simp only [hji, if_false]
          exact hno j hj
        · by_cases hji : j = i
          · subst hji
            rw [ho] at ho'; cases ho'
            by_cases h2 : e.on = j
            · simp [h2]
            · simp only [h2, if_false]; exact hdep e he hb
          · simp only [hji, if_false] at hj
            by_cases h2 : e.on = i
            · simp [h2]
            · simp only [h2, if_false]; exact hcl j o' ho' hj e he hb
      · have hik' : i = k := by
          rcases Nat.lt_or_ge k i with h | h
          · have := waits_done (L := L) (hchain (i - 1) (by omega) (by omega)) (by rw [show i - 1 + 1 = i by omega]; exact ho) hdep
            rw [hno (i - 1) (by omega)] at this; cases this
          · omega
        subst hik'
        have hall : ∀ d j, i - j ≤ d → j < i → L j = true := by
          intro d
          induction d with
          | zero => intro j h1 h2; omega
          | succ d ih =>
            intro j h1 h2
            obtain ⟨q, hq1, hq2, hq3⟩ := hcover j h2 hio
            by_cases hqi : q = i
            · subst hqi; exact waits_done hq3 ho hdep
            · have hq : L q = true := ih q (by omega) (by omega)
              have hqo : ops[q]? = some ops[q] := Array.getElem?_eq_getElem (by omega)
              exact waits_done hq3 hqo (hcl q _ hqo hq)
        refine wpOp_mono (fun a' w' h => Or.inr ⟨i + 1, by omega, by omega, fun j => ?_, h⟩) (wpList_to_op ho (hfin L a w hI hSw (fun j hj => hall _ j (Nat.le_refl _) hj) hno))
        by_cases hji : j = i
        · subst hji; simp
        · simp only [hji, if_false]
          rcases Nat.lt_or_ge j i with h1 | h1
          · rw [hall _ j (Nat.le_refl _) h1]; simp; omega
          · rw [hno j h1]; simp; omega
    · have him : i = m := by
        have h1 : ¬ i < m := fun h => by rw [hL i] at hLi; simp [h] at hLi
        rcases Nat.lt_or_ge m i with h | h
        · have := waits_done (L := L) (hchain (i - 1) (by omega) (by omega)) (by rw [show i - 1 + 1 = i by omega]; exact ho) hdep
          rw [hL (i - 1)] at this
          simp at this; omega
        · omega
      subst him
      refine wpOp_mono (fun a' w' h => Or.inr ⟨i + 1, by omega, by omega, fun j => ?_, h⟩) (wpList_to_op ho hwp)
      by_cases hji : j = i
      · subst hji; simp
      · simp only [hji, if_false]
        rw [hL j]
        rcases Nat.lt_or_ge j i with h1 | h1
        · simp [h1]; omega
        · simp; omega
  · intro L a w hall hI
    rcases hI with ⟨hI, hSw, hno, hcl⟩ | ⟨m, hm1, hm2, hL, hwp⟩
    · have hk : k = ops.size := by
        rcases Nat.lt_or_ge k ops.size with h | h
        · have := hall k h; rw [hno k (Nat.le_refl _)] at this; cases this
        · omega
      have := hfin L a w hI hSw (fun j hj => hall j (by omega)) hno
      rw [hk, ← Array.length_toList, List.drop_length] at this
      exact this
    · have hk : m = ops.size := by
        rcases Nat.lt_or_ge m ops.size with h | h
        · have := hall m h; rw [hL m] at this; simp at this
        · omega
      rw [hk, ← Array.length_toList, List.drop_length] at hwp
      exact hwp
theorem uinv_stepB {a0 : Act} {k : Nat} (vs : List Value) (hk : k = vs.length) (hord : orderedB .any ops = true) (hap : apart ops a0.tmps.size = true) (hg : guarded ops (vs.map SP.is) k = true) {L : Nat → Bool} {a : Act} {w : World} {i : Nat} {o : Oper} (hik : i < k) (hI : UInv ops vs a0 L a) (ho : ops[i]? = some o) (hdep : ∀ e ∈ o.after, Region.binds .any e = true → L e.on = true)
    {S : World → Prop} (hstep : ∀ E, Due ops (vs.map SP.is) a0 o E w → DoesT P Q o E w fun w' v => v = vs.getD i undef ∧ S w') :
    wpOp P ops Q i (fun a' w' => UInv ops vs a0 (fun j => if j = i then true else L j) a' ∧ S w') a w := by
  have hio : i < ops.size := (Array.getElem?_eq_some_iff.1 ho).1
  have hlt : ∀ e ∈ o.after, Region.binds .any e = true → e.on < vs.length := fun e he hb => by
    have h1 := List.all_eq_true.1 hord i (List.mem_range.2 hio)
    rw [ho] at h1
    simp only [Option.map_some, Option.getD_some] at h1
    have h3 := Array.all_eq_true_iff_forall_mem.1 h1 e he
    rw [hb] at h3
    have h2 : e.on < i := of_decide_eq_true (by simpa using h3)
    omega
  have hdv : ∀ e ∈ o.after, Region.binds .any e = true → ∃ v, ((vs.map SP.is).getD e.on SP.any).has w v ∧ ∀ d, dstOf ops e.on = some d → a.tmps[d]? = some v := fun e he hb => ⟨vs.getD e.on undef, by rw [getD_is vs (hlt e he hb)]; rfl, hI.vals e.on (hdep e he hb)⟩
  have hw : Region.wanted o (yielded ops a.tmps) = true := by
    have h1 := List.all_eq_true.1 hg i (List.mem_range.2 hik)
    simp only [ho] at h1
    unfold Region.wanted
    cases hgd : o.guard with
    | none => rfl
    | some x =>
      obtain ⟨j, want⟩ := x
      simp only [hgd, Bool.and_eq_true, beq_iff_eq] at h1
      obtain ⟨⟨h1, hsm⟩, h2⟩ := h1
      obtain ⟨ix, hix, h3⟩ := Array.any_eq_true.1 h2
      obtain ⟨e, rfl⟩ : ∃ e, e = o.after[ix] := ⟨_, rfl⟩
      have he : o.after[ix] ∈ o.after := Array.getElem_mem hix
      generalize o.after[ix] = e at *
      simp only [Bool.and_eq_true, beq_iff_eq] at h3
      obtain ⟨h3, h4⟩ := h3
      obtain ⟨v, hv, hd⟩ := hdv e he h4
      rw [h3] at hv hd
      have hvb : v = .bool want := by
        cases hr : (vs.map SP.is).getD j SP.any with
        | is x =>
          rw [hr] at h1 hv
          cases x <;> simp only [SP.bool?, reduceCtorEq, Option.some.injEq] at h1
          rw [h1] at hv
          exact hv
        | st p hp => rw [hr] at h1; simp [SP.bool?] at h1
      obtain ⟨d, hdj⟩ := Option.isSome_iff_exists.1 hsm
      have hy : yielded ops a.tmps j = some want := by
        unfold yielded
        have e1 : (ops[j]?).bind (·.dst) = some d := hdj
        rw [e1]
        simp only [Option.bind_some, hd d hdj, hvb]
      simp only [hy, beq_self_eq_true]
  refine wpOp_step ho fun K' hK => ?_
  rw [if_pos hw]
  refine hstep a.eval ⟨fun _ => rfl, fun _ => rfl, fun k hk => ?_, fun e he hb => ?_⟩ a K' rfl fun v w' hR => ?_
  · show a.tmps.getD k undef = a0.tmps.getD k undef
    rw [Array.getD_eq_getD_getElem?, Array.getD_eq_getD_getElem?, hI.rest k fun j hj h => ?_]
    have := List.all_eq_true.1 hk j (List.mem_range.2 (dst_lt h))
    rw [h] at this
    simp at this
  · obtain ⟨v, hv, hd⟩ := hdv e he hb
    exact ⟨v, hv, fun d hdd => getD_of (hd d hdd)⟩
  · obtain ⟨rfl, hS⟩ := hR
    have hdo : dstOf ops i = o.dst := by unfold dstOf; rw [ho]; rfl
    refine hK _ _ ⟨⟨?_, ?_, fun j hj => ?_, fun k hk => ?_⟩, hS⟩
    · cases hd : o.dst <;> exact hI.defers
    · cases hd : o.dst <;> simp only [Act.put, Array.size_setIfInBounds] <;> exact hI.size
    · by_cases hji : j = i
      · subst hji
        intro d hd
        rw [hdo] at hd
        have hlt := apart_lt hap hio (by rw [hdo]; exact hd)
        rw [hd]
        show (a.tmps.setIfInBounds d _)[d]? = some _
        rw [Array.getElem?_setIfInBounds, if_pos rfl, if_pos (by rw [hI.size]; exact hlt)]
      · rw [if_neg hji] at hj
        intro d hd
        have hud := hI.vals j hj
        cases hod : o.dst with
        | none => exact hud d hd
        | some d' =>
          have hne : d' ≠ d := fun e => hji (apart_ne hap (dst_lt hd) hio hd (by rw [hdo, hod, e]))
          show (a.tmps.setIfInBounds d' _)[d]? = _
          rw [Array.getElem?_setIfInBounds, if_neg hne]
          exact hud d hd
    · have hk' : ∀ j, L j = true → dstOf ops j ≠ some k := fun j hj => hk j (by by_cases h : j = i <;> simp [h, hj])
      have hki : o.dst ≠ some k := by rw [← hdo]; exact hk i (by simp)
      cases hod : o.dst with
      | none => exact hI.rest k hk'
      | some d' =>
        have hne : d' ≠ k := fun e => hki (by rw [hod, e])
        show (a.tmps.setIfInBounds d' _)[k]? = _
        rw [Array.getElem?_setIfInBounds, if_neg hne]
        exact hI.rest k hk'
/-- .. where what is said of the world rests on what has been done -/
theorem region_many {id : Nat} {a0 : Act} {w0 : World} (k : Nat) (vs : List Value) (ds : List (Option Tmp)) (S : (Nat → Bool) → World → Prop) (h0 : S (fun _ => false) w0.drew) (hk : k = vs.length) (hm : P.follows .mixedOrders = true) (hord : orderedB .any ops = true) (hap : apart ops a0.tmps.size = true) (hg : guarded ops (vs.map SP.is) k = true) (hds : (List.range k).map (dstOf ops) = ds) (htl : tailed ops k = true)
    (hstep : ∀ i o, ops[i]? = some o → i < k → ∀ E L w, S L w → L i = false → (∀ e ∈ o.after, Region.binds .any e = true → L e.on = true) → Due ops (vs.map SP.is) a0 o E w → DoesT P Q o E w (fun w' v => v = vs.getD i undef ∧ S (fun j => if j = i then true else L j) w'))
    (hdone : ∀ L w, (∀ j, j < k → L j = true) → S L w → wpList P ops Q (ops.toList.drop k) { a0 with tmps := setL ds (fun i => vs.getD i undef) 0 a0.tmps } w) : (Code.region id ops true).wp P Q a0 w0 := by
  unfold tailed at htl
  simp only [Bool.and_eq_true, decide_eq_true_eq] at htl
  obtain ⟨⟨hkn, hcov⟩, hch⟩ := htl
  have hchain : ∀ i, k ≤ i → i + 1 < ops.size → waitsFor ops (i + 1) i = true := fun i h1 h2 => by
    have := List.all_eq_true.1 hch i (List.mem_range.2 (by omega))
    simp only [Bool.or_eq_true, decide_eq_true_eq] at this
    rcases this with (h | h) | h
    · omega
    · omega
    · exact h
  have hcover : ∀ j, j < k → k < ops.size → ∃ i, j < i ∧ i ≤ k ∧ waitsFor ops i j = true := fun j h1 h2 => by
    have := List.all_eq_true.1 hcov j (List.mem_range.2 h1)
    simp only [Bool.or_eq_true, beq_iff_eq] at this
    rcases this with h | h
    · omega
    · obtain ⟨i, hi, h⟩ := List.any_eq_true.1 h
      simp only [Bool.and_eq_true, decide_eq_true_eq] at h
      exact ⟨i, h.1, by have := List.mem_range.1 hi; omega, h.2⟩
  have hfin : ∀ L a w, UInv ops vs a0 L a → S L w → (∀ j, j < k → L j = true) → (∀ j, k ≤ j → L j = false) → wpList P ops Q (ops.toList.drop k) a w := fun L a w hI hw hall hno => by
    have ha : a = { a0 with tmps := setAll ops (fun i => vs.getD i undef) k a0.tmps } := by
      obtain ⟨tm, df⟩ := a
      have h1 : df = a0.defers := hI.defers
      have h2 : tm = setAll ops (fun i => vs.getD i undef) k a0.tmps := by
        refine Array.ext_getElem? fun s => ?_
        have hset := setAll_get (fun i => vs.getD i undef) hap s k a0.tmps hkn rfl
        by_cases hk : ∃ i, i < k ∧ dstOf ops i = some s
        · obtain ⟨i, hik, hi⟩ := hk
          rw [hset.2 i hik hi]
          exact hI.vals i (hall i hik) s hi
        · rw [hset.1 fun i hi h => hk ⟨i, hi, h⟩]
          refine hI.rest s fun i hi h => ?_
          rcases Nat.lt_or_ge i k with hl | hl
          · exact hk ⟨i, hl, h⟩
          · rw [hno i hl] at hi; cases hi
      rw [h1, h2]
    rw [ha, setAll_eq, hds]
    exact hdone L w hall hw
  refine region_invB (fun a0' B L a w => (UInv ops vs a0 L a ∧ S L w ∧ (∀ i, k ≤ i → L i = false) ∧ Closed ops L) ∨ ∃ m, k ≤ m ∧ m ≤ ops.size ∧ (∀ i, L i = decide (i < m)) ∧ wpList P ops Q (ops.toList.drop m) a w) hm hord
    (Or.inl ⟨⟨rfl, rfl, fun i h => (Bool.noConfusion h), fun k _ => rfl⟩, h0, fun _ _ => rfl, fun i o _ h => (Bool.noConfusion h)⟩) ?_ ?_
  · intro L a w hI i o ho hLi hdep
    have hio : i < ops.size := (Array.getElem?_eq_some_iff.1 ho).1
    rcases hI with ⟨hI, hSw, hno, hcl⟩ | ⟨m, hm1, hm2, hL, hwp⟩
    · by_cases hik : i < k
      · have hdo : ∀ E, Due ops (vs.map SP.is) a0 o E w → DoesT P Q o E w fun w' v => v = vs.getD i undef ∧ S (fun j => if j = i then true else L j) w' := fun E hE => hstep i o ho hik E L w hSw hLi hdep hE
        refine wpOp_mono (fun a' w' h => Or.inl ?_) (uinv_stepB vs hk hord hap hg hik hI ho hdep hdo)
        refine ⟨h.1, h.2, fun j hj => ?_, fun j o' ho' hj e he hb => ?_⟩
        · have hji : j ≠ i := by omega
          simp only [hji, if_false]
          exact hno j hj
        · by_cases hji : j = i
          · subst hji
            rw [ho] at ho'; cases ho'
            by_cases h2 : e.on = j
            · simp [h2]
            · simp only [h2, if_false]; exact hdep e he hb
          · simp only [hji, if_false] at hj
            by_cases h2 : e.on = i
            · simp [h2]
            · simp only [h2, if_false]; exact hcl j o' ho' hj e he hb
      · have hik' : i = k := by
          rcases Nat.lt_or_ge k i with h | h
          · have := waits_done (L := L) (hchain (i - 1) (by omega) (by omega)) (by rw [show i - 1 + 1 = i by omega]; exact ho) hdep
            rw [hno (i - 1) (by omega)] at this; cases this
          · omega
        subst hik'
        have hall : ∀ d j, i - j ≤ d → j < i → L j = true := by
          intro d
          induction d with
          | zero => intro j h1 h2; omega
          | succ d ih =>
            intro j h1 h2
            obtain ⟨q, hq1, hq2, hq3⟩ := hcover j h2 hio
            by_cases hqi : q = i
            · subst hqi; exact waits_done hq3 ho hdep
            · have hq : L q = true := ih q (by omega) (by omega)
              have hqo : ops[q]? = some ops[q] := Array.getElem?_eq_getElem (by omega)
              exact waits_done hq3 hqo (hcl q _ hqo hq)
        refine wpOp_mono (fun a' w' h => Or.inr ⟨i + 1, by omega, by omega, fun j => ?_, h⟩) (wpList_to_op ho (hfin L a w hI hSw (fun j hj => hall _ j (Nat.le_refl _) hj) hno))
        by_cases hji : j = i
        · subst hji; simp
        · simp only [hji, if_false]
          rcases Nat.lt_or_ge j i with h1 | h1
          · rw [hall _ j (Nat.le_refl _) h1]; simp; omega
          · rw [hno j h1]; simp; omega
    · have him : i = m := by
        have h1 : ¬ i < m := fun h => by rw [hL i] at hLi; simp [h] at hLi
        rcases Nat.lt_or_ge m i with h | h
        · have := waits_done (L := L) (hchain (i - 1) (by omega) (by omega)) (by rw [show i - 1 + 1 = i by omega]; exact ho) hdep
          rw [hL (i - 1)] at this
          simp at this; omega
        · omega
      subst him
      refine wpOp_mono (fun a' w' h => Or.inr ⟨i + 1, by omega, by omega, fun j => ?_, h⟩) (wpList_to_op ho hwp)
      by_cases hji : j = i
      · subst hji; simp
      · simp only [hji, if_false]
        rw [hL j]
        rcases Nat.lt_or_ge j i with h1 | h1
        · simp [h1]; omega
        · simp; omega
  · intro L a w hall hI
    rcases hI with ⟨hI, hSw, hno, hcl⟩ | ⟨m, hm1, hm2, hL, hwp⟩
    · have hk : k = ops.size := by
        rcases Nat.lt_or_ge k ops.size with h | h
        · have := hall k h; rw [hno k (Nat.le_refl _)] at this; cases this
        · omega
      have := hfin L a w hI hSw (fun j hj => hall j (by omega)) hno
      rw [hk, ← Array.length_toList, List.drop_length] at this
      exact this
    · have hk : m = ops.size := by
        rcases Nat.lt_or_ge m ops.size with h | h
        · have := hall m h; rw [hL m] at this; simp at this
        · omega
      rw [hk, ← Array.length_toList, List.drop_length] at hwp
      exact hwp
structure GInv (ops : Array Oper) (R : Nat → World → Value → Prop) (a0 : Act) (L : Nat → Bool) (a : Act) (w : World) : Prop where
  defers : a.defers = a0.defers
  size : a.tmps.size = a0.tmps.size
  vals : ∀ i, L i = true → ∃ v, R i w v ∧ ∀ d, dstOf ops i = some d → a.tmps[d]? = some v
  rest : ∀ k, (∀ i, L i = true → dstOf ops i ≠ some k) → a.tmps[k]? = a0.tmps[k]?
/-- what an operation may rest on -/
structure DueG (ops : Array Oper) (R : Nat → World → Value → Prop) (a0 : Act) (o : Oper) (E : Operand → Value) (w : World) : Prop where
  con : ∀ c, E (.const c) = c
  fn : ∀ f, E (.func f) = .func (.func f) #[] #[]
  old : ∀ k, unw ops k = true → E (.tmp k) = a0.eval (.tmp k)
  dep : ∀ e ∈ o.after, Region.binds .any e = true → ∃ v, R e.on w v ∧ ∀ d, dstOf ops e.on = some d → E (.tmp d) = v
theorem DueG.is {R : Nat → World → Value → Prop} {a0 : Act} {o : Oper} {E : Operand → Value} {w : World} (h : DueG ops R a0 o E w) (e : Edge) (he : e ∈ o.after) (hb : Region.binds .any e = true) (d : Nat) (hd : dstOf ops e.on = some d) : R e.on w (E (.tmp d)) := by
  obtain ⟨u, hu, hud⟩ := h.dep e he hb
  rw [hud d hd]
  exact hu
def noGuard (ops : Array Oper) (k : Nat) : Bool := (List.range k).all fun i => match ops[i]? with | none => true | some o => o.guard.isNone
theorem ginv_step {a0 : Act} {k : Nat} (R : Nat → World → Value → Prop) {T : World → World → Prop} (hR : ∀ i w w' v, R i w v → T w w' → R i w' v) (hap : apart ops a0.tmps.size = true) (hg : noGuard ops k = true) {L : Nat → Bool} {a : Act} {w : World} {i : Nat} {o : Oper} (hik : i < k) (hI : GInv ops R a0 L a w) (ho : ops[i]? = some o) (hdep : ∀ e ∈ o.after, Region.binds .any e = true → L e.on = true)
    {S : World → Prop} (hstep : ∀ E, DueG ops R a0 o E w → DoesT P Q o E w fun w' v => R i w' v ∧ T w w' ∧ S w') :
    wpOp P ops Q i (fun a' w' => GInv ops R a0 (fun j => if j = i then true else L j) a' w' ∧ S w') a w := by
  have hio : i < ops.size := (Array.getElem?_eq_some_iff.1 ho).1
  have hdv : ∀ e ∈ o.after, Region.binds .any e = true → ∃ v, R e.on w v ∧ ∀ d, dstOf ops e.on = some d → a.tmps[d]? = some v := fun e he hb => hI.vals e.on (hdep e he hb)
  have hgn : o.guard = none := by
    have h1 := List.all_eq_true.1 hg i (List.mem_range.2 hik)
    simp only [ho, Option.isNone_iff_eq_none] at h1
    exact h1
  refine wpOp_step ho fun K' hK => ?_
  rw [if_pos (by simp [Region.wanted, hgn])]
  refine hstep a.eval ⟨fun _ => rfl, fun _ => rfl, fun k hk => ?_, fun e he hb => ?_⟩ a K' rfl fun v w' hRT => ?_
  · show a.tmps.getD k undef = a0.tmps.getD k undef
    rw [Array.getD_eq_getD_getElem?, Array.getD_eq_getD_getElem?, hI.rest k fun j hj h => ?_]
    have := List.all_eq_true.1 hk j (List.mem_range.2 (dst_lt h))
    rw [h] at this
    simp at this
  · obtain ⟨v, hv, hd⟩ := hdv e he hb
    exact ⟨v, hv, fun d hdd => getD_of (hd d hdd)⟩
  · obtain ⟨hv, hT, hS⟩ := hRT
    have hdo : dstOf ops i = o.dst := by unfold dstOf; rw [ho]; rfl
    refine hK _ _ ⟨⟨?_, ?_, fun j hj => ?_, fun k hk => ?_⟩, hS⟩
    · cases hd : o.dst <;> exact hI.defers
    · cases hd : o.dst <;> simp only [Act.put, Array.size_setIfInBounds] <;> exact hI.size
    · by_cases hji : j = i
      · subst hji
        refine ⟨v, hv, fun d hd => ?_⟩
        rw [hdo] at hd
        have hlt := apart_lt hap hio (by rw [hdo]; exact hd)
        rw [hd]
        show (a.tmps.setIfInBounds d _)[d]? = some _
        rw [Array.getElem?_setIfInBounds, if_pos rfl, if_pos (by rw [hI.size]; exact hlt)]
      · rw [if_neg hji] at hj
        obtain ⟨u, hu, hud⟩ := hI.vals j hj
        refine ⟨u, hR _ _ _ _ hu hT, fun d hd => ?_⟩
        cases hod : o.dst with
        | none => exact hud d hd
        | some d' =>
          have hne : d' ≠ d := fun e => hji (apart_ne hap (dst_lt hd) hio hd (by rw [hdo, hod, e]))
          show (a.tmps.setIfInBounds d' _)[d]? = _
          rw [Array.getElem?_setIfInBounds, if_neg hne]
          exact hud d hd
    · have hk' : ∀ j, L j = true → dstOf ops j ≠ some k := fun j hj => hk j (by by_cases h : j = i <;> simp [h, hj])
      have hki : o.dst ≠ some k := by rw [← hdo]; exact hk i (by simp)
      cases hod : o.dst with
      | none => exact hI.rest k hk'
      | some d' =>
        have hne : d' ≠ k := fun e => hki (by rw [hod, e])
        show (a.tmps.setIfInBounds d' _)[k]? = _
        rw [Array.getElem?_setIfInBounds, if_neg hne]
        exact hI.rest k hk'
/-- .. where the values themselves are said of the world -/
theorem region_gen {id : Nat} {a0 : Act} {w0 : World} (k : Nat) (R : Nat → World → Value → Prop) (ds : List (Option Tmp)) (T : World → World → Prop) (hR : ∀ i w w' v, R i w v → T w w' → R i w' v) (S : (Nat → Bool) → World → Prop) (h0 : S (fun _ => false) w0.drew) (hm : P.follows .mixedOrders = true) (hord : orderedB .any ops = true) (hap : apart ops a0.tmps.size = true) (hg : noGuard ops k = true) (hds : (List.range k).map (dstOf ops) = ds) (htl : tailed ops k = true)
    (hstep : ∀ i o, ops[i]? = some o → i < k → ∀ E L w, S L w → L i = false → (∀ e ∈ o.after, Region.binds .any e = true → L e.on = true) → DueG ops R a0 o E w → DoesT P Q o E w (fun w' v => R i w' v ∧ T w w' ∧ S (fun j => if j = i then true else L j) w'))
    (hdone : ∀ (vals : Nat → Value) L w, (∀ j, j < k → L j = true) → S L w → (∀ i, i < k → R i w (vals i)) → wpList P ops Q (ops.toList.drop k) { a0 with tmps := setL ds vals 0 a0.tmps } w) : (Code.region id ops true).wp P Q a0 w0 := by
  unfold tailed at htl
  simp only [Bool.and_eq_true, decide_eq_true_eq] at htl
  obtain ⟨⟨hkn, hcov⟩, hch⟩ := htl
  have hchain : ∀ i, k ≤ i → i + 1 < ops.size → waitsFor ops (i + 1) i = true := fun i h1 h2 => by
    have := List.all_eq_true.1 hch i (List.mem_range.2 (by omega))
    simp only [Bool.or_eq_true, decide_eq_true_eq] at this
    rcases this with (h | h) | h
    · omega
    · omega
    · exact h
  have hcover : ∀ j, j < k → k < ops.size → ∃ i, j < i ∧ i ≤ k ∧ waitsFor ops i j = true := fun j h1 h2 => by
    have := List.all_eq_true.1 hcov j (List.mem_range.2 h1)
    simp only [Bool.or_eq_true, beq_iff_eq] at this
    rcases this with h | h
    · omega
    · obtain ⟨i, hi, h⟩ := List.any_eq_true.1 h
      simp only [Bool.and_eq_true, decide_eq_true_eq] at h
      exact ⟨i, h.1, by have := List.mem_range.1 hi; omega, h.2⟩
  have hfin : ∀ L a w, GInv ops R a0 L a w → S L w → (∀ j, j < k → L j = true) → (∀ j, k ≤ j → L j = false) → wpList P ops Q (ops.toList.drop k) a w := fun L a w hI hw hall hno => by
    have hv : ∀ i, ∃ v, i < k → R i w v ∧ ∀ d, dstOf ops i = some d → a.tmps[d]? = some v := fun i => by
      by_cases hi : i < k
      · obtain ⟨v, h⟩ := hI.vals i (hall i hi); exact ⟨v, fun _ => h⟩
      · exact ⟨undef, fun h => absurd h hi⟩
    obtain ⟨vals, hvals⟩ := Classical.axiomOfChoice hv
    have ha : a = { a0 with tmps := setAll ops vals k a0.tmps } := by
      obtain ⟨tm, df⟩ := a
      have h1 : df = a0.defers := hI.defers
      have h2 : tm = setAll ops vals k a0.tmps := by
        refine Array.ext_getElem? fun s => ?_
        have hset := setAll_get vals hap s k a0.tmps hkn rfl
        by_cases hk : ∃ i, i < k ∧ dstOf ops i = some s
        · obtain ⟨i, hik, hi⟩ := hk
          rw [hset.2 i hik hi]
          exact (hvals i hik).2 s hi
        · rw [hset.1 fun i hi h => hk ⟨i, hi, h⟩]
          refine hI.rest s fun i hi h => ?_
          rcases Nat.lt_or_ge i k with hl | hl
          · exact hk ⟨i, hl, h⟩
          · rw [hno i hl] at hi; cases hi
      rw [h1, h2]
    rw [ha, setAll_eq, hds]
    exact hdone vals L w hall hw fun i hi => (hvals i hi).1
  refine region_invB (fun a0' B L a w => (GInv ops R a0 L a w ∧ S L w ∧ (∀ i, k ≤ i → L i = false) ∧ Closed ops L) ∨ ∃ m, k ≤ m ∧ m ≤ ops.size ∧ (∀ i, L i = decide (i < m)) ∧ wpList P ops Q (ops.toList.drop m) a w) hm hord
    (Or.inl ⟨⟨rfl, rfl, fun i h => (Bool.noConfusion h), fun k _ => rfl⟩, h0, fun _ _ => rfl, fun i o _ h => (Bool.noConfusion h)⟩) ?_ ?_
  · intro L a w hI i o ho hLi hdep
    have hio : i < ops.size := (Array.getElem?_eq_some_iff.1 ho).1
    rcases hI with ⟨hI, hSw, hno, hcl⟩ | ⟨m, hm1, hm2, hL, hwp⟩
    · by_cases hik : i < k
      · refine wpOp_mono (fun a' w' h => Or.inl ?_) (ginv_step R hR hap hg hik hI ho hdep (S := S (fun j => if j = i then true else L j)) fun E hE => hstep i o ho hik E L w hSw hLi hdep hE)
        refine ⟨h.1, h.2, fun j hj => ?_, fun j o' ho' hj e he hb => ?_⟩
        · have hji : j ≠ i := by omega
          simp only [hji, if_false]
          exact hno j hj
        · by_cases hji : j = i
          · subst hji
            rw [ho] at ho'; cases ho'
            by_cases h2 : e.on = j
            · simp [h2]
            · simp only [h2, if_false]; exact hdep e he hb
          · simp only [hji, if_false] at hj
            by_cases h2 : e.on = i
            · simp [h2]
            · simp only [h2, if_false]; exact hcl j o' ho' hj e he hb
      · have hik' : i = k := by
          rcases Nat.lt_or_ge k i with h | h
          · have := waits_done (L := L) (hchain (i - 1) (by omega) (by omega)) (by rw [show i - 1 + 1 = i by omega]; exact ho) hdep
            rw [hno (i - 1) (by omega)] at this; cases this
          · omega
        subst hik'
        have hall : ∀ d j, i - j ≤ d → j < i → L j = true := by
          intro d
          induction d with
          | zero => intro j h1 h2; omega
          | succ d ih =>
            intro j h1 h2
            obtain ⟨q, hq1, hq2, hq3⟩ := hcover j h2 hio
            by_cases hqi : q = i
            · subst hqi; exact waits_done hq3 ho hdep
            · have hq : L q = true := ih q (by omega) (by omega)
              have hqo : ops[q]? = some ops[q] := Array.getElem?_eq_getElem (by omega)
              exact waits_done hq3 hqo (hcl q _ hqo hq)
        refine wpOp_mono (fun a' w' h => Or.inr ⟨i + 1, by omega, by omega, fun j => ?_, h⟩) (wpList_to_op ho (hfin L a w hI hSw (fun j hj => hall _ j (Nat.le_refl _) hj) hno))
        by_cases hji : j = i
        · subst hji; simp
        · simp only [hji, if_false]
          rcases Nat.lt_or_ge j i with h1 | h1
          · rw [hall _ j (Nat.le_refl _) h1]; simp; omega
          · rw [hno j h1]; simp; omega
    · have him : i = m := by
        have h1 : ¬ i < m := fun h => by rw [hL i] at hLi; simp [h] at hLi
        rcases Nat.lt_or_ge m i with h | h
        · have := waits_done (L := L) (hchain (i - 1) (by omega) (by omega)) (by rw [show i - 1 + 1 = i by omega]; exact ho) hdep
          rw [hL (i - 1)] at this
          simp at this; omega
        · omega
      subst him
      refine wpOp_mono (fun a' w' h => Or.inr ⟨i + 1, by omega, by omega, fun j => ?_, h⟩) (wpList_to_op ho hwp)
      by_cases hji : j = i
      · subst hji; simp
      · simp only [hji, if_false]
        rw [hL j]
        rcases Nat.lt_or_ge j i with h1 | h1
        · simp [h1]; omega
        · simp; omega
  · intro L a w hall hI
    rcases hI with ⟨hI, hSw, hno, hcl⟩ | ⟨m, hm1, hm2, hL, hwp⟩
    · have hk : k = ops.size := by
        rcases Nat.lt_or_ge k ops.size with h | h
        · have := hall k h; rw [hno k (Nat.le_refl _)] at this; cases this
        · omega
      have := hfin L a w hI hSw (fun j hj => hall j (by omega)) hno
      rw [hk, ← Array.length_toList, List.drop_length] at this
      exact this
    · have hk : m = ops.size := by
        rcases Nat.lt_or_ge m ops.size with h | h
        · have := hall m h; rw [hL m] at this; simp at this
        · omega
      rw [hk, ← Array.length_toList, List.drop_length] at hwp
      exact hwp
/-- the rule: one obligation for each of the first operations, the rest in their order; no order is left open -/
theorem region_tailB {id : Nat} {a0 : Act} {w0 : World} (k : Nat) (R : List SP) (ds : List (Option Tmp)) (hm : P.follows .mixedOrders = true) (hord : orderedB .any ops = true) (hap : apart ops a0.tmps.size = true) (hg : guarded ops R k = true) (hds : (List.range k).map (dstOf ops) = ds) (htl : tailed ops k = true)
    (hstep : ∀ i o, ops[i]? = some o → i < k → ∀ E w, Below w0.drew.heap.size w0.drew w → Due ops R a0 o E w → Does P Q o E w (R.getD i SP.any).has)
    (hdone : ∀ (vals : Nat → Value) w, Below w0.drew.heap.size w0.drew w → (∀ i, i < k → (R.getD i SP.any).has w (vals i)) → wpList P ops Q (ops.toList.drop k) { a0 with tmps := setL ds vals 0 a0.tmps } w) : (Code.region id ops true).wp P Q a0 w0 := by
  unfold tailed at htl
  simp only [Bool.and_eq_true, decide_eq_true_eq] at htl
  obtain ⟨⟨hkn, hcov⟩, hch⟩ := htl
  have hchain : ∀ i, k ≤ i → i + 1 < ops.size → waitsFor ops (i + 1) i = true := fun i h1 h2 => by
    have := List.all_eq_true.1 hch i (List.mem_range.2 (by omega))
    simp only [Bool.or_eq_true, decide_eq_true_eq] at this
    rcases this with (h | h) | h
    · omega
    · omega
    · exact h
  have hcover : ∀ j, j < k → k < ops.size → ∃ i, j < i ∧ i ≤ k ∧ waitsFor ops i j = true := fun j h1 h2 => by
    have := List.all_eq_true.1 hcov j (List.mem_range.2 h1)
    simp only [Bool.or_eq_true, beq_iff_eq] at this
    rcases this with h | h
    · omega
    · obtain ⟨i, hi, h⟩ := List.any_eq_true.1 h
      simp only [Bool.and_eq_true, decide_eq_true_eq] at h
      exact ⟨i, h.1, by have := List.mem_range.1 hi; omega, h.2⟩
  have hfin : ∀ L a w, VInv ops R w0.drew a0 L a w → (∀ j, j < k → L j = true) → (∀ j, k ≤ j → L j = false) → wpList P ops Q (ops.toList.drop k) a w := fun L a w hI hall hno => by
    have hv : ∀ i, ∃ v, i < k → (R.getD i SP.any).has w v ∧ ∀ d, dstOf ops i = some d → a.tmps[d]? = some v := fun i => by
      by_cases hi : i < k
      · obtain ⟨v, h⟩ := hI.vals i (hall i hi); exact ⟨v, fun _ => h⟩
      · exact ⟨undef, fun h => absurd h hi⟩
    obtain ⟨vals, hvals⟩ := Classical.axiomOfChoice hv
    have ha : a = { a0 with tmps := setAll ops vals k a0.tmps } := by
      obtain ⟨tm, df⟩ := a
      have h1 : df = a0.defers := hI.defers
      have h2 : tm = setAll ops vals k a0.tmps := by
        refine Array.ext_getElem? fun s => ?_
        have hset := setAll_get vals hap s k a0.tmps hkn rfl
        by_cases hk : ∃ i, i < k ∧ dstOf ops i = some s
        · obtain ⟨i, hik, hi⟩ := hk
          rw [hset.2 i hik hi]
          exact (hvals i hik).2 s hi
        · rw [hset.1 fun i hi h => hk ⟨i, hi, h⟩]
          refine hI.rest s fun i hi h => ?_
          rcases Nat.lt_or_ge i k with hl | hl
          · exact hk ⟨i, hl, h⟩
          · rw [hno i hl] at hi; cases hi
      rw [h1, h2]
    rw [ha, setAll_eq, hds]
    exact hdone vals w hI.below fun i hi => (hvals i hi).1
  refine region_invB (fun a0 B L a w => (VInv ops R B a0 L a w ∧ (∀ i, k ≤ i → L i = false) ∧ Closed ops L) ∨ ∃ m, k ≤ m ∧ m ≤ ops.size ∧ (∀ i, L i = decide (i < m)) ∧ wpList P ops Q (ops.toList.drop m) a w) hm hord
    (Or.inl ⟨⟨Below.refl _ _, rfl, rfl, fun i h => (Bool.noConfusion h), fun k _ => rfl⟩, fun _ _ => rfl, fun i o _ h => (Bool.noConfusion h)⟩) ?_ ?_
  · intro L a w hI i o ho hLi hdep
    have hio : i < ops.size := (Array.getElem?_eq_some_iff.1 ho).1
    rcases hI with ⟨hI, hno, hcl⟩ | ⟨m, hm1, hm2, hL, hwp⟩
    · by_cases hik : i < k
      · refine wpOp_mono (fun a' w' h => Or.inl ?_) (vinv_step R hap hg hik hI ho hdep (hstep i o ho hik))
        refine ⟨h, fun j hj => ?_, fun j o' ho' hj e he hb => ?_⟩
        · have hji : j ≠ i := by omega
          simp only [hji, if_false]
          exact hno j hj
        · by_cases hji : j = i
          · subst hji
            rw [ho] at ho'; cases ho'
            by_cases h2 : e.on = j
            · simp [h2]
            · simp only [h2, if_false]; exact hdep e he hb
          · simp only [hji, if_false] at hj
            by_cases h2 : e.on = i
            · simp [h2]
            · simp only [h2, if_false]; exact hcl j o' ho' hj e he hb
      · have hik' : i = k := by
          rcases Nat.lt_or_ge k i with h | h
          · have := waits_done (L := L) (hchain (i - 1) (by omega) (by omega)) (by rw [show i - 1 + 1 = i by omega]; exact ho) hdep
            rw [hno (i - 1) (by omega)] at this; cases this
          · omega
        subst hik'
        have hall : ∀ d j, i - j ≤ d → j < i → L j = true := by
          intro d
          induction d with
          | zero => intro j h1 h2; omega
          | succ d ih =>
            intro j h1 h2
            obtain ⟨q, hq1, hq2, hq3⟩ := hcover j h2 hio
            by_cases hqi : q = i
            · subst hqi; exact waits_done hq3 ho hdep
            · have hq : L q = true := ih q (by omega) (by omega)
              have hqo : ops[q]? = some ops[q] := Array.getElem?_eq_getElem (by omega)
              exact waits_done hq3 hqo (hcl q _ hqo hq)
        refine wpOp_mono (fun a' w' h => Or.inr ⟨i + 1, by omega, by omega, fun j => ?_, h⟩) (wpList_to_op ho (hfin L a w hI (fun j hj => hall _ j (Nat.le_refl _) hj) hno))
        by_cases hji : j = i
        · subst hji; simp
        · simp only [hji, if_false]
          rcases Nat.lt_or_ge j i with h1 | h1
          · rw [hall _ j (Nat.le_refl _) h1]; simp; omega
          · rw [hno j h1]; simp; omega
    · have him : i = m := by
        have h1 : ¬ i < m := fun h => by rw [hL i] at hLi; simp [h] at hLi
        rcases Nat.lt_or_ge m i with h | h
        · have := waits_done (L := L) (hchain (i - 1) (by omega) (by omega)) (by rw [show i - 1 + 1 = i by omega]; exact ho) hdep
          rw [hL (i - 1)] at this
          simp at this; omega
        · omega
      subst him
      refine wpOp_mono (fun a' w' h => Or.inr ⟨i + 1, by omega, by omega, fun j => ?_, h⟩) (wpList_to_op ho hwp)
      by_cases hji : j = i
      · subst hji; simp
      · simp only [hji, if_false]
        rw [hL j]
        rcases Nat.lt_or_ge j i with h1 | h1
        · simp [h1]; omega
        · simp; omega
  · intro L a w hall hI
    rcases hI with ⟨hI, hno, hcl⟩ | ⟨m, hm1, hm2, hL, hwp⟩
    · have hk : k = ops.size := by
        rcases Nat.lt_or_ge k ops.size with h | h
        · have := hall k h; rw [hno k (Nat.le_refl _)] at this; cases this
        · omega
      have := hfin L a w hI (fun j hj => hall j (by omega)) hno
      rw [hk, ← Array.length_toList, List.drop_length] at this
      exact this
    · have hk : m = ops.size := by
        rcases Nat.lt_or_ge m ops.size with h | h
        · have := hall m h; rw [hL m] at this; simp at this
        · omega
      rw [hk, ← Array.length_toList, List.drop_length] at hwp
      exact hwp
structure LInv (ops : Array Oper) (R : (Nat → Bool) → Nat → World → Value → Prop) (a0 : Act) (L : Nat → Bool) (a : Act) (w : World) : Prop where
  defers : a.defers = a0.defers
  size : a.tmps.size = a0.tmps.size
  vals : ∀ i, L i = true → ∃ v, R L i w v ∧ ∀ d, dstOf ops i = some d → a.tmps[d]? = some v
  rest : ∀ k, (∀ i, L i = true → dstOf ops i ≠ some k) → a.tmps[k]? = a0.tmps[k]?
theorem linv_step {a0 : Act} {k : Nat} (R : (Nat → Bool) → Nat → World → Value → Prop) (hap : apart ops a0.tmps.size = true) (hg : noGuard ops k = true) {L : Nat → Bool} {a : Act} {w : World} {i : Nat} {o : Oper} (hik : i < k) (hI : LInv ops R a0 L a w) (ho : ops[i]? = some o) (hdep : ∀ e ∈ o.after, Region.binds .any e = true → L e.on = true)
    {S : World → Prop} (hstep : ∀ E, DueG ops (R L) a0 o E w → DoesT P Q o E w fun w' v => R (fun j => if j = i then true else L j) i w' v ∧ (∀ j u, L j = true → R L j w u → R (fun j => if j = i then true else L j) j w' u) ∧ S w') :
    wpOp P ops Q i (fun a' w' => LInv ops R a0 (fun j => if j = i then true else L j) a' w' ∧ S w') a w := by
  have hio : i < ops.size := (Array.getElem?_eq_some_iff.1 ho).1
  have hdv : ∀ e ∈ o.after, Region.binds .any e = true → ∃ v, R L e.on w v ∧ ∀ d, dstOf ops e.on = some d → a.tmps[d]? = some v := fun e he hb => hI.vals e.on (hdep e he hb)
  have hgn : o.guard = none := by
    have h1 := List.all_eq_true.1 hg i (List.mem_range.2 hik)
    simp only [ho, Option.isNone_iff_eq_none] at h1
    exact h1
  refine wpOp_step ho fun K' hK => ?_
  rw [if_pos (by simp [Region.wanted, hgn])]
  refine hstep a.eval ⟨fun _ => rfl, fun _ => rfl, fun k hk => ?_, fun e he hb => ?_⟩ a K' rfl fun v w' hRT => ?_
  · show a.tmps.getD k undef = a0.tmps.getD k undef
    rw [Array.getD_eq_getD_getElem?, Array.getD_eq_getD_getElem?, hI.rest k fun j hj h => ?_]
    have := List.all_eq_true.1 hk j (List.mem_range.2 (dst_lt h))
    rw [h] at this
    simp at this
  · obtain ⟨v, hv, hd⟩ := hdv e he hb
    exact ⟨v, hv, fun d hdd => getD_of (hd d hdd)⟩
  · obtain ⟨hv, hT, hS⟩ := hRT
    have hdo : dstOf ops i = o.dst := by unfold dstOf; rw [ho]; rfl
    refine hK _ _ ⟨⟨?_, ?_, fun j hj => ?_, fun k hk => ?_⟩, hS⟩
    · cases hd : o.dst <;> exact hI.defers
    · cases hd : o.dst <;> simp only [Act.put, Array.size_setIfInBounds] <;> exact hI.size
    · by_cases hji : j = i
      · subst hji
        refine ⟨v, hv, fun d hd => ?_⟩
        rw [hdo] at hd
        have hlt := apart_lt hap hio (by rw [hdo]; exact hd)
        rw [hd]
        show (a.tmps.setIfInBounds d _)[d]? = some _
        rw [Array.getElem?_setIfInBounds, if_pos rfl, if_pos (by rw [hI.size]; exact hlt)]
      · rw [if_neg hji] at hj
        obtain ⟨u, hu, hud⟩ := hI.vals j hj
        refine ⟨u, hT j u hj hu, fun d hd => ?_⟩
        cases hod : o.dst with
        | none => exact hud d hd
        | some d' =>
          have hne : d' ≠ d := fun e => hji (apart_ne hap (dst_lt hd) hio hd (by rw [hdo, hod, e]))
          show (a.tmps.setIfInBounds d' _)[d]? = _
          rw [Array.getElem?_setIfInBounds, if_neg hne]
          exact hud d hd
    · have hk' : ∀ j, L j = true → dstOf ops j ≠ some k := fun j hj => hk j (by by_cases h : j = i <;> simp [h, hj])
      have hki : o.dst ≠ some k := by rw [← hdo]; exact hk i (by simp)
      cases hod : o.dst with
      | none => exact hI.rest k hk'
      | some d' =>
        have hne : d' ≠ k := fun e => hki (by rw [hod, e])
        show (a.tmps.setIfInBounds d' _)[k]? = _
        rw [Array.getElem?_setIfInBounds, if_neg hne]
        exact hI.rest k hk'
/-- .. where what is said of the values rests on what has been done -/
theorem region_lev {id : Nat} {a0 : Act} {w0 : World} (k : Nat) (R : (Nat → Bool) → Nat → World → Value → Prop) (ds : List (Option Tmp)) (S : (Nat → Bool) → World → Prop) (h0 : S (fun _ => false) w0.drew) (hm : P.follows .mixedOrders = true) (hord : orderedB .any ops = true) (hap : apart ops a0.tmps.size = true) (hg : noGuard ops k = true) (hds : (List.range k).map (dstOf ops) = ds) (htl : tailed ops k = true)
    (hstep : ∀ i o, ops[i]? = some o → i < k → ∀ E L w, S L w → L i = false → (∀ e ∈ o.after, Region.binds .any e = true → L e.on = true) → DueG ops (R L) a0 o E w → DoesT P Q o E w (fun w' v => R (fun j => if j = i then true else L j) i w' v ∧ (∀ j u, L j = true → R L j w u → R (fun j => if j = i then true else L j) j w' u) ∧ S (fun j => if j = i then true else L j) w'))
    (hdone : ∀ (vals : Nat → Value) L w, (∀ j, j < k → L j = true) → S L w → (∀ i, i < k → R L i w (vals i)) → wpList P ops Q (ops.toList.drop k) { a0 with tmps := setL ds vals 0 a0.tmps } w) : (Code.region id ops true).wp P Q a0 w0 := by
  unfold tailed at htl
  simp only [Bool.and_eq_true, decide_eq_true_eq] at htl
  obtain ⟨⟨hkn, hcov⟩, hch⟩ := htl
  have hchain : ∀ i, k ≤ i → i + 1 < ops.size → waitsFor ops (i + 1) i = true := fun i h1 h2 => by
    have := List.all_eq_true.1 hch i (List.mem_range.2 (by omega))
    simp only [Bool.or_eq_true, decide_eq_true_eq] at this
    rcases this with (h | h) | h
    · omega
    · omega
    · exact h
  have hcover : ∀ j, j < k → k < ops.size → ∃ i, j < i ∧ i ≤ k ∧ waitsFor ops i j = true := fun j h1 h2 => by
    have := List.all_eq_true.1 hcov j (List.mem_range.2 h1)
    simp only [Bool.or_eq_true, beq_iff_eq] at this
    rcases this with h | h
    · omega
    · obtain ⟨i, hi, h⟩ := List.any_eq_true.1 h
      simp only [Bool.and_eq_true, decide_eq_true_eq] at h
      exact ⟨i, h.1, by have := List.mem_range.1 hi; omega, h.2⟩
  have hfin : ∀ L a w, LInv ops R a0 L a w → S L w → (∀ j, j < k → L j = true) → (∀ j, k ≤ j → L j = false) → wpList P ops Q (ops.toList.drop k) a w := fun L a w hI hw hall hno => by
    have hv : ∀ i, ∃ v, i < k → R L i w v ∧ ∀ d, dstOf ops i = some d → a.tmps[d]? = some v := fun i => by
      by_cases hi : i < k
      · obtain ⟨v, h⟩ := hI.vals i (hall i hi); exact ⟨v, fun _ => h⟩
      · exact ⟨undef, fun h => absurd h hi⟩
    obtain ⟨vals, hvals⟩ := Classical.axiomOfChoice hv
    have ha : a = { a0 with tmps := setAll ops vals k a0.tmps } := by
      obtain ⟨tm, df⟩ := a
      have h1 : df = a0.defers := hI.defers
      have h2 : tm = setAll ops vals k a0.tmps := by
        refine Array.ext_getElem? fun s => ?_
        have hset := setAll_get vals hap s k a0.tmps hkn rfl
        by_cases hk : ∃ i, i < k ∧ dstOf ops i = some s
        · obtain ⟨i, hik, hi⟩ := hk
          rw [hset.2 i hik hi]
          exact (hvals i hik).2 s hi
        · rw [hset.1 fun i hi h => hk ⟨i, hi, h⟩]
          refine hI.rest s fun i hi h => ?_
          rcases Nat.lt_or_ge i k with hl | hl
          · exact hk ⟨i, hl, h⟩
          · rw [hno i hl] at hi; cases hi
      rw [h1, h2]
    rw [ha, setAll_eq, hds]
    exact hdone vals L w hall hw fun i hi => (hvals i hi).1
  refine region_invB (fun a0' B L a w => (LInv ops R a0 L a w ∧ S L w ∧ (∀ i, k ≤ i → L i = false) ∧ Closed ops L) ∨ ∃ m, k ≤ m ∧ m ≤ ops.size ∧ (∀ i, L i = decide (i < m)) ∧ wpList P ops Q (ops.toList.drop m) a w) hm hord
    (Or.inl ⟨⟨rfl, rfl, fun i h => (Bool.noConfusion h), fun k _ => rfl⟩, h0, fun _ _ => rfl, fun i o _ h => (Bool.noConfusion h)⟩) ?_ ?_
  · intro L a w hI i o ho hLi hdep
    have hio : i < ops.size := (Array.getElem?_eq_some_iff.1 ho).1
    rcases hI with ⟨hI, hSw, hno, hcl⟩ | ⟨m, hm1, hm2, hL, hwp⟩
    · by_cases hik : i < k
      · refine wpOp_mono (fun a' w' h => Or.inl ?_) (linv_step R hap hg hik hI ho hdep (S := S (fun j => if j = i then true else L j)) fun E hE => hstep i o ho hik E L w hSw hLi hdep hE)
        refine ⟨h.1, h.2, fun j hj => ?_, fun j o' ho' hj e he hb => ?_⟩
        · have hji : j ≠ i := by omega
          simp only [hji, if_false]
          exact hno j hj
        · by_cases hji : j = i
          · subst hji
            rw [ho] at ho'; cases ho'
            by_cases h2 : e.on = j
            · simp [h2]
            · simp only [h2, if_false]; exact hdep e he hb
          · simp only [hji, if_false] at hj
            by_cases h2 : e.on = i
            · simp [h2]
            · simp only [h2, if_false]; exact hcl j o' ho' hj e he hb
      · have hik' : i = k := by
          rcases Nat.lt_or_ge k i with h | h
          · have := waits_done (L := L) (hchain (i - 1) (by omega) (by omega)) (by rw [show i - 1 + 1 = i by omega]; exact ho) hdep
            rw [hno (i - 1) (by omega)] at this; cases this
          · omega
        subst hik'
        have hall : ∀ d j, i - j ≤ d → j < i → L j = true := by
          intro d
          induction d with
          | zero => intro j h1 h2; omega
          | succ d ih =>
            intro j h1 h2
            obtain ⟨q, hq1, hq2, hq3⟩ := hcover j h2 hio
            by_cases hqi : q = i
            · subst hqi; exact waits_done hq3 ho hdep
            · have hq : L q = true := ih q (by omega) (by omega)
              have hqo : ops[q]? = some ops[q] := Array.getElem?_eq_getElem (by omega)
              exact waits_done hq3 hqo (hcl q _ hqo hq)
        refine wpOp_mono (fun a' w' h => Or.inr ⟨i + 1, by omega, by omega, fun j => ?_, h⟩) (wpList_to_op ho (hfin L a w hI hSw (fun j hj => hall _ j (Nat.le_refl _) hj) hno))
        by_cases hji : j = i
        · subst hji; simp
        · simp only [hji, if_false]
          rcases Nat.lt_or_ge j i with h1 | h1
          · rw [hall _ j (Nat.le_refl _) h1]; simp; omega
          · rw [hno j h1]; simp; omega
    · have him : i = m := by
        have h1 : ¬ i < m := fun h => by rw [hL i] at hLi; simp [h] at hLi
        rcases Nat.lt_or_ge m i with h | h
        · have := waits_done (L := L) (hchain (i - 1) (by omega) (by omega)) (by rw [show i - 1 + 1 = i by omega]; exact ho) hdep
          rw [hL (i - 1)] at this
          simp at this; omega
        · omega
      subst him
      refine wpOp_mono (fun a' w' h => Or.inr ⟨i + 1, by omega, by omega, fun j => ?_, h⟩) (wpList_to_op ho hwp)
      by_cases hji : j = i
      · subst hji; simp
      · simp only [hji, if_false]
        rw [hL j]
        rcases Nat.lt_or_ge j i with h1 | h1
        · simp [h1]; omega
        · simp; omega
  · intro L a w hall hI
    rcases hI with ⟨hI, hSw, hno, hcl⟩ | ⟨m, hm1, hm2, hL, hwp⟩
    · have hk : k = ops.size := by
        rcases Nat.lt_or_ge k ops.size with h | h
        · have := hall k h; rw [hno k (Nat.le_refl _)] at this; cases this
        · omega
      have := hfin L a w hI hSw (fun j hj => hall j (by omega)) hno
      rw [hk, ← Array.length_toList, List.drop_length] at this
      exact this
    · have hk : m = ops.size := by
        rcases Nat.lt_or_ge m ops.size with h | h
        · have := hall m h; rw [hL m] at this; simp at this
        · omega
      rw [hk, ← Array.length_toList, List.drop_length] at hwp
      exact hwp
end

section

variable {P : Program} {Q : Exit → Act → World → Prop} {o : Oper} {E : Operand → Value} {w : World} {R : World → Value → Prop}
theorem does_run {v : Value} (hrun : (execOp E o).run P w = .ok (.value v) w) (hR : R w v) : Does P Q o E w R := fun a K hE hK => by
  unfold Oper.wp
  rw [hE, hrun, Oper.upon_value]
  exact hK v w (Below.refl _ _) hR
theorem does_new {v : Value} {w' : World} (hrun : (execOp E o).run P w = .ok (.value v) w') (hb : Below w.heap.size w w') (hR : R w' v) : Does P Q o E w R := fun a K hE hK => by
  unfold Oper.wp
  rw [hE, hrun, Oper.upon_value]
  exact hK v w' hb hR
theorem does_move {x : Operand} (ho : o.op = .move x) (hR : R w (E x)) : Does P Q o E w R :=
  does_run (v := E x) (by unfold execOp; simp only [ho, Sem.run_pure]) hR
theorem does_assign {x : Operand} (ho : o.op = .assign x) (hR : R w (E x)) : Does P Q o E w R :=
  does_run (v := E x) (by unfold execOp; simp only [ho, Sem.run_pure]) hR
theorem does_pick {c x y : Operand} {b : Bool} (ho : o.op = .pick c x y) (hc : E c = .bool b) (hR : R w (if b then E x else E y)) : Does P Q o E w R :=
  does_run (v := if b then E x else E y) (by unfold execOp; simp only [ho, hc, asBool, Sem.run_bind, Sem.run_pure, Result.andThen_ok]) hR
theorem does_extract {x : Operand} {vs : Array Value} {i : Nat} {v : Value} (ho : o.op = .extract x i) (hx : E x = .tuple vs) (hv : vs[i]? = some v) (hR : R w v) : Does P Q o E w R :=
  does_run (v := v) (by unfold execOp; simp only [ho, hx, Instr.extract, hv, Sem.run_bind, Sem.run_pure, Result.andThen_ok]) hR
theorem does_load_row {ty : TypeId} {x : Operand} (ho : o.op = .load ty x) {g : Nat} (hx : E x = .pointer (some ⟨g, 0, none⟩)) {t : TypeId} {cs : Array Value} {fr : Nat × Nat} {d : TypeDesc} (hg : w.heap[g]? = some (.cells cs t fr))
    (hu : P.underlying ty = some d) (hd : (match d with | .struct _ | .array _ _ => true | _ => false) = true) (hi : (P.info? ty).map (·.size) = some cs.size) (hR : R w (.agg cs)) : Does P Q o E w R :=
  fun a K hE hK => wp_load_row ty x ho g (by rw [hE]; exact hx) t cs fr d hg hu hd hi (hK _ _ (Below.refl _ _) hR)
theorem does_bin {op : BinOp} {xt t : TypeId} {x y : Operand} {v : Value} (ho : o.op = .binOp op xt x y t) (hrun : (do eqGuard op xt x y (E x) (E y); binOp op xt (E x) (E y) : Sem Value).run P w = .ok v w) (hR : R w v) : Does P Q o E w R :=
  does_run (v := v) (by unfold execOp; simp only [ho]; rw [Sem.run_bind, hrun]; rfl) hR
theorem does_un {op : UnOp} {t : TypeId} {x : Operand} {v : Value} (ho : o.op = .unOp op t x) (hrun : (Op.unary op (E x)).run P w = .ok v w) (hR : R w v) : Does P Q o E w R :=
  does_run (v := v) (by unfold execOp; simp only [ho]; rw [Sem.run_bind, hrun]; rfl) hR
theorem does_call {f : FuncId} {vs : Array Value} (hrun : (execOp E o).run P w = .ok (.enter f vs) w) (hc : Calls P f vs w fun e w' => ∃ v, e = .returned v ∧ Below w.heap.size w w' ∧ R w' v) : Does P Q o E w R := fun a K hE hK => by
  unfold Oper.wp
  rw [hE, hrun, Oper.upon_enter]
  refine hc.mono fun e w' hh => ?_
  obtain ⟨v, rfl, hb, hR⟩ := hh
  exact hK v w' hb hR
theorem does_load_agg {ty : TypeId} {x : Operand} (ho : o.op = .load ty x) {a : Addr} (hx : E x = .pointer (some a)) {cs : List Value} {d : TypeDesc} (hc : ∀ j v, cs[j]? = some v → w.cell? (a.add j) = some v)
    (hu : P.underlying ty = some d) (hd : (match d with | .struct _ | .array _ _ => true | _ => false) = true) (hi : (P.info? ty).map (·.size) = some cs.length) (hR : R w (.agg cs.toArray)) : Does P Q o E w R := by
  refine does_run (v := .agg cs.toArray) ?_ hR
  unfold execOp
  simp only [ho, hx]
  rw [Sem.run_bind, run_loadAt_agg w a ty cs d hc hu hd hi]; rfl
/-- a load of one cell -/
theorem does_load1 {ty : TypeId} {x : Operand} (ho : o.op = .load ty x) {a : Addr} (hx : E x = .pointer (some a)) {v : Value} (hc : w.cell? a = some v) {d : TypeDesc}
    (hu : P.underlying ty = some d) (hd : (match d with | .struct _ | .array _ _ => true | _ => false) = false) (hR : R w v) : Does P Q o E w R := by
  refine does_run (v := v) ?_ hR
  have hagg : (isAgg ty).run P w = .ok false w := by
    unfold isAgg
    rw [Sem.run_bind, run_underlying hu w]
    cases d <;> simp_all
  unfold execOp
  simp only [ho, hx, Instr.loadAt, Instr.sureAddr, Sem.run_bind, Sem.run_pure, Result.andThen_ok, loadVar, hagg, Bool.false_eq_true, if_false, run_load, hc]
theorem results_cell1 {fn : Func} {p : Tmp} {ty : TypeId} (h : fn.results = #[.cell p ty]) (tmps : Array Value) (w : World) (a : Addr) (v : Value) (d : TypeDesc)
    (hp : tmps.getD p undef = .pointer (some a)) (hc : w.cell? a = some v) (hu : P.underlying ty = some d) (hd : (match d with | .struct _ | .array _ _ => true | _ => false) = false) :
    (results fn tmps).run P w = .ok v w := by
  have hp' : tmps[p]?.getD undef = .pointer (some a) := by simpa using hp
  have hagg : (isAgg ty).run P w = .ok false w := by
    unfold isAgg
    rw [Sem.run_bind, run_underlying hu w]
    cases d <;> simp_all
  simp [results, h, hp', asAddr, loadVar, hagg, hc]
theorem cell_row1 {w : World} {g : Nat} {v : Value} {t : TypeId} (h : w.heap[g]? = some (.cells #[v] t (0, 0))) : w.cell? ⟨g, 0, none⟩ = some v := by
  rw [cell_of_row _ _ _ _ _ _ h]; rfl
/-- a call of a function that is named, or held by a value with what it has captured -/
theorem does_fn {x : Operand} {args : Array Operand} {ts : Array TypeId} {f : FuncId} {cap vs : Array Value} (ho : o.op = .call { callee := .value x, args := args, argTypes := ts }) (hx : E x = .func (.func f) #[] cap)
    (ha : args.map E ++ cap = vs) (hf : (callFunc f vs).run P w = .ok (.enter f vs) w) (hc : Calls P f vs w fun e w' => ∃ v, e = .returned v ∧ Below w.heap.size w w' ∧ R w' v) : Does P Q o E w R := by
  refine does_call (f := f) (vs := vs) ?_ hc
  unfold execOp
  simp only [ho, resolve, hx, Deferred.ofValue, Sem.run_bind, Sem.run_pure, Result.andThen_ok, invoke, Array.empty_append, ha, hf]
theorem does_new_t {v : Value} {w' : World} (hrun : (execOp E o).run P w = .ok (.value v) w') (hR : R w' v) : DoesT P Q o E w R := fun a K hE hK => by
  unfold Oper.wp
  rw [hE, hrun, Oper.upon_value]
  exact hK v w' hR
/-- a store of a whole row -/
theorem does_store_t {ty : TypeId} {x y : Operand} (ho : o.op = .store ty x y) {g : Nat} {cs : List Value} (hx : E x = .pointer (some ⟨g, 0, none⟩)) (hy : E y = .agg cs.toArray) {t : TypeId} {old : Array Value} (hg : w.heap[g]? = some (.cells old t (0, 0)))
    (hi : (P.info? ty).map (·.size) = some cs.length) (hold : old.size = cs.length) (h1 : Ones cs) (hR : R (w.setRow g cs.toArray) undef) : DoesT P Q o E w R := fun a K hE hK =>
  wp_store_row ty x y ho g cs.toArray (by rw [hE]; exact hx) (by rw [hE]; exact hy) t old hg (by simpa using hi) (by simpa using hold) (Array.all_eq_true_iff_forall_mem.2 fun u hu => h1 u (by simpa using hu)) (hK _ _ hR)
theorem Does.weak {R' : World → Value → Prop} (h : Does P Q o E w R) (hR : ∀ w' v, Below w.heap.size w w' → R w' v → R' w' v) : DoesT P Q o E w R' := fun a K hE hK => h a K hE fun v w' hb hr => hK v w' (hR w' v hb hr)
/-- .. one that turns the world -/
theorem does_fn_t {x : Operand} {args : Array Operand} {ts : Array TypeId} {f : FuncId} {cap vs : Array Value} (ho : o.op = .call { callee := .value x, args := args, argTypes := ts }) (hx : E x = .func (.func f) #[] cap)
    (ha : args.map E ++ cap = vs) (hf : (callFunc f vs).run P w = .ok (.enter f vs) w) (hc : Calls P f vs w fun e w' => ∃ v, e = .returned v ∧ R w' v) : DoesT P Q o E w R := fun a K hE hK => by
  have hrun : (execOp E o).run P w = .ok (.enter f vs) w := by
    unfold execOp
    simp only [ho, resolve, hx, Deferred.ofValue, Sem.run_bind, Sem.run_pure, Result.andThen_ok, invoke, Array.empty_append, ha, hf]
  unfold Oper.wp
  rw [hE, hrun, Oper.upon_enter]
  refine hc.mono fun e w' hh => ?_
  obtain ⟨v, rfl, hR⟩ := hh
  exact hK v w' hR
theorem op_slice {ty : TypeId} {x : Operand} {lo hi mx : Option Operand} {X v : Value} {LO HI MX : Option Value} (ho : o.op = .slice ty x lo hi mx) (hx : E x = X) (hlo : lo.map E = LO) (hhi : hi.map E = HI) (hmx : mx.map E = MX)
    (hr : (Instr.sliceAt ty X LO HI MX).run P w = .ok v w) : (execOp E o).run P w = .ok (.value v) w := by
  unfold execOp
  simp only [ho, hx, hlo, hhi, hmx]
  rw [Sem.run_bind, hr]; rfl
theorem run_eqGuard_agg {t : TypeId} {x y : Operand} {xs ys : Array Value} (hg : P.eqGuardType P.depth t = false) : (eqGuard .eql t x y (.agg xs) (.agg ys)).run P w = .ok () w := by
  simp [eqGuard, program, Sem.run, hg]
/-- two arrays compared -/
theorem does_eq_arr {t t2 : TypeId} {x y : Operand} {xs ys : Array Value} {b : Bool} (ho : o.op = .binOp .eql t x y t2) (hx : E x = .agg xs) (hy : E y = .agg ys) (hg : P.eqGuardType P.depth t = false)
    (hrun : (Op.equal t (.agg xs) (.agg ys)).run P w = .ok b w) (hR : R w (.bool b)) : Does P Q o E w R :=
  does_bin ho (by rw [hx, hy, Sem.run_bind, run_eqGuard_agg hg, Result.andThen_ok]; simp only [binOp, Sem.run_bind, hrun, Result.andThen_ok, Sem.run_pure]) hR
/-- in a plain list: an operation whose run is known -/
theorem list_run {ops : Array Oper} {rest : List Oper} {a : Act} (hg : o.guard = none) (d : Option Tmp) (hd : o.dst = d) (v : Value) (hrun : (execOp a.eval o).run P w = .ok (.value v) w) (h : wpList P ops Q rest (a.put d v) w) : wpList P ops Q (o :: rest) a w := by
  subst hd
  refine wpList_plain hg fun K hK => ?_
  unfold Oper.wp
  rw [hrun, Oper.upon_value]
  exact hK _ _ h
theorem list_run_due {ops : Array Oper} {rest : List Oper} {a : Act} (hw : Region.wanted o (yielded ops a.tmps) = true) (d : Option Tmp) (hd : o.dst = d) (v : Value) (hrun : (execOp a.eval o).run P w = .ok (.value v) w) (h : wpList P ops Q rest (a.put d v) w) : wpList P ops Q (o :: rest) a w := by
  subst hd
  refine wpList_due hw fun K hK => ?_
  unfold Oper.wp
  rw [hrun, Oper.upon_value]
  exact hK _ _ h
theorem op_eq {t t2 : TypeId} {x y : Operand} {xs ys : Array Value} {b : Bool} (ho : o.op = .binOp .eql t x y t2) (hx : E x = .agg xs) (hy : E y = .agg ys) (hg : P.eqGuardType P.depth t = false)
    (hrun : (Op.equal t (.agg xs) (.agg ys)).run P w = .ok b w) : (execOp E o).run P w = .ok (.value (.bool b)) w := by
  unfold execOp
  simp only [ho]
  rw [Sem.run_bind, hx, hy, Sem.run_bind, run_eqGuard_agg hg, Result.andThen_ok]
  simp only [binOp, Sem.run_bind, hrun, Result.andThen_ok, Sem.run_pure]
end

end Go.Proofs.Ytieipbobijnmlaa.wk
/- The map of norms. -/
namespace Go.Proofs.Ytieipbobijnmlaa.vk

open Go.ChangeShapes Go.WideShapes Go.ChangeAt Go.RowKit Go.MapKept

set_option linter.unusedVariables false

section

variable {P : Program}
theorem ins_step {ops : Array Oper} {rest : List Oper} {o : Oper} {a : Act} {w : World} {Q : Exit → Act → World → Prop} (hg : o.guard = none) (t : TypeId) (m x v : Operand) (ho : o.op = .insert t m x v) (r : Nat) (es : Array MapEntry) (clock : Nat)
    (hm : a.eval m = .map (some r)) (kt et : TypeId) (ht : P.underlying t = some (.map kt et)) (hk : P.underlying kt = some (.int .i64)) (i : Int) (hx : a.eval x = .int .i64 i) (hb : w.heap[r]? = some (.map es clock))
    (hnew : Instr.findNow (.int .i64) (.int .i64 i) es.toList 0 = some none)
    (h : ∀ w', w'.heap[r]? = some (.map (es.push { key := .int .i64 i, val := a.eval v, born := clock }) (clock + 1)) → w'.heap.size = w.heap.size → (∀ B, B ≤ r → Below B w w') → wpList P ops Q rest (a.put o.dst undef) w') :
    wpList P ops Q (o :: rest) a w := by
  refine wpList_plain hg fun K' hK' => ?_
  have hK : IsKey (.int .i64) (.int .i64 i) := rfl
  have hrun : (Instr.mapUpdate t (.map (some r)) (.int .i64 i) (a.eval v)).run P w = .ok () { w with heap := w.heap.setIfInBounds r (.map (es.push { key := .int .i64 i, val := a.eval v, born := clock }) (clock + 1)) } := by
    simp [Instr.mapUpdate, run_underlying ht, Go.MapKept.run_getObj_map hb, Go.MapKept.run_checkKey hk hK, Go.MapKept.run_findKey hk hnew, Go.MapKept.run_setObj_map _ hb, Result.andThen]
  have hlt : r < w.heap.size := by
    rcases Nat.lt_or_ge r w.heap.size with h' | h'
    · exact h'
    · rw [Array.getElem?_eq_none h'] at hb; cases hb
  unfold Oper.wp
  simp [execOp, ho, hm, hx, hrun, Result.andThen]
  refine hK' _ _ (h _ ?_ ?_ ?_)
  · simp [hlt]
  · simp
  · exact fun B hB => ⟨rfl, rfl, rfl, by simp, fun k hk => by simp [show r ≠ k by omega]⟩
def lookRes (z : Value) : Option (Nat × Value) → Value
  | some (_, v) => .tuple #[v, .bool true]
  | none => .tuple #[z, .bool false]
theorem run_look {w : World} (t : TypeId) (r : Nat) (es : Array MapEntry) (clock : Nat) (kt et : TypeId) (ht : P.underlying t = some (.map kt et)) (hk : P.underlying kt = some (.int .i64)) (i : Int) (hb : w.heap[r]? = some (.map es clock)) (z : Value) (hz : (zeroValue et).run P w = .ok z w) (f : Option (Nat × Value))
    (hf : Instr.findNow (.int .i64) (.int .i64 i) es.toList 0 = some f) : (Instr.lookup t (.map (some r)) (.int .i64 i) true).run P w = .ok (lookRes z f) w := by
  have hK : IsKey (.int .i64) (.int .i64 i) := rfl
  cases f <;> simp [lookRes, Instr.lookup, run_underlying ht, Go.MapKept.run_getObj_map hb, Go.MapKept.run_checkKey hk hK, Go.MapKept.run_findKey hk hf, hz, Result.andThen]
theorem look_step {ops : Array Oper} {rest : List Oper} {o : Oper} {a : Act} {w : World} {Q : Exit → Act → World → Prop} (hg : o.guard = none) (t : TypeId) (m x : Operand) (ho : o.op = .lookup t m x true) (M X v : Value) (hm : a.eval m = M) (hx : a.eval x = X)
    (hrun : (Instr.lookup t M X true).run P w = .ok v w) (h : wpList P ops Q rest (a.put o.dst v) w) : wpList P ops Q (o :: rest) a w := by
  refine wk.list_run hg _ rfl v ?_ h
  unfold execOp
  simp [ho, hm, hx, hrun, Result.andThen]
end
def en (k : Int) (f : FuncId) (b : Nat) : MapEntry := { key := .int .i64 k, val := .func (.func f) #[] #[], born := b }
theorem find3 (m : Int) (f1 f2 f3 : FuncId) : Instr.findNow (.int .i64) (.int .i64 m) [en 1 f1 0, en 2 f2 1, en 3 f3 2] 0 = some (if m = 1 then some (0, .func (.func f1) #[] #[]) else if m = 2 then some (1, .func (.func f2) #[] #[]) else if m = 3 then some (2, .func (.func f3) #[] #[]) else none) := by
  by_cases h1 : m = 1
  · subst h1; simp [Instr.findNow, Instr.sameNow, en]
  · by_cases h2 : m = 2
    · subst h2; simp [Instr.findNow, Instr.sameNow, en]
    · by_cases h3 : m = 3
      · subst h3; simp [Instr.findNow, Instr.sameNow, en]
      · have b1 : (m == 1) = false := by simpa using h1
        have b2 : (m == 2) = false := by simpa using h2
        have b3 : (m == 3) = false := by simpa using h3
        simp [Instr.findNow, Instr.sameNow, en, h1, h2, h3, b1, b2, b3]
end Go.Proofs.Ytieipbobijnmlaa.vk
