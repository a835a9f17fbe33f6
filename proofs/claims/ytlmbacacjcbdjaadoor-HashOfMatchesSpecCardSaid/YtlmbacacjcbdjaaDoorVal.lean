/- A region that draws its order and writes only new memory: what each operation yields is said by a table. No program here. -/
import Derived.Test.YtlmbacacjcbdjaaDoorKit8

namespace Go.Proofs.YtlmbacacjcbdjaaDoor.wk

open Go.RowKit

set_option linter.unusedVariables false
/-- what is said of a value: that it is a given one, or something that lasts while only new memory is written -/
inductive SP where
  | is (v : Value)
  | st (p : World → Value → Prop) (h : ∀ w w' v, p w v → Below w.heap.size w w' → p w' v)
namespace SP
def has : SP → World → Value → Prop
  | .is v, _, x => x = v
  | .st p _, w, x => p w x
def bool? : SP → Option Bool
  | .is (.bool b) => some b
  | _ => none
theorem has_below {s : SP} {w w' : World} {v : Value} (h : s.has w v) (hb : Below w.heap.size w w') : s.has w' v := by
  cases s with
  | is x => exact h
  | st p hp => exact hp _ _ _ h hb
def any : SP := .st (fun _ _ => True) (fun _ _ _ _ _ => trivial)
end SP
def dstOf (ops : Array Oper) (i : Nat) : Option Tmp := (ops[i]?).bind (·.dst)
/-- no operation of the region writes this slot -/
def unw (ops : Array Oper) (k : Nat) : Bool := (List.range ops.size).all fun i => dstOf ops i != some k
/-- the slots written are different, and are there -/
def apart (ops : Array Oper) (n : Nat) : Bool :=
  (List.range ops.size).all fun i => match dstOf ops i with
    | none => true
    | some d => decide (d < n) && (List.range i).all fun j => dstOf ops j != some d
def guarded (ops : Array Oper) (R : List SP) : Bool :=
  (List.range ops.size).all fun i => match ops[i]? with
    | none => true
    | some o => match o.guard with
      | none => true
      | some (j, want) => (R.getD j SP.any).bool? == some want && (dstOf ops j).isSome && o.after.any fun e => e.on == j && Region.binds .any e
def setAll (ops : Array Oper) (vals : Nat → Value) : Nat → Array Value → Array Value
  | 0, t => t
  | n + 1, t => match dstOf ops n with
    | none => setAll ops vals n t
    | some d => (setAll ops vals n t).setIfInBounds d (vals n)
/-- an operation comes to an end with a value, and a world in which only new memory was written -/
def Does (P : Program) (Q : Exit → Act → World → Prop) (o : Oper) (E : Operand → Value) (w : World) (R : World → Value → Prop) : Prop :=
  ∀ (a : Act) (K : Act → World → Prop), a.eval = E → (∀ v w', Below w.heap.size w w' → R w' v → K (a.put o.dst v) w') → o.wp P a w K Q
/-- what an operation may rest on -/
structure Due (ops : Array Oper) (R : List SP) (a0 : Act) (o : Oper) (E : Operand → Value) (w : World) : Prop where
  con : ∀ c, E (.const c) = c
  fn : ∀ f, E (.func f) = .func (.func f) #[] #[]
  old : ∀ k, unw ops k = true → E (.tmp k) = a0.eval (.tmp k)
  dep : ∀ e ∈ o.after, Region.binds .any e = true → ∃ v, (R.getD e.on SP.any).has w v ∧ ∀ d, dstOf ops e.on = some d → E (.tmp d) = v
theorem Due.is {ops : Array Oper} {R : List SP} {a0 : Act} {o : Oper} {E : Operand → Value} {w : World} (h : Due ops R a0 o E w) {v : Value} (e : Edge) (he : e ∈ o.after) (hb : Region.binds .any e = true) (hr : R.getD e.on SP.any = .is v) (d : Nat) (hd : dstOf ops e.on = some d) : E (.tmp d) = v := by
  obtain ⟨u, hu, hud⟩ := h.dep e he hb
  rw [hr] at hu
  rw [hud d hd]
  exact hu
theorem Due.st {ops : Array Oper} {R : List SP} {a0 : Act} {o : Oper} {E : Operand → Value} {w : World} (h : Due ops R a0 o E w) {p : World → Value → Prop} {hp} (e : Edge) (he : e ∈ o.after) (hb : Region.binds .any e = true) (hr : R.getD e.on SP.any = .st p hp) (d : Nat) (hd : dstOf ops e.on = some d) : p w (E (.tmp d)) := by
  obtain ⟨u, hu, hud⟩ := h.dep e he hb
  rw [hr] at hu
  rw [hud d hd]
  exact hu
section

variable {P : Program} {ops : Array Oper} {Q : Exit → Act → World → Prop}
structure VInv (ops : Array Oper) (R : List SP) (B : World) (a0 : Act) (L : Nat → Bool) (a : Act) (w : World) : Prop where
  below : Below B.heap.size B w
  defers : a.defers = a0.defers
  size : a.tmps.size = a0.tmps.size
  vals : ∀ i, L i = true → ∃ v, (R.getD i SP.any).has w v ∧ ∀ d, dstOf ops i = some d → a.tmps[d]? = some v
  rest : ∀ k, (∀ i, L i = true → dstOf ops i ≠ some k) → a.tmps[k]? = a0.tmps[k]?
theorem getD_of {a : Array Value} {k : Nat} {v : Value} (h : a[k]? = some v) : a.getD k undef = v := by
  rw [Array.getD_eq_getD_getElem?, h]; rfl
theorem apart_ne {n : Nat} (h : apart ops n = true) {i j d : Nat} (hi : i < ops.size) (hj : j < ops.size) (h1 : dstOf ops i = some d) (h2 : dstOf ops j = some d) : i = j := by
  have key : ∀ i j, i < ops.size → j < i → dstOf ops i = some d → dstOf ops j = some d → False := fun i j hi hj h1 h2 => by
    have := List.all_eq_true.1 h i (List.mem_range.2 hi)
    rw [h1] at this
    simp only [Bool.and_eq_true] at this
    have := List.all_eq_true.1 this.2 j (List.mem_range.2 hj)
    rw [h2] at this
    simp at this
  rcases Nat.lt_trichotomy i j with hlt | he | hgt
  · exact (key j i hj hlt h2 h1).elim
  · exact he
  · exact (key i j hi hgt h1 h2).elim
theorem apart_lt {n : Nat} (h : apart ops n = true) {i d : Nat} (hi : i < ops.size) (h1 : dstOf ops i = some d) : d < n := by
  have := List.all_eq_true.1 h i (List.mem_range.2 hi)
  rw [h1] at this
  simp only [Bool.and_eq_true, decide_eq_true_eq] at this
  exact this.1
theorem dst_lt {i d : Nat} (h : dstOf ops i = some d) : i < ops.size := by
  unfold dstOf at h
  rcases Nat.lt_or_ge i ops.size with hl | hl
  · exact hl
  · rw [Array.getElem?_eq_none hl] at h; cases h
theorem setAll_size (vals : Nat → Value) : ∀ n t, (setAll ops vals n t).size = t.size
  | 0, t => rfl
  | n + 1, t => by
    unfold setAll
    split
    · exact setAll_size vals n t
    · rw [Array.size_setIfInBounds]; exact setAll_size vals n t
theorem setAll_get (vals : Nat → Value) {N : Nat} (ha : apart ops N = true) (k : Nat) : ∀ n t, n ≤ ops.size → t.size = N →
    ((∀ i, i < n → dstOf ops i ≠ some k) → (setAll ops vals n t)[k]? = t[k]?) ∧ (∀ i, i < n → dstOf ops i = some k → (setAll ops vals n t)[k]? = some (vals i))
  | 0, t, _, _ => ⟨fun _ => rfl, fun i h => absurd h (Nat.not_lt_zero _)⟩
  | n + 1, t, hn, hN => by
    have ih := setAll_get vals ha k n t (by omega) hN
    have hs := setAll_size (ops := ops) vals n t
    unfold setAll
    cases hd : dstOf ops n with
    | none =>
      refine ⟨fun h => ih.1 fun i hi => h i (by omega), fun i hi hik => ?_⟩
      rcases Nat.lt_or_ge i n with hl | hl
      · exact ih.2 i hl hik
      · have : i = n := by omega
        subst this; rw [hd] at hik; cases hik
    | some d =>
      simp only
      rw [Array.getElem?_setIfInBounds]
      refine ⟨fun h => ?_, fun i hi hik => ?_⟩
      · have hne : d ≠ k := fun e => h n (by omega) (by rw [hd, e])
        rw [if_neg hne]
        exact ih.1 fun i hi => h i (by omega)
      · rcases Nat.lt_or_ge i n with hl | hl
        · have hne : d ≠ k := fun e => by
            have := apart_ne ha (i := i) (j := n) (d := k) (by omega) (by omega) hik (by rw [hd, e])
            omega
          rw [if_neg hne]
          exact ih.2 i hl hik
        · have e : i = n := by omega
          subst e
          rw [hd] at hik
          cases hik
          have := apart_lt ha (i := i) (by omega) hd
          rw [if_pos rfl, if_pos (by omega)]
def setL : List (Option Tmp) → (Nat → Value) → Nat → Array Value → Array Value
  | [], _, _, t => t
  | none :: r, v, i, t => setL r v (i + 1) t
  | some d :: r, v, i, t => setL r v (i + 1) (t.setIfInBounds d (v i))
theorem setL_snoc (v : Nat → Value) (x : Option Tmp) : ∀ (l : List (Option Tmp)) (i : Nat) (t : Array Value), setL (l ++ [x]) v i t = match x with | none => setL l v i t | some d => (setL l v i t).setIfInBounds d (v (i + l.length))
  | [], i, t => by cases x <;> rfl
  | none :: r, i, t => by
    show setL (r ++ [x]) v (i + 1) t = _
    rw [setL_snoc v x r, show i + 1 + r.length = i + (none :: r).length from by simp only [List.length_cons]; omega]
    rfl
  | some d :: r, i, t => by
    show setL (r ++ [x]) v (i + 1) _ = _
    rw [setL_snoc v x r, show i + 1 + r.length = i + (some d :: r).length from by simp only [List.length_cons]; omega]
    rfl
theorem setAll_eq (vals : Nat → Value) : ∀ n t, setAll ops vals n t = setL ((List.range n).map (dstOf ops)) vals 0 t
  | 0, t => rfl
  | n + 1, t => by
    rw [List.range_succ, List.map_append, List.map_cons, List.map_nil, setL_snoc, ← setAll_eq vals n t, List.length_map, List.length_range, Nat.zero_add]
    rw [setAll]
/-- the rule: one obligation an operation, then the end at a frame that is said outright -/
theorem region_val {id : Nat} {a0 : Act} {w0 : World} (R : List SP) (ds : List (Option Tmp)) (hm : P.follows .mixedOrders = true) (hord : ordered ops = true) (hap : apart ops a0.tmps.size = true) (hg : guarded ops R = true) (hds : (List.range ops.size).map (dstOf ops) = ds)
    (hstep : ∀ i o, ops[i]? = some o → ∀ E w, Below w0.drew.heap.size w0.drew w → Due ops R a0 o E w → Does P Q o E w (R.getD i SP.any).has)
    (hdone : ∀ (vals : Nat → Value) w, Below w0.drew.heap.size w0.drew w → (∀ i, i < ops.size → (R.getD i SP.any).has w (vals i)) → Q .normal { a0 with tmps := setL ds vals 0 a0.tmps } w) : (Code.region id ops true).wp P Q a0 w0 := by
  refine region_inv (fun a0 B L a w => VInv ops R B a0 L a w) hm hord ⟨Below.refl _ _, rfl, rfl, fun i h => (Bool.noConfusion h), fun k _ => rfl⟩ ?_ ?_
  · intro L a w hI i o ho hLi hdep
    have hio : i < ops.size := (Array.getElem?_eq_some_iff.1 ho).1
    have hdv : ∀ e ∈ o.after, Region.binds .any e = true → ∃ v, (R.getD e.on SP.any).has w v ∧ ∀ d, dstOf ops e.on = some d → a.tmps[d]? = some v := fun e he hb => hI.vals e.on (hdep e he hb)
    have hw : Region.wanted o (yielded ops a.tmps) = true := by
      have h1 := List.all_eq_true.1 hg i (List.mem_range.2 hio)
      simp only [ho] at h1
      unfold Region.wanted
      cases hgd : o.guard with
      | none => rfl
      | some x =>
        obtain ⟨j, want⟩ := x
        simp only [hgd, Bool.and_eq_true, beq_iff_eq] at h1
        obtain ⟨⟨h1, hsm⟩, h2⟩ := h1
        obtain ⟨ix, hix, h3⟩ := Array.any_eq_true.1 h2
        obtain ⟨e, rfl⟩ : ∃ e, e = o.after[ix] := ⟨_, rfl⟩
        have he : o.after[ix] ∈ o.after := Array.getElem_mem hix
        generalize o.after[ix] = e at *
        simp only [Bool.and_eq_true, beq_iff_eq] at h3
        obtain ⟨h3, h4⟩ := h3
        obtain ⟨v, hv, hd⟩ := hdv e he h4
        rw [h3] at hv hd
        have hvb : v = .bool want := by
          cases hr : R.getD j SP.any with
          | is x =>
            rw [hr] at h1 hv
            cases x <;> simp only [SP.bool?, reduceCtorEq, Option.some.injEq] at h1
            rw [h1] at hv
            exact hv
          | st p hp => rw [hr] at h1; simp [SP.bool?] at h1
        obtain ⟨d, hdj⟩ := Option.isSome_iff_exists.1 hsm
        have hy : yielded ops a.tmps j = some want := by
          unfold yielded
          have e1 : (ops[j]?).bind (·.dst) = some d := hdj
          rw [e1]
          simp only [Option.bind_some, hd d hdj, hvb]
        simp only [hy, beq_self_eq_true]
    refine wpOp_step ho fun K' hK => ?_
    rw [if_pos hw]
    refine hstep i o ho a.eval w hI.below ⟨fun _ => rfl, fun _ => rfl, fun k hk => ?_, fun e he hb => ?_⟩ a K' rfl fun v w' hb hR => ?_
    · show a.tmps.getD k undef = a0.tmps.getD k undef
      rw [Array.getD_eq_getD_getElem?, Array.getD_eq_getD_getElem?, hI.rest k fun j hj h => ?_]
      have := List.all_eq_true.1 hk j (List.mem_range.2 (dst_lt h))
      rw [h] at this
      simp at this
    · obtain ⟨v, hv, hd⟩ := hdv e he hb
      exact ⟨v, hv, fun d hdd => getD_of (hd d hdd)⟩
    · have hB := hI.below.trans (hb.mono hI.below.size)
      have hdo : dstOf ops i = o.dst := by unfold dstOf; rw [ho]; rfl
      refine hK _ _ ⟨hB, ?_, ?_, fun j hj => ?_, fun k hk => ?_⟩
      · cases hd : o.dst <;> exact hI.defers
      · cases hd : o.dst <;> simp only [Act.put, Array.size_setIfInBounds] <;> exact hI.size
      · by_cases hji : j = i
        · subst hji
          refine ⟨v, hR, fun d hd => ?_⟩
          rw [hdo] at hd
          have hlt := apart_lt hap hio (by rw [hdo]; exact hd)
          rw [hd]
          show (a.tmps.setIfInBounds d v)[d]? = some v
          rw [Array.getElem?_setIfInBounds, if_pos rfl, if_pos (by rw [hI.size]; exact hlt)]
        · rw [if_neg hji] at hj
          obtain ⟨u, hu, hud⟩ := hI.vals j hj
          refine ⟨u, SP.has_below hu hb, fun d hd => ?_⟩
          cases hod : o.dst with
          | none => exact hud d hd
          | some d' =>
            have hne : d' ≠ d := fun e => hji (apart_ne hap (dst_lt hd) hio hd (by rw [hdo, hod, e]))
            show (a.tmps.setIfInBounds d' v)[d]? = some u
            rw [Array.getElem?_setIfInBounds, if_neg hne]
            exact hud d hd
      · have hk' : ∀ j, L j = true → dstOf ops j ≠ some k := fun j hj => hk j (by by_cases h : j = i <;> simp [h, hj])
        have hki : o.dst ≠ some k := by rw [← hdo]; exact hk i (by simp)
        cases hod : o.dst with
        | none => exact hI.rest k hk'
        | some d' =>
          have hne : d' ≠ k := fun e => hki (by rw [hod, e])
          show (a.tmps.setIfInBounds d' v)[k]? = _
          rw [Array.getElem?_setIfInBounds, if_neg hne]
          exact hI.rest k hk'
  · intro L a w hall hI
    have hv : ∀ i, ∃ v, i < ops.size → (R.getD i SP.any).has w v ∧ ∀ d, dstOf ops i = some d → a.tmps[d]? = some v := fun i => by
      by_cases hi : i < ops.size
      · obtain ⟨v, h⟩ := hI.vals i (hall i hi); exact ⟨v, fun _ => h⟩
      · exact ⟨undef, fun h => absurd h hi⟩
    obtain ⟨vals, hvals⟩ := Classical.axiomOfChoice hv
    have ha : a = { a0 with tmps := setAll ops vals ops.size a0.tmps } := by
      obtain ⟨tm, df⟩ := a
      have h1 : df = a0.defers := hI.defers
      have h2 : tm = setAll ops vals ops.size a0.tmps := by
        refine Array.ext_getElem? fun k => ?_
        have hset := setAll_get vals hap k ops.size a0.tmps (Nat.le_refl _) rfl
        by_cases hk : ∃ i, dstOf ops i = some k
        · obtain ⟨i, hi⟩ := hk
          rw [hset.2 i (dst_lt hi) hi]
          exact (hvals i (dst_lt hi)).2 k hi
        · rw [hset.1 fun i _ h => hk ⟨i, h⟩]
          exact hI.rest k fun i _ h => hk ⟨i, h⟩
      rw [h1, h2]
    rw [ha, setAll_eq, hds]
    exact hdone vals w hI.below fun i hi => (hvals i hi).1
end

section

variable {P : Program} {Q : Exit → Act → World → Prop} {o : Oper} {E : Operand → Value} {w : World} {R : World → Value → Prop}
theorem does_run {v : Value} (hrun : (execOp E o).run P w = .ok (.value v) w) (hR : R w v) : Does P Q o E w R := fun a K hE hK => by
  unfold Oper.wp
  rw [hE, hrun, Oper.upon_value]
  exact hK v w (Below.refl _ _) hR
theorem does_new {v : Value} {w' : World} (hrun : (execOp E o).run P w = .ok (.value v) w') (hb : Below w.heap.size w w') (hR : R w' v) : Does P Q o E w R := fun a K hE hK => by
  unfold Oper.wp
  rw [hE, hrun, Oper.upon_value]
  exact hK v w' hb hR
theorem does_move {x : Operand} (ho : o.op = .move x) (hR : R w (E x)) : Does P Q o E w R :=
  does_run (v := E x) (by unfold execOp; simp only [ho, Sem.run_pure]) hR
theorem does_assign {x : Operand} (ho : o.op = .assign x) (hR : R w (E x)) : Does P Q o E w R :=
  does_run (v := E x) (by unfold execOp; simp only [ho, Sem.run_pure]) hR
theorem does_pick {c x y : Operand} {b : Bool} (ho : o.op = .pick c x y) (hc : E c = .bool b) (hR : R w (if b then E x else E y)) : Does P Q o E w R :=
  does_run (v := if b then E x else E y) (by unfold execOp; simp only [ho, hc, asBool, Sem.run_bind, Sem.run_pure, Result.andThen_ok]) hR
theorem does_extract {x : Operand} {vs : Array Value} {i : Nat} {v : Value} (ho : o.op = .extract x i) (hx : E x = .tuple vs) (hv : vs[i]? = some v) (hR : R w v) : Does P Q o E w R :=
  does_run (v := v) (by unfold execOp; simp only [ho, hx, Instr.extract, hv, Sem.run_bind, Sem.run_pure, Result.andThen_ok]) hR
theorem does_load_row {ty : TypeId} {x : Operand} (ho : o.op = .load ty x) {g : Nat} (hx : E x = .pointer (some ⟨g, 0, none⟩)) {t : TypeId} {cs : Array Value} {fr : Nat × Nat} {d : TypeDesc} (hg : w.heap[g]? = some (.cells cs t fr))
    (hu : P.underlying ty = some d) (hd : (match d with | .struct _ | .array _ _ => true | _ => false) = true) (hi : (P.info? ty).map (·.size) = some cs.size) (hR : R w (.agg cs)) : Does P Q o E w R :=
  fun a K hE hK => wp_load_row ty x ho g (by rw [hE]; exact hx) t cs fr d hg hu hd hi (hK _ _ (Below.refl _ _) hR)
theorem does_bin {op : BinOp} {xt t : TypeId} {x y : Operand} {v : Value} (ho : o.op = .binOp op xt x y t) (hrun : (do eqGuard op xt x y (E x) (E y); binOp op xt (E x) (E y) : Sem Value).run P w = .ok v w) (hR : R w v) : Does P Q o E w R :=
  does_run (v := v) (by unfold execOp; simp only [ho]; rw [Sem.run_bind, hrun]; rfl) hR
theorem does_un {op : UnOp} {t : TypeId} {x : Operand} {v : Value} (ho : o.op = .unOp op t x) (hrun : (Op.unary op (E x)).run P w = .ok v w) (hR : R w v) : Does P Q o E w R :=
  does_run (v := v) (by unfold execOp; simp only [ho]; rw [Sem.run_bind, hrun]; rfl) hR
theorem does_call {f : FuncId} {vs : Array Value} (hrun : (execOp E o).run P w = .ok (.enter f vs) w) (hc : Calls P f vs w fun e w' => ∃ v, e = .returned v ∧ Below w.heap.size w w' ∧ R w' v) : Does P Q o E w R := fun a K hE hK => by
  unfold Oper.wp
  rw [hE, hrun, Oper.upon_enter]
  refine hc.mono fun e w' hh => ?_
  obtain ⟨v, rfl, hb, hR⟩ := hh
  exact hK v w' hb hR
/-- a call of a function that is named, or held by a value with what it has captured -/
theorem does_fn {x : Operand} {args : Array Operand} {ts : Array TypeId} {f : FuncId} {cap vs : Array Value} (ho : o.op = .call { callee := .value x, args := args, argTypes := ts }) (hx : E x = .func (.func f) #[] cap)
    (ha : args.map E ++ cap = vs) (hf : (callFunc f vs).run P w = .ok (.enter f vs) w) (hc : Calls P f vs w fun e w' => ∃ v, e = .returned v ∧ Below w.heap.size w w' ∧ R w' v) : Does P Q o E w R := by
  refine does_call (f := f) (vs := vs) ?_ hc
  unfold execOp
  simp only [ho, resolve, hx, Deferred.ofValue, Sem.run_bind, Sem.run_pure, Result.andThen_ok, invoke, Array.empty_append, ha, hf]
theorem run_eqGuard_agg {t : TypeId} {x y : Operand} {xs ys : Array Value} (hg : P.eqGuardType P.depth t = false) : (eqGuard .eql t x y (.agg xs) (.agg ys)).run P w = .ok () w := by
  simp [eqGuard, program, Sem.run, hg]
/-- two arrays compared -/
theorem does_eq_arr {t t2 : TypeId} {x y : Operand} {xs ys : Array Value} {b : Bool} (ho : o.op = .binOp .eql t x y t2) (hx : E x = .agg xs) (hy : E y = .agg ys) (hg : P.eqGuardType P.depth t = false)
    (hrun : (Op.equal t (.agg xs) (.agg ys)).run P w = .ok b w) (hR : R w (.bool b)) : Does P Q o E w R :=
  does_bin ho (by rw [hx, hy, Sem.run_bind, run_eqGuard_agg hg, Result.andThen_ok]; simp only [binOp, Sem.run_bind, hrun, Result.andThen_ok, Sem.run_pure]) hR
end

end Go.Proofs.YtlmbacacjcbdjaaDoor.wk
