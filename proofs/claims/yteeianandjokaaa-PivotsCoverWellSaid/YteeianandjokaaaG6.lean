/- Joined: Rf Bb Qn Qo Qp Qy Ub. -/
import Derived.Test.YteeianandjokaaaG5

import Derived.RangeFuncNested

import Derived.RangeFuncBound

import Derived.RangeFuncCalls

import Derived.RangeFuncLeaves

import Derived.OrdersIn

import Derived.TacticsIn

import Derived.Lib.MinMax

import Derived.Laws.AppendOwn
/- A range over a function: a round's regions walked by the plain laws; the law of the statement at the wide fence. No program here. -/
namespace Go.Proofs.Yteeianandjokaaa.wk

open Go.RowKit

set_option linter.unusedVariables false

section

variable {P : Program} {ops : Array Oper} {Q : Exit → Act → World → Prop}
def isDefer (o : Oper) : Bool := match o.op with | .defer _ => true | _ => false
def noDefer (ops : Array Oper) : Bool := ops.all fun o => !isDefer o
theorem noDefer_at {i : Nat} {o : Oper} (h : noDefer ops = true) (ho : ops[i]? = some o) : ∀ c, o.op ≠ .defer c := by
  intro c hc
  have h1 := Array.all_eq_true_iff_forall_mem.1 h o (Array.mem_of_getElem? ho)
  simp [isDefer, hc] at h1
theorem rows_in {n : Nat} {row : String} {args : Array Value} {w : World} {R : Value → World → Prop} (l : Nat) (h : Rows P row args w R) : RowsIn (Fence.wide.inRound l) n P row args w R :=
  fun c cs _ => let ⟨v, w', r, s⟩ := h c cs; ⟨v, w', r, stepsIn_wide.2 s⟩
theorem calls_in {n : Nat} {f : FuncId} {args : Array Value} {w : World} {R : Ending → World → Prop} (l : Nat) (h : Calls P f args w R) : CallsIn (Fence.wide.inRound l) n P f args w R := CallsIn.inRound l (callsIn_wide.2 h)
theorem oper_in {o : Oper} {a : Act} {w : World} {K : Act → World → Prop} {n : Nat} (l : Nat) (hd : ∀ c, o.op ≠ .defer c) (h : o.wp P a w K Q) : o.wpIn (Fence.wide.inRound l) n P a w K Q := by
  refine ⟨fun f _ => trivial, ?_⟩
  rw [Oper.semAt_eq _ _ _ hd]
  unfold Oper.wp at h
  generalize (execOp a.eval o).run P w = r at h
  cases r with
  | ok x w' =>
    cases x with
    | value v => exact h
    | skip => exact h
    | defer d => exact h
    | enter f args => exact ⟨(fun hh => by cases hh), calls_in l h⟩
    | row row args => exact ⟨(fun hh => by cases hh), rows_in l h⟩
    | _ => exact h.elim
  | halt hlt w' =>
    cases hlt with
    | panic v => exact h
    | _ => exact h.elim
theorem op_in {i : Nat} {a : Act} {w : World} {K : Act → World → Prop} {n : Nat} (l : Nat) (hd : noDefer ops = true) (hq : ¬ LetsOut Q) (h : wpOp P ops Q i K a w) : wpOpIn (Fence.wide.inRound l) n P ops Q i K a w := by
  unfold wpOp at h
  unfold wpOpIn
  cases ho : ops[i]? with
  | none => rw [ho] at h; exact h
  | some o =>
    simp only [ho] at h ⊢
    by_cases hw : Region.wanted o (yielded ops a.tmps) = true
    · simp only [hw, if_true] at h ⊢
      rcases h with h | ⟨_, h⟩
      · exact oper_in l (noDefer_at hd ho) h
      · exact absurd h hq
    · simp only [hw, if_false, Bool.false_eq_true] at h ⊢
      exact ⟨fun f _ => trivial, h⟩
theorem any_in {md : Region.Mode} {n : Nat} (l : Nat) (hd : noDefer ops = true) (hq : ¬ LetsOut Q) : ∀ (fuel : Nat) (listed : Array Bool) (a : Act) (w : World), wpAny P md ops Q fuel listed a w → wpAnyIn (Fence.wide.inRound l) n P md ops Q fuel listed a w
  | 0, _, _, _, h => h
  | fuel + 1, listed, a, w, h => ⟨h.1, fun i hi => wpOpIn_mono (fun a w => any_in l hd hq fuel _ a w) (op_in l hd hq (h.2 i hi))⟩
theorem list_in {n : Nat} (l : Nat) (hd : noDefer ops = true) (hq : ¬ LetsOut Q) : ∀ (L : List Oper) (k : Nat) (a : Act) (w : World), (∀ j o, L[j]? = some o → ops[k + j]? = some o) → wpList P ops Q L a w → wpListIn (Fence.wide.inRound l) n P ops Q L a w
  | [], _, _, _, _, h => h
  | o :: L, k, a, w, hL, h => by
    have ho : ops[k]? = some o := hL 0 o rfl
    simp only [wpList] at h
    simp only [wpListIn]
    have hL' : ∀ j o, L[j]? = some o → ops[k + 1 + j]? = some o := fun j o hj => by rw [show k + 1 + j = k + (j + 1) by omega]; exact hL (j + 1) o hj
    by_cases hw : Region.wanted o (yielded ops a.tmps) = true
    · simp only [hw, if_true] at h ⊢
      rcases h with h | ⟨_, h⟩
      · exact oper_in l (noDefer_at hd ho) (Oper.wp_mono (fun a w h => list_in l hd hq L (k + 1) a w hL' h) h)
      · exact absurd h hq
    · simp only [hw, if_false, Bool.false_eq_true] at h ⊢
      exact ⟨fun f _ => trivial, list_in l hd hq L (k + 1) _ w hL' h⟩
/-- a region that draws, in a round -/
theorem region_in {id n : Nat} {a : Act} {w : World} (l : Nat) (hm : P.follows .mixedOrders = true) (hd : noDefer ops = true) (hq : ¬ LetsOut Q)
    (h : wpAny P .any ops Q ops.size (Array.replicate ops.size false) a { w with drawn := w.drawn + 1 }) : (Code.region id ops true).wpIn (Fence.wide.inRound l) n P Q a w :=
  wpIn_region_any hm (any_in l hd hq _ _ _ _ h)
theorem region_invB_in {id n : Nat} {a0 : Act} {w0 : World} (l : Nat) (hd : noDefer ops = true) (hq : ¬ LetsOut Q) (I : Act → World → (Nat → Bool) → Act → World → Prop) (hm : P.follows .mixedOrders = true) (hord : orderedB .any ops = true)
    (h0 : I a0 w0.drew (fun _ => false) a0 w0.drew)
    (hstep : ∀ L a w, I a0 w0.drew L a w → ∀ i o, ops[i]? = some o → L i = false → (∀ e ∈ o.after, Region.binds .any e = true → L e.on = true) → wpOp P ops Q i (fun a' w' => I a0 w0.drew (fun j => if j = i then true else L j) a' w') a w)
    (hdone : ∀ L a w, (∀ i, i < ops.size → L i = true) → I a0 w0.drew L a w → Q .normal a w) : (Code.region id ops true).wpIn (Fence.wide.inRound l) n P Q a0 w0 :=
  region_in l hm hd hq (any_invB (I a0 w0.drew) hord hstep hdone _ _ a0 w0.drew (by simp) (Nat.le_trans (List.length_filter_le _ _) (by simp)) (by
    have e : done (Array.replicate ops.size false) = fun _ => false := funext fun j => by
      unfold done
      rw [Array.getD_eq_getD_getElem?, Array.getElem?_replicate]
      split <;> rfl
    rw [e]
    exact h0))
theorem region_tailS_in {id n : Nat} {a0 : Act} {w0 : World} (l : Nat) (hnd : noDefer ops = true) (hq : ¬ LetsOut Q) (k : Nat) (R : List SP) (ds : List (Option Tmp)) (hm : P.follows .mixedOrders = true) (hord : orderedB .any ops = true) (hap : apart ops a0.tmps.size = true) (hg : guardedS ops R k = true) (sk : List Nat) (hskl : skipped ops R k = sk) (hsk0 : ∀ p ∈ sk, R.getD p SP.any = .is undef) (hds : (List.range k).map (dstOf ops) = ds) (htl : tailed ops k = true)
    (hstep : ∀ i o, ops[i]? = some o → i < k → skips ops R i = false → ∀ E w, Below w0.drew.heap.size w0.drew w → Due ops R a0 o E w → Does P Q o E w (R.getD i SP.any).has)
    (hdone : ∀ (vals : Nat → Value) w, Below w0.drew.heap.size w0.drew w → (∀ i, i < k → (R.getD i SP.any).has w (vals i)) → wpList P ops Q (ops.toList.drop k) { a0 with tmps := setL ds vals 0 a0.tmps } w) : (Code.region id ops true).wpIn (Fence.wide.inRound l) n P Q a0 w0 := by
  have hsk := skip_of hskl hsk0
  unfold tailed at htl
  simp only [Bool.and_eq_true, decide_eq_true_eq] at htl
  obtain ⟨⟨hkn, hcov⟩, hch⟩ := htl
  have hchain : ∀ i, k ≤ i → i + 1 < ops.size → waitsFor ops (i + 1) i = true := fun i h1 h2 => by
    have := List.all_eq_true.1 hch i (List.mem_range.2 (by omega))
    simp only [Bool.or_eq_true, decide_eq_true_eq] at this
    rcases this with (h | h) | h
    · omega
    · omega
    · exact h
  have hcover : ∀ j, j < k → k < ops.size → ∃ i, j < i ∧ i ≤ k ∧ waitsFor ops i j = true := fun j h1 h2 => by
    have := List.all_eq_true.1 hcov j (List.mem_range.2 h1)
    simp only [Bool.or_eq_true, beq_iff_eq] at this
    rcases this with h | h
    · omega
    · obtain ⟨i, hi, h⟩ := List.any_eq_true.1 h
      simp only [Bool.and_eq_true, decide_eq_true_eq] at h
      exact ⟨i, h.1, by have := List.mem_range.1 hi; omega, h.2⟩
  have hfin : ∀ L a w, VInv ops R w0.drew a0 L a w → (∀ j, j < k → L j = true) → (∀ j, k ≤ j → L j = false) → wpList P ops Q (ops.toList.drop k) a w := fun L a w hI hall hno => by
    have hv : ∀ i, ∃ v, i < k → (R.getD i SP.any).has w v ∧ ∀ d, dstOf ops i = some d → a.tmps[d]? = some v := fun i => by
      by_cases hi : i < k
      · obtain ⟨v, h⟩ := hI.vals i (hall i hi); exact ⟨v, fun _ => h⟩
      · exact ⟨undef, fun h => absurd h hi⟩
    obtain ⟨vals, hvals⟩ := Classical.axiomOfChoice hv
    have ha : a = { a0 with tmps := setAll ops vals k a0.tmps } := by
      obtain ⟨tm, df⟩ := a
      have h1 : df = a0.defers := hI.defers
      have h2 : tm = setAll ops vals k a0.tmps := by
        refine Array.ext_getElem? fun s => ?_
        have hset := setAll_get vals hap s k a0.tmps hkn rfl
        by_cases hk : ∃ i, i < k ∧ dstOf ops i = some s
        · obtain ⟨i, hik, hi⟩ := hk
          rw [hset.2 i hik hi]
          exact (hvals i hik).2 s hi
        · rw [hset.1 fun i hi h => hk ⟨i, hi, h⟩]
          refine hI.rest s fun i hi h => ?_
          rcases Nat.lt_or_ge i k with hl | hl
          · exact hk ⟨i, hl, h⟩
          · rw [hno i hl] at hi; cases hi
      rw [h1, h2]
    rw [ha, setAll_eq, hds]
    exact hdone vals w hI.below fun i hi => (hvals i hi).1
  refine region_invB_in l hnd hq (fun a0 B L a w => (VInv ops R B a0 L a w ∧ (∀ i, k ≤ i → L i = false) ∧ Closed ops L) ∨ ∃ m, k ≤ m ∧ m ≤ ops.size ∧ (∀ i, L i = decide (i < m)) ∧ wpList P ops Q (ops.toList.drop m) a w) hm hord
    (Or.inl ⟨⟨Below.refl _ _, rfl, rfl, fun i h => (Bool.noConfusion h), fun k _ => rfl⟩, fun _ _ => rfl, fun i o _ h => (Bool.noConfusion h)⟩) ?_ ?_
  · intro L a w hI i o ho hLi hdep
    have hio : i < ops.size := (Array.getElem?_eq_some_iff.1 ho).1
    rcases hI with ⟨hI, hno, hcl⟩ | ⟨m, hm1, hm2, hL, hwp⟩
    · by_cases hik : i < k
      · refine wpOp_mono (fun a' w' h => Or.inl ?_) (vinv_stepS R hap hg hsk hik hI ho hLi hdep (hstep i o ho hik))
        refine ⟨h, fun j hj => ?_, fun j o' ho' hj e he hb => ?_⟩
        · have hji : j ≠ i := by omega
          simp only [hji, if_false]
          exact hno j hj
        · by_cases hji : j = i
          · subst hji
            rw [ho] at ho'; cases ho'
            by_cases h2 : e.on = j
            · simp [h2]
            · simp only [h2, if_false]; exact hdep e he hb
          · simp only [hji, if_false] at hj
            by_cases h2 : e.on = i
            · simp [h2]
            · simp only [h2, if_false]; exact hcl j o' ho' hj e he hb
      · have hik' : i = k := by
          rcases Nat.lt_or_ge k i with h | h
          · have := waits_done (L := L) (hchain (i - 1) (by omega) (by omega)) (by rw [show i - 1 + 1 = i by omega]; exact ho) hdep
            rw [hno (i - 1) (by omega)] at this; cases this
          · omega
        subst hik'
        have hall : ∀ d j, i - j ≤ d → j < i → L j = true := by
          intro d
          induction d with
          | zero => intro j h1 h2; omega
          | succ d ih =>
            intro j h1 h2
            obtain ⟨q, hq1, hq2, hq3⟩ := hcover j h2 hio
            by_cases hqi : q = i
            · subst hqi; exact waits_done hq3 ho hdep
            · have hq : L q = true := ih q (by omega) (by omega)
              have hqo : ops[q]? = some ops[q] := Array.getElem?_eq_getElem (by omega)
              exact waits_done hq3 hqo (hcl q _ hqo hq)
        refine wpOp_mono (fun a' w' h => Or.inr ⟨i + 1, by omega, by omega, fun j => ?_, h⟩) (wpList_to_op ho (hfin L a w hI (fun j hj => hall _ j (Nat.le_refl _) hj) hno))
        by_cases hji : j = i
        · subst hji; simp
        · simp only [hji, if_false]
          rcases Nat.lt_or_ge j i with h1 | h1
          · rw [hall _ j (Nat.le_refl _) h1]; simp; omega
          · rw [hno j h1]; simp; omega
    · have him : i = m := by
        have h1 : ¬ i < m := fun h => by rw [hL i] at hLi; simp [h] at hLi
        rcases Nat.lt_or_ge m i with h | h
        · have := waits_done (L := L) (hchain (i - 1) (by omega) (by omega)) (by rw [show i - 1 + 1 = i by omega]; exact ho) hdep
          rw [hL (i - 1)] at this
          simp at this; omega
        · omega
      subst him
      refine wpOp_mono (fun a' w' h => Or.inr ⟨i + 1, by omega, by omega, fun j => ?_, h⟩) (wpList_to_op ho hwp)
      by_cases hji : j = i
      · subst hji; simp
      · simp only [hji, if_false]
        rw [hL j]
        rcases Nat.lt_or_ge j i with h1 | h1
        · simp [h1]; omega
        · simp; omega
  · intro L a w hall hI
    rcases hI with ⟨hI, hno, hcl⟩ | ⟨m, hm1, hm2, hL, hwp⟩
    · have hk : k = ops.size := by
        rcases Nat.lt_or_ge k ops.size with h | h
        · have := hall k h; rw [hno k (Nat.le_refl _)] at this; cases this
        · omega
      have := hfin L a w hI (fun j hj => hall j (by omega)) hno
      rw [hk, ← Array.length_toList, List.drop_length] at this
      exact this
    · have hk : m = ops.size := by
        rcases Nat.lt_or_ge m ops.size with h | h
        · have := hall m h; rw [hL m] at this; simp at this
        · omega
      rw [hk, ← Array.length_toList, List.drop_length] at hwp
      exact hwp
end
/-- whatever lay below B lies as it lay, but for the blocks M -/
structure Exc (M : List Nat) (B : Nat) (w w' : World) : Prop where
  os : w'.os = w.os
  tape : w'.tape = w.tape
  output : w'.output = w.output
  size : w.heap.size ≤ w'.heap.size
  block : ∀ k, k < B → k ∉ M → w'.heap[k]? = w.heap[k]?
theorem Exc.refl (M : List Nat) (B : Nat) (w : World) : Exc M B w w := ⟨rfl, rfl, rfl, Nat.le_refl _, fun _ _ _ => rfl⟩
theorem Exc.trans {M : List Nat} {B : Nat} {a b c : World} (h : Exc M B a b) (k : Exc M B b c) : Exc M B a c :=
  ⟨k.os.trans h.os, k.tape.trans h.tape, k.output.trans h.output, Nat.le_trans h.size k.size, fun i hi hm => (k.block i hi hm).trans (h.block i hi hm)⟩
theorem Exc.of_below {M : List Nat} {B : Nat} {a b : World} (h : Below B a b) : Exc M B a b := ⟨h.os, h.tape, h.output, h.size, fun i hi _ => h.block i hi⟩
theorem Exc.below {M : List Nat} {B n : Nat} {a b : World} (h : Exc M B a b) (hn : n ≤ B) (hM : ∀ m ∈ M, n ≤ m) : Below n a b :=
  ⟨h.os, h.tape, h.output, h.size, fun i hi => h.block i (by omega) (fun hm => by have := hM i hm; omega)⟩
theorem Exc.put {M : List Nat} {B : Nat} {W : World} {l : Nat} (o : Obj) (h : B ≤ l) : Exc M B W (W.putObj l o) :=
  ⟨rfl, rfl, rfl, by simp, fun k hk _ => World.putObj_heap_other (by omega)⟩
theorem Exc.own {β : Type} {M : List Nat} {B : Nat} {w : World} (hB : B ≤ w.heap.size) : OwnFrom B (fun (_ : β) W => Exc M B w W) := by
  intro s W W' row hs hg hr
  refine hs.trans ⟨hg.os, hg.tape, hg.output, hg.size, fun k hk _ => hg.block k ?_ ?_⟩
  · have := hs.size; omega
  · intro e; have := (hr k e.symm).1; omega
theorem Exc.setCell {M : List Nat} {B : Nat} {W : World} {p : Addr} (v : Value) (h : p.block ∈ M ∨ B ≤ p.block) : Exc M B W (W.setCell p v) := by
  refine ⟨rfl, rfl, rfl, by simp, fun k hk hm => Below.heap_setCell _ _ _ _ fun e => ?_⟩
  subst e
  rcases h with h | h
  · exact hm h
  · omega
/-- a fact on blocks below B that are cells, or lie in M -/
theorem own_block {β : Type} {B m : Nat} {o : β → Option Obj} (hm : m < B) (hB : ∀ W : World, True) : OwnFrom B (fun s W => W.heap[m]? = o s ∧ m < W.heap.size) := by
  intro s W W' row hs hg hr
  have h : W'.heap[m]? = W.heap[m]? := hg.block m hs.2 (fun e => by have := (hr m e.symm).1; omega)
  exact ⟨h.trans hs.1, Nat.lt_of_lt_of_le hs.2 hg.size⟩
end Go.Proofs.Yteeianandjokaaa.wk
/- Boxes in memory; the program's small functions. -/
namespace Go.Proofs.Yteeianandjokaaa.bk

open Go.ChangeShapes Go.WideShapes Go.ChangeAt Go.RowKit

open Go.Proofs.Yteeianandjokaaa.bq Go.Proofs.Yteeianandjokaaa.vk

set_option linter.unusedVariables false
/-- a box: two slices of integers -/
def IsX (w : World) (v : Value) (p : Pair) : Prop := ∃ A n c A' n' c', v = .agg #[.slice A n c, .slice A' n' c'] ∧ wo.IsI w A n c p.1 ∧ wo.IsI w A' n' c' p.2
theorem IsX.below {w w' : World} {v : Value} {p : Pair} (h : IsX w v p) (hb : Below w.heap.size w w') : IsX w' v p := by
  obtain ⟨A, n, c, A', n', c', rfl, h1, h2⟩ := h
  exact ⟨A, n, c, A', n', c', rfl, isI_below h1 hb, isI_below h2 hb⟩
def IsV (w : World) (v : Value) (l : List Int) : Prop := ∃ A n c, v = .slice A n c ∧ wo.IsI w A n c l
theorem IsV.below {w w' : World} {v : Value} {l : List Int} (h : IsV w v l) (hb : Below w.heap.size w w') : IsV w' v l := by
  obtain ⟨A, n, c, rfl, h⟩ := h
  exact ⟨A, n, c, rfl, isI_below h hb⟩
/-- a variable of two cells -/
def Two (w : World) (g : Nat) (a b : Value) : Prop := ∃ t, w.heap[g]? = some (.cells #[a, b] t (0, 0))
theorem Two.lt {w : World} {g : Nat} {a b : Value} (h : Two w g a b) : g < w.heap.size := by
  obtain ⟨t, h⟩ := h
  rcases Nat.lt_or_ge g w.heap.size with h' | h'
  · exact h'
  · rw [Array.getElem?_eq_none h'] at h; cases h
theorem Two.at {w w' : World} {g : Nat} {a b : Value} (h : Two w g a b) (e : w'.heap[g]? = w.heap[g]?) : Two w' g a b := by
  obtain ⟨t, h⟩ := h
  exact ⟨t, e.trans h⟩
theorem Two.below {w w' : World} {g : Nat} {a b : Value} (h : Two w g a b) (hb : Below w.heap.size w w') : Two w' g a b := h.at (hb.block g h.lt)
theorem Two.c0 {w : World} {g : Nat} {a b : Value} (h : Two w g a b) : w.cell? ⟨g, 0, none⟩ = some a := by
  obtain ⟨t, h⟩ := h
  rw [cell_of_row _ _ _ _ _ _ h]; rfl
theorem Two.c1 {w : World} {g : Nat} {a b : Value} (h : Two w g a b) : w.cell? ⟨g, 1, none⟩ = some b := by
  obtain ⟨t, h⟩ := h
  rw [cell_of_row _ _ _ _ _ _ h]; rfl
theorem Two.new (w : World) (a b : Value) (t : TypeId) : Two (w.alloc (.cells #[a, b] t)) w.heap.size a b := ⟨t, heap_alloc_new w _⟩
def rng (a b : Int) : Value := .agg #[.int .i64 a, .int .i64 b]
theorem isI_get {w : World} {A : Option Addr} {n c k : Nat} {l : List Int} (h : wo.IsI w A n c l) (hk : k < n) : ∃ b o, A = some ⟨b, o, none⟩ ∧ w.cell? ⟨b, o + k, none⟩ = some (.int .i64 (at' l k)) ∧ b < w.heap.size := by
  obtain ⟨b, o, x, rfl, hc, hx, _⟩ := isI_at h hk
  exact ⟨b, o, rfl, by rw [at_of hx]; exact hc, block_lt_of_cell hc⟩
end Go.Proofs.Yteeianandjokaaa.bk
/- Mean, walked. -/
namespace Go.Proofs.Yteeianandjokaaa.vk

open Go.ChangeShapes Go.WideShapes Go.ChangeAt Go.RowKit

set_option linter.unusedVariables false
theorem own_form {w : World} {B n : Nat} {v : Value} {xs : List Value} {e : TypeId} (h : w.ownsRow B e 1 v n xs) (hn : 1 ≤ n) : ∃ g cap, v = .slice (some ⟨g, 0, none⟩) n cap ∧ B ≤ g ∧ g < w.heap.size ∧ n ≤ cap ∧ cap ≤ 9223372036854775807 := by
  rcases h.2 with ⟨_, h0⟩ | ⟨g, cap, cur, rfl, hb, hg, h1, h2, _⟩
  · omega
  · refine ⟨g, cap, rfl, hb, ?_, h1, by unfold maxLen at h2; omega⟩
    rcases Nat.lt_or_ge g w.heap.size with h' | h'
    · exact h'
    · rw [Array.getElem?_eq_none h'] at hg; cases hg
theorem ediv_bd {y : Int} {n : Nat} (h : 1 ≤ n) : -(y.natAbs : Int) ≤ y / (n : Int) ∧ y / (n : Int) ≤ y.natAbs := by
  rcases Int.le_total 0 y with h' | h'
  · have a := Int.ediv_le_self (n : Int) h'
    have b := Int.ediv_nonneg h' (show (0 : Int) ≤ n by omega)
    omega
  · have a : y ≤ y / (n : Int) := by
      rw [Int.le_ediv_iff_mul_le (by omega)]
      have := Int.mul_nonneg (show 0 ≤ -y by omega) (show 0 ≤ (n : Int) - 1 by omega)
      grind
    have b : y / (n : Int) ≤ 0 := by
      have := Int.ediv_le_ediv (c := (n : Int)) (by omega) h'
      rw [Int.zero_ediv] at this
      exact this
    omega
end Go.Proofs.Yteeianandjokaaa.vk
/- The examples of the chapter. -/
namespace Go.Proofs.Yteeianandjokaaa.vk

open Go.ChangeShapes Go.WideShapes Go.ChangeAt Go.RowKit

set_option linter.unusedVariables false
def va : List Int := [1, -2, 3]
def vb : List Int := [4, 2, 3]
theorem va_vec : vq.Vec va := vq.valid_iff.1 (by decide)
theorem vb_vec : vq.Vec vb := vq.valid_iff.1 (by decide)
def bdd (l : List Int) : Bool := l.all fun x => decide (-9223372036854775808 ≤ x) && decide (x ≤ 9223372036854775807)
theorem bd_of {l : List Int} (h : bdd l = true) : ∀ x ∈ l, -9223372036854775808 ≤ x ∧ x ≤ 9223372036854775807 := by
  intro x hx
  have := List.all_eq_true.1 h x hx
  simpa using this
theorem new_lit (w : World) (l : List Int) (n : Nat) (hn : l.length = n) (h40 : n ≤ 1099511627776) (hb : bdd l = true) (t : TypeId) : wo.IsI (w.alloc (.cells (iv l).toArray t)) (some ⟨w.heap.size, 0, none⟩) n n l :=
  isI_new rfl l rfl n hn h40 (bd_of hb) t
/-- the two vectors, at hand -/
structure SA (w0 : World) (B : Nat) (w : World) : Prop where
  a : wo.IsI w (some ⟨B, 0, none⟩) 3 3 va
  b : wo.IsI w (some ⟨B + 1, 0, none⟩) 3 3 vb
  bel : Below B w0 w
  sz : w0.heap.size = B
theorem SA.next {w0 w w' : World} {B : Nat} (h : SA w0 B w) (hb : Below w.heap.size w w') : SA w0 B w' :=
  ⟨isI_below h.a hb, isI_below h.b hb, h.bel.trans (hb.mono (by have := h.bel.size; have := h.sz; omega)), h.sz⟩
theorem SA.drewN {w0 w : World} {B : Nat} (h : SA w0 B w) (q : Nat) : SA w0 B (w.drewN q) := ⟨h.a, h.b, below_drewN h.bel q, h.sz⟩
theorem SA.start (w : World) (t : TypeId) : SA w w.heap.size ((w.alloc (.cells #[.int .i64 1, .int .i64 (-2), .int .i64 3] t)).alloc (.cells #[.int .i64 4, .int .i64 2, .int .i64 3] t)) := by
  refine ⟨isI_below (new_lit w va 3 rfl (by omega) (by decide) t) (below_new _ _), ?_, Below.andThen (below_new _ _) (below_new _ _), rfl⟩
  have := new_lit (w.alloc (.cells #[.int .i64 1, .int .i64 (-2), .int .i64 3] t)) vb 3 rfl (by omega) (by decide) t
  rw [size_new] at this
  exact this
theorem isVV_new {w : World} {A1 A2 : Option Addr} {n1 n2 c1 c2 : Nat} {l1 l2 : List Int} (h1 : wo.IsI w A1 n1 c1 l1) (h2 : wo.IsI w A2 n2 c2 l2) (t : TypeId) : IsVV (w.alloc (.cells #[.slice A1 n1 c1, .slice A2 n2 c2] t)) (some ⟨w.heap.size, 0, none⟩) 2 2 [l1, l2] := by
  refine ⟨rfl, Nat.le_refl _, by omega, fun k l hk => ?_⟩
  have hc := wk.cells_new w [.slice A1 n1 c1, .slice A2 n2 c2] t
  match k, hk with
  | 0, hk =>
    simp at hk; subst hk
    have h := hc 0 _ rfl
    rw [wk.add_at] at h
    exact ⟨_, _, A1, n1, c1, rfl, by rw [size_new]; omega, h, isI_below h1 (below_new _ _)⟩
  | 1, hk =>
    simp at hk; subst hk
    have h := hc 1 _ rfl
    rw [wk.add_at] at h
    exact ⟨_, _, A2, n2, c2, rfl, by rw [size_new]; omega, h, isI_below h2 (below_new _ _)⟩
  | k + 2, hk => simp at hk
theorem enc_va : wp.encIs va = [6, 2, 3, 6] := by simp [va, wp.encIs, wp.encI, Lib.zigzag, Lib.uvarint_small]
theorem enc_nil : wp.encIs [] = [0] := by simp [wp.encIs, wp.encI, Lib.zigzag, Lib.uvarint_small]
end Go.Proofs.Yteeianandjokaaa.vk
/- VectorsAreOrdered: its walk. -/
namespace Go.Proofs.Yteeianandjokaaa.vk
theorem int_wf {a : Int} (h : (Lit.int .i64 a).wf = true) : -9223372036854775808 ≤ a ∧ a ≤ 9223372036854775807 := by simpa [Lit.wf, IntKind.min, IntKind.max, IntKind.signed, IntKind.bits] using h
theorem take_beq {a b : List Int} {k : Nat} {x y : Int} (hx : a[k]? = some x) (hy : b[k]? = some y) : (a.take (k + 1) == b.take (k + 1)) = (a.take k == b.take k && x == y) := by
  rw [vq.take_snoc hx, vq.take_snoc hy, Bool.eq_iff_iff]
  simp only [beq_iff_eq, Bool.and_eq_true]
  constructor
  · intro h
    have := List.append_inj' h rfl
    exact ⟨this.1, by simpa using this.2⟩
  · rintro ⟨h, rfl⟩; rw [h]
end Go.Proofs.Yteeianandjokaaa.vk

namespace Go.Proofs.Yteeianandjokaaa.vectorsAreOrdered

open Go.ChangeShapes Go.WideShapes Go.ChangeAt Go.RowKit

open Go.Proofs.Yteeianandjokaaa.vk

set_option linter.unusedVariables false
end Go.Proofs.Yteeianandjokaaa.vectorsAreOrdered
/- Lists of lists: how they come in; the reference's All, Mean. -/
namespace Go.Proofs.Yteeianandjokaaa.vq
def allv (L : List (List Int)) (most : Int) : Bool := L.all (alike (L.headD [])) && (decide (1 ≤ L.length) && decide ((L.length : Int) ≤ most))
theorem allv_iff {L : List (List Int)} : allv L 20 = true ↔ (∀ l ∈ L, alike (L.headD []) l = true) ∧ 1 ≤ L.length ∧ L.length ≤ 20 := by
  simp only [allv, Bool.and_eq_true, List.all_eq_true, decide_eq_true_eq]
  constructor
  · rintro ⟨h1, h2, h3⟩; exact ⟨h1, h2, by omega⟩
  · rintro ⟨h1, h2, h3⟩; exact ⟨h1, h2, by omega⟩
/-- what the vectors of such a list are -/
theorem allv_vec {L : List (List Int)} (h : allv L 20 = true) : ∃ d, (∀ l ∈ L, l.length = d) ∧ (∀ l ∈ L, Vec l) ∧ 1 ≤ L.length ∧ L.length ≤ 20 := by
  obtain ⟨h1, h2, h3⟩ := allv_iff.1 h
  refine ⟨(L.headD []).length, fun l hl => ?_, fun l hl => ?_, h2, h3⟩
  · exact (alike_iff.1 (h1 l hl)).1.symm
  · exact (alike_iff.1 (h1 l hl)).2.2
def col (L : List (List Int)) (i : Nat) : Int := sm (L.map fun l => l.getD i 0)
theorem sm_append (a b : List Int) : sm (a ++ b) = sm a + sm b := by
  induction a with
  | nil => simp [sm]
  | cons x a ih => simp only [List.cons_append, sm, ih]; omega
theorem col_snoc {L : List (List Int)} {k : Nat} {l : List Int} (h : L[k]? = some l) (i : Nat) : col (L.take (k + 1)) i = col (L.take k) i + l.getD i 0 := by
  rw [take_snoc h, col, List.map_append, sm_append]; simp [col, sm]
theorem sums_at {d i : Nat} (hi : i < d) : ∀ (T : List (List Int)) (m : List Int), m.length = d → (∀ l ∈ T, l.length = d) → (sums m T)[i]? = some (m.getD i 0 + col T i)
  | [], m, hm, _ => by simp [sums, col, sm, List.getD, List.getElem?_eq_getElem (show i < m.length by omega)]
  | l :: T, m, hm, hT => by
    have hl := hT l (by simp)
    have ih := sums_at hi T (vadd m l) (by rw [vadd_length (by omega)]; exact hm) (fun x hx => hT x (by simp [hx]))
    have e : sums m (l :: T) = sums (vadd m l) T := rfl
    rw [e, ih]
    have h1 : m[i]? = some (m.getD i 0) := by simp [List.getD, List.getElem?_eq_getElem (show i < m.length by omega)]
    have h2 : l[i]? = some (l.getD i 0) := by simp [List.getD, List.getElem?_eq_getElem (show i < l.length by omega)]
    have h3 := vadd_at h1 h2
    have h4 : (vadd m l).getD i 0 = m.getD i 0 + l.getD i 0 := by simp only [List.getD, h3, Option.getD_some]
    rw [h4]
    simp only [col, List.map_cons, sm]
    congr 1
    omega
theorem mean_at {L : List (List Int)} {d i : Nat} (hi : i < d) (h1 : 1 ≤ L.length) (hd : ∀ l ∈ L, l.length = d) : (mean L)[i]? = some (col L i / (L.length : Int)) := by
  obtain ⟨m, T, rfl⟩ : ∃ m T, L = m :: T := by
    cases L with
    | nil => simp at h1
    | cons m T => exact ⟨m, T, rfl⟩
  have h := sums_at hi T m (hd m (by simp)) (fun x hx => hd x (by simp [hx]))
  have e : mean (m :: T) = (sums m T).map (· / ((m :: T).length : Int)) := rfl
  rw [e, List.getElem?_map, h]
  simp [col, sm]
theorem mean_length {L : List (List Int)} {d : Nat} (h1 : 1 ≤ L.length) (hd : ∀ l ∈ L, l.length = d) : (mean L).length = d := by
  obtain ⟨m, T, rfl⟩ : ∃ m T, L = m :: T := by
    cases L with
    | nil => simp at h1
    | cons m T => exact ⟨m, T, rfl⟩
  have e : mean (m :: T) = (sums m T).map (· / ((m :: T).length : Int)) := rfl
  rw [e, List.length_map, sums_length T m (hd m (by simp)) (fun x hx => hd x (by simp [hx]))]
theorem col_bd {L : List (List Int)} {i : Nat} (h : ∀ l ∈ L, ∀ x ∈ l, -1000 ≤ x ∧ x ≤ 1000) : -(1000 * (L.length : Int)) ≤ col L i ∧ col L i ≤ 1000 * L.length := by
  induction L with
  | nil => simp [col, sm]
  | cons l L ih =>
    have h1 := ih fun x hx => h x (by simp [hx])
    have h2 : -1000 ≤ l.getD i 0 ∧ l.getD i 0 ≤ 1000 := by
      rcases Nat.lt_or_ge i l.length with hl | hl
      · have := h l (by simp) l[i] (List.getElem_mem hl)
        simpa [List.getD, List.getElem?_eq_getElem hl] using this
      · simp [List.getD, List.getElem?_eq_none hl]
    simp only [col, List.map_cons, sm, List.length_cons] at h1 ⊢
    omega
end Go.Proofs.Yteeianandjokaaa.vq

namespace Go.Proofs.Yteeianandjokaaa.vk

open Go.ChangeShapes Go.WideShapes Go.ChangeAt Go.RowKit

set_option linter.unusedVariables false

section

variable {H : Type} {enc : TypeId × Value → H} {P : Program} {w : World} {base : Nat} {spare : Nat → Bool} {held : Bool} {t e e0 : TypeId} {a : Option Addr} {n c fuel : Nat} {x : DataW H × List MemPlace}
theorem openVV (ht : P.underlying t = some (.slice e)) (he : P.underlying e = some (.slice e0)) (he0 : P.underlying e0 = some (.int .i64)) (hc : P.cellsOf e = 1) (hc0 : P.cellsOf e0 = 1)
    (h : DataW.trod enc P w base spare held fuel t [.slice a n c] = some x) : ∃ L, IsVV w a n c L := by
  rcases DataW.trod_slice ht h with ⟨hcs, _⟩ | ⟨ad, len, cap, elems, rest, m, _, hcs, _, hb, hl, hm, hlen, hel, _⟩
  · simp only [List.cons.injEq, Value.slice.injEq, and_true] at hcs
    obtain ⟨rfl, rfl, rfl⟩ := hcs
    exact ⟨[], rfl, Nat.le_refl _, by omega, fun k l hk => by simp at hk⟩
  · simp only [List.cons.injEq, Value.slice.injEq, and_true] at hcs
    obtain ⟨rfl, rfl, rfl⟩ := hcs
    rw [hc] at hel
    have hone : ∀ i, i < n → ∃ l : List Int, ∃ A' n' c', w.cell? (ad.add i) = some (.slice A' n' c') ∧ wo.IsI w A' n' c' l := fun i hi => by
      have hi' := hel i hi
      rw [List.getElem?_eq_getElem (by omega), Nat.mul_one] at hi'
      cases hcc : w.cells? base (ad.add i) 1 with
      | none => rw [hcc] at hi'; simp at hi'
      | some cs =>
        rw [hcc] at hi'
        simp only [Option.bind_some] at hi'
        obtain ⟨hlen1, _, hcell⟩ := World.cells?_some hcc
        have h0 := hcell 0 (by omega)
        have hadd : (ad.add i).add 0 = ad.add i := by unfold Addr.add; simp
        rw [hadd] at h0
        rcases DataW.trod_slice he hi' with ⟨hcs, _⟩ | ⟨ad', len', cap', _, _, _, _, hcs, _⟩
        · subst hcs
          obtain ⟨l, hI⟩ := wo.openI he he0 hc0 hi'
          exact ⟨l, _, _, _, by simpa using h0, hI⟩
        · subst hcs
          obtain ⟨l, hI⟩ := wo.openI he he0 hc0 hi'
          exact ⟨l, _, _, _, by simpa using h0, hI⟩
    obtain ⟨L, hLl, hLq⟩ := wo.exists_list n hone
    refine ⟨L, hLl, hl, by unfold maxLen at hm; omega, fun k l hk => ?_⟩
    have hkn : k < n := by
      rcases Nat.lt_or_ge k n with h' | h'
      · exact h'
      · rw [List.getElem?_eq_none (by omega)] at hk; cases hk
    obtain ⟨A', n', c', hcell, hI⟩ := hLq k l hk
    obtain ⟨A0, m0, k0, hc00, _⟩ := (hone 0 (by omega)).choose_spec
    obtain ⟨b, o, rfl⟩ := wo.at_plain hc00
    have hlt := block_lt_of_cell hcell
    rw [wk.add_at] at hcell hlt
    exact ⟨b, o, A', n', c', rfl, hlt, hcell, hI⟩
end
theorem isVV_get {w : World} {A : Option Addr} {n c k : Nat} {L : List (List Int)} (h : IsVV w A n c L) (hk : k < n) : ∃ b o A' n' c' l, A = some ⟨b, o, none⟩ ∧ b < w.heap.size ∧ w.cell? ⟨b, o + k, none⟩ = some (.slice A' n' c') ∧ wo.IsI w A' n' c' l ∧ L[k]? = some l := by
  have hl : k < L.length := by have := h.1; omega
  obtain ⟨b, o, A', n', c', h1, h2, h3, h4⟩ := h.2.2.2 k L[k] (List.getElem?_eq_getElem hl)
  exact ⟨b, o, A', n', c', L[k], h1, h2, h3, h4, List.getElem?_eq_getElem hl⟩
theorem dropL_at {α : Type} {l : List α} {k : Nat} {x : α} (h : l[k]? = some x) : l.drop k = x :: l.drop (k + 1) := by
  obtain ⟨hk, rfl⟩ := List.getElem?_eq_some_iff.1 h
  exact List.drop_eq_getElem_cons hk
end Go.Proofs.Yteeianandjokaaa.vk
/- Codebooks in memory; what stays where a row grows. -/
namespace Go.Proofs.Yteeianandjokaaa.uk

open Go.ChangeShapes Go.WideShapes Go.ChangeAt Go.RowKit

open Go.Proofs.Yteeianandjokaaa.cq Go.Proofs.Yteeianandjokaaa.vk Go.Proofs.Yteeianandjokaaa.bk

set_option linter.unusedVariables false
/-- a slice of slices of slices of integers -/
def IsW (w : World) (A : Option Addr) (n c : Nat) (L : List VV) : Prop :=
  L.length = n ∧ n ≤ c ∧ c ≤ 9223372036854775807 ∧ ∀ k l, L[k]? = some l → ∃ b o A' n' c', A = some ⟨b, o, none⟩ ∧ b < w.heap.size ∧ w.cell? ⟨b, o + k, none⟩ = some (.slice A' n' c') ∧ IsVV w A' n' c' l
theorem isW_below {w w' : World} {A : Option Addr} {n c : Nat} {L : List VV} (h : IsW w A n c L) (hb : Below w.heap.size w w') : IsW w' A n c L :=
  ⟨h.1, h.2.1, h.2.2.1, fun k l hk => by
    obtain ⟨b, o, A', n', c', hA, hlt, hc, hI⟩ := h.2.2.2 k l hk
    exact ⟨b, o, A', n', c', hA, Nat.lt_of_lt_of_le hlt hb.size, (hb.cell (p := ⟨b, o + k, none⟩) hlt).trans hc, isVV_below hI hb⟩⟩
theorem isW_drewN {w : World} {A : Option Addr} {n c : Nat} {L : List VV} (h : IsW w A n c L) (q : Nat) : IsW (w.drewN q) A n c L := h
theorem isW_get {w : World} {A : Option Addr} {n c k : Nat} {L : List VV} (h : IsW w A n c L) (hk : k < n) : ∃ b o A' n' c' l, A = some ⟨b, o, none⟩ ∧ b < w.heap.size ∧ w.cell? ⟨b, o + k, none⟩ = some (.slice A' n' c') ∧ IsVV w A' n' c' l ∧ L[k]? = some l := by
  have hl : k < L.length := by have := h.1; omega
  obtain ⟨b, o, A', n', c', h1, h2, h3, h4⟩ := h.2.2.2 k L[k] (List.getElem?_eq_getElem hl)
  exact ⟨b, o, A', n', c', L[k], h1, h2, h3, h4, List.getElem?_eq_getElem hl⟩
def I64 (x : Int) : Prop := -9223372036854775808 ≤ x ∧ x ≤ 9223372036854775807
/-- a codebook as a value -/
def IsBk (w : World) (v : Value) (b : Bk) : Prop := ∃ A n c A' n' c', v = .agg #[.int .i64 b.d, .slice A n c, .slice A' n' c'] ∧ wo.IsI w A n c b.cuts ∧ IsW w A' n' c' b.W ∧ I64 b.d
theorem IsBk.below {w w' : World} {v : Value} {b : Bk} (h : IsBk w v b) (hb : Below w.heap.size w w') : IsBk w' v b := by
  obtain ⟨A, n, c, A', n', c', rfl, h1, h2, h3⟩ := h
  exact ⟨A, n, c, A', n', c', rfl, isI_below h1 hb, isW_below h2 hb, h3⟩
theorem IsBk.drewN {w : World} {v : Value} {b : Bk} (h : IsBk w v b) (q : Nat) : IsBk (w.drewN q) v b := h
/-- cells of blocks from B on may change where their type is in es; all else that are cells stand -/
structure Kp (B : Nat) (es : List TypeId) (w w' : World) : Prop where
  below : Below B w w'
  high : ∀ (k : Nat) (cs : Array Value) (t : TypeId) (fr : Nat × Nat), w.heap[k]? = some (.cells cs t fr) → t ∉ es → w'.heap[k]? = some (.cells cs t fr)
theorem Kp.refl (B : Nat) (es : List TypeId) (w : World) : Kp B es w w := ⟨Below.refl _ _, fun _ _ _ _ h _ => h⟩
theorem Kp.trans {B : Nat} {es : List TypeId} {a b c : World} (h : Kp B es a b) (k : Kp B es b c) : Kp B es a c := ⟨h.below.trans k.below, fun i cs t fr hi ht => k.high i cs t fr (h.high i cs t fr hi ht) ht⟩
theorem Kp.mono {B B' : Nat} {es : List TypeId} {a b : World} (h : Kp B es a b) (hB : B' ≤ B) : Kp B' es a b := ⟨h.below.mono hB, h.high⟩
theorem Kp.more {B : Nat} {es es' : List TypeId} {a b : World} (h : Kp B es a b) (hs : ∀ e ∈ es, e ∈ es') : Kp B es' a b := ⟨h.below, fun k cs t fr hk ht => h.high k cs t fr hk (fun hh => ht (hs t hh))⟩
theorem Kp.of_below {B : Nat} {es : List TypeId} {w w' : World} (h : Below w.heap.size w w') (hB : B ≤ w.heap.size) : Kp B es w w' :=
  ⟨h.mono hB, fun k cs t fr hk _ => (h.block k (Array.getElem?_eq_some_iff.1 hk).1).trans hk⟩
theorem Kp.of_grown {B B' n size : Nat} {es : List TypeId} {w w' : World} {e : TypeId} {v : Value} {xs : List Value} (ho : w.ownsRow B' e size v n xs) (he : e ∈ es) (hB : B ≤ B') (hB2 : B ≤ w.heap.size) (hg : w.grownBy w' v.ownBlock) : Kp B es w w' := by
  refine ⟨(Below.refl B w).grown hg hB2 (fun k hk => Nat.le_trans hB (ho.lt k hk).1), fun k cs t fr hk ht => (hg.block k (Array.getElem?_eq_some_iff.1 hk).1 ?_).trans hk⟩
  intro hh
  rcases ho.2 with ⟨rfl, _⟩ | ⟨g1, cap1, cur1, rfl, _, hh1, _⟩
  · simp [Value.ownBlock] at hh
  · have : k = g1 := by injection hh
    subst this
    rw [hk] at hh1
    injection hh1 with hh1
    injection hh1 with _ h3 _
    exact ht (h3 ▸ he)
theorem Kp.of_set {B : Nat} {es : List TypeId} {w : World} {g i : Nat} {cs : Array Value} {t : TypeId} {fr : Nat × Nat} (v : Value) (h : w.heap[g]? = some (.cells cs t fr)) (ht : t ∈ es) (hg : B ≤ g) : Kp B es w (w.setCell ⟨g, i, none⟩ v) := by
  refine ⟨(Below.refl B w).setCell (p := ⟨g, i, none⟩) hg v, fun k cs' t' fr' hk ht' => ?_⟩
  have hne : k ≠ g := by
    rintro rfl
    rw [h] at hk
    injection hk with hk
    injection hk with _ h2 _
    exact ht' (h2 ▸ ht)
  exact (Below.heap_setCell _ _ _ _ hne).trans hk
theorem Kp.of_own {B : Nat} {es : List TypeId} {w w' : World} {row : Option Nat} (hg : w.grownBy w' row) (hr : ∀ r, row = some r → B ≤ r ∧ ∃ o : Obj, w.heap[r]? = some o ∧ o.isCells = false) (hB : B ≤ w.heap.size) : Kp B es w w' := by
  refine ⟨(Below.refl B w).grown hg hB (fun k hk => (hr k hk).1), fun k cs t fr hk ht => (hg.block k (Array.getElem?_eq_some_iff.1 hk).1 ?_).trans hk⟩
  intro hh
  obtain ⟨_, o, ho, hc⟩ := hr k hh.symm
  rw [hk] at ho
  cases ho
  cases hc
/-- a fact that stands whatever may change -/
def St (B : Nat) (es : List TypeId) (p : World → Prop) (w : World) : Prop := ∀ w', Kp B es w w' → p w'
theorem St.now {B : Nat} {es : List TypeId} {p : World → Prop} {w : World} (h : St B es p w) : p w := h w (Kp.refl _ _ _)
theorem St.keep {B : Nat} {es : List TypeId} {p : World → Prop} {w w' : World} (h : St B es p w) (k : Kp B es w w') : St B es p w' := fun w2 h2 => h w2 (k.trans h2)
theorem St.below {B : Nat} {es : List TypeId} {p : World → Prop} {w w' : World} (h : St B es p w) (k : Below w.heap.size w w') (hB : B ≤ w.heap.size) : St B es p w' := h.keep (Kp.of_below k hB)
theorem St.up {B B' : Nat} {es es' : List TypeId} {p : World → Prop} {w : World} (h : St B es p w) (hB : B ≤ B') (hs : ∀ e ∈ es', e ∈ es) : St B' es' p w := fun w' k => h w' ((k.mono hB).more hs)
theorem St.imp {B : Nat} {es : List TypeId} {p q : World → Prop} {w : World} (h : St B es p w) (hpq : ∀ w', p w' → q w') : St B es q w := fun w' k => hpq w' (h w' k)
theorem St.given {B : Nat} {es : List TypeId} {p : World → Prop} {w0 w : World} (h : p w0) (hp : ∀ w', Below B w0 w' → p w') (hb : Below B w0 w) : St B es p w := fun w' k => hp w' (hb.trans k.below)
theorem own_st {B B' n size : Nat} {es : List TypeId} {w : World} {e : TypeId} {v : Value} {xs : List Value} (h : w.ownsRow B' e size v n xs) (he : e ∉ es) : St B es (fun w' => w'.ownsRow B' e size v n xs) w := fun w' k => by
  refine ⟨h.1, ?_⟩
  rcases h.2 with h1 | ⟨g, cap, cur, h1, h2, h3, h4⟩
  · exact .inl h1
  · exact .inr ⟨g, cap, cur, h1, h2, k.high _ _ _ _ h3 he, h4⟩
theorem isV_own {w : World} {B n : Nat} {v : Value} {l : List Int} (h : w.ownsRow B 3 1 v n (iv l)) (hb : ∀ x ∈ l, I64 x) : IsV w v l := by
  have hl : l.length = n := by have := h.1; simpa [iv] using this
  obtain ⟨A, c, rfl, h1, h2, hR⟩ := wp.RC.of_own h
  exact ⟨A, n, c, rfl, hl, h1, by unfold maxLen at h2; omega, hR, hb⟩
theorem own_slice {w : World} {B n size : Nat} {e : TypeId} {v : Value} {xs : List Value} (h : w.ownsRow B e size v n xs) : ∃ A c, v = .slice A n c := by
  rcases h.2 with ⟨rfl, rfl⟩ | ⟨g, cap, cur, rfl, _⟩
  · exact ⟨_, _, rfl⟩
  · exact ⟨_, _, rfl⟩
/-- an own row of integers: it stands where rows of other types grow -/
theorem isI_own_st {w : World} {B B' n : Nat} {es : List TypeId} {v : Value} {l : List Int} (h : w.ownsRow B' 3 1 v n (iv l)) (hb : ∀ x ∈ l, I64 x) (he : 3 ∉ es) : ∃ A c, v = .slice A n c ∧ St B es (fun w' => wo.IsI w' A n c l) w := by
  obtain ⟨A, c, rfl⟩ := own_slice h
  refine ⟨A, c, rfl, (own_st h he).imp fun w' h' => ?_⟩
  obtain ⟨A', n', c', e, hI⟩ := isV_own h' hb
  cases e
  exact hI
/-- a row of slices -/
def IsZ (w : World) (v : Value) (L : VV) : Prop := ∃ A n c, v = .slice A n c ∧ IsVV w A n c L
structure RowE {α : Type} (E : World → Value → α → Prop) (B : Nat) (es : List TypeId) (e : TypeId) (w : World) (v : Value) (L : List α) (vals : List Value) : Prop where
  own : w.ownsRow B e 1 v L.length vals
  at' : ∀ (i : Nat) (x : α), L[i]? = some x → ∃ u : Value, vals[i]? = some u ∧ St B es (fun w' => E w' u x) w
theorem RowE.len {α : Type} {E : World → Value → α → Prop} {B : Nat} {es : List TypeId} {e : TypeId} {w : World} {v : Value} {L : List α} {vals : List Value} (h : RowE E B es e w v L vals) : vals.length = L.length := by have := h.own.1; omega
theorem RowE.nil {α : Type} (E : World → Value → α → Prop) (B : Nat) (es : List TypeId) (e : TypeId) (w : World) : RowE E B es e w (.slice none 0 0) [] [] := ⟨World.ownsRow_nil _ _ _ _, fun i x h => by simp at h⟩
theorem RowE.start {α : Type} {E : World → Value → α → Prop} {B : Nat} {es : List TypeId} {e : TypeId} {w : World} {v : Value} (h : w.ownsRow B e 1 v 0 []) : RowE E B es e w v ([] : List α) [] := ⟨h, fun i x h => by simp at h⟩
theorem keptB {w w' : World} {B n size : Nat} {e : TypeId} {v : Value} {xs : List Value} (h : w.ownsRow B e size v n xs) (hb : Below w.heap.size w w') : w'.ownsRow B e size v n xs :=
  World.ownsRow.kept h (⟨hb.os, hb.tape, hb.output, hb.size, fun k hk _ => hb.block k hk⟩ : w.grownBy w' none) (by cases v.ownBlock; left; rfl; right; simp)
theorem RowE.below {α : Type} {E : World → Value → α → Prop} {B : Nat} {es : List TypeId} {e : TypeId} {w w' : World} {v : Value} {L : List α} {vals : List Value} (h : RowE E B es e w v L vals) (hb : Below w.heap.size w w') (hB : B ≤ w.heap.size) : RowE E B es e w' v L vals :=
  ⟨keptB h.own hb, fun i x hx => by obtain ⟨u, h1, h2⟩ := h.at' i x hx; exact ⟨u, h1, h2.below hb hB⟩⟩
theorem RowE.push {α : Type} {E : World → Value → α → Prop} {B : Nat} {es : List TypeId} {e : TypeId} {w w' : World} {v v' : Value} {L : List α} {vals : List Value} {u : Value} {x : α} (h : RowE E B es e w v L vals) (he : e ∈ es) (hs : St B es (fun w' => E w' u x) w) (hB : B ≤ w.heap.size)
    (o : Obj) (hg : (w.alloc o).grownBy w' v.ownBlock) (ho : w'.ownsRow B e 1 v' (L.length + 1) (vals ++ [u])) : RowE E B es e w' v' (L ++ [x]) (vals ++ [u]) := by
  have hk : Kp B es w w' := by
    have h1 : Kp B es w (w.alloc o) := Kp.of_below (below_new w o) hB
    refine h1.trans (Kp.of_grown (keptB h.own (below_new w o)) he (Nat.le_refl _) (by rw [size_new]; omega) hg)
  have hl := h.len
  refine ⟨by simpa using ho, fun i y hy => ?_⟩
  rcases Nat.lt_trichotomy i L.length with hi | hi | hi
  · rw [List.getElem?_append_left hi] at hy
    obtain ⟨z, h1, h2⟩ := h.at' i y hy
    exact ⟨z, by rw [List.getElem?_append_left (by omega)]; exact h1, h2.keep hk⟩
  · subst hi
    rw [List.getElem?_append_right (Nat.le_refl _), Nat.sub_self] at hy
    simp at hy
    subst hy
    exact ⟨u, by rw [← hl, List.getElem?_append_right (Nat.le_refl _), Nat.sub_self]; rfl, hs.keep hk⟩
  · rw [List.getElem?_eq_none (by simp; omega)] at hy; cases hy
theorem RowE.isVV {B : Nat} {es : List TypeId} {w : World} {v : Value} {L : VV} {vals : List Value} (h : RowE IsV B es 23 w v L vals) : ∃ A c, v = .slice A L.length c ∧ IsVV w A L.length c L := by
  have hl := h.len
  rcases h.own.2 with ⟨hv, hn0⟩ | ⟨g, cap, cur, hv, hb2, hh, h3, h4, h5, h6⟩
  · subst hv
    exact ⟨none, 0, by rw [hn0], rfl, by omega, by omega, fun k l hk => by have := (List.getElem?_eq_some_iff.1 hk).1; omega⟩
  · subst hv
    refine ⟨_, _, rfl, rfl, h3, by unfold maxLen at h4; omega, fun k l hk => ?_⟩
    obtain ⟨u, hu, hs⟩ := h.at' k l hk
    obtain ⟨A', n', c', rfl, hI⟩ := hs.now
    have hc := h.own.cells rfl k _ hu
    rw [wk.add_at] at hc
    exact ⟨g, 0, A', n', c', rfl, (Array.getElem?_eq_some_iff.1 hh).1, hc, hI⟩
theorem RowE.isVV_st {B : Nat} {es es' : List TypeId} {w : World} {v : Value} {L : VV} {vals : List Value} (h : RowE IsV B es 23 w v L vals) {B' : Nat} (hB : B ≤ B') (hs : ∀ x ∈ es', x ∈ es) (he : 23 ∉ es') : ∃ A c, v = .slice A L.length c ∧ St B' es' (fun w' => IsVV w' A L.length c L) w := by
  obtain ⟨A, c, rfl⟩ := own_slice h.own
  refine ⟨A, c, rfl, fun w' k => ?_⟩
  have h' : RowE IsV B es' 23 w' (.slice A L.length c) L vals :=
    ⟨own_st (B := B') h.own he w' k, fun i x hx => by obtain ⟨u, h1, h2⟩ := h.at' i x hx; exact ⟨u, h1, (h2.up (Nat.le_refl _) hs).keep (k.mono hB)⟩⟩
  obtain ⟨A', c', e, hI⟩ := h'.isVV
  cases e
  exact hI
theorem RowE.isW {B : Nat} {es : List TypeId} {w : World} {v : Value} {L : List VV} {vals : List Value} (h : RowE IsZ B es 22 w v L vals) : ∃ A c, v = .slice A L.length c ∧ IsW w A L.length c L := by
  have hl := h.len
  rcases h.own.2 with ⟨hv, hn0⟩ | ⟨g, cap, cur, hv, hb2, hh, h3, h4, h5, h6⟩
  · subst hv
    exact ⟨none, 0, by rw [hn0], rfl, by omega, by omega, fun k l hk => by have := (List.getElem?_eq_some_iff.1 hk).1; omega⟩
  · subst hv
    refine ⟨_, _, rfl, rfl, h3, by unfold maxLen at h4; omega, fun k l hk => ?_⟩
    obtain ⟨u, hu, hs⟩ := h.at' k l hk
    obtain ⟨A', n', c', rfl, hI⟩ := hs.now
    have hc := h.own.cells rfl k _ hu
    rw [wk.add_at] at hc
    exact ⟨g, 0, A', n', c', rfl, (Array.getElem?_eq_some_iff.1 hh).1, hc, hI⟩
theorem infoVz : (Try.prog.info? 23).map (fun i => (i.zero, i.size, i.bytes)) = some (some (.slice none 0 0), 1, 24) := by kernel_rfl
theorem infoWz : (Try.prog.info? 22).map (fun i => (i.zero, i.size, i.bytes)) = some (some (.slice none 0 0), 1, 24) := by kernel_rfl
theorem infoIz : (Try.prog.info? 3).map (fun i => (i.zero, i.size, i.bytes)) = some (some (.int .i64 0), 1, 8) := by kernel_rfl
section

variable {H : Type} {enc : TypeId × Value → H} {P : Program} {w : World} {base : Nat} {spare : Nat → Bool} {held : Bool} {t e e0 e1 : TypeId} {a : Option Addr} {n c fuel : Nat} {x : DataW H × List MemPlace}
theorem openW (ht : P.underlying t = some (.slice e)) (he : P.underlying e = some (.slice e0)) (he0 : P.underlying e0 = some (.slice e1)) (he1 : P.underlying e1 = some (.int .i64)) (hc : P.cellsOf e = 1) (hc0 : P.cellsOf e0 = 1) (hc1 : P.cellsOf e1 = 1)
    (h : DataW.trod enc P w base spare held fuel t [.slice a n c] = some x) : ∃ L, IsW w a n c L := by
  rcases DataW.trod_slice ht h with ⟨hcs, _⟩ | ⟨ad, len, cap, elems, rest, m, _, hcs, _, hb, hl, hm, hlen, hel, _⟩
  · simp only [List.cons.injEq, Value.slice.injEq, and_true] at hcs
    obtain ⟨rfl, rfl, rfl⟩ := hcs
    exact ⟨[], rfl, Nat.le_refl _, by omega, fun k l hk => by simp at hk⟩
  · simp only [List.cons.injEq, Value.slice.injEq, and_true] at hcs
    obtain ⟨rfl, rfl, rfl⟩ := hcs
    rw [hc] at hel
    have hone : ∀ i, i < n → ∃ l : VV, ∃ A' n' c', w.cell? (ad.add i) = some (.slice A' n' c') ∧ IsVV w A' n' c' l := fun i hi => by
      have hi' := hel i hi
      rw [List.getElem?_eq_getElem (by omega), Nat.mul_one] at hi'
      cases hcc : w.cells? base (ad.add i) 1 with
      | none => rw [hcc] at hi'; simp at hi'
      | some cs =>
        rw [hcc] at hi'
        simp only [Option.bind_some] at hi'
        obtain ⟨hlen1, _, hcell⟩ := World.cells?_some hcc
        have h0 := hcell 0 (by omega)
        have hadd : (ad.add i).add 0 = ad.add i := by unfold Addr.add; simp
        rw [hadd] at h0
        rcases DataW.trod_slice he hi' with ⟨hcs, _⟩ | ⟨ad', len', cap', _, _, _, _, hcs, _⟩
        · subst hcs
          obtain ⟨l, hI⟩ := openVV he he0 he1 hc0 hc1 hi'
          exact ⟨l, _, _, _, by simpa using h0, hI⟩
        · subst hcs
          obtain ⟨l, hI⟩ := openVV he he0 he1 hc0 hc1 hi'
          exact ⟨l, _, _, _, by simpa using h0, hI⟩
    obtain ⟨L, hLl, hLq⟩ := wo.exists_list n hone
    refine ⟨L, hLl, hl, by unfold maxLen at hm; omega, fun k l hk => ?_⟩
    have hkn : k < n := by
      rcases Nat.lt_or_ge k n with h' | h'
      · exact h'
      · rw [List.getElem?_eq_none (by omega)] at hk; cases hk
    obtain ⟨A', n', c', hcell, hI⟩ := hLq k l hk
    obtain ⟨A0, m0, k0, hc00, _⟩ := (hone 0 (by omega)).choose_spec
    obtain ⟨b, o, rfl⟩ := wo.at_plain hc00
    have hlt := block_lt_of_cell hcell
    rw [wk.add_at] at hcell hlt
    exact ⟨b, o, A', n', c', rfl, hlt, hcell, hI⟩
end

end Go.Proofs.Yteeianandjokaaa.uk
