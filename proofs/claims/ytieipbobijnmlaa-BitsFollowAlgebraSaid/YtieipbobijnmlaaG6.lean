/- Joined: Bc Val6 Val8 Val5 Val3 Va Ua. -/
import Derived.Test.YtieipbobijnmlaaG5

import Derived.Shelf.Abstract

import Derived.Shelf.RegionOpen

import Derived.WalkKit

import Derived.OwnWalkIn

import Derived.TacticsInMore

import Derived.LoopNIn

import Derived.LoopIn
/- The iterator over a box's sides; the law of a range over it. -/
namespace Go.Proofs.Ytieipbobijnmlaa.bk

open Go.ChangeShapes Go.WideShapes Go.ChangeAt Go.RowKit

open Go.Proofs.Ytieipbobijnmlaa.bq Go.Proofs.Ytieipbobijnmlaa.vk Go.Proofs.Ytieipbobijnmlaa.wk

set_option linter.unusedVariables false
attribute [local go_sem] Oper.semAt_some
abbrev Nth (n : Nat) := { i : Nat // i < n }
def encs (p : Pair) {n : Nat} (x : Nth n) : Array Value := #[.int .i64 (x.1 : Int), rng (at' p.1 x.1) (at' p.2 x.1)]
theorem map_snoc {n : Nat} (pre : List (Nth n)) (x : Nth n) (hp : pre.map (·.1) = List.range x.1) : (pre ++ [x]).map (·.1) = List.range (x.1 + 1) := by
  rw [List.map_append, hp, List.range_succ]; rfl
theorem grown_of {w w' : World} (h : Below w.heap.size w w') : w.grownBy w' none := ⟨h.os, h.tape, h.output, h.size, fun k hk _ => h.block k hk⟩
theorem len_range {n k : Nat} {pre : List (Nth n)} (hp : pre.map (·.1) = List.range k) : pre.length = k := by
  have := congrArg List.length hp
  simpa using this
/-- what a round may do: nothing to what is no cells from B on, nothing below B but to the blocks M -/
structure Turn (M : List Nat) (B : Nat) (W W' : World) : Prop where
  keeps : KeepsFrom B W W'
  exc : Exc M B W W'
theorem Turn.refl (M : List Nat) (B : Nat) (W : World) : Turn M B W W := ⟨KeepsFrom.refl _ _, Exc.refl _ _ _⟩
theorem Turn.trans {M : List Nat} {B : Nat} {a b c : World} (h : Turn M B a b) (k : Turn M B b c) : Turn M B a c := ⟨h.keeps.trans k.keeps, h.exc.trans k.exc⟩
theorem keeps_below {B : Nat} {W W' : World} (h : Below W.heap.size W W') : KeepsFrom B W W' := ⟨h.size, fun k o _ hk _ => (h.block k (Array.getElem?_eq_some_iff.1 hk).1).trans hk⟩
theorem Turn.of_below {M : List Nat} {B : Nat} {W W' : World} (h : Below W.heap.size W W') (hB : B ≤ W.heap.size) : Turn M B W W' := ⟨keeps_below h, Exc.of_below (h.mono hB)⟩
theorem Turn.setCell {M : List Nat} {B : Nat} {W : World} {p : Addr} (v : Value) (h : p.block ∈ M) : Turn M B W (W.setCell p v) := ⟨(KeepsOthers.setCell _ _ _).from _, Exc.setCell v (.inl h)⟩
def roundPost' {α : Type} (M : List Nat) (B : Nat) (I : List α → World → Prop) (Ix : Code → World → Prop) (xs : List α) (W : World) : Exit → Act → World → Prop
  | .normal, _, W' => Turn M B W W' ∧ I xs W'
  | .ret, _, W' => Turn M B W W' ∧ Ix .ret W'
  | _, _, _ => False
theorem not_out {α : Type} {M : List Nat} {B : Nat} {I : List α → World → Prop} {Ix : Code → World → Prop} {xs : List α} {W : World} : ¬ LetsOut (roundPost' M B I Ix xs W) := fun ⟨_, _, h⟩ => h
/-- the temporaries of a round: the two that are handed over; the index, if it is wanted; the box -/
def roundT (T : Array Value) (pi pr : Nat) (si : Option Nat) (sb : Nat) (i r : Value) (Bx : Nat) : Array Value :=
  match si with
  | none => ((T.setIfInBounds pi i).setIfInBounds pr r).setIfInBounds sb (.pointer (some ⟨Bx, 0, none⟩))
  | some s => (((T.setIfInBounds pi i).setIfInBounds pr r).setIfInBounds s i).setIfInBounds sb (.pointer (some ⟨Bx, 0, none⟩))
/-- a function that holds such a range: how it is entered, and how it leaves -/
theorem enter_marks {f : FuncId} {fn : Func} {c : Code} {args : Array Value} {w : World} {R : Ending → World → Prop} {P : Program}
    (hf : P.funcs[f]? = some fn) (hb : fn.body = some c) (h : c.wp P (bodyPostM Fence.wide 4 P fn R) { tmps := args ++ Array.replicate (fn.ntmps - args.size) undef, defers := [] } w) : Calls P f args w R :=
  callsIn_wide.1 (callsIn_of_wp_marks (n := 4) hf hb trivial (wpIn_wide.2 h) rfl)
theorem leave_mark {fn : Func} {tmps : Array Value} {D : Nat} {W : World} {R : Ending → World → Prop} {P : Program} {v : Value} (hK : W.heap[D]? = some (.deferred (some [])))
    (hr : (results fn tmps).run P (W.putObj D (.deferred none)) = .ok v (W.putObj D (.deferred none))) (hR : R (.returned v) (W.putObj D (.deferred none))) :
    bodyPostM Fence.wide 4 P fn R .ret { tmps := tmps, defers := [{ target := .collected D, args := #[] }] } W :=
  ⟨by simp, .inl ⟨_, _, rfl, run_takeDeferred hK, ⟨_, hr, hR⟩⟩⟩
theorem leave_bare {fn : Func} {tmps : Array Value} {W : World} {R : Ending → World → Prop} {P : Program} {v : Value}
    (hr : (results fn tmps).run P W = .ok v W) (hR : R (.returned v) W) : bodyPostM Fence.wide 4 P fn R .ret { tmps := tmps, defers := [] } W := ⟨_, hr, hR⟩
theorem below_mark {n : Nat} {w W : World} {D : Nat} {o : Obj} (h : Below n w W) (hD : n ≤ D) : Below n w (W.putObj D o) :=
  ⟨h.os, h.tape, h.output, by simp [h.size], fun k hk => (World.putObj_heap_other (by omega)).trans (h.block k hk)⟩
/-- a variable of one cell, its type known -/
def One (w : World) (g : Nat) (t : TypeId) (v : Value) : Prop := w.heap[g]? = some (.cells #[v] t (0, 0))
theorem One.lt {w : World} {g : Nat} {t : TypeId} {v : Value} (h : One w g t v) : g < w.heap.size := (Array.getElem?_eq_some_iff.1 h).1
theorem One.cell {w : World} {g : Nat} {t : TypeId} {v : Value} (h : One w g t v) : w.cell? ⟨g, 0, none⟩ = some v := by
  rw [cell_of_row _ _ _ _ _ _ h]; rfl
theorem One.frozen {w : World} {g : Nat} {t : TypeId} {v : Value} (h : One w g t v) : w.frozen? ⟨g, 0, none⟩ = false := frozen_of_row _ _ _ _ _ h
theorem One.at {w w' : World} {g : Nat} {t : TypeId} {v : Value} (h : One w g t v) (e : w'.heap[g]? = w.heap[g]?) : One w' g t v := e.trans h
theorem One.below {w w' : World} {g : Nat} {t : TypeId} {v : Value} (h : One w g t v) (hb : Below w.heap.size w w') : One w' g t v := h.at (hb.block g h.lt)
theorem One.new (w : World) (t : TypeId) (v : Value) : One (w.alloc (.cells #[v] t)) w.heap.size t v := heap_alloc_new w _
theorem One.set {w : World} {g : Nat} {t : TypeId} {v : Value} (h : One w g t v) (u : Value) : One (w.setCell ⟨g, 0, none⟩ u) g t u := heap_setCell_same _ _ _ _ _ _ h
theorem One.other {w : World} {g k : Nat} {t : TypeId} {v : Value} (h : One w g t v) (u : Value) (hk : g ≠ k) : One (w.setCell ⟨k, 0, none⟩ u) g t v := h.at (Below.heap_setCell _ _ _ _ hk)
theorem One.put {w : World} {g D : Nat} {t : TypeId} {v : Value} {o : Obj} (h : One w g t v) (hk : g ≠ D) : One (w.putObj D o) g t v := h.at (World.putObj_heap_other hk)
theorem own_one {β : Type} {B g : Nat} {t : TypeId} {v : β → Value} (hg : g < B) : OwnFrom B (fun s W => One W g t (v s)) := by
  intro s W W' row hs hgr hr
  exact hs.at (hgr.block g hs.lt fun e => by have := (hr g e.symm).1; omega)
theorem own_pure {β : Type} {B : Nat} {p : β → Prop} : OwnFrom B (fun s _ => p s) := fun _ _ _ _ hs _ _ => hs
theorem all_range {n : Nat} {ys : List (Nth n)} (hy : ys.map (·.1) = List.range n) {P : Nat → Prop} (h : ∀ x ∈ ys, P x.1) : ∀ i, i < n → P i := by
  intro i hi
  have h1 : i ∈ ys.map (·.1) := by rw [hy]; simpa using hi
  obtain ⟨x, hx, rfl⟩ := List.mem_map.1 h1
  exact h x hx
/-- a bool that is handed back out of a variable, behind a range over a function -/
theorem leave_bool {fn : Func} {p : Nat} {ty : TypeId} (hres : fn.results = #[.cell p ty]) {tmps : Array Value} {D g : Nat} {W : World} {R : Ending → World → Prop} {v : Value} {d : TypeDesc}
    (hp : tmps.getD p undef = .pointer (some ⟨g, 0, none⟩)) (hd : (match d with | .struct _ | .array _ _ => true | _ => false) = false) (hu : Try.prog.underlying ty = some d)
    (h1 : One W g ty v) (hK : W.heap[D]? = some (.deferred (some []))) (hgD : g ≠ D) (hR : R (.returned v) (W.putObj D (.deferred none))) :
    bodyPostM Fence.wide 4 Try.prog fn R .ret { tmps := tmps, defers := [{ target := .collected D, args := #[] }] } W :=
  leave_mark hK (wk.results_cell1 hres tmps _ ⟨g, 0, none⟩ v d hp (h1.put hgD).cell hu (by revert hd; cases d <;> simp)) hR
theorem leave_bool0 {fn : Func} {p : Nat} {ty : TypeId} (hres : fn.results = #[.cell p ty]) {tmps : Array Value} {g : Nat} {W : World} {R : Ending → World → Prop} {v : Value} {d : TypeDesc}
    (hp : tmps.getD p undef = .pointer (some ⟨g, 0, none⟩)) (hd : (match d with | .struct _ | .array _ _ => true | _ => false) = false) (hu : Try.prog.underlying ty = some d)
    (h1 : One W g ty v) (hR : R (.returned v) W) :
    bodyPostM Fence.wide 4 Try.prog fn R .ret { tmps := tmps, defers := [] } W :=
  leave_bare (wk.results_cell1 hres tmps _ ⟨g, 0, none⟩ v d hp h1.cell hu (by revert hd; cases d <;> simp)) hR
end Go.Proofs.Ytieipbobijnmlaa.bk
/- A region whose tail writes a slot that its first operations read. No program here. -/
namespace Go.Proofs.Ytieipbobijnmlaa.wk

open Go.RowKit

set_option linter.unusedVariables false

section

variable {P : Program} {ops : Array Oper} {Q : Exit → Act → World → Prop}
/-- none of the first k operations writes this slot -/
def unwK (ops : Array Oper) (k s : Nat) : Bool := (List.range k).all fun i => dstOf ops i != some s
theorem vinv_stepK {a0 : Act} {B : World} {k : Nat} (R : List SP) (hap : apart ops a0.tmps.size = true) (hg : guardedS ops R k = true) (hsk : ∀ i, i < k → skips ops R i = true → R.getD i SP.any = .is undef) {L : Nat → Bool} {a : Act} {w : World} {i : Nat} {o : Oper} (hik : i < k) (hI : VInv ops R B a0 L a w) (ho : ops[i]? = some o) (hLi : L i = false) (hdep : ∀ e ∈ o.after, Region.binds .any e = true → L e.on = true) (hno : ∀ j, k ≤ j → L j = false)
    (hstep : skips ops R i = false → ∀ E w, Below B.heap.size B w → Due ops R a0 o E w → (∀ s, unwK ops k s = true → E (.tmp s) = a0.eval (.tmp s)) → Does P Q o E w (R.getD i SP.any).has) :
    wpOp P ops Q i (fun a' w' => VInv ops R B a0 (fun j => if j = i then true else L j) a' w') a w := by
  have hio : i < ops.size := (Array.getElem?_eq_some_iff.1 ho).1
  have hdv : ∀ e ∈ o.after, Region.binds .any e = true → ∃ v, (R.getD e.on SP.any).has w v ∧ ∀ d, dstOf ops e.on = some d → a.tmps[d]? = some v := fun e he hb => hI.vals e.on (hdep e he hb)
  have hfin : ∀ v w', Below w.heap.size w w' → (R.getD i SP.any).has w' v → VInv ops R B a0 (fun j => if j = i then true else L j) (a.put o.dst v) w' := fun v w' hb hR => by
    have hB := hI.below.trans (hb.mono hI.below.size)
    have hdo : dstOf ops i = o.dst := by unfold dstOf; rw [ho]; rfl
    refine ⟨hB, ?_, ?_, fun j hj => ?_, fun k hk => ?_⟩
    · cases hd : o.dst <;> exact hI.defers
    · cases hd : o.dst <;> simp only [Act.put, Array.size_setIfInBounds] <;> exact hI.size
    · by_cases hji : j = i
      · subst hji
        refine ⟨v, hR, fun d hd => ?_⟩
        rw [hdo] at hd
        have hlt := apart_lt hap hio (by rw [hdo]; exact hd)
        rw [hd]
        show (a.tmps.setIfInBounds d v)[d]? = some v
        rw [Array.getElem?_setIfInBounds, if_pos rfl, if_pos (by rw [hI.size]; exact hlt)]
      · rw [if_neg hji] at hj
        obtain ⟨u, hu, hud⟩ := hI.vals j hj
        refine ⟨u, SP.has_below hu hb, fun d hd => ?_⟩
        cases hod : o.dst with
        | none => exact hud d hd
        | some d' =>
          have hne : d' ≠ d := fun e => hji (apart_ne hap (dst_lt hd) hio hd (by rw [hdo, hod, e]))
          show (a.tmps.setIfInBounds d' v)[d]? = some u
          rw [Array.getElem?_setIfInBounds, if_neg hne]
          exact hud d hd
    · have hk' : ∀ j, L j = true → dstOf ops j ≠ some k := fun j hj => hk j (by by_cases h : j = i <;> simp [h, hj])
      have hki : o.dst ≠ some k := by rw [← hdo]; exact hk i (by simp)
      cases hod : o.dst with
      | none => exact hI.rest k hk'
      | some d' =>
        have hne : d' ≠ k := fun e => hki (by rw [hod, e])
        show (a.tmps.setIfInBounds d' v)[k]? = _
        rw [Array.getElem?_setIfInBounds, if_neg hne]
        exact hI.rest k hk'
  by_cases hs : skips ops R i = true
  · have hw : Region.wanted o (yielded ops a.tmps) = false := by
      have h1 := List.all_eq_true.1 hg i (List.mem_range.2 hik)
      unfold skips at hs
      simp only [ho] at h1 hs
      unfold Region.wanted
      cases hgd : o.guard with
      | none => rw [hgd] at hs; cases hs
      | some x =>
        obtain ⟨j, want⟩ := x
        simp only [hgd, Bool.and_eq_true] at h1 hs
        obtain ⟨⟨_, hsm⟩, h2⟩ := h1
        obtain ⟨ix, hix, h3⟩ := Array.any_eq_true.1 h2
        have he : o.after[ix] ∈ o.after := Array.getElem_mem hix
        generalize o.after[ix] = e at *
        simp only [Bool.and_eq_true, beq_iff_eq] at h3
        obtain ⟨h3, h4⟩ := h3
        obtain ⟨v, hv, hd⟩ := hdv e he h4
        rw [h3] at hv hd
        have hvb : v = .bool (!want) := by
          cases hr : R.getD j SP.any with
          | is x =>
            rw [hr] at hs hv
            cases x <;> simp only [SP.bool?, Bool.false_eq_true] at hs
            rename_i bb
            have hbb : bb = !want := by cases bb <;> cases want <;> simp_all
            rw [hbb] at hv
            exact hv
          | st p hp => rw [hr] at hs; simp [SP.bool?] at hs
        obtain ⟨d, hdj⟩ := Option.isSome_iff_exists.1 hsm
        have hy : yielded ops a.tmps j = some (!want) := by
          unfold yielded
          have e1 : (ops[j]?).bind (·.dst) = some d := hdj
          rw [e1]
          simp only [Option.bind_some, hd d hdj, hvb]
        simp only [hy]
        cases want <;> rfl
    refine wpOp_step ho fun K' hK => ?_
    rw [if_neg (by rw [hw]; exact Bool.false_ne_true)]
    exact hK _ _ (hfin undef w (Below.refl _ _) (by rw [hsk i hik hs]; rfl))
  have hw : Region.wanted o (yielded ops a.tmps) = true := by
    have h1 := List.all_eq_true.1 hg i (List.mem_range.2 hik)
    unfold skips at hs
    simp only [ho] at h1 hs
    unfold Region.wanted
    cases hgd : o.guard with
    | none => rfl
    | some x =>
      obtain ⟨j, want⟩ := x
      simp only [hgd, Bool.and_eq_true] at h1 hs
      obtain ⟨⟨⟨hbs, _⟩, hsm⟩, h2⟩ := h1
      obtain ⟨ix, hix, h3⟩ := Array.any_eq_true.1 h2
      have he : o.after[ix] ∈ o.after := Array.getElem_mem hix
      generalize o.after[ix] = e at *
      simp only [Bool.and_eq_true, beq_iff_eq] at h3
      obtain ⟨h3, h4⟩ := h3
      obtain ⟨v, hv, hd⟩ := hdv e he h4
      rw [h3] at hv hd
      have hvb : v = .bool want := by
        cases hr : R.getD j SP.any with
        | is x =>
          rw [hr] at hs hv hbs
          cases x <;> simp only [SP.bool?, Option.isSome_none, Bool.false_eq_true] at hbs
          rename_i bb
          simp only [SP.bool?] at hs
          have hbb : bb = want := by cases bb <;> cases want <;> simp_all
          rw [hbb] at hv
          exact hv
        | st p hp => rw [hr] at hbs; simp [SP.bool?] at hbs
      obtain ⟨d, hdj⟩ := Option.isSome_iff_exists.1 hsm
      have hy : yielded ops a.tmps j = some want := by
        unfold yielded
        have e1 : (ops[j]?).bind (·.dst) = some d := hdj
        rw [e1]
        simp only [Option.bind_some, hd d hdj, hvb]
      simp only [hy, beq_self_eq_true]
  refine wpOp_step ho fun K' hK => ?_
  rw [if_pos hw]
  refine hstep (by simpa using hs) a.eval w hI.below ⟨fun _ => rfl, fun _ => rfl, fun k hk => ?_, fun e he hb => ?_⟩ (fun s hs2 => ?_) a K' rfl fun v w' hb hR => ?_
  · show a.tmps.getD k undef = a0.tmps.getD k undef
    rw [Array.getD_eq_getD_getElem?, Array.getD_eq_getD_getElem?, hI.rest k fun j hj h => ?_]
    have := List.all_eq_true.1 hk j (List.mem_range.2 (dst_lt h))
    rw [h] at this
    simp at this
  · obtain ⟨v, hv, hd⟩ := hdv e he hb
    exact ⟨v, hv, fun d hdd => getD_of (hd d hdd)⟩
  · show a.tmps.getD s undef = a0.tmps.getD s undef
    rw [Array.getD_eq_getD_getElem?, Array.getD_eq_getD_getElem?, hI.rest s fun j hj h => ?_]
    have hjk : j < k := by
      rcases Nat.lt_or_ge j k with h1 | h1
      · exact h1
      · rw [hno j h1] at hj; cases hj
    have := List.all_eq_true.1 hs2 j (List.mem_range.2 hjk)
    rw [h] at this
    simp at this
  · exact hK _ _ (hfin v w' hb hR)
theorem region_tailK {id : Nat} {a0 : Act} {w0 : World} (k : Nat) (R : List SP) (ds : List (Option Tmp)) (hm : P.follows .mixedOrders = true) (hord : orderedB .any ops = true) (hap : apart ops a0.tmps.size = true) (hg : guardedS ops R k = true) (sk : List Nat) (hskl : skipped ops R k = sk) (hsk0 : ∀ p ∈ sk, R.getD p SP.any = .is undef) (hds : (List.range k).map (dstOf ops) = ds) (htl : tailed ops k = true)
    (hstep : ∀ i o, ops[i]? = some o → i < k → skips ops R i = false → ∀ E w, Below w0.drew.heap.size w0.drew w → Due ops R a0 o E w → (∀ s, unwK ops k s = true → E (.tmp s) = a0.eval (.tmp s)) → Does P Q o E w (R.getD i SP.any).has)
    (hdone : ∀ (vals : Nat → Value) w, Below w0.drew.heap.size w0.drew w → (∀ i, i < k → (R.getD i SP.any).has w (vals i)) → wpList P ops Q (ops.toList.drop k) { a0 with tmps := setL ds vals 0 a0.tmps } w) : (Code.region id ops true).wp P Q a0 w0 := by
  have hsk := skip_of hskl hsk0
  unfold tailed at htl
  simp only [Bool.and_eq_true, decide_eq_true_eq] at htl
  obtain ⟨⟨hkn, hcov⟩, hch⟩ := htl
  have hchain : ∀ i, k ≤ i → i + 1 < ops.size → waitsFor ops (i + 1) i = true := fun i h1 h2 => by
    have := List.all_eq_true.1 hch i (List.mem_range.2 (by omega))
    simp only [Bool.or_eq_true, decide_eq_true_eq] at this
    rcases this with (h | h) | h
    · omega
    · omega
    · exact h
  have hcover : ∀ j, j < k → k < ops.size → ∃ i, j < i ∧ i ≤ k ∧ waitsFor ops i j = true := fun j h1 h2 => by
    have := List.all_eq_true.1 hcov j (List.mem_range.2 h1)
    simp only [Bool.or_eq_true, beq_iff_eq] at this
    rcases this with h | h
    · omega
    · obtain ⟨i, hi, h⟩ := List.any_eq_true.1 h
      simp only [Bool.and_eq_true, decide_eq_true_eq] at h
      exact ⟨i, h.1, by have := List.mem_range.1 hi; omega, h.2⟩
  have hfin : ∀ L a w, VInv ops R w0.drew a0 L a w → (∀ j, j < k → L j = true) → (∀ j, k ≤ j → L j = false) → wpList P ops Q (ops.toList.drop k) a w := fun L a w hI hall hno => by
    have hv : ∀ i, ∃ v, i < k → (R.getD i SP.any).has w v ∧ ∀ d, dstOf ops i = some d → a.tmps[d]? = some v := fun i => by
      by_cases hi : i < k
      · obtain ⟨v, h⟩ := hI.vals i (hall i hi); exact ⟨v, fun _ => h⟩
      · exact ⟨undef, fun h => absurd h hi⟩
    obtain ⟨vals, hvals⟩ := Classical.axiomOfChoice hv
    have ha : a = { a0 with tmps := setAll ops vals k a0.tmps } := by
      obtain ⟨tm, df⟩ := a
      have h1 : df = a0.defers := hI.defers
      have h2 : tm = setAll ops vals k a0.tmps := by
        refine Array.ext_getElem? fun s => ?_
        have hset := setAll_get vals hap s k a0.tmps hkn rfl
        by_cases hk : ∃ i, i < k ∧ dstOf ops i = some s
        · obtain ⟨i, hik, hi⟩ := hk
          rw [hset.2 i hik hi]
          exact (hvals i hik).2 s hi
        · rw [hset.1 fun i hi h => hk ⟨i, hi, h⟩]
          refine hI.rest s fun i hi h => ?_
          rcases Nat.lt_or_ge i k with hl | hl
          · exact hk ⟨i, hl, h⟩
          · rw [hno i hl] at hi; cases hi
      rw [h1, h2]
    rw [ha, setAll_eq, hds]
    exact hdone vals w hI.below fun i hi => (hvals i hi).1
  refine region_invB (fun a0 B L a w => (VInv ops R B a0 L a w ∧ (∀ i, k ≤ i → L i = false) ∧ Closed ops L) ∨ ∃ m, k ≤ m ∧ m ≤ ops.size ∧ (∀ i, L i = decide (i < m)) ∧ wpList P ops Q (ops.toList.drop m) a w) hm hord
    (Or.inl ⟨⟨Below.refl _ _, rfl, rfl, fun i h => (Bool.noConfusion h), fun k _ => rfl⟩, fun _ _ => rfl, fun i o _ h => (Bool.noConfusion h)⟩) ?_ ?_
  · intro L a w hI i o ho hLi hdep
    have hio : i < ops.size := (Array.getElem?_eq_some_iff.1 ho).1
    rcases hI with ⟨hI, hno, hcl⟩ | ⟨m, hm1, hm2, hL, hwp⟩
    · by_cases hik : i < k
      · refine wpOp_mono (fun a' w' h => Or.inl ?_) (vinv_stepK R hap hg hsk hik hI ho hLi hdep hno (hstep i o ho hik))
        refine ⟨h, fun j hj => ?_, fun j o' ho' hj e he hb => ?_⟩
        · have hji : j ≠ i := by omega
          simp only [hji, if_false]
          exact hno j hj
        · by_cases hji : j = i
          · subst hji
            rw [ho] at ho'; cases ho'
            by_cases h2 : e.on = j
            · simp [h2]
            · simp only [h2, if_false]; exact hdep e he hb
          · simp only [hji, if_false] at hj
            by_cases h2 : e.on = i
            · simp [h2]
            · simp only [h2, if_false]; exact hcl j o' ho' hj e he hb
      · have hik' : i = k := by
          rcases Nat.lt_or_ge k i with h | h
          · have := waits_done (L := L) (hchain (i - 1) (by omega) (by omega)) (by rw [show i - 1 + 1 = i by omega]; exact ho) hdep
            rw [hno (i - 1) (by omega)] at this; cases this
          · omega
        subst hik'
        have hall : ∀ d j, i - j ≤ d → j < i → L j = true := by
          intro d
          induction d with
          | zero => intro j h1 h2; omega
          | succ d ih =>
            intro j h1 h2
            obtain ⟨q, hq1, hq2, hq3⟩ := hcover j h2 hio
            by_cases hqi : q = i
            · subst hqi; exact waits_done hq3 ho hdep
            · have hq : L q = true := ih q (by omega) (by omega)
              have hqo : ops[q]? = some ops[q] := Array.getElem?_eq_getElem (by omega)
              exact waits_done hq3 hqo (hcl q _ hqo hq)
        refine wpOp_mono (fun a' w' h => Or.inr ⟨i + 1, by omega, by omega, fun j => ?_, h⟩) (wpList_to_op ho (hfin L a w hI (fun j hj => hall _ j (Nat.le_refl _) hj) hno))
        by_cases hji : j = i
        · subst hji; simp
        · simp only [hji, if_false]
          rcases Nat.lt_or_ge j i with h1 | h1
          · rw [hall _ j (Nat.le_refl _) h1]; simp; omega
          · rw [hno j h1]; simp; omega
    · have him : i = m := by
        have h1 : ¬ i < m := fun h => by rw [hL i] at hLi; simp [h] at hLi
        rcases Nat.lt_or_ge m i with h | h
        · have := waits_done (L := L) (hchain (i - 1) (by omega) (by omega)) (by rw [show i - 1 + 1 = i by omega]; exact ho) hdep
          rw [hL (i - 1)] at this
          simp at this; omega
        · omega
      subst him
      refine wpOp_mono (fun a' w' h => Or.inr ⟨i + 1, by omega, by omega, fun j => ?_, h⟩) (wpList_to_op ho hwp)
      by_cases hji : j = i
      · subst hji; simp
      · simp only [hji, if_false]
        rw [hL j]
        rcases Nat.lt_or_ge j i with h1 | h1
        · simp [h1]; omega
        · simp; omega
  · intro L a w hall hI
    rcases hI with ⟨hI, hno, hcl⟩ | ⟨m, hm1, hm2, hL, hwp⟩
    · have hk : k = ops.size := by
        rcases Nat.lt_or_ge k ops.size with h | h
        · have := hall k h; rw [hno k (Nat.le_refl _)] at this; cases this
        · omega
      have := hfin L a w hI (fun j hj => hall j (by omega)) hno
      rw [hk, ← Array.length_toList, List.drop_length] at this
      exact this
    · have hk : m = ops.size := by
        rcases Nat.lt_or_ge m ops.size with h | h
        · have := hall m h; rw [hL m] at this; simp at this
        · omega
      rw [hk, ← Array.length_toList, List.drop_length] at hwp
      exact hwp
end

end Go.Proofs.Ytieipbobijnmlaa.wk
/- As Val3, for a region whose tail writes a slot that its first operations read. No program here. -/
namespace Go.Proofs.Ytieipbobijnmlaa.wk

open Go.RowKit

set_option linter.unusedVariables false

section

variable {P : Program} {ops : Array Oper} {Q : Exit → Act → World → Prop} {md : Region.Mode}
theorem linv_step2K {a0 : Act} {k : Nat} (R : (Nat → Bool) → Nat → World → Value → Prop) (hap : apart ops a0.tmps.size = true) (hg : noGuard ops k = true) {L : Nat → Bool} {a : Act} {w : World} {i : Nat} {o : Oper} (hik : i < k) (hI : LInv ops R a0 L a w) (ho : ops[i]? = some o) (hdep : ∀ e ∈ o.after, Region.binds .any e = true → L e.on = true) (hno : ∀ j, k ≤ j → L j = false)
    {S : World → Prop} (hstep : ∀ E, DueG ops (R L) a0 o E w → (∀ s, unwK ops k s = true → E (.tmp s) = a0.eval (.tmp s)) → DoesT P Q o E w fun w' v => R (fun j => if j = i then true else L j) i w' v ∧ (∀ j u, L j = true → (∀ d, dstOf ops j = some d → E (.tmp d) = u) → R L j w u → R (fun j => if j = i then true else L j) j w' u) ∧ S w') :
    wpOp P ops Q i (fun a' w' => LInv ops R a0 (fun j => if j = i then true else L j) a' w' ∧ S w') a w := by
  have hio : i < ops.size := (Array.getElem?_eq_some_iff.1 ho).1
  have hdv : ∀ e ∈ o.after, Region.binds .any e = true → ∃ v, R L e.on w v ∧ ∀ d, dstOf ops e.on = some d → a.tmps[d]? = some v := fun e he hb => hI.vals e.on (hdep e he hb)
  have hgn : o.guard = none := by
    have h1 := List.all_eq_true.1 hg i (List.mem_range.2 hik)
    simp only [ho, Option.isNone_iff_eq_none] at h1
    exact h1
  refine wpOp_step ho fun K' hK => ?_
  rw [if_pos (by simp [Region.wanted, hgn])]
  refine hstep a.eval ⟨fun _ => rfl, fun _ => rfl, fun k hk => ?_, fun e he hb => ?_⟩ (fun s hs2 => ?_) a K' rfl fun v w' hRT => ?_
  · show a.tmps.getD k undef = a0.tmps.getD k undef
    rw [Array.getD_eq_getD_getElem?, Array.getD_eq_getD_getElem?, hI.rest k fun j hj h => ?_]
    have := List.all_eq_true.1 hk j (List.mem_range.2 (dst_lt h))
    rw [h] at this
    simp at this
  · obtain ⟨v, hv, hd⟩ := hdv e he hb
    exact ⟨v, hv, fun d hdd => getD_of (hd d hdd)⟩
  · show a.tmps.getD s undef = a0.tmps.getD s undef
    rw [Array.getD_eq_getD_getElem?, Array.getD_eq_getD_getElem?, hI.rest s fun j hj h => ?_]
    have hjk : j < k := by
      rcases Nat.lt_or_ge j k with h1 | h1
      · exact h1
      · rw [hno j h1] at hj; cases hj
    have := List.all_eq_true.1 hs2 j (List.mem_range.2 hjk)
    rw [h] at this
    simp at this
  · obtain ⟨hv, hT, hS⟩ := hRT
    have hdo : dstOf ops i = o.dst := by unfold dstOf; rw [ho]; rfl
    refine hK _ _ ⟨⟨?_, ?_, fun j hj => ?_, fun k hk => ?_⟩, hS⟩
    · cases hd : o.dst <;> exact hI.defers
    · cases hd : o.dst <;> simp only [Act.put, Array.size_setIfInBounds] <;> exact hI.size
    · by_cases hji : j = i
      · subst hji
        refine ⟨v, hv, fun d hd => ?_⟩
        rw [hdo] at hd
        have hlt := apart_lt hap hio (by rw [hdo]; exact hd)
        rw [hd]
        show (a.tmps.setIfInBounds d _)[d]? = some _
        rw [Array.getElem?_setIfInBounds, if_pos rfl, if_pos (by rw [hI.size]; exact hlt)]
      · rw [if_neg hji] at hj
        obtain ⟨u, hu, hud⟩ := hI.vals j hj
        refine ⟨u, hT j u hj (fun d hd => getD_of (hud d hd)) hu, fun d hd => ?_⟩
        cases hod : o.dst with
        | none => exact hud d hd
        | some d' =>
          have hne : d' ≠ d := fun e => hji (apart_ne hap (dst_lt hd) hio hd (by rw [hdo, hod, e]))
          show (a.tmps.setIfInBounds d' _)[d]? = _
          rw [Array.getElem?_setIfInBounds, if_neg hne]
          exact hud d hd
    · have hk' : ∀ j, L j = true → dstOf ops j ≠ some k := fun j hj => hk j (by by_cases h : j = i <;> simp [h, hj])
      have hki : o.dst ≠ some k := by rw [← hdo]; exact hk i (by simp)
      cases hod : o.dst with
      | none => exact hI.rest k hk'
      | some d' =>
        have hne : d' ≠ k := fun e => hki (by rw [hod, e])
        show (a.tmps.setIfInBounds d' _)[k]? = _
        rw [Array.getElem?_setIfInBounds, if_neg hne]
        exact hI.rest k hk'
/-- .. where what is said of the values rests on what has been done -/
theorem region_lev2K {id : Nat} {a0 : Act} {w0 : World} (k : Nat) (R : (Nat → Bool) → Nat → World → Value → Prop) (ds : List (Option Tmp)) (S : (Nat → Bool) → World → Prop) (h0 : S (fun _ => false) w0.drew) (hm : P.follows .mixedOrders = true) (hord : orderedB .any ops = true) (hap : apart ops a0.tmps.size = true) (hg : noGuard ops k = true) (hds : (List.range k).map (dstOf ops) = ds) (htl : tailed ops k = true)
    (hstep : ∀ i o, ops[i]? = some o → i < k → ∀ E L w, S L w → L i = false → (∀ e ∈ o.after, Region.binds .any e = true → L e.on = true) → DueG ops (R L) a0 o E w → (∀ s, unwK ops k s = true → E (.tmp s) = a0.eval (.tmp s)) → DoesT P Q o E w (fun w' v => R (fun j => if j = i then true else L j) i w' v ∧ (∀ j u, L j = true → (∀ d, dstOf ops j = some d → E (.tmp d) = u) → R L j w u → R (fun j => if j = i then true else L j) j w' u) ∧ S (fun j => if j = i then true else L j) w'))
    (hdone : ∀ (vals : Nat → Value) L w, (∀ j, j < k → L j = true) → S L w → (∀ i, i < k → R L i w (vals i)) → wpList P ops Q (ops.toList.drop k) { a0 with tmps := setL ds vals 0 a0.tmps } w) : (Code.region id ops true).wp P Q a0 w0 := by
  unfold tailed at htl
  simp only [Bool.and_eq_true, decide_eq_true_eq] at htl
  obtain ⟨⟨hkn, hcov⟩, hch⟩ := htl
  have hchain : ∀ i, k ≤ i → i + 1 < ops.size → waitsFor ops (i + 1) i = true := fun i h1 h2 => by
    have := List.all_eq_true.1 hch i (List.mem_range.2 (by omega))
    simp only [Bool.or_eq_true, decide_eq_true_eq] at this
    rcases this with (h | h) | h
    · omega
    · omega
    · exact h
  have hcover : ∀ j, j < k → k < ops.size → ∃ i, j < i ∧ i ≤ k ∧ waitsFor ops i j = true := fun j h1 h2 => by
    have := List.all_eq_true.1 hcov j (List.mem_range.2 h1)
    simp only [Bool.or_eq_true, beq_iff_eq] at this
    rcases this with h | h
    · omega
    · obtain ⟨i, hi, h⟩ := List.any_eq_true.1 h
      simp only [Bool.and_eq_true, decide_eq_true_eq] at h
      exact ⟨i, h.1, by have := List.mem_range.1 hi; omega, h.2⟩
  have hfin : ∀ L a w, LInv ops R a0 L a w → S L w → (∀ j, j < k → L j = true) → (∀ j, k ≤ j → L j = false) → wpList P ops Q (ops.toList.drop k) a w := fun L a w hI hw hall hno => by
    have hv : ∀ i, ∃ v, i < k → R L i w v ∧ ∀ d, dstOf ops i = some d → a.tmps[d]? = some v := fun i => by
      by_cases hi : i < k
      · obtain ⟨v, h⟩ := hI.vals i (hall i hi); exact ⟨v, fun _ => h⟩
      · exact ⟨undef, fun h => absurd h hi⟩
    obtain ⟨vals, hvals⟩ := Classical.axiomOfChoice hv
    have ha : a = { a0 with tmps := setAll ops vals k a0.tmps } := by
      obtain ⟨tm, df⟩ := a
      have h1 : df = a0.defers := hI.defers
      have h2 : tm = setAll ops vals k a0.tmps := by
        refine Array.ext_getElem? fun s => ?_
        have hset := setAll_get vals hap s k a0.tmps hkn rfl
        by_cases hk : ∃ i, i < k ∧ dstOf ops i = some s
        · obtain ⟨i, hik, hi⟩ := hk
          rw [hset.2 i hik hi]
          exact (hvals i hik).2 s hi
        · rw [hset.1 fun i hi h => hk ⟨i, hi, h⟩]
          refine hI.rest s fun i hi h => ?_
          rcases Nat.lt_or_ge i k with hl | hl
          · exact hk ⟨i, hl, h⟩
          · rw [hno i hl] at hi; cases hi
      rw [h1, h2]
    rw [ha, setAll_eq, hds]
    exact hdone vals L w hall hw fun i hi => (hvals i hi).1
  refine region_invB (fun a0' B L a w => (LInv ops R a0 L a w ∧ S L w ∧ (∀ i, k ≤ i → L i = false) ∧ Closed ops L) ∨ ∃ m, k ≤ m ∧ m ≤ ops.size ∧ (∀ i, L i = decide (i < m)) ∧ wpList P ops Q (ops.toList.drop m) a w) hm hord
    (Or.inl ⟨⟨rfl, rfl, fun i h => (Bool.noConfusion h), fun k _ => rfl⟩, h0, fun _ _ => rfl, fun i o _ h => (Bool.noConfusion h)⟩) ?_ ?_
  · intro L a w hI i o ho hLi hdep
    have hio : i < ops.size := (Array.getElem?_eq_some_iff.1 ho).1
    rcases hI with ⟨hI, hSw, hno, hcl⟩ | ⟨m, hm1, hm2, hL, hwp⟩
    · by_cases hik : i < k
      · refine wpOp_mono (fun a' w' h => Or.inl ?_) (linv_step2K R hap hg hik hI ho hdep hno (S := S (fun j => if j = i then true else L j)) fun E hE hO => hstep i o ho hik E L w hSw hLi hdep hE hO)
        refine ⟨h.1, h.2, fun j hj => ?_, fun j o' ho' hj e he hb => ?_⟩
        · have hji : j ≠ i := by omega
          simp only [hji, if_false]
          exact hno j hj
        · by_cases hji : j = i
          · subst hji
            rw [ho] at ho'; cases ho'
            by_cases h2 : e.on = j
            · simp [h2]
            · simp only [h2, if_false]; exact hdep e he hb
          · simp only [hji, if_false] at hj
            by_cases h2 : e.on = i
            · simp [h2]
            · simp only [h2, if_false]; exact hcl j o' ho' hj e he hb
      · have hik' : i = k := by
          rcases Nat.lt_or_ge k i with h | h
          · have := waits_done (L := L) (hchain (i - 1) (by omega) (by omega)) (by rw [show i - 1 + 1 = i by omega]; exact ho) hdep
            rw [hno (i - 1) (by omega)] at this; cases this
          · omega
        subst hik'
        have hall : ∀ d j, i - j ≤ d → j < i → L j = true := by
          intro d
          induction d with
          | zero => intro j h1 h2; omega
          | succ d ih =>
            intro j h1 h2
            obtain ⟨q, hq1, hq2, hq3⟩ := hcover j h2 hio
            by_cases hqi : q = i
            · subst hqi; exact waits_done hq3 ho hdep
            · have hq : L q = true := ih q (by omega) (by omega)
              have hqo : ops[q]? = some ops[q] := Array.getElem?_eq_getElem (by omega)
              exact waits_done hq3 hqo (hcl q _ hqo hq)
        refine wpOp_mono (fun a' w' h => Or.inr ⟨i + 1, by omega, by omega, fun j => ?_, h⟩) (wpList_to_op ho (hfin L a w hI hSw (fun j hj => hall _ j (Nat.le_refl _) hj) hno))
        by_cases hji : j = i
        · subst hji; simp
        · simp only [hji, if_false]
          rcases Nat.lt_or_ge j i with h1 | h1
          · rw [hall _ j (Nat.le_refl _) h1]; simp; omega
          · rw [hno j h1]; simp; omega
    · have him : i = m := by
        have h1 : ¬ i < m := fun h => by rw [hL i] at hLi; simp [h] at hLi
        rcases Nat.lt_or_ge m i with h | h
        · have := waits_done (L := L) (hchain (i - 1) (by omega) (by omega)) (by rw [show i - 1 + 1 = i by omega]; exact ho) hdep
          rw [hL (i - 1)] at this
          simp at this; omega
        · omega
      subst him
      refine wpOp_mono (fun a' w' h => Or.inr ⟨i + 1, by omega, by omega, fun j => ?_, h⟩) (wpList_to_op ho hwp)
      by_cases hji : j = i
      · subst hji; simp
      · simp only [hji, if_false]
        rw [hL j]
        rcases Nat.lt_or_ge j i with h1 | h1
        · simp [h1]; omega
        · simp; omega
  · intro L a w hall hI
    rcases hI with ⟨hI, hSw, hno, hcl⟩ | ⟨m, hm1, hm2, hL, hwp⟩
    · have hk : k = ops.size := by
        rcases Nat.lt_or_ge k ops.size with h | h
        · have := hall k h; rw [hno k (Nat.le_refl _)] at this; cases this
        · omega
      have := hfin L a w hI hSw (fun j hj => hall j (by omega)) hno
      rw [hk, ← Array.length_toList, List.drop_length] at this
      exact this
    · have hk : m = ops.size := by
        rcases Nat.lt_or_ge m ops.size with h | h
        · have := hall m h; rw [hL m] at this; simp at this
        · omega
      rw [hk, ← Array.length_toList, List.drop_length] at hwp
      exact hwp
end

end Go.Proofs.Ytieipbobijnmlaa.wk
/- A region whose values are known and that turns the world at several places, in a round. No program here. -/
namespace Go.Proofs.Ytieipbobijnmlaa.wk

open Go.RowKit

set_option linter.unusedVariables false

section

variable {P : Program} {ops : Array Oper} {Q : Exit → Act → World → Prop}
theorem does_skip_t {o : Oper} {E : Operand → Value} {w w' : World} {R : World → Value → Prop} (hrun : (execOp E o).run P w = .ok .skip w') (hR : R w' undef) : DoesT P Q o E w R := fun a K hE hK => by
  unfold Oper.wp
  rw [hE, hrun, Oper.upon_skip]
  exact hK _ _ hR
theorem region_many_in {id n : Nat} {a0 : Act} {w0 : World} (l : Nat) (hnd : noDefer ops = true) (hq : ¬ LetsOut Q) (k : Nat) (vs : List Value) (ds : List (Option Tmp)) (S : (Nat → Bool) → World → Prop) (h0 : S (fun _ => false) w0.drew) (hk : k = vs.length) (hm : P.follows .mixedOrders = true) (hord : orderedB .any ops = true) (hap : apart ops a0.tmps.size = true) (hg : guarded ops (vs.map SP.is) k = true) (hds : (List.range k).map (dstOf ops) = ds) (htl : tailed ops k = true)
    (hstep : ∀ i o, ops[i]? = some o → i < k → ∀ E L w, S L w → L i = false → (∀ e ∈ o.after, Region.binds .any e = true → L e.on = true) → Due ops (vs.map SP.is) a0 o E w → DoesT P Q o E w (fun w' v => v = vs.getD i undef ∧ S (fun j => if j = i then true else L j) w'))
    (hdone : ∀ L w, (∀ j, j < k → L j = true) → S L w → wpList P ops Q (ops.toList.drop k) { a0 with tmps := setL ds (fun i => vs.getD i undef) 0 a0.tmps } w) : (Code.region id ops true).wpIn (Fence.wide.inRound l) n P Q a0 w0 := by
  unfold tailed at htl
  simp only [Bool.and_eq_true, decide_eq_true_eq] at htl
  obtain ⟨⟨hkn, hcov⟩, hch⟩ := htl
  have hchain : ∀ i, k ≤ i → i + 1 < ops.size → waitsFor ops (i + 1) i = true := fun i h1 h2 => by
    have := List.all_eq_true.1 hch i (List.mem_range.2 (by omega))
    simp only [Bool.or_eq_true, decide_eq_true_eq] at this
    rcases this with (h | h) | h
    · omega
    · omega
    · exact h
  have hcover : ∀ j, j < k → k < ops.size → ∃ i, j < i ∧ i ≤ k ∧ waitsFor ops i j = true := fun j h1 h2 => by
    have := List.all_eq_true.1 hcov j (List.mem_range.2 h1)
    simp only [Bool.or_eq_true, beq_iff_eq] at this
    rcases this with h | h
    · omega
    · obtain ⟨i, hi, h⟩ := List.any_eq_true.1 h
      simp only [Bool.and_eq_true, decide_eq_true_eq] at h
      exact ⟨i, h.1, by have := List.mem_range.1 hi; omega, h.2⟩
  have hfin : ∀ L a w, UInv ops vs a0 L a → S L w → (∀ j, j < k → L j = true) → (∀ j, k ≤ j → L j = false) → wpList P ops Q (ops.toList.drop k) a w := fun L a w hI hw hall hno => by
    have ha : a = { a0 with tmps := setAll ops (fun i => vs.getD i undef) k a0.tmps } := by
      obtain ⟨tm, df⟩ := a
      have h1 : df = a0.defers := hI.defers
      have h2 : tm = setAll ops (fun i => vs.getD i undef) k a0.tmps := by
        refine Array.ext_getElem? fun s => ?_
        have hset := setAll_get (fun i => vs.getD i undef) hap s k a0.tmps hkn rfl
        by_cases hk : ∃ i, i < k ∧ dstOf ops i = some s
        · obtain ⟨i, hik, hi⟩ := hk
          rw [hset.2 i hik hi]
          exact hI.vals i (hall i hik) s hi
        · rw [hset.1 fun i hi h => hk ⟨i, hi, h⟩]
          refine hI.rest s fun i hi h => ?_
          rcases Nat.lt_or_ge i k with hl | hl
          · exact hk ⟨i, hl, h⟩
          · rw [hno i hl] at hi; cases hi
      rw [h1, h2]
    rw [ha, setAll_eq, hds]
    exact hdone L w hall hw
  refine region_invB_in l hnd hq (fun a0' B L a w => (UInv ops vs a0 L a ∧ S L w ∧ (∀ i, k ≤ i → L i = false) ∧ Closed ops L) ∨ ∃ m, k ≤ m ∧ m ≤ ops.size ∧ (∀ i, L i = decide (i < m)) ∧ wpList P ops Q (ops.toList.drop m) a w) hm hord
    (Or.inl ⟨⟨rfl, rfl, fun i h => (Bool.noConfusion h), fun k _ => rfl⟩, h0, fun _ _ => rfl, fun i o _ h => (Bool.noConfusion h)⟩) ?_ ?_
  · intro L a w hI i o ho hLi hdep
    have hio : i < ops.size := (Array.getElem?_eq_some_iff.1 ho).1
    rcases hI with ⟨hI, hSw, hno, hcl⟩ | ⟨m, hm1, hm2, hL, hwp⟩
    · by_cases hik : i < k
      · have hdo : ∀ E, Due ops (vs.map SP.is) a0 o E w → DoesT P Q o E w fun w' v => v = vs.getD i undef ∧ S (fun j => if j = i then true else L j) w' := fun E hE => hstep i o ho hik E L w hSw hLi hdep hE
        refine wpOp_mono (fun a' w' h => Or.inl ?_) (uinv_stepB vs hk hord hap hg hik hI ho hdep hdo)
        refine ⟨h.1, h.2, fun j hj => ?_, fun j o' ho' hj e he hb => ?_⟩
        · have hji : j ≠ i := by omega
          simp only [hji, if_false]
          exact hno j hj
        · by_cases hji : j = i
          · subst hji
            rw [ho] at ho'; cases ho'
            by_cases h2 : e.on = j
            · simp [h2]
            · simp only [h2, if_false]; exact hdep e he hb
          · simp only [hji, if_false] at hj
            by_cases h2 : e.on = i
            · simp [h2]
            · simp only [h2, if_false]; exact hcl j o' ho' hj e he hb
      · have hik' : i = k := by
          rcases Nat.lt_or_ge k i with h | h
          · have := waits_done (L := L) (hchain (i - 1) (by omega) (by omega)) (by rw [show i - 1 + 1 = i by omega]; exact ho) hdep
            rw [hno (i - 1) (by omega)] at this; cases this
          · omega
        subst hik'
        have hall : ∀ d j, i - j ≤ d → j < i → L j = true := by
          intro d
          induction d with
          | zero => intro j h1 h2; omega
          | succ d ih =>
            intro j h1 h2
            obtain ⟨q, hq1, hq2, hq3⟩ := hcover j h2 hio
            by_cases hqi : q = i
            · subst hqi; exact waits_done hq3 ho hdep
            · have hq : L q = true := ih q (by omega) (by omega)
              have hqo : ops[q]? = some ops[q] := Array.getElem?_eq_getElem (by omega)
              exact waits_done hq3 hqo (hcl q _ hqo hq)
        refine wpOp_mono (fun a' w' h => Or.inr ⟨i + 1, by omega, by omega, fun j => ?_, h⟩) (wpList_to_op ho (hfin L a w hI hSw (fun j hj => hall _ j (Nat.le_refl _) hj) hno))
        by_cases hji : j = i
        · subst hji; simp
        · simp only [hji, if_false]
          rcases Nat.lt_or_ge j i with h1 | h1
          · rw [hall _ j (Nat.le_refl _) h1]; simp; omega
          · rw [hno j h1]; simp; omega
    · have him : i = m := by
        have h1 : ¬ i < m := fun h => by rw [hL i] at hLi; simp [h] at hLi
        rcases Nat.lt_or_ge m i with h | h
        · have := waits_done (L := L) (hchain (i - 1) (by omega) (by omega)) (by rw [show i - 1 + 1 = i by omega]; exact ho) hdep
          rw [hL (i - 1)] at this
          simp at this; omega
        · omega
      subst him
      refine wpOp_mono (fun a' w' h => Or.inr ⟨i + 1, by omega, by omega, fun j => ?_, h⟩) (wpList_to_op ho hwp)
      by_cases hji : j = i
      · subst hji; simp
      · simp only [hji, if_false]
        rw [hL j]
        rcases Nat.lt_or_ge j i with h1 | h1
        · simp [h1]; omega
        · simp; omega
  · intro L a w hall hI
    rcases hI with ⟨hI, hSw, hno, hcl⟩ | ⟨m, hm1, hm2, hL, hwp⟩
    · have hk : k = ops.size := by
        rcases Nat.lt_or_ge k ops.size with h | h
        · have := hall k h; rw [hno k (Nat.le_refl _)] at this; cases this
        · omega
      have := hfin L a w hI hSw (fun j hj => hall j (by omega)) hno
      rw [hk, ← Array.length_toList, List.drop_length] at this
      exact this
    · have hk : m = ops.size := by
        rcases Nat.lt_or_ge m ops.size with h | h
        · have := hall m h; rw [hL m] at this; simp at this
        · omega
      rw [hk, ← Array.length_toList, List.drop_length] at hwp
      exact hwp
end

end Go.Proofs.Ytieipbobijnmlaa.wk
/- A region that draws its order, where what is said of the values rests on what has been done, and on the values that the slots hold. No program here. -/
namespace Go.Proofs.Ytieipbobijnmlaa.wk

open Go.RowKit

set_option linter.unusedVariables false

section

variable {P : Program} {ops : Array Oper} {Q : Exit → Act → World → Prop} {md : Region.Mode}
theorem linv_step2 {a0 : Act} {k : Nat} (R : (Nat → Bool) → Nat → World → Value → Prop) (hap : apart ops a0.tmps.size = true) (hg : noGuard ops k = true) {L : Nat → Bool} {a : Act} {w : World} {i : Nat} {o : Oper} (hik : i < k) (hI : LInv ops R a0 L a w) (ho : ops[i]? = some o) (hdep : ∀ e ∈ o.after, Region.binds .any e = true → L e.on = true)
    {S : World → Prop} (hstep : ∀ E, DueG ops (R L) a0 o E w → DoesT P Q o E w fun w' v => R (fun j => if j = i then true else L j) i w' v ∧ (∀ j u, L j = true → (∀ d, dstOf ops j = some d → E (.tmp d) = u) → R L j w u → R (fun j => if j = i then true else L j) j w' u) ∧ S w') :
    wpOp P ops Q i (fun a' w' => LInv ops R a0 (fun j => if j = i then true else L j) a' w' ∧ S w') a w := by
  have hio : i < ops.size := (Array.getElem?_eq_some_iff.1 ho).1
  have hdv : ∀ e ∈ o.after, Region.binds .any e = true → ∃ v, R L e.on w v ∧ ∀ d, dstOf ops e.on = some d → a.tmps[d]? = some v := fun e he hb => hI.vals e.on (hdep e he hb)
  have hgn : o.guard = none := by
    have h1 := List.all_eq_true.1 hg i (List.mem_range.2 hik)
    simp only [ho, Option.isNone_iff_eq_none] at h1
    exact h1
  refine wpOp_step ho fun K' hK => ?_
  rw [if_pos (by simp [Region.wanted, hgn])]
  refine hstep a.eval ⟨fun _ => rfl, fun _ => rfl, fun k hk => ?_, fun e he hb => ?_⟩ a K' rfl fun v w' hRT => ?_
  · show a.tmps.getD k undef = a0.tmps.getD k undef
    rw [Array.getD_eq_getD_getElem?, Array.getD_eq_getD_getElem?, hI.rest k fun j hj h => ?_]
    have := List.all_eq_true.1 hk j (List.mem_range.2 (dst_lt h))
    rw [h] at this
    simp at this
  · obtain ⟨v, hv, hd⟩ := hdv e he hb
    exact ⟨v, hv, fun d hdd => getD_of (hd d hdd)⟩
  · obtain ⟨hv, hT, hS⟩ := hRT
    have hdo : dstOf ops i = o.dst := by unfold dstOf; rw [ho]; rfl
    refine hK _ _ ⟨⟨?_, ?_, fun j hj => ?_, fun k hk => ?_⟩, hS⟩
    · cases hd : o.dst <;> exact hI.defers
    · cases hd : o.dst <;> simp only [Act.put, Array.size_setIfInBounds] <;> exact hI.size
    · by_cases hji : j = i
      · subst hji
        refine ⟨v, hv, fun d hd => ?_⟩
        rw [hdo] at hd
        have hlt := apart_lt hap hio (by rw [hdo]; exact hd)
        rw [hd]
        show (a.tmps.setIfInBounds d _)[d]? = some _
        rw [Array.getElem?_setIfInBounds, if_pos rfl, if_pos (by rw [hI.size]; exact hlt)]
      · rw [if_neg hji] at hj
        obtain ⟨u, hu, hud⟩ := hI.vals j hj
        refine ⟨u, hT j u hj (fun d hd => getD_of (hud d hd)) hu, fun d hd => ?_⟩
        cases hod : o.dst with
        | none => exact hud d hd
        | some d' =>
          have hne : d' ≠ d := fun e => hji (apart_ne hap (dst_lt hd) hio hd (by rw [hdo, hod, e]))
          show (a.tmps.setIfInBounds d' _)[d]? = _
          rw [Array.getElem?_setIfInBounds, if_neg hne]
          exact hud d hd
    · have hk' : ∀ j, L j = true → dstOf ops j ≠ some k := fun j hj => hk j (by by_cases h : j = i <;> simp [h, hj])
      have hki : o.dst ≠ some k := by rw [← hdo]; exact hk i (by simp)
      cases hod : o.dst with
      | none => exact hI.rest k hk'
      | some d' =>
        have hne : d' ≠ k := fun e => hki (by rw [hod, e])
        show (a.tmps.setIfInBounds d' _)[k]? = _
        rw [Array.getElem?_setIfInBounds, if_neg hne]
        exact hI.rest k hk'
/-- .. where what is said of the values rests on what has been done -/
theorem region_lev2 {id : Nat} {a0 : Act} {w0 : World} (k : Nat) (R : (Nat → Bool) → Nat → World → Value → Prop) (ds : List (Option Tmp)) (S : (Nat → Bool) → World → Prop) (h0 : S (fun _ => false) w0.drew) (hm : P.follows .mixedOrders = true) (hord : orderedB .any ops = true) (hap : apart ops a0.tmps.size = true) (hg : noGuard ops k = true) (hds : (List.range k).map (dstOf ops) = ds) (htl : tailed ops k = true)
    (hstep : ∀ i o, ops[i]? = some o → i < k → ∀ E L w, S L w → L i = false → (∀ e ∈ o.after, Region.binds .any e = true → L e.on = true) → DueG ops (R L) a0 o E w → DoesT P Q o E w (fun w' v => R (fun j => if j = i then true else L j) i w' v ∧ (∀ j u, L j = true → (∀ d, dstOf ops j = some d → E (.tmp d) = u) → R L j w u → R (fun j => if j = i then true else L j) j w' u) ∧ S (fun j => if j = i then true else L j) w'))
    (hdone : ∀ (vals : Nat → Value) L w, (∀ j, j < k → L j = true) → S L w → (∀ i, i < k → R L i w (vals i)) → wpList P ops Q (ops.toList.drop k) { a0 with tmps := setL ds vals 0 a0.tmps } w) : (Code.region id ops true).wp P Q a0 w0 := by
  unfold tailed at htl
  simp only [Bool.and_eq_true, decide_eq_true_eq] at htl
  obtain ⟨⟨hkn, hcov⟩, hch⟩ := htl
  have hchain : ∀ i, k ≤ i → i + 1 < ops.size → waitsFor ops (i + 1) i = true := fun i h1 h2 => by
    have := List.all_eq_true.1 hch i (List.mem_range.2 (by omega))
    simp only [Bool.or_eq_true, decide_eq_true_eq] at this
    rcases this with (h | h) | h
    · omega
    · omega
    · exact h
  have hcover : ∀ j, j < k → k < ops.size → ∃ i, j < i ∧ i ≤ k ∧ waitsFor ops i j = true := fun j h1 h2 => by
    have := List.all_eq_true.1 hcov j (List.mem_range.2 h1)
    simp only [Bool.or_eq_true, beq_iff_eq] at this
    rcases this with h | h
    · omega
    · obtain ⟨i, hi, h⟩ := List.any_eq_true.1 h
      simp only [Bool.and_eq_true, decide_eq_true_eq] at h
      exact ⟨i, h.1, by have := List.mem_range.1 hi; omega, h.2⟩
  have hfin : ∀ L a w, LInv ops R a0 L a w → S L w → (∀ j, j < k → L j = true) → (∀ j, k ≤ j → L j = false) → wpList P ops Q (ops.toList.drop k) a w := fun L a w hI hw hall hno => by
    have hv : ∀ i, ∃ v, i < k → R L i w v ∧ ∀ d, dstOf ops i = some d → a.tmps[d]? = some v := fun i => by
      by_cases hi : i < k
      · obtain ⟨v, h⟩ := hI.vals i (hall i hi); exact ⟨v, fun _ => h⟩
      · exact ⟨undef, fun h => absurd h hi⟩
    obtain ⟨vals, hvals⟩ := Classical.axiomOfChoice hv
    have ha : a = { a0 with tmps := setAll ops vals k a0.tmps } := by
      obtain ⟨tm, df⟩ := a
      have h1 : df = a0.defers := hI.defers
      have h2 : tm = setAll ops vals k a0.tmps := by
        refine Array.ext_getElem? fun s => ?_
        have hset := setAll_get vals hap s k a0.tmps hkn rfl
        by_cases hk : ∃ i, i < k ∧ dstOf ops i = some s
        · obtain ⟨i, hik, hi⟩ := hk
          rw [hset.2 i hik hi]
          exact (hvals i hik).2 s hi
        · rw [hset.1 fun i hi h => hk ⟨i, hi, h⟩]
          refine hI.rest s fun i hi h => ?_
          rcases Nat.lt_or_ge i k with hl | hl
          · exact hk ⟨i, hl, h⟩
          · rw [hno i hl] at hi; cases hi
      rw [h1, h2]
    rw [ha, setAll_eq, hds]
    exact hdone vals L w hall hw fun i hi => (hvals i hi).1
  refine region_invB (fun a0' B L a w => (LInv ops R a0 L a w ∧ S L w ∧ (∀ i, k ≤ i → L i = false) ∧ Closed ops L) ∨ ∃ m, k ≤ m ∧ m ≤ ops.size ∧ (∀ i, L i = decide (i < m)) ∧ wpList P ops Q (ops.toList.drop m) a w) hm hord
    (Or.inl ⟨⟨rfl, rfl, fun i h => (Bool.noConfusion h), fun k _ => rfl⟩, h0, fun _ _ => rfl, fun i o _ h => (Bool.noConfusion h)⟩) ?_ ?_
  · intro L a w hI i o ho hLi hdep
    have hio : i < ops.size := (Array.getElem?_eq_some_iff.1 ho).1
    rcases hI with ⟨hI, hSw, hno, hcl⟩ | ⟨m, hm1, hm2, hL, hwp⟩
    · by_cases hik : i < k
      · refine wpOp_mono (fun a' w' h => Or.inl ?_) (linv_step2 R hap hg hik hI ho hdep (S := S (fun j => if j = i then true else L j)) fun E hE => hstep i o ho hik E L w hSw hLi hdep hE)
        refine ⟨h.1, h.2, fun j hj => ?_, fun j o' ho' hj e he hb => ?_⟩
        · have hji : j ≠ i := by omega
          simp only [hji, if_false]
          exact hno j hj
        · by_cases hji : j = i
          · subst hji
            rw [ho] at ho'; cases ho'
            by_cases h2 : e.on = j
            · simp [h2]
            · simp only [h2, if_false]; exact hdep e he hb
          · simp only [hji, if_false] at hj
            by_cases h2 : e.on = i
            · simp [h2]
            · simp only [h2, if_false]; exact hcl j o' ho' hj e he hb
      · have hik' : i = k := by
          rcases Nat.lt_or_ge k i with h | h
          · have := waits_done (L := L) (hchain (i - 1) (by omega) (by omega)) (by rw [show i - 1 + 1 = i by omega]; exact ho) hdep
            rw [hno (i - 1) (by omega)] at this; cases this
          · omega
        subst hik'
        have hall : ∀ d j, i - j ≤ d → j < i → L j = true := by
          intro d
          induction d with
          | zero => intro j h1 h2; omega
          | succ d ih =>
            intro j h1 h2
            obtain ⟨q, hq1, hq2, hq3⟩ := hcover j h2 hio
            by_cases hqi : q = i
            · subst hqi; exact waits_done hq3 ho hdep
            · have hq : L q = true := ih q (by omega) (by omega)
              have hqo : ops[q]? = some ops[q] := Array.getElem?_eq_getElem (by omega)
              exact waits_done hq3 hqo (hcl q _ hqo hq)
        refine wpOp_mono (fun a' w' h => Or.inr ⟨i + 1, by omega, by omega, fun j => ?_, h⟩) (wpList_to_op ho (hfin L a w hI hSw (fun j hj => hall _ j (Nat.le_refl _) hj) hno))
        by_cases hji : j = i
        · subst hji; simp
        · simp only [hji, if_false]
          rcases Nat.lt_or_ge j i with h1 | h1
          · rw [hall _ j (Nat.le_refl _) h1]; simp; omega
          · rw [hno j h1]; simp; omega
    · have him : i = m := by
        have h1 : ¬ i < m := fun h => by rw [hL i] at hLi; simp [h] at hLi
        rcases Nat.lt_or_ge m i with h | h
        · have := waits_done (L := L) (hchain (i - 1) (by omega) (by omega)) (by rw [show i - 1 + 1 = i by omega]; exact ho) hdep
          rw [hL (i - 1)] at this
          simp at this; omega
        · omega
      subst him
      refine wpOp_mono (fun a' w' h => Or.inr ⟨i + 1, by omega, by omega, fun j => ?_, h⟩) (wpList_to_op ho hwp)
      by_cases hji : j = i
      · subst hji; simp
      · simp only [hji, if_false]
        rw [hL j]
        rcases Nat.lt_or_ge j i with h1 | h1
        · simp [h1]; omega
        · simp; omega
  · intro L a w hall hI
    rcases hI with ⟨hI, hSw, hno, hcl⟩ | ⟨m, hm1, hm2, hL, hwp⟩
    · have hk : k = ops.size := by
        rcases Nat.lt_or_ge k ops.size with h | h
        · have := hall k h; rw [hno k (Nat.le_refl _)] at this; cases this
        · omega
      have := hfin L a w hI hSw (fun j hj => hall j (by omega)) hno
      rw [hk, ← Array.length_toList, List.drop_length] at this
      exact this
    · have hk : m = ops.size := by
        rcases Nat.lt_or_ge m ops.size with h | h
        · have := hall m h; rw [hL m] at this; simp at this
        · omega
      rw [hk, ← Array.length_toList, List.drop_length] at hwp
      exact hwp
end

end Go.Proofs.Ytieipbobijnmlaa.wk
/- Roots of keys, and what they bound. No program here. -/
namespace Go.Proofs.Ytieipbobijnmlaa.me
/-- the greatest number whose square is at most n -/
def isq : Nat → Nat
  | 0 => 0
  | n + 1 => if (isq n + 1) * (isq n + 1) ≤ n + 1 then isq n + 1 else isq n
theorem isq_spec : ∀ n, isq n * isq n ≤ n ∧ n < (isq n + 1) * (isq n + 1)
  | 0 => by simp [isq]
  | n + 1 => by
    obtain ⟨h1, h2⟩ := isq_spec n
    rw [show isq (n + 1) = if (isq n + 1) * (isq n + 1) ≤ n + 1 then isq n + 1 else isq n from rfl]
    generalize isq n = r at *
    split
    · refine ⟨‹_›, ?_⟩
      have : (r + 1 + 1) * (r + 1 + 1) = (r + 1) * (r + 1) + 2 * (r + 1) + 1 := by grind
      omega
    · exact ⟨by omega, by omega⟩
def rt (x : Int) : Int := (isq x.toNat : Int)
theorem rt_nonneg (x : Int) : 0 ≤ rt x := by unfold rt; omega
theorem rt_sq {x : Int} (h : 0 ≤ x) : rt x * rt x ≤ x ∧ x < (rt x + 1) * (rt x + 1) := by
  obtain ⟨h1, h2⟩ := isq_spec x.toNat
  unfold rt
  obtain ⟨n, rfl⟩ := Int.eq_ofNat_of_zero_le h
  simp only [Int.toNat_natCast] at *
  generalize isq n = r at *
  constructor
  · exact_mod_cast h1
  · exact_mod_cast h2
theorem sq_le {a b : Int} (h : 0 ≤ a) (h2 : a ≤ b) : a * a ≤ b * b := Int.mul_le_mul h2 h2 h (by omega)
theorem sq_nonneg (a : Int) : 0 ≤ a * a := by
  rcases Int.le_total 0 a with h | h
  · exact Int.mul_nonneg h h
  · rw [← Int.neg_mul_neg]; exact Int.mul_nonneg (by omega) (by omega)
theorem le_rt {x : Int} (h : 0 ≤ x) (k : Int) : k ≤ rt x ↔ k ≤ 0 ∨ k * k ≤ x := by
  obtain ⟨h1, h2⟩ := rt_sq h
  have h0 := rt_nonneg x
  generalize rt x = r at *
  constructor
  · intro hk
    by_cases hk0 : k ≤ 0
    · exact .inl hk0
    · have := sq_le (by omega) hk; exact .inr (by omega)
  · rintro (hk | hk)
    · omega
    · by_cases hr : k ≤ r
      · exact hr
      · have := sq_le (show 0 ≤ r + 1 by omega) (show r + 1 ≤ k by omega); omega
theorem rt_unique {x k : Int} (hk : 0 ≤ k) (h1 : k * k ≤ x) (h2 : x < (k + 1) * (k + 1)) : rt x = k := by
  have hx : 0 ≤ x := by have := sq_nonneg k; omega
  have a := (le_rt hx k).2 (.inr h1)
  have b := le_rt hx (k + 1)
  have c : ¬ (k + 1 ≤ rt x) := fun hh => by rcases b.1 hh with q | q <;> omega
  omega
theorem rt_mono {x y : Int} (h : 0 ≤ x) (h2 : x ≤ y) : rt x ≤ rt y := by
  refine (le_rt (by omega) _).2 (.inr ?_)
  have := (rt_sq h).1
  omega
theorem rt_zero : rt 0 = 0 := rfl
theorem sq_lt {a b : Int} (h : 0 ≤ b) (h2 : a * a < b * b) : a < b := by
  rcases Int.lt_or_le a b with q | q
  · exact q
  · have := sq_le h q; omega
/-- what three keys of squares fulfil, symmetric in them -/
def H (a b t : Int) : Prop := a * a + b * b + t * t ≤ 2 * (a * b) + 2 * (b * t) + 2 * (a * t)
theorem H_iff (a b t : Int) : (a + b - t) * (a + b - t) ≤ 4 * a * b ↔ H a b t := by
  have e : (a + b - t) * (a + b - t) = a * a + b * b + t * t + 2 * (a * b) - 2 * (b * t) - 2 * (a * t) := by grind
  have e2 : 4 * a * b = 4 * (a * b) := Int.mul_assoc ..
  unfold H
  omega
theorem H_swap {a b t : Int} : H a b t ↔ H a t b := by
  unfold H
  rw [Int.mul_comm t b]
  omega
theorem H_comm {a b t : Int} : H a b t ↔ H b a t := by
  unfold H
  rw [Int.mul_comm b a]
  omega
def mk : Int := 134217728
def low (m a b : Int) : Int := if m = 2 then a + b - rt (4 * a * b) else max (a - b) (b - a)
def high (m a b : Int) : Int := min (if m = 2 then a + b + rt (4 * a * b) else a + b) 134217728
theorem four_nonneg {a b : Int} (ha : 0 ≤ a) (hb : 0 ≤ b) : 0 ≤ 4 * a * b := Int.mul_nonneg (by omega) hb
theorem low2_le {a b : Int} (ha : 0 ≤ a) (hb : 0 ≤ b) (t : Int) : low 2 a b ≤ t ↔ a + b ≤ t ∨ H a b t := by
  have h := le_rt (four_nonneg ha hb) (a + b - t)
  rw [H_iff] at h
  simp only [low, if_pos]
  constructor
  · intro q
    rcases h.1 (by omega) with r | r
    · exact .inl (by omega)
    · exact .inr r
  · intro q
    have := h.2 (by rcases q with q | q; exact .inl (by omega); exact .inr q)
    omega
theorem le_high2 {a b : Int} (ha : 0 ≤ a) (hb : 0 ≤ b) {t : Int} (ht : t ≤ 134217728) : t ≤ high 2 a b ↔ t ≤ a + b ∨ H a b t := by
  have h := le_rt (four_nonneg ha hb) (t - a - b)
  have e : (t - a - b) * (t - a - b) = (a + b - t) * (a + b - t) := by grind
  rw [e, H_iff] at h
  simp only [high, if_pos]
  constructor
  · intro q
    rcases h.1 (by omega) with r | r
    · exact .inl (by omega)
    · exact .inr r
  · intro q
    have := h.2 (by rcases q with q | q; exact .inl (by omega); exact .inr q)
    omega
def rlo (m a t : Int) : Int := if a ≤ t then 0 else low m a t
theorem ring_iff {m a t b : Int} (ha : 0 ≤ a) (ht : 0 ≤ t) (hb : 0 ≤ b) (hb2 : b ≤ 134217728) : (rlo m a t ≤ b ∧ b ≤ high m a t) ↔ low m a b ≤ t := by
  by_cases hm : m = 2
  · subst hm
    rw [low2_le ha hb, le_high2 ha ht hb2]
    unfold rlo
    rw [H_swap (a := a) (b := t)]
    split
    · rename_i hat
      constructor
      · rintro ⟨-, q | q⟩
        · by_cases s : a + b ≤ t
          · exact .inl s
          · refine .inr ((H_iff ..).1 ?_)
            have h1 := sq_le (show 0 ≤ a + t - b by omega) (show a + t - b ≤ 2 * a by omega)
            have h2 := Int.mul_le_mul_of_nonneg_left hat ha
            have e1 : (a + t - b) * (a + t - b) = (a + b - t) * (a + b - t) + 4 * (a * t) - 4 * (a * b) := by grind
            have e2 : 4 * a * b = 4 * (a * b) := Int.mul_assoc ..
            have e3 : 2 * a * (2 * a) = 4 * (a * a) := by grind
            omega
        · exact .inr q
      · rintro (q | q)
        · exact ⟨hb, .inl (by omega)⟩
        · exact ⟨hb, .inr q⟩
    · rename_i hat
      rw [low2_le ha ht, H_swap (a := a) (b := t)]
      constructor
      · rintro ⟨p | p, q | q⟩
        · refine .inr ((H_iff ..).1 ?_)
          obtain rfl : b = a + t := by omega
          have e : (a + (a + t) - t) * (a + (a + t) - t) = 4 * (a * a) := by grind
          have e2 : 4 * a * (a + t) = 4 * (a * a) + 4 * (a * t) := by grind
          have := Int.mul_nonneg ha ht
          omega
        · exact .inr q
        · exact .inr p
        · exact .inr p
      · rintro (q | q)
        · omega
        · exact ⟨.inr q, .inr q⟩
  · unfold rlo low high
    simp only [if_neg hm]
    omega
theorem low_self {m a : Int} (ha : 0 ≤ a) : low m a a = 0 := by
  unfold low
  split
  · rw [rt_unique (k := 2 * a) (by omega) (by grind) (by grind)]; omega
  · omega
theorem low_comm (m a b : Int) : low m a b = low m b a := by
  unfold low
  have : 4 * a * b = 4 * b * a := by grind
  rw [this]
  split <;> omega
theorem high_comm (m a b : Int) : high m a b = high m b a := by
  unfold high
  have : 4 * a * b = 4 * b * a := by grind
  rw [this]
  split <;> omega
theorem high_zero {m a : Int} (ha : a ≤ 134217728) : high m a 0 = a := by
  unfold high
  rw [Int.mul_zero, rt_zero]
  split <;> omega
theorem rt_le_add {a b : Int} (ha : 0 ≤ a) (hb : 0 ≤ b) : rt (4 * a * b) ≤ a + b := by
  have h := le_rt (four_nonneg ha hb) (a + b + 1)
  have e : (a + b + 1) * (a + b + 1) = (a - b) * (a - b) + 4 * a * b + 2 * (a + b) + 1 := by grind
  have := sq_nonneg (a - b)
  have : ¬ (a + b + 1 ≤ rt (4 * a * b)) := fun q => by rcases h.1 q with r | r <;> omega
  omega
theorem low_nonneg {m a b : Int} (ha : 0 ≤ a) (hb : 0 ≤ b) : 0 ≤ low m a b := by
  unfold low
  have := rt_le_add ha hb
  split <;> omega
theorem low_le_add {m a b : Int} (ha : 0 ≤ a) (hb : 0 ≤ b) : low m a b ≤ a + b := by
  unfold low
  have := rt_nonneg (4 * a * b)
  split <;> omega
theorem high_le (m a b : Int) : high m a b ≤ 134217728 := by unfold high; omega
theorem high_nonneg {m a b : Int} (ha : 0 ≤ a) (hb : 0 ≤ b) : 0 ≤ high m a b := by
  unfold high
  have := rt_nonneg (4 * a * b)
  split <;> omega
theorem a_in {m a t : Int} (ha : 0 ≤ a) (ha2 : a ≤ 134217728) (ht : 0 ≤ t) : rlo m a t ≤ a ∧ a ≤ high m a t :=
  (ring_iff ha ht ha ha2).2 (by rw [low_self ha]; exact ht)
theorem low_away {m a x y : Int} (ha : 0 ≤ a) (ha2 : a ≤ 134217728) (hy : 0 ≤ y) (hy2 : y ≤ 134217728) (h : a ≤ x ∧ x ≤ y ∨ y ≤ x ∧ x ≤ a) : low m a x ≤ low m a y := by
  have ht := low_nonneg (m := m) ha hy
  obtain ⟨p, q⟩ := a_in (m := m) ha ha2 ht
  obtain ⟨r, s⟩ := (ring_iff (m := m) ha ht hy hy2).2 (Int.le_refl _)
  exact (ring_iff ha ht (by omega) (by omega)).1 ⟨by omega, by omega⟩
theorem high_grow {m a x y : Int} (ha : 0 ≤ a) (hx : 0 ≤ x) (h : x ≤ y) : high m a x ≤ high m a y := by
  have h2 : 4 * a * x ≤ 4 * a * y := Int.mul_le_mul_of_nonneg_left h (by omega)
  have := rt_mono (four_nonneg ha hx) h2
  unfold high
  split <;> omega
def near (a lo hi : Int) : Int := max lo (min a hi)
def gap (m lo hi a : Int) : Int := low m a (near a lo hi)
theorem gap_eq {m lo hi a : Int} (h : lo ≤ hi) (ha : 0 ≤ a) : gap m lo hi a = if a < lo then low m a lo else if hi < a then low m a hi else 0 := by
  unfold gap near
  split
  · rw [show max lo (min a hi) = lo by omega]
  · split
    · rw [show max lo (min a hi) = hi by omega]
    · rw [show max lo (min a hi) = a by omega, low_self ha]
theorem gap_zero {m lo hi a : Int} (h : lo ≤ hi) (ha : 0 ≤ a) (ha2 : a ≤ 134217728) (hl : 0 ≤ lo) (hh : hi ≤ 134217728) : gap m lo hi a = 0 ↔ rlo m a 0 ≤ hi ∧ lo ≤ high m a 0 := by
  have e : near a lo hi = max lo (min a hi) := rfl
  have r := ring_iff (m := m) (b := near a lo hi) ha (Int.le_refl 0) (by omega) (by omega)
  have z := low_nonneg (m := m) (b := near a lo hi) ha (by omega)
  obtain ⟨p, q⟩ := a_in (m := m) ha ha2 (Int.le_refl 0)
  unfold gap
  constructor
  · intro g
    obtain ⟨x, y⟩ := r.2 (by omega)
    omega
  · rintro ⟨x, y⟩
    have := r.1 ⟨by omega, by omega⟩
    omega
theorem gap_le {m lo hi a b : Int} (h : lo ≤ b) (h2 : b ≤ hi) (ha : 0 ≤ a) (ha2 : a ≤ 134217728) (hl : 0 ≤ lo) (hh : hi ≤ 134217728) : gap m lo hi a ≤ low m a b := by
  unfold gap
  have e : near a lo hi = max lo (min a hi) := rfl
  exact low_away ha ha2 (by omega) (by omega) (by omega)
/-- points on a line -/
theorem low_sq {d e : Int} (hd : 0 ≤ d) (he : 0 ≤ e) : low 2 (d * d) (e * e) = (max d e - min d e) * (max d e - min d e) := by
  simp only [low, if_pos]
  have hde := Int.mul_nonneg hd he
  rw [rt_unique (k := 2 * (d * e)) (by omega) (by grind) (by grind)]
  rcases Int.le_total d e with h | h
  · rw [Int.max_eq_right h, Int.min_eq_left h]; grind
  · rw [Int.max_eq_left h, Int.min_eq_right h]; grind
theorem high_sq {d e : Int} (hd : 0 ≤ d) (he : 0 ≤ e) : high 2 (d * d) (e * e) = min ((d + e) * (d + e)) 134217728 := by
  simp only [high, if_pos]
  have hde := Int.mul_nonneg hd he
  rw [rt_unique (k := 2 * (d * e)) (by omega) (by grind) (by grind)]
  congr 1
  grind
/-- three points -/
theorem tri_of {m a b c : Int} (ha : 0 ≤ a) (hb : 0 ≤ b) (hc : c ≤ 134217728) (h1 : m ≠ 2 → a ≤ b + c ∧ b ≤ a + c ∧ c ≤ a + b) (h2 : m = 2 → H a b c) : low m a b ≤ c ∧ c ≤ high m a b := by
  by_cases hm : m = 2
  · subst hm
    rw [low2_le ha hb, le_high2 ha hb hc]
    exact ⟨.inr (h2 rfl), .inr (h2 rfl)⟩
  · have := h1 hm
    unfold low high
    simp only [if_neg hm]
    omega
/-- Newton's steps -/
theorem newton_ge {n r : Int} (hn : 0 ≤ n) (hr : 0 < r) : rt n ≤ (r + n / r) / 2 := by
  have h1 := (rt_sq hn).1
  have h0 := rt_nonneg n
  have h2 := Int.lt_ediv_add_one_mul_self n hr
  have h3 : 0 ≤ n / r := Int.ediv_nonneg hn (by omega)
  generalize n / r = q at *
  generalize rt n = s at *
  have h4 : s * s < (q + 1) * r := by omega
  have e : (q + 1 + r) * (q + 1 + r) = (q + 1 - r) * (q + 1 - r) + 4 * ((q + 1) * r) := by grind
  have := sq_nonneg (q + 1 - r)
  have e2 : (2 * s) * (2 * s) = 4 * (s * s) := by grind
  have := sq_lt (a := 2 * s) (b := q + 1 + r) (by omega) (by omega)
  omega
theorem newton_stop {n r : Int} (hn : 0 ≤ n) (hr : 0 < r) (h : r ≤ (r + n / r) / 2) : r ≤ rt n := by
  have h2 := Int.ediv_mul_le n (show r ≠ 0 by omega)
  have h3 : r ≤ n / r := by omega
  have h4 := Int.mul_le_mul_of_nonneg_right h3 (show 0 ≤ r by omega)
  exact (le_rt hn r).2 (.inr (by omega))
end Go.Proofs.Ytieipbobijnmlaa.me
/- Short codes, plainly. No program here. -/
namespace Go.Proofs.Ytieipbobijnmlaa.cq

open Go.Proofs.Ytieipbobijnmlaa.vq

set_option linter.unusedVariables false
abbrev VV := List (List Int)
structure Bk where
  d : Int
  cuts : List Int
  W : List VV
theorem zipAt {α β : Type} {a : List α} {b : List β} {k : Nat} {x : α} {y : β} (h : a[k]? = some x) (h' : b[k]? = some y) : (a.zip b)[k]? = some (x, y) := by
  simp [List.zip, List.getElem?_zipWith, h, h']
/-- where the parts are -/
def ends (cuts : List Int) (d : Int) : List Int := cuts.drop 1 ++ [d]
def sp (cuts : List Int) (d : Int) : List (Int × Int) := cuts.zip (ends cuts d)
def asc (p : Int × Int) : Bool := decide (p.1 < p.2)
def ascs (l : List (Int × Int)) : Bool := l.all asc
def divided (d : Int) (cuts : List Int) : Bool :=
  decide (1 ≤ d) && decide (d ≤ 32) && decide (1 ≤ cuts.length) && decide (cuts.length ≤ 8) && decide (cuts.headD 1 = 0) && ascs (sp cuts d)
def areWords (l : VV) (n : Int) : Bool := decide (1 ≤ l.length) && decide (l.length ≤ 256) && l.all fun w => decide ((w.length : Int) = n) && valid w
def wok (p : VV × (Int × Int)) : Bool := areWords p.1 (p.2.2 - p.2.1)
def check (b : Bk) : Bool := divided b.d b.cuts && decide (b.W.length = b.cuts.length) && (b.W.zip (sp b.cuts b.d)).all wok
theorem sp_len (cuts : List Int) (d : Int) : (sp cuts d).length = cuts.length := by
  simp only [sp, ends, List.length_zip, List.length_append, List.length_drop, List.length_cons, List.length_nil]
  omega
def endAt (cuts : List Int) (d : Int) (k : Nat) : Int := cuts.getD (k + 1) d
theorem sp_at {cuts : List Int} {d : Int} {k : Nat} {x : Int} (h : cuts[k]? = some x) : (sp cuts d)[k]? = some (x, endAt cuts d k) := by
  have hk := (List.getElem?_eq_some_iff.1 h).1
  refine zipAt h ?_
  unfold ends endAt
  rcases Nat.lt_or_ge (k + 1) cuts.length with h1 | h1
  · rw [List.getElem?_append_left (by rw [List.length_drop]; omega), List.getElem?_drop, Nat.add_comm 1 k]
    rw [List.getD_eq_getElem?_getD, List.getElem?_eq_getElem h1]; rfl
  · rw [List.getElem?_append_right (by rw [List.length_drop]; omega), List.length_drop, show k - (cuts.length - 1) = 0 by omega]
    rw [List.getD_eq_getElem?_getD, List.getElem?_eq_none h1]; rfl
theorem endAt_in {cuts : List Int} {d : Int} {k : Nat} {y : Int} (h : cuts[k + 1]? = some y) : endAt cuts d k = y := by
  rw [endAt, List.getD_eq_getElem?_getD, h]; rfl
theorem endAt_out {cuts : List Int} {d : Int} {k : Nat} (h : cuts.length ≤ k + 1) : endAt cuts d k = d := by
  rw [endAt, List.getD_eq_getElem?_getD, List.getElem?_eq_none h]; rfl
/-- one part behind the other -/
def chain : Int → List (Int × Int) → Int → Prop
  | a, [], d => a = d
  | a, (x, y) :: l, d => x = a ∧ x < y ∧ chain y l d
theorem sp_cons (x : Int) (l : List Int) (d : Int) : sp (x :: l) d = (x, l.headD d) :: sp l d := by
  cases l with
  | nil => rfl
  | cons y l => rfl
theorem chain_of : ∀ (l : List Int) (a d : Int), l.headD d = a → (sp l d).all asc = true → chain a (sp l d) d
  | [], a, d, h, _ => h.symm
  | x :: l, a, d, h, ha => by
    rw [sp_cons] at ha ⊢
    simp only [List.all_cons, Bool.and_eq_true] at ha
    refine ⟨h, by simpa [asc] using ha.1, chain_of l _ d rfl ha.2⟩
theorem chain_le : ∀ (l : List (Int × Int)) (a d : Int), chain a l d → a ≤ d
  | [], a, d, h => by have h : a = d := h; omega
  | (x, y) :: l, a, d, h => by have := chain_le l y d h.2.2; have := h.1; have := h.2.1; omega
theorem chain_in : ∀ (l : List (Int × Int)) (a d : Int), chain a l d → ∀ p ∈ l, a ≤ p.1 ∧ p.1 < p.2 ∧ p.2 ≤ d
  | [], a, d, h => by intro p hp; cases hp
  | (x, y) :: l, a, d, h => by
    intro p hp
    have h1 := chain_le l y d h.2.2
    have h2 := h.1
    have h3 := h.2.1
    rcases List.mem_cons.1 hp with rfl | hp
    · exact ⟨by show a ≤ x; omega, h3, h1⟩
    · have := chain_in l y d h.2.2 p hp
      omega
structure Div (d : Int) (cuts : List Int) : Prop where
  d1 : 1 ≤ d
  d32 : d ≤ 32
  n1 : 1 ≤ cuts.length
  n8 : cuts.length ≤ 8
  ch : chain 0 (sp cuts d) d
theorem Div.at {d : Int} {cuts : List Int} (h : Div d cuts) {k : Nat} {x : Int} (hx : cuts[k]? = some x) : 0 ≤ x ∧ x < endAt cuts d k ∧ endAt cuts d k ≤ d :=
  chain_in _ _ _ h.ch _ (List.mem_of_getElem? (sp_at hx))
theorem div_of {d : Int} {cuts : List Int} (h : divided d cuts = true) : Div d cuts := by
  simp only [divided, Bool.and_eq_true, decide_eq_true_eq] at h
  obtain ⟨⟨⟨⟨⟨h1, h2⟩, h3⟩, h4⟩, h5⟩, h6⟩ := h
  refine ⟨h1, h2, h3, h4, chain_of _ _ _ ?_ h6⟩
  cases cuts with
  | nil => simp at h3
  | cons x l => simpa using h5
structure Rt (b : Bk) : Prop where
  div : Div b.d b.cuts
  wl : b.W.length = b.cuts.length
  ok : ∀ k l x, b.W[k]? = some l → b.cuts[k]? = some x → (1 ≤ l.length ∧ l.length ≤ 256) ∧ ∀ w ∈ l, (w.length : Int) = endAt b.cuts b.d k - x ∧ Vec w
  dv : divided b.d b.cuts = true
theorem areWords_iff {l : VV} {n : Int} : areWords l n = true ↔ (1 ≤ l.length ∧ l.length ≤ 256) ∧ ∀ w ∈ l, (w.length : Int) = n ∧ Vec w := by
  simp [areWords, List.all_eq_true, valid_iff, and_assoc]
theorem rt_of {b : Bk} (h : check b = true) : Rt b := by
  simp only [check, Bool.and_eq_true, decide_eq_true_eq, List.all_eq_true] at h
  obtain ⟨⟨h1, h2⟩, h3⟩ := h
  refine ⟨div_of h1, h2, fun k l x hl hx => ?_, h1⟩
  exact areWords_iff.1 (h3 _ (List.mem_of_getElem? (zipAt hl (sp_at (d := b.d) hx))))
/-- the part of a vector -/
def pt (v : List Int) (p : Int × Int) : List Int := (v.drop p.1.toNat).take (p.2.toNat - p.1.toNat)
theorem pt_len {v : List Int} {p : Int × Int} (h0 : 0 ≤ p.1) (h1 : p.1 ≤ p.2) (h2 : p.2 ≤ v.length) : ((pt v p).length : Int) = p.2 - p.1 := by
  simp only [pt, List.length_take, List.length_drop]; omega
theorem pt_flat {v : List Int} : ∀ (l : List (Int × Int)) (a d : Int), chain a l d → 0 ≤ a → (v.length : Int) = d → (l.map (pt v)).flatten = v.drop a.toNat
  | [], a, d, h, h0, hd => by
    have h : a = d := h
    simp only [List.map_nil, List.flatten_nil]
    rw [List.drop_of_length_le (by omega)]
  | (x, y) :: l, a, d, h, h0, hd => by
    obtain ⟨h1, h2, h3⟩ := h
    subst h1
    rw [List.map_cons, List.flatten_cons, pt_flat l y d h3 (by omega) hd]
    have e : v.drop y.toNat = (v.drop x.toNat).drop (y.toNat - x.toNat) := by rw [List.drop_drop]; congr 1; omega
    rw [e, pt]
    exact List.take_append_drop _ _
theorem vec_part {v : List Int} (h : Vec v) {p : Int × Int} (h0 : 0 ≤ p.1) (h1 : p.1 < p.2) (h2 : p.2 ≤ v.length) : Vec (pt v p) := by
  have hl := pt_len h0 (Int.le_of_lt h1) h2
  have hle := h.le
  refine ⟨by omega, by omega, fun x hx => h.lo x (List.mem_of_mem_drop (List.mem_of_mem_take hx)), fun x hx => h.hi x (List.mem_of_mem_drop (List.mem_of_mem_take hx))⟩
/-- keys of parts are put together -/
def put (m acc x : Int) : Int := if m = 3 then max acc x else acc + x
def comb (m : Int) (l : List Int) : Int := l.foldl (put m) 0
theorem key_nonneg (m : Int) (a b : List Int) : 0 ≤ key m a b := norm_nonneg m _
theorem foldl_put {m : Int} (h1 : 1 ≤ m) (h3 : m ≤ 3) (v : List Int) {acc : Int} (h : 0 ≤ acc) : v.foldl (grow m) acc = put m acc (norm m v) := by
  rcases (by omega : m = 1 ∨ m = 2 ∨ m = 3) with rfl | rfl | rfl
  · have : grow 1 = fun s x => s + ab x := by funext n x; simp [grow, ab]
    simp only [norm1, put]
    rw [this, foldl_sm]; simp
  · have : grow 2 = fun s x => s + x * x := by funext n x; simp [grow]
    simp only [norm2, put]
    rw [this, foldl_sm]; simp
  · rw [foldl_mx v acc h, norm3]; simp [put]
theorem sub_append {a b c d : List Int} (h : a.length = b.length) : sub (a ++ c) (b ++ d) = sub a b ++ sub c d := by
  simp only [sub, List.zip_append h, List.map_append]
theorem put_nonneg {m acc x : Int} (h : 0 ≤ acc) (hx : 0 ≤ x) : 0 ≤ put m acc x := by unfold put; split <;> omega
theorem foldl_key {m : Int} (h1 : 1 ≤ m) (h3 : m ≤ 3) : ∀ (A B : VV) (acc : Int), A.length = B.length → (∀ (k : Nat) (a b : List Int), A[k]? = some a → B[k]? = some b → a.length = b.length) → 0 ≤ acc →
    (sub A.flatten B.flatten).foldl (grow m) acc = (List.zipWith (key m) A B).foldl (put m) acc
  | [], [], acc, _, _, _ => by simp [sub]
  | [], _ :: _, _, h, _, _ => by simp at h
  | _ :: _, [], _, h, _, _ => by simp at h
  | a :: A, b :: B, acc, h, hl, h0 => by
    have h2 := hl 0 a b rfl rfl
    rw [List.flatten_cons, List.flatten_cons, sub_append h2, List.foldl_append, foldl_put h1 h3 _ h0, List.zipWith_cons_cons, List.foldl_cons]
    exact foldl_key h1 h3 A B _ (by simpa using h) (fun k x y hx hy => hl (k + 1) x y (by simpa using hx) (by simpa using hy)) (put_nonneg h0 (norm_nonneg m _))
theorem key_flat {m : Int} (h1 : 1 ≤ m) (h3 : m ≤ 3) {A B : VV} (h : A.length = B.length) (hl : ∀ (k : Nat) (a b : List Int), A[k]? = some a → B[k]? = some b → a.length = b.length) : key m A.flatten B.flatten = comb m (List.zipWith (key m) A B) :=
  foldl_key h1 h3 A B 0 h hl (by omega)
/-- the place of the least key -/
def lstep (l : List Int) (b i : Nat) : Nat := if l.getD i 0 < l.getD b 0 then i else b
def lstk (l : List Int) (k : Nat) : Nat := (List.range k).foldl (lstep l) 0
def lst (l : List Int) : Nat := lstk l l.length
theorem lstk_succ (l : List Int) (k : Nat) : lstk l (k + 1) = lstep l (lstk l k) k := by
  unfold lstk; rw [List.range_succ, List.foldl_append]; rfl
theorem lstk_lt (l : List Int) : ∀ k, lstk l k ≤ k - 1
  | 0 => by simp [lstk]
  | k + 1 => by have := lstk_lt l k; rw [lstk_succ]; unfold lstep; split <;> omega
theorem lst_lt {l : List Int} (h : 1 ≤ l.length) : lst l < l.length := by have := lstk_lt l l.length; unfold lst; omega
theorem lstk_le (l : List Int) : ∀ k i, i < k → l.getD (lstk l k) 0 ≤ l.getD i 0
  | 0, i, h => by omega
  | k + 1, i, h => by
    have ih := lstk_le l k
    rw [lstk_succ]
    unfold lstep
    split
    · rename_i hlt
      rcases Nat.lt_or_ge i k with h1 | h1
      · have := ih i h1; omega
      · rw [show i = k by omega]; omega
    · rename_i hlt
      rcases Nat.lt_or_ge i k with h1 | h1
      · exact ih i h1
      · rw [show i = k by omega]; omega
theorem lst_le {l : List Int} {i : Nat} (h : i < l.length) : l.getD (lst l) 0 ≤ l.getD i 0 := lstk_le l _ i h
/-- the place of the greatest, the first one -/
def gstep (l : List Int) (b i : Nat) : Nat := if l.getD b 0 < l.getD i 0 then i else b
def gstk (l : List Int) (k : Nat) : Nat := (List.range k).foldl (gstep l) 0
def gst (l : List Int) : Nat := gstk l l.length
theorem gstk_succ (l : List Int) (k : Nat) : gstk l (k + 1) = gstep l (gstk l k) k := by
  unfold gstk; rw [List.range_succ, List.foldl_append]; rfl
theorem gstk_lt (l : List Int) : ∀ k, gstk l k ≤ k - 1
  | 0 => by simp [gstk]
  | k + 1 => by have := gstk_lt l k; rw [gstk_succ]; unfold gstep; split <;> omega
theorem gst_lt {l : List Int} (h : 1 ≤ l.length) : gst l < l.length := by have := gstk_lt l l.length; unfold gst; omega
theorem gstk_ge (l : List Int) : ∀ k i, i < k → l.getD i 0 ≤ l.getD (gstk l k) 0 ∧ (i < gstk l k → l.getD i 0 < l.getD (gstk l k) 0)
  | 0, i, h => by omega
  | k + 1, i, h => by
    have ih := gstk_ge l k
    have hb := gstk_lt l k
    rw [gstk_succ]
    unfold gstep
    split
    · rename_i hlt
      rcases Nat.lt_or_ge i k with h1 | h1
      · have := (ih i h1).1; exact ⟨by omega, fun _ => by omega⟩
      · rw [show i = k by omega]; exact ⟨by omega, fun h => by omega⟩
    · rename_i hlt
      rcases Nat.lt_or_ge i k with h1 | h1
      · exact ih i h1
      · rw [show i = k by omega]; exact ⟨by omega, fun h => by omega⟩
theorem gst_ge {l : List Int} {i : Nat} (h : i < l.length) : l.getD i 0 ≤ l.getD (gst l) 0 := (gstk_ge l _ i h).1
theorem gst_first {l : List Int} {i : Nat} (h : i < gst l) (h1 : 1 ≤ l.length) : l.getD i 0 < l.getD (gst l) 0 := (gstk_ge l _ i (by have := gst_lt h1; omega)).2 h
/-- codes -/
def trow (m : Int) (q : List Int) (p : VV × (Int × Int)) : List Int := p.1.map fun w => key m w (pt q p.2)
def tbl (m : Int) (b : Bk) (q : List Int) : VV := (b.W.zip (sp b.cuts b.d)).map (trow m q)
def enc (m : Int) (b : Bk) (v : List Int) : List Int := (tbl m b v).map fun r => (lst r : Int)
def cok1 (p : VV × Int) : Bool := decide (0 ≤ p.2) && decide (p.2 < (p.1.length : Int))
def cok (b : Bk) (c : List Int) : Bool := decide (c.length = b.W.length) && (b.W.zip c).all cok1
def chosen (b : Bk) (c : List Int) : VV := List.zipWith (fun ws i => ws.getD (Int.toNat i) []) b.W c
def dec (b : Bk) (c : List Int) : List Int := if cok b c then (chosen b c).flatten else []
def res (m : Int) (b : Bk) (v : List Int) : Int := key m v (dec b (enc m b v))
def take1 (r : List Int) (i : Int) : Int := r.getD i.toNat 0
def sumc (m : Int) (t : VV) (c : List Int) : Int := comb m (List.zipWith take1 t c)
def worst (m : Int) (b : Bk) (l : VV) : Int := l.foldl (fun x v => max x (res m b v)) 0
end Go.Proofs.Ytieipbobijnmlaa.cq
