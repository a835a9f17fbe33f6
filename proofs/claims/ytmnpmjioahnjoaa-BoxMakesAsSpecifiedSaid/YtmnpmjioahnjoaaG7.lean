/- Joined: Bc Bd Be Bf. -/
import Derived.Test.YtmnpmjioahnjoaaG6

import Derived.Shelf.Abstract

import Derived.Shelf.RegionOpen

import Derived.WalkKit

import Derived.OwnWalkIn

import Derived.TacticsInMore

import Derived.LoopNIn

import Derived.LoopIn
/- The iterator over a box's sides; the law of a range over it. -/
namespace Go.Proofs.Ytmnpmjioahnjoaa.bk

open Go.ChangeShapes Go.WideShapes Go.ChangeAt Go.RowKit

open Go.Proofs.Ytmnpmjioahnjoaa.bq Go.Proofs.Ytmnpmjioahnjoaa.vk Go.Proofs.Ytmnpmjioahnjoaa.wk

set_option linter.unusedVariables false
attribute [local go_sem] Oper.semAt_some
abbrev Nth (n : Nat) := { i : Nat // i < n }
def encs (p : Pair) {n : Nat} (x : Nth n) : Array Value := #[.int .i64 (x.1 : Int), rng (at' p.1 x.1) (at' p.2 x.1)]
theorem map_snoc {n : Nat} (pre : List (Nth n)) (x : Nth n) (hp : pre.map (·.1) = List.range x.1) : (pre ++ [x]).map (·.1) = List.range (x.1 + 1) := by
  rw [List.map_append, hp, List.range_succ]; rfl
theorem grown_of {w w' : World} (h : Below w.heap.size w w') : w.grownBy w' none := ⟨h.os, h.tape, h.output, h.size, fun k hk _ => h.block k hk⟩
theorem len_range {n k : Nat} {pre : List (Nth n)} (hp : pre.map (·.1) = List.range k) : pre.length = k := by
  have := congrArg List.length hp
  simpa using this
set_option maxRecDepth 100000 in
set_option maxHeartbeats 2000000 in
theorem sides1_in (m : Nat) (l Bs n₀ B : Nat) (M : List Nat) (p : Pair) (v1 v2 : Value) (hM : ∀ j ∈ M, n₀ ≤ j) (hBn : n₀ ≤ B) (hBs : Bs < B) (hBsM : Bs ∉ M)
    (hlen : p.1.length ≤ p.2.length) (J Jx : List (Nth p.1.length) → World → Prop) (W : World) (hX : ∀ w', Below n₀ W w' → IsX w' (.agg #[v1, v2]) p)
    (hJ : AbidesFrom W.heap.size J)
    (hY : ∀ pre x W, J pre W → pre.length < p.1.length → YieldAt Fence.wide (m - 1) Try.prog l (encs p x) W fun e W' =>
      (e = .returned (.bool true) ∧ J (pre ++ [x]) W' ∧ Exc M B W W') ∨ (e = .returned (.bool false) ∧ Jx (pre ++ [x]) W'))
    (hB : B ≤ W.heap.size) (hc : Two W Bs v1 v2) (h0 : J [] W) :
    CallsIn Fence.wide m Try.prog 53 #[.func (.yield l) #[] #[], .pointer (some ⟨Bs, 0, none⟩)] W fun e W' => (∃ v, e = .returned v) ∧
      ((∃ ys, ys.map (·.1) = List.range p.1.length ∧ J ys W') ∨ (∃ pre, Jx pre W')) := by
  refine callsIn_of_wp Try.func53 rfl trivial ?_ rfl
  simp only [Try.ntmps53, List.size_toArray, List.length_cons, List.length_nil, Nat.reduceAdd, Nat.reduceSub, Array.replicate_succ, Array.replicate_zero, List.push_toArray, List.append_toArray, List.nil_append, List.cons_append]
  obtain ⟨A, n, c, A', n', c', hv, hi, hi'⟩ := hX W (Below.refl _ _)
  obtain ⟨rfl, rfl⟩ : v1 = .slice A n c ∧ v2 = .slice A' n' c' := by simpa using hv
  have hn := hi.1
  have hm := hi.2.2.1
  have hnc := hi.2.1
  have hc0 := hc.c0
  have HC := Lib.hid hc
  have HX := Lib.hid hX
  have HI := Lib.hid hi
  have HN := Lib.hid hn
  clear hv hi hi' hc hX hn
  gi_wp2
  gi_loopw [7] (fun i wr => ∃ (k : Nat) (pre : List (Nth p.1.length)), k ≤ n ∧ i = .int .i64 k ∧ pre.map (·.1) = List.range k ∧ J pre wr ∧ Exc M B W wr)
    (fun i _ => n - (intOf i).toNat)
  case atStart => exact ⟨0, [], Nat.zero_le _, rfl, rfl, h0, Exc.refl _ _ _⟩
  case round =>
    obtain ⟨k, pre, hk, rfl, hpre, hJs, hx⟩ := hrel
    by_cases hlt : k < n
    · have hlt' : k < p.1.length := by rw [HN.out]; exact hlt
      have hlt2 : (k : Int) < (n : Int) := by omega
      have hT : Two wr Bs (.slice A n c) (.slice A' n' c') := HC.out.at (hx.block Bs hBs hBsM)
      have hT0 := hT.c0
      have hT1 := hT.c1
      have hS := Lib.hid (side_calls (.agg #[.slice A n c, .slice A' n' c']) p k wr (HX.out wr (hx.below hBn hM)) hlt' (by omega))
      clear hT
      gi_wp2
      refine ⟨trivial, (fun hh => by cases hh), (callsIn_wide.2 hS.out).mono ?_⟩
      rintro e w2 ⟨rfl, hb2⟩
      have hJ2 : J pre w2 := hJ _ _ _ none hJs (grown_of hb2) (by intro r hr; cases hr)
      obtain ⟨fn, tmps, assign, body, hy, hR⟩ := hY pre ⟨k, hlt'⟩ w2 hJ2 (by rw [len_range hpre]; exact hlt')
      unfold encs at hy
      dsimp only at hy
      have hx2 : Exc M B W w2 := hx.trans (Exc.of_below (hb2.mono (by have := hx.size; omega)))
      clear hb2 hJ2
      gi_wp2
      refine ⟨(fun hh => by cases hh), hR.mono ?_⟩
      rintro e W3 (⟨rfl, hJ3, hk3⟩ | ⟨rfl, hJx3⟩)
      · gi_wp2
        go_roundw
        case rel => exact ⟨k + 1, _, by omega, by simp, map_snoc pre ⟨k, hlt'⟩ hpre, hJ3, hx2.trans hk3⟩
        case measure => simp [intOf]; omega
      · gi_wp2
        refine bodyPost_ret (results_none rfl _ _ _) rfl ?_
        exact ⟨⟨_, rfl⟩, .inr ⟨_, hJx3⟩⟩
    · obtain rfl : k = n := by omega
      have hpre' : pre.map (·.1) = List.range p.1.length := hpre.trans (congrArg List.range HN.out.symm)
      gi_wp2
      go_end0
      exact ⟨⟨_, rfl⟩, .inl ⟨_, hpre', hJs⟩⟩
/-- what a round may do: nothing to what is no cells from B on, nothing below B but to the blocks M -/
structure Turn (M : List Nat) (B : Nat) (W W' : World) : Prop where
  keeps : KeepsFrom B W W'
  exc : Exc M B W W'
theorem Turn.refl (M : List Nat) (B : Nat) (W : World) : Turn M B W W := ⟨KeepsFrom.refl _ _, Exc.refl _ _ _⟩
theorem Turn.trans {M : List Nat} {B : Nat} {a b c : World} (h : Turn M B a b) (k : Turn M B b c) : Turn M B a c := ⟨h.keeps.trans k.keeps, h.exc.trans k.exc⟩
theorem keeps_below {B : Nat} {W W' : World} (h : Below W.heap.size W W') : KeepsFrom B W W' := ⟨h.size, fun k o _ hk _ => (h.block k (Array.getElem?_eq_some_iff.1 hk).1).trans hk⟩
theorem Turn.of_below {M : List Nat} {B : Nat} {W W' : World} (h : Below W.heap.size W W') (hB : B ≤ W.heap.size) : Turn M B W W' := ⟨keeps_below h, Exc.of_below (h.mono hB)⟩
theorem Turn.setCell {M : List Nat} {B : Nat} {W : World} {p : Addr} (v : Value) (h : p.block ∈ M) : Turn M B W (W.setCell p v) := ⟨(KeepsOthers.setCell _ _ _).from _, Exc.setCell v (.inl h)⟩
def roundPost' {α : Type} (M : List Nat) (B : Nat) (I : List α → World → Prop) (Ix : Code → World → Prop) (xs : List α) (W : World) : Exit → Act → World → Prop
  | .normal, _, W' => Turn M B W W' ∧ I xs W'
  | .ret, _, W' => Turn M B W W' ∧ Ix .ret W'
  | _, _, _ => False
theorem not_out {α : Type} {M : List Nat} {B : Nat} {I : List α → World → Prop} {Ix : Code → World → Prop} {xs : List α} {W : World} : ¬ LetsOut (roundPost' M B I Ix xs W) := fun ⟨_, _, h⟩ => h
theorem range_sides {g : Operand} {ps : Array Tmp} {assign body : Code} {Q : Exit → Act → World → Prop} {a : Act} {w : World} (n₀ Bs : Nat) (M : List Nat) (p : Pair) (v1 v2 : Value)
    (hg : a.eval g = .func (.func 53) #[] #[.pointer (some ⟨Bs, 0, none⟩)]) (hps : ps.size = 2) (hM : ∀ j ∈ M, n₀ ≤ j) (hn₀ : n₀ ≤ w.heap.size) (hBs : Two w Bs v1 v2) (hBsM : Bs ∉ M) (hMB : ∀ j ∈ M, j < w.heap.size)
    (hlen : p.1.length ≤ p.2.length) (hX : ∀ w', Below n₀ w w' → IsX w' (.agg #[v1, v2]) p)
    (I : List (Nth p.1.length) → World → Prop) (Ix : Code → World → Prop) (hI : OwnFrom w.heap.size I) (hIx : ∀ c, OwnFrom w.heap.size (fun (_ : Unit) W => Ix c W)) (h0 : I [] w)
    (F : Nth p.1.length → Nat → Act)
    (hassign : ∀ (l m : Nat) (x : Nth p.1.length) (W : World) (K : Act → World → Prop), K (F x W.heap.size) (W.alloc (.cells #[.int .i64 (at' p.1 x.1), .int .i64 (at' p.2 x.1)] 69)) →
      assign.wpIn (Fence.wide.inRound l) m Try.prog (Exit.then K (fun _ _ _ => False)) { tmps := (ps.zip (encs p x)).foldl (fun t (p, v) => t.setIfInBounds p v) a.tmps, defers := [] } W)
    (hbody : ∀ (l m : Nat) (pre : List (Nth p.1.length)) (x : Nth p.1.length) (Bx : Nat) (W : World), w.heap.size ≤ Bx → Two W Bx (.int .i64 (at' p.1 x.1)) (.int .i64 (at' p.2 x.1)) → Exc M w.heap.size w W → I pre W → pre.length < p.1.length →
      body.wpIn (Fence.wide.inRound l) m Try.prog (roundPost' M w.heap.size I Ix (pre ++ [x]) W) (F x Bx) W)
    (hdone : ∀ (D : Nat) (ys : List (Nth p.1.length)) (W : World), w.heap.size ≤ D → ys.map (·.1) = List.range p.1.length → Exc M w.heap.size w W → I ys W → W.heap[D]? = some (.deferred (some [])) → Q .normal { a with defers := { target := .collected D, args := #[] } :: a.defers } W)
    (hstop : ∀ (D : Nat) (c : Code) (W : World), w.heap.size ≤ D → Exc M w.heap.size w W → Ix c W → W.heap[D]? = some (.deferred (some [])) → c.wp Try.prog Q { a with defers := { target := .collected D, args := #[] } :: a.defers } W) :
    (Code.rangeFunc g ps assign body).wp Try.prog Q a w := by
  refine wpIn_wide.1 (wpIn_rangeFunc_ownH (F := Fence.wide) (n := 4) (w := w) (w0 := w) rfl (by omega) hg trivial (enters_of Try.func53 (by kernel_rfl) rfl)
    (encs := encs p) (Kp := Exc M w.heap.size) (S := fun ys => ys.map (·.1) = List.range p.1.length) (Sp := fun _ => True) (N := p.1.length) ?seq
    (fun h k => h.trans k) (fun W l o o' hl _ _ _ => Exc.put _ hl) (Below.refl _ _) (fun x => by simp [encs, hps])
    (fun pre W => I pre W ∧ Exc M w.heap.size w W) (fun c _ W => Ix c W ∧ Exc M w.heap.size w W)
    (OwnFrom.and hI (Exc.own (Nat.le_refl _))) (fun c => OwnFrom.and (fun s W W' row hs hg' hr => hIx c () W W' row hs hg' hr) (Exc.own (Nat.le_refl _))) ⟨h0, Exc.refl _ _ _⟩
    (fun x a' W => ∃ Bx, w.heap.size ≤ Bx ∧ Two W Bx (.int .i64 (at' p.1 x.1)) (.int .i64 (at' p.2 x.1)) ∧ a' = F x Bx) ?hAx ?hassign ?hbody ?hdone ?hstop)
  case seq =>
    intro l J Jx W hW hJ hJx hY hJ0
    have hXW : ∀ w', Below n₀ W w' → IsX w' (.agg #[v1, v2]) p := fun w' hb => hX w' ((hW.mono hn₀).trans hb)
    refine (sides1_in 3 l Bs n₀ w.heap.size M p v1 v2 hM hn₀ hBs.lt hBsM hlen J Jx W hXW hJ hY hW.size (hBs.at (hW.block _ hBs.lt)) hJ0).mono ?_
    rintro e W' ⟨he, ⟨ys, hy, hj⟩ | ⟨pre, hj⟩⟩
    · exact ⟨he, .inl ⟨ys, hy, hj⟩⟩
    · exact ⟨he, .inr ⟨pre, trivial, hj⟩⟩
  case hAx =>
    rintro x a' u W W' row ⟨Bx, h1, ⟨t, h2⟩, h3⟩ hg' hr
    refine ⟨Bx, h1, ⟨t, ?_⟩, h3⟩
    have hlt := (Array.getElem?_eq_some_iff.1 h2).1
    refine (hg'.block Bx hlt fun e => ?_).trans h2
    obtain ⟨_, o, ho, hnc⟩ := hr Bx e.symm
    rw [h2] at ho
    cases ho
    cases hnc
  case hassign =>
    rintro l pre x W K ⟨hi, hx⟩ hK
    refine hassign l _ x W K ?_
    have hb : Below W.heap.size W (W.alloc (.cells #[.int .i64 (at' p.1 x.1), .int .i64 (at' p.2 x.1)] 69)) := below_new _ _
    have hT := Turn.of_below (M := M) hb hx.size
    exact hK _ _ hT.keeps hT.exc ⟨hI.alloc _ hi, hx.trans hT.exc⟩ ⟨_, hx.size, Two.new _ _ _ _, rfl⟩
  case hbody =>
    rintro l pre x a' W hl hr ⟨hi, hx⟩ ⟨Bx, h1, h2, rfl⟩ hlen'
    refine wpIn_mono (hbody l _ pre x Bx W h1 h2 hx hi hlen') ?_
    intro e a3 W3 hp
    cases e with
    | normal => exact ⟨hp.1.keeps, hp.1.exc, hp.2, hx.trans hp.1.exc⟩
    | ret => exact ⟨hp.1.keeps, hp.2, hx.trans hp.1.exc⟩
    | exit id => exact hp.elim
    | goto t => exact hp.elim
    | panic c => exact hp.elim
    | outgrown => exact hp.elim
  case hdone => rintro D ys W hD hy ⟨hi, hx⟩ hK; exact hdone D ys W hD hy hx hi hK
  case hstop => rintro D c pre W hD _ ⟨hi, hx⟩ hK; exact wpIn_wide.2 (hstop D c W hD hx hi hK)
/-- the temporaries of a round: the two that are handed over; the index, if it is wanted; the box -/
def roundT (T : Array Value) (pi pr : Nat) (si : Option Nat) (sb : Nat) (i r : Value) (Bx : Nat) : Array Value :=
  match si with
  | none => ((T.setIfInBounds pi i).setIfInBounds pr r).setIfInBounds sb (.pointer (some ⟨Bx, 0, none⟩))
  | some s => (((T.setIfInBounds pi i).setIfInBounds pr r).setIfInBounds s i).setIfInBounds sb (.pointer (some ⟨Bx, 0, none⟩))
theorem range_sides' {g : Operand} {pi pr : Nat} {assign body : Code} {Q : Exit → Act → World → Prop} {T : Array Value} {w : World} (si : Option Nat) (sb : Nat) (n₀ Bs : Nat) (M : List Nat) (p : Pair) (v1 v2 : Value)
    (hg : Act.eval { tmps := T, defers := [] } g = .func (.func 53) #[] #[.pointer (some ⟨Bs, 0, none⟩)]) (hM : ∀ j ∈ M, n₀ ≤ j) (hn₀ : n₀ ≤ w.heap.size) (hBs : Two w Bs v1 v2) (hBsM : Bs ∉ M) (hMB : ∀ j ∈ M, j < w.heap.size)
    (hlen : p.1.length ≤ p.2.length) (hX : ∀ w', Below n₀ w w' → IsX w' (.agg #[v1, v2]) p)
    (I : List (Nth p.1.length) → World → Prop) (Ix : Code → World → Prop) (hI : OwnFrom w.heap.size I) (hIx : ∀ c, OwnFrom w.heap.size (fun (_ : Unit) W => Ix c W)) (h0 : I [] w)
    (hassign : ∀ (l m : Nat) (i : Int) (a b : Int) (W : World) (K : Act → World → Prop), K { tmps := roundT T pi pr si sb (.int .i64 i) (rng a b) W.heap.size, defers := [] } (W.alloc (.cells #[.int .i64 a, .int .i64 b] 69)) →
      assign.wpIn (Fence.wide.inRound l) m Try.prog (Exit.then K (fun _ _ _ => False)) { tmps := (T.setIfInBounds pi (.int .i64 i)).setIfInBounds pr (rng a b), defers := [] } W)
    (hbody : ∀ (l m : Nat) (pre : List (Nth p.1.length)) (x : Nth p.1.length) (Bx : Nat) (W : World), w.heap.size ≤ Bx → Two W Bx (.int .i64 (at' p.1 x.1)) (.int .i64 (at' p.2 x.1)) → Exc M w.heap.size w W → I pre W → pre.length < p.1.length →
      body.wpIn (Fence.wide.inRound l) m Try.prog (roundPost' M w.heap.size I Ix (pre ++ [x]) W) { tmps := roundT T pi pr si sb (.int .i64 (x.1 : Int)) (rng (at' p.1 x.1) (at' p.2 x.1)) Bx, defers := [] } W)
    (hdone : ∀ (D : Nat) (ys : List (Nth p.1.length)) (W : World), w.heap.size ≤ D → ys.map (·.1) = List.range p.1.length → Exc M w.heap.size w W → I ys W → W.heap[D]? = some (.deferred (some [])) → Q .normal { tmps := T, defers := [{ target := .collected D, args := #[] }] } W)
    (hstop : ∀ (D : Nat) (c : Code) (W : World), w.heap.size ≤ D → Exc M w.heap.size w W → Ix c W → W.heap[D]? = some (.deferred (some [])) → c.wp Try.prog Q { tmps := T, defers := [{ target := .collected D, args := #[] }] } W) :
    (Code.rangeFunc g #[pi, pr] assign body).wp Try.prog Q { tmps := T, defers := [] } w := by
  refine range_sides n₀ Bs M p v1 v2 hg rfl hM hn₀ hBs hBsM hMB hlen hX I Ix hI hIx h0 (fun x Bx => { tmps := roundT T pi pr si sb (.int .i64 (x.1 : Int)) (rng (at' p.1 x.1) (at' p.2 x.1)) Bx, defers := [] }) ?_ hbody hdone hstop
  intro l m x W K hK
  have e : (#[pi, pr].zip (encs p x)).foldl (fun t (q : Nat × Value) => t.setIfInBounds q.1 q.2) T = (T.setIfInBounds pi (.int .i64 (x.1 : Int))).setIfInBounds pr (rng (at' p.1 x.1) (at' p.2 x.1)) := by
    simp [encs]
  have := hassign l m x.1 _ _ W K hK
  rw [← e] at this
  exact this
/-- a function that holds such a range: how it is entered, and how it leaves -/
theorem enter_marks {f : FuncId} {fn : Func} {c : Code} {args : Array Value} {w : World} {R : Ending → World → Prop} {P : Program}
    (hf : P.funcs[f]? = some fn) (hb : fn.body = some c) (h : c.wp P (bodyPostM Fence.wide 4 P fn R) { tmps := args ++ Array.replicate (fn.ntmps - args.size) undef, defers := [] } w) : Calls P f args w R :=
  callsIn_wide.1 (callsIn_of_wp_marks (n := 4) hf hb trivial (wpIn_wide.2 h) rfl)
theorem leave_mark {fn : Func} {tmps : Array Value} {D : Nat} {W : World} {R : Ending → World → Prop} {P : Program} {v : Value} (hK : W.heap[D]? = some (.deferred (some [])))
    (hr : (results fn tmps).run P (W.putObj D (.deferred none)) = .ok v (W.putObj D (.deferred none))) (hR : R (.returned v) (W.putObj D (.deferred none))) :
    bodyPostM Fence.wide 4 P fn R .ret { tmps := tmps, defers := [{ target := .collected D, args := #[] }] } W :=
  ⟨by simp, .inl ⟨_, _, rfl, run_takeDeferred hK, ⟨_, hr, hR⟩⟩⟩
theorem leave_bare {fn : Func} {tmps : Array Value} {W : World} {R : Ending → World → Prop} {P : Program} {v : Value}
    (hr : (results fn tmps).run P W = .ok v W) (hR : R (.returned v) W) : bodyPostM Fence.wide 4 P fn R .ret { tmps := tmps, defers := [] } W := ⟨_, hr, hR⟩
theorem below_mark {n : Nat} {w W : World} {D : Nat} {o : Obj} (h : Below n w W) (hD : n ≤ D) : Below n w (W.putObj D o) :=
  ⟨h.os, h.tape, h.output, by simp [h.size], fun k hk => (World.putObj_heap_other (by omega)).trans (h.block k hk)⟩
/-- a variable of one cell, its type known -/
def One (w : World) (g : Nat) (t : TypeId) (v : Value) : Prop := w.heap[g]? = some (.cells #[v] t (0, 0))
theorem One.lt {w : World} {g : Nat} {t : TypeId} {v : Value} (h : One w g t v) : g < w.heap.size := (Array.getElem?_eq_some_iff.1 h).1
theorem One.cell {w : World} {g : Nat} {t : TypeId} {v : Value} (h : One w g t v) : w.cell? ⟨g, 0, none⟩ = some v := by
  rw [cell_of_row _ _ _ _ _ _ h]; rfl
theorem One.frozen {w : World} {g : Nat} {t : TypeId} {v : Value} (h : One w g t v) : w.frozen? ⟨g, 0, none⟩ = false := frozen_of_row _ _ _ _ _ h
theorem One.at {w w' : World} {g : Nat} {t : TypeId} {v : Value} (h : One w g t v) (e : w'.heap[g]? = w.heap[g]?) : One w' g t v := e.trans h
theorem One.below {w w' : World} {g : Nat} {t : TypeId} {v : Value} (h : One w g t v) (hb : Below w.heap.size w w') : One w' g t v := h.at (hb.block g h.lt)
theorem One.new (w : World) (t : TypeId) (v : Value) : One (w.alloc (.cells #[v] t)) w.heap.size t v := heap_alloc_new w _
theorem One.set {w : World} {g : Nat} {t : TypeId} {v : Value} (h : One w g t v) (u : Value) : One (w.setCell ⟨g, 0, none⟩ u) g t u := heap_setCell_same _ _ _ _ _ _ h
theorem One.other {w : World} {g k : Nat} {t : TypeId} {v : Value} (h : One w g t v) (u : Value) (hk : g ≠ k) : One (w.setCell ⟨k, 0, none⟩ u) g t v := h.at (Below.heap_setCell _ _ _ _ hk)
theorem One.put {w : World} {g D : Nat} {t : TypeId} {v : Value} {o : Obj} (h : One w g t v) (hk : g ≠ D) : One (w.putObj D o) g t v := h.at (World.putObj_heap_other hk)
theorem own_one {β : Type} {B g : Nat} {t : TypeId} {v : β → Value} (hg : g < B) : OwnFrom B (fun s W => One W g t (v s)) := by
  intro s W W' row hs hgr hr
  exact hs.at (hgr.block g hs.lt fun e => by have := (hr g e.symm).1; omega)
theorem own_pure {β : Type} {B : Nat} {p : β → Prop} : OwnFrom B (fun s _ => p s) := fun _ _ _ _ hs _ _ => hs
theorem all_range {n : Nat} {ys : List (Nth n)} (hy : ys.map (·.1) = List.range n) {P : Nat → Prop} (h : ∀ x ∈ ys, P x.1) : ∀ i, i < n → P i := by
  intro i hi
  have h1 : i ∈ ys.map (·.1) := by rw [hy]; simpa using hi
  obtain ⟨x, hx, rfl⟩ := List.mem_map.1 h1
  exact h x hx
/-- a bool that is handed back out of a variable, behind a range over a function -/
theorem leave_bool {fn : Func} {p : Nat} {ty : TypeId} (hres : fn.results = #[.cell p ty]) {tmps : Array Value} {D g : Nat} {W : World} {R : Ending → World → Prop} {v : Value} {d : TypeDesc}
    (hp : tmps.getD p undef = .pointer (some ⟨g, 0, none⟩)) (hd : (match d with | .struct _ | .array _ _ => true | _ => false) = false) (hu : Try.prog.underlying ty = some d)
    (h1 : One W g ty v) (hK : W.heap[D]? = some (.deferred (some []))) (hgD : g ≠ D) (hR : R (.returned v) (W.putObj D (.deferred none))) :
    bodyPostM Fence.wide 4 Try.prog fn R .ret { tmps := tmps, defers := [{ target := .collected D, args := #[] }] } W :=
  leave_mark hK (wk.results_cell1 hres tmps _ ⟨g, 0, none⟩ v d hp (h1.put hgD).cell hu (by revert hd; cases d <;> simp)) hR
theorem leave_bool0 {fn : Func} {p : Nat} {ty : TypeId} (hres : fn.results = #[.cell p ty]) {tmps : Array Value} {g : Nat} {W : World} {R : Ending → World → Prop} {v : Value} {d : TypeDesc}
    (hp : tmps.getD p undef = .pointer (some ⟨g, 0, none⟩)) (hd : (match d with | .struct _ | .array _ _ => true | _ => false) = false) (hu : Try.prog.underlying ty = some d)
    (h1 : One W g ty v) (hR : R (.returned v) W) :
    bodyPostM Fence.wide 4 Try.prog fn R .ret { tmps := tmps, defers := [] } W :=
  leave_bare (wk.results_cell1 hres tmps _ ⟨g, 0, none⟩ v d hp h1.cell hu (by revert hd; cases d <;> simp)) hR
end Go.Proofs.Ytmnpmjioahnjoaa.bk
/- Valid. -/
namespace Go.Proofs.Ytmnpmjioahnjoaa.bk

open Go.ChangeShapes Go.WideShapes Go.ChangeAt Go.RowKit

open Go.Proofs.Ytmnpmjioahnjoaa.bq Go.Proofs.Ytmnpmjioahnjoaa.vk Go.Proofs.Ytmnpmjioahnjoaa.wk

set_option linter.unusedVariables false
attribute [local go_sem] Oper.semAt_some
set_option maxRecDepth 100000 in
set_option maxHeartbeats 2000000 in
theorem valid_calls (v : Value) (p : Pair) (w : World) (h : IsX w v p) :
    Calls Try.prog 15 #[v] w fun e w' => e = .returned (.bool (bvalid p)) ∧ Below w.heap.size w w' := by
  obtain ⟨A, n, c, A', n', c', rfl, hi, hi'⟩ := h
  have hm := hi.2.2.1
  have hm' := hi'.2.2.1
  have hn := hi.2.1
  have hn' := hi'.2.1
  have hl := hi.1
  have hl' := hi'.1
  have hB0 := Below.andThen (below_new w (.cells #[.slice A n c, .slice A' n' c'] 25)) (below_new _ (.cells #[.bool false] 4))
  have hB1 := Below.andThen (below_new w (.cells #[.slice A n c, .slice A' n' c'] 25)) (below_new _ (.cells #[.bool true] 4))
  have HI := Lib.hid hi
  have HI' := Lib.hid hi'
  have HB0 := Lib.hid hB0
  have HV := Lib.hid (fun w' hb => isVector_calls A n c p.1 w' (isI_below hi hb))
  have HV' := Lib.hid (fun w' hb => isVector_calls A' n' c' p.2 w' (isI_below hi' hb))
  have HO := Lib.hid (One.new (w.alloc (.cells #[.slice A n c, .slice A' n' c'] 25)) 4 (.bool false))
  have hS := size_new w (.cells #[.slice A n c, .slice A' n' c'] 25)
  rw [hS] at HO
  clear hi hi' hB0 hS
  refine enter_marks Try.func15 rfl ?_
  simp only [Try.ntmps15, List.size_toArray, List.length_cons, List.length_nil, Nat.reduceAdd, Nat.reduceSub, Array.replicate_succ, Array.replicate_zero, List.push_toArray, List.append_toArray, List.nil_append, List.cons_append]
  by_cases hlen : n = n'
  · subst hlen
    by_cases hv1 : vq.valid p.1 = true
    · rw [hv1] at HV
      by_cases hv2 : vq.valid p.2 = true
      · rw [hv2] at HV'
        have hV : bvalid p = le p.1 p.2 := by simp [bvalid, hv1, hv2, hl, hl']
        rw [hV]
        go_wp2_with fail
        refine (HV.out _ HB0.out).mono ?_
        rintro e w' ⟨rfl, rfl⟩
        go_wp2_with fail
        refine (HV'.out _ HB0.out).mono ?_
        rintro e w' ⟨rfl, rfl⟩
        go_wp2_with fail
        refine (sides_calls _ _ _).mono ?_
        rintro e w' ⟨rfl, rfl⟩
        go_wp2_with fail
        generalize hG : w.heap.size = G at *
        have hs3 : ∀ o1 o2 o3, (((w.alloc o1).alloc o2).alloc o3).heap.size = G + 3 := by intro o1 o2 o3; simp only [size_new, hG]
        have hB3 : Below G w (((w.alloc (.cells #[.slice A n c, .slice A' n c'] 25)).alloc (.cells #[.bool false] 4)).alloc (.cells #[.slice A n c, .slice A' n c'] 25)) := HB0.out.trans ((below_new _ _).mono (by simp only [size_new, hG]; omega))
        refine range_sides' none 4 G (G + 1 + 1) [G + 1] p (.slice A n c) (.slice A' n c') rfl ?c1 ?c2 ?c0 ?c3 ?c4 ?c5 ?c6 (fun pre W => One W (G + 1) 4 (.bool false) ∧ ∀ x ∈ pre, at' p.1 x.1 ≤ at' p.2 x.1) (fun c W => (c = .ret ∧ le p.1 p.2 = false) ∧ One W (G + 1) 4 (.bool false)) ?c7 ?c8 ?c9 ?hassign ?hbody ?hdone ?hstop
        case c0 => have := Two.new ((w.alloc (.cells #[.slice A n c, .slice A' n c'] 25)).alloc (.cells #[.bool false] 4)) (.slice A n c) (.slice A' n c') 25; simp only [size_new, hG] at this; exact this
        case c1 => simp
        case c2 => rw [hs3]; omega
        case c3 => simp
        case c4 => rw [hs3]; simp
        case c5 => omega
        case c6 =>
          intro w' hb
          have hb' : Below G w w' := hB3.trans hb
          rw [← hG] at hb'
          exact ⟨A, n, c, A', n, c', rfl, isI_below HI.out hb', isI_below HI'.out hb'⟩
        case c7 => exact OwnFrom.and (own_one (by rw [hs3]; omega)) own_pure
        case c8 => intro c'; exact OwnFrom.and own_pure (own_one (by rw [hs3]; omega))
        case c9 => exact ⟨HO.out.below (below_new _ _), fun x hx => by cases hx⟩
        case hassign =>
          intro l m i a b W K hK
          unfold rng at hK ⊢
          simp only [roundT, List.setIfInBounds_toArray, List.set_cons_succ, List.set_cons_zero] at hK ⊢
          gi_wp2
          exact hK
        case hbody =>
          rintro l m pre x Bx W hBx hT hx ⟨hO, hI⟩ hlen
          simp only [roundT, List.setIfInBounds_toArray, List.set_cons_succ, List.set_cons_zero]
          have hT0 := hT.c0
          have hT1 := hT.c1
          have hO0 := hO.cell
          have hO1 := hO.frozen
          by_cases hle : at' p.1 x.1 ≤ at' p.2 x.1
          · gi_wp2
            exact ⟨Turn.refl _ _ _, hO, fun y hy => by rcases List.mem_append.1 hy with h | h; exact hI y h; rw [List.mem_singleton] at h; subst h; exact hle⟩
          · gi_wp2
            exact ⟨Turn.setCell _ (by simp), ⟨rfl, le_not x.2 (by omega)⟩, hO.set _⟩
        case hdone =>
          rintro D ys W hD hys hx ⟨hO, hI⟩ hK
          have hO0 := hO.cell
          have hO1 := hO.frozen
          have hle : le p.1 p.2 = true := le_iff.2 (all_range hys hI)
          rw [hs3] at hD
          go_wp2_with fail
          refine leave_bool (fn := Try.f15) rfl rfl rfl Try.underlying4 (hO.set _) ?_ (by omega) ⟨by rw [hle], ?_⟩
          · exact (Below.heap_setCell _ _ _ _ (by show D ≠ G + 1; omega)).trans hK
          · rw [hG]; exact below_mark (((hB3.trans (hx.below (by rw [hs3]; omega) (by simp))).setCell (p := ⟨G + 1, 0, none⟩) (by show G ≤ G + 1; omega) _)) (by omega)
        case hstop =>
          rintro D c W hD hx ⟨⟨rfl, hle⟩, hO⟩ hK
          rw [hs3] at hD
          go_wp2_with fail
          refine leave_bool (fn := Try.f15) rfl rfl rfl Try.underlying4 hO hK (by omega) ⟨by rw [hle], ?_⟩
          rw [hG]
          exact below_mark (hB3.trans (hx.below (by rw [hs3]; omega) (by simp))) (by omega)
      · have hV : bvalid p = false := by simp [bvalid, hv2]
        have hv2' : vq.valid p.2 = false := by simpa using hv2
        rw [hv2'] at HV'
        rw [hV]
        go_wp2_with fail
        refine (HV.out _ HB0.out).mono ?_
        rintro e w' ⟨rfl, rfl⟩
        go_wp2_with fail
        refine (HV'.out _ HB0.out).mono ?_
        rintro e w' ⟨rfl, rfl⟩
        go_wp2_with fail
        exact leave_bool0 (fn := Try.f15) rfl rfl rfl Try.underlying4 HO.out ⟨rfl, HB0.out⟩
    · have hV : bvalid p = false := by simp [bvalid, hv1]
      have hv1' : vq.valid p.1 = false := by simpa using hv1
      rw [hv1'] at HV
      rw [hV]
      go_wp2_with fail
      refine (HV.out _ HB0.out).mono ?_
      rintro e w' ⟨rfl, rfl⟩
      go_wp2_with fail
      exact leave_bool0 (fn := Try.f15) rfl rfl rfl Try.underlying4 HO.out ⟨rfl, HB0.out⟩
  · have hV : bvalid p = false := by simp [bvalid, hl, hl', hlen]
    rw [hV]
    go_wp2_with fail
    exact leave_bool0 (fn := Try.f15) rfl rfl rfl Try.underlying4 HO.out ⟨rfl, HB0.out⟩
end Go.Proofs.Ytmnpmjioahnjoaa.bk
/- Alike, the functions on pairs of boxes. -/
namespace Go.Proofs.Ytmnpmjioahnjoaa.bk

open Go.ChangeShapes Go.WideShapes Go.ChangeAt Go.RowKit

open Go.Proofs.Ytmnpmjioahnjoaa.bq Go.Proofs.Ytmnpmjioahnjoaa.vk Go.Proofs.Ytmnpmjioahnjoaa.wk

set_option linter.unusedVariables false
set_option maxRecDepth 100000 in
set_option maxHeartbeats 2000000 in
theorem alike_calls (v u : Value) (p q : Pair) (w : World) (h : IsX w v p) (h2 : IsX w u q) :
    Calls Try.prog 32 #[v, u] w fun e w' => e = .returned (.bool (balike p q)) ∧ Below w.heap.size w w' := by
  have HV := Lib.hid (fun w' hb => valid_calls v p w' (h.below hb))
  have HU := Lib.hid (fun w' hb => valid_calls u q w' (h2.below hb))
  obtain ⟨A, n, c, A', n', c', rfl, hi, hi'⟩ := h
  obtain ⟨A2, n2, c2, A2', n2', c2', rfl, hi2, hi2'⟩ := h2
  have hm := hi.2.2.1
  have hm2 := hi2.2.2.1
  have hn := hi.2.1
  have hn2 := hi2.2.1
  have hl := hi.1
  have hl2 := hi2.1
  have HB0 := Lib.hid (Below.andThen (below_new w (.cells #[.slice A n c, .slice A' n' c'] 25)) (below_new _ (.cells #[.slice A2 n2 c2, .slice A2' n2' c2'] 25)))
  have hT1 := (Two.new w (.slice A n c) (.slice A' n' c') 25).below (below_new _ (.cells #[.slice A2 n2 c2, .slice A2' n2' c2'] 25))
  have hT2 := Two.new (w.alloc (.cells #[.slice A n c, .slice A' n' c'] 25)) (.slice A2 n2 c2) (.slice A2' n2' c2') 25
  simp only [size_new] at hT2
  have HT1 := Lib.hid hT1
  have HT2 := Lib.hid hT2
  clear hi hi' hi2 hi2' hT1 hT2
  by_cases hlen : n = n2
  · subst hlen
    by_cases hv1 : bvalid p = true
    · rw [hv1] at HV
      have hV : balike p q = bvalid q := by simp [balike, hl, hl2, hv1]
      rw [hV]
      go_enter Try.func32, Try.ntmps32
      go_wp2_with fail
      refine (HV.out _ HB0.out).mono ?_
      rintro e w1 ⟨rfl, hb⟩
      have HB1 := Lib.hid (HB0.out.trans (hb.mono HB0.out.size))
      have hT := HT2.out.below hb
      have hc0 := hT.c0
      have hc1 := hT.c1
      clear hb hT
      go_wp2_with fail
      refine (HU.out _ HB1.out).mono ?_
      rintro e w2 ⟨rfl, hb⟩
      have HB2 := Lib.hid (HB1.out.trans (hb.mono HB1.out.size))
      clear hb
      go_wp2_with fail
      go_ret
      exact ⟨rfl, HB2.out⟩
    · have hV : balike p q = false := by simp [balike, hv1]
      have hv1' : bvalid p = false := by simpa using hv1
      rw [hv1'] at HV
      rw [hV]
      go_enter Try.func32, Try.ntmps32
      go_wp2_with fail
      refine (HV.out _ HB0.out).mono ?_
      rintro e w1 ⟨rfl, hb⟩
      have HB1 := Lib.hid (HB0.out.trans (hb.mono HB0.out.size))
      clear hb
      go_wp2_with fail
      go_ret
      exact ⟨rfl, HB1.out⟩
  · have hV : balike p q = false := by simp [balike, hl, hl2, hlen]
    rw [hV]
    go_enter Try.func32, Try.ntmps32
    go_wp2_with fail
    go_ret
    exact ⟨rfl, HB0.out⟩
abbrev iv (l : List Int) : List Value := l.map (Value.int .i64)
theorem isI_of_own {w : World} {B n : Nat} {v : Value} {l : List Int} (h : w.ownsRow B 3 1 v n (iv l)) (hb : ∀ x ∈ l, -9223372036854775808 ≤ x ∧ x ≤ 9223372036854775807) : ∃ A c, v = .slice A n c ∧ wo.IsI w A n c l := by
  have hl : l.length = n := by have := h.1; simpa [iv] using this
  obtain ⟨A, c, rfl, h1, h2, hR⟩ := wp.RC.of_own h
  exact ⟨A, c, rfl, hl, h1, by unfold maxLen at h2; omega, hR, hb⟩
/-- joined, with lesser or greater -/
def pickf (f : Nat) (a b : Int) : Int := if f = 34 then min a b else max a b
theorem pick_calls (f : Nat) (hf : f = 34 ∨ f = 35) (a b : Int) (w : World) : Calls Try.prog f #[.int .i64 a, .int .i64 b] w fun e w' => e = .returned (.int .i64 (pickf f a b)) ∧ w' = w := by
  rcases hf with rfl | rfl
  · exact lesser_calls a b w
  · exact greater_calls a b w
theorem pick_enters (f : Nat) (hf : f = 34 ∨ f = 35) : ∀ args w, (callFunc f args).run Try.prog w = .ok (.enter f args) w := by
  rcases hf with rfl | rfl
  · intro args w; kernel_rfl
  · intro args w; kernel_rfl
def joinf (f : Nat) (a b : List Int) : List Int := (List.range a.length).map fun i => pickf f (at' a i) (at' b i)
theorem joinf_snoc (f : Nat) (a b : List Int) {k : Nat} (hk : k < a.length) : (joinf f a b).take (k + 1) = (joinf f a b).take k ++ [pickf f (at' a k) (at' b k)] := by
  rw [List.take_add_one]
  congr 1
  simp [joinf, hk]
set_option maxRecDepth 100000 in
set_option maxHeartbeats 2000000 in
theorem joined_calls (f : Nat) (hf : f = 34 ∨ f = 35) (A A' : Option Addr) (n c n' c' : Nat) (a b : List Int) (w : World) (h : wo.IsI w A n c a) (h' : wo.IsI w A' n' c' b) (hn : n ≤ n') (hn1 : n ≤ 1000) :
    Calls Try.prog 33 #[.slice A n c, .slice A' n' c', .func (.func f) #[] #[]] w fun e w' => ∃ v, e = .returned v ∧ IsV w' v (joinf f a b) ∧ Below w.heap.size w w' := by
  obtain ⟨i0, hi, hz0, hz1, hz2⟩ := info_parts wi.infoI
  have HP := Lib.hid (fun x y w' => pick_calls f hf x y w')
  have hE := pick_enters f hf
  have hm := h.2.2.1
  have hm' := h'.2.2.1
  have hnc := h.2.1
  have hnc' := h'.2.1
  have HI := Lib.hid h
  have HI' := Lib.hid h'
  have HL := Lib.hid h.1
  have HL' := Lib.hid h'.1
  clear h h' hf
  have hnI : (i0.bytes : Nat) * n ≤ 281474976710656 := by rw [hz2]; omega
  obtain ⟨w1, hmk, hown, hgr⟩ := run_make_own (P := Try.prog) w w.heap.size 23 3 i0 (.int .i64 0) 1 Try.underlying23 hi hz0 hz1 .i64 .i64 n hnI (by unfold maxLen; omega) (Nat.le_refl _)
  have HB1 : Hid (Below w.heap.size w w1) := (Below.refl _ _).grown hgr (Nat.le_refl _) (fun k hk => by cases hk)
  have HOWN := Lib.hid hown
  have HBND : Hid (∀ x ∈ joinf f a b, -9223372036854775808 ≤ x ∧ x ≤ 9223372036854775807) := fun x hx => by
    simp only [joinf, List.mem_map, List.mem_range] at hx
    obtain ⟨i, hi, rfl⟩ := hx
    have h1 := HI.out.2.2.2.2 (at' a i) (List.mem_of_getElem? (of_at hi))
    have h2 := HI'.out.2.2.2.2 (at' b i) (List.mem_of_getElem? (of_at (by rw [HL'.out]; rw [HL.out] at hi; omega)))
    unfold pickf
    split <;> omega
  have HJL : Hid ((joinf f a b).length = n) := by show _ = _; rw [joinf, List.length_map, List.length_range, HL.out]
  clear hown hgr
  generalize hG : w.heap.size = B at *
  have HG := Lib.hid hG
  clear hG
  go_enter Try.func33, Try.ntmps33
  go_wp2_with fail
  go_loopg [7, 15] n (fun g v x wr => ∃ (k : Nat), k + g = n ∧ x = .int .i64 (k : Int) ∧ wr.ownsRow B 3 1 v k (iv ((joinf f a b).take k)) ∧ Below B w wr)
  case atStart => exact ⟨0, by omega, rfl, HOWN.out, HB1.out⟩
  case round =>
    obtain ⟨k, hk, rfl, hown, hbel⟩ := hrel
    have HK := Lib.hid hk
    have HOWN2 := Lib.hid hown
    have HBEL := Lib.hid hbel
    have HBW : Hid (B ≤ wr.heap.size) := by have := hbel.size; have := HG.out; show _ ≤ _; omega
    have hkn : k ≤ n := by omega
    by_cases hlt : k < n
    · have hb1 : Below w.heap.size w wr := by rw [HG.out]; exact hbel
      obtain ⟨bb, o, rfl, hc, hb⟩ := isI_get (isI_below HI.out hb1) hlt
      obtain ⟨bb', o', rfl, hc', hb'⟩ := isI_get (isI_below HI'.out hb1) (show k < n' by omega)
      have HS : Hid ((joinf f a b).take (k + 1) = (joinf f a b).take k ++ [pickf f (at' a k) (at' b k)]) := joinf_snoc f a b (by rw [HL.out]; exact hlt)
      have HP2 := Lib.hid (fun w' => HP.out (at' a k) (at' b k) w')
      generalize pickf f (at' a k) (at' b k) = z at *
      generalize at' a k = x at *
      generalize at' b k = y at *
      have h1' : (k : Int) < (n : Int) := by omega
      have h2' : (k : Int) < (n' : Int) := by omega
      clear hown hbel hb1 hk hb hb'
      go_wp2_with fail
      refine (HP2.out _).mono ?_
      rintro e w' ⟨rfl, rfl⟩
      go_wp2_with (at_builtin; refine wpList_append_own _ rfl _ _ 23 rfl B 3 i0 (.int .i64 0) 1 8 Try.underlying23 hi hz0 hz1 hz2 rfl (by decide) _ _ _ rfl (HOWN2.out.alloc _) ⟨w'.heap.size, 0, none⟩ 1 1 [.int .i64 z] rfl rfl ?c1 ?c2 ?c3 ?c4 ?c5 ?_)
      case c1 => exact cell_one_new _ _ _
      case c2 => simp [Value.oneCell']
      case c3 => unfold maxLen; omega
      case c4 => omega
      case c5 => have := HBW.out; simp; omega
      intro v' w2 hown2 hgrow _
      have hbe : Below B w w2 := (HBEL.out.alloc HBW.out _).grown hgrow (by have := HBW.out; simp; omega) (fun q hq => (HOWN2.out.lt q hq).1)
      have HB2 := Lib.hid hbe
      have HO2 := Lib.hid hown2
      clear hown2 hgrow hbe
      go_wp2_with fail
      go_roundg (gk - 1)
      case measure => have := HK.out; omega
      case rel =>
        refine ⟨k + 1, by have := HK.out; omega, by go_num, ?_, HB2.out⟩
        have h := HO2.out
        rw [HS.out]
        unfold iv at h ⊢
        rw [List.map_append]
        simpa using h
    · obtain rfl : k = n := by omega
      have ho := hown
      rw [List.take_of_length_le (by have := HJL.out; omega)] at ho
      obtain ⟨A2, c2, rfl, hI⟩ := isI_of_own ho HBND.out
      have HI2 := Lib.hid hI
      clear ho hI hown hbel
      go_wp2_with fail
      go_ret
      exact ⟨_, rfl, ⟨A2, k, c2, rfl, HI2.out⟩, HBEL.out⟩
end Go.Proofs.Ytmnpmjioahnjoaa.bk
/- Join, Meet. -/
namespace Go.Proofs.Ytmnpmjioahnjoaa.bk

open Go.ChangeShapes Go.WideShapes Go.ChangeAt Go.RowKit

open Go.Proofs.Ytmnpmjioahnjoaa.bq Go.Proofs.Ytmnpmjioahnjoaa.vk Go.Proofs.Ytmnpmjioahnjoaa.wk

set_option linter.unusedVariables false
theorem joinf_lesser (a b : List Int) : joinf 34 a b = mins a b := rfl
theorem joinf_greater (a b : List Int) : joinf 35 a b = maxs a b := rfl
theorem res_x1 {fn : Func} {p u : Tmp} (h : fn.results = #[.cell p 25, .tmp u]) (tmps : Array Value) (w : World) (g : Nat) (a b : Value) (hp : tmps.getD p undef = .pointer (some ⟨g, 0, none⟩)) (hg : w.heap[g]? = some (.cells #[a, b] 25 (0, 0))) :
    (results fn tmps).run Try.prog w = .ok (.tuple #[.agg #[a, b], tmps.getD u undef]) w := by
  have hp' : tmps[p]?.getD undef = .pointer (some ⟨g, 0, none⟩) := by simpa using hp
  simp [results, h, hp', asAddr, run_loadVar_row w g _ _ #[a, b] (0, 0) _ hg Try.underlying25 rfl (by kernel_rfl)]
theorem res_x2 {fn : Func} {p u v : Tmp} (h : fn.results = #[.cell p 25, .tmp u, .tmp v]) (tmps : Array Value) (w : World) (g : Nat) (a b : Value) (hp : tmps.getD p undef = .pointer (some ⟨g, 0, none⟩)) (hg : w.heap[g]? = some (.cells #[a, b] 25 (0, 0))) :
    (results fn tmps).run Try.prog w = .ok (.tuple #[.agg #[a, b], tmps.getD u undef, tmps.getD v undef]) w := by
  have hp' : tmps[p]?.getD undef = .pointer (some ⟨g, 0, none⟩) := by simpa using hp
  simp [results, h, hp', asAddr, run_loadVar_row w g _ _ #[a, b] (0, 0) _ hg Try.underlying25 rfl (by kernel_rfl)]
theorem isX_nil (w : World) : IsX w (.agg #[.slice none 0 0, .slice none 0 0]) ([], []) := by
  have h : wo.IsI w none 0 0 [] := ⟨rfl, Nat.le_refl _, by omega, fun h => absurd h (by simp), by simp⟩
  exact ⟨_, _, _, _, _, _, rfl, h, h⟩
/-- a variable of two cells, its type known -/
def TwoX (w : World) (g : Nat) (a b : Value) : Prop := w.heap[g]? = some (.cells #[a, b] 25 (0, 0))
theorem TwoX.two {w : World} {g : Nat} {a b : Value} (h : TwoX w g a b) : Two w g a b := ⟨_, h⟩
theorem TwoX.below {w w' : World} {g : Nat} {a b : Value} (h : TwoX w g a b) (hb : Below w.heap.size w w') : TwoX w' g a b := (hb.block g (Array.getElem?_eq_some_iff.1 h).1).trans h
theorem TwoX.f0 {w : World} {g : Nat} {a b : Value} (h : TwoX w g a b) (j : Nat) : w.frozen? ⟨g, j, none⟩ = false := frozen_of_row _ _ _ _ _ h
theorem TwoX.set {w : World} {g : Nat} {a b : Value} (h : TwoX w g a b) (x y : Value) : TwoX ((w.setCell ⟨g, 0, none⟩ x).setCell ⟨g, 1, none⟩ y) g x y := by
  have h1 := heap_setCell_same w g 0 #[a, b] 25 x h
  have h2 := heap_setCell_same (w.setCell ⟨g, 0, none⟩ x) g 1 _ 25 y h1
  exact h2
theorem TwoX.notInt {w : World} {g : Nat} {A A' : Option Addr} {n c n' c' : Nat} (h : TwoX w g (.slice A n c) (.slice A' n' c')) (o : Nat) (x : Int) : w.cell? ⟨g, o, none⟩ ≠ some (.int .i64 x) := by
  rw [cell_of_row _ _ _ _ _ _ h]
  intro hh
  match o with
  | 0 => cases hh
  | 1 => cases hh
  | o + 2 => simp at hh
theorem isI_but {w w' : World} {g : Nat} {A : Option Addr} {n c : Nat} {l : List Int} (h : wo.IsI w A n c l) (hne : ∀ o x, w.cell? ⟨g, o, none⟩ ≠ some (.int .i64 x)) (hs : w.heap.size ≤ w'.heap.size) (hk : ∀ k, k < w.heap.size → k ≠ g → w'.heap[k]? = w.heap[k]?) : wo.IsI w' A n c l := by
  refine ⟨h.1, h.2.1, h.2.2.1, fun hp => ?_, h.2.2.2.2⟩
  obtain ⟨b, o, rfl, hb, hc⟩ := h.2.2.2.1 hp
  have hbg : b ≠ g := by
    rintro rfl
    have hp' : 0 < l.length := by simpa using hp
    have h0 := hc 0 (.int .i64 l[0]) (by simp [hp'])
    exact hne _ _ h0
  exact ⟨b, o, rfl, Nat.lt_of_lt_of_le hb hs, fun j u hu => (World.cell?_of_block (hk b hb hbg)).trans (hc j u hu)⟩
theorem set2_size (w : World) (g : Nat) (x y : Value) : ((w.setCell ⟨g, 0, none⟩ x).setCell ⟨g, 1, none⟩ y).heap.size = w.heap.size := by simp
theorem set2_other (w : World) (g : Nat) (x y : Value) (k : Nat) (hk : k ≠ g) : ((w.setCell ⟨g, 0, none⟩ x).setCell ⟨g, 1, none⟩ y).heap[k]? = w.heap[k]? :=
  (Below.heap_setCell _ _ _ _ hk).trans (Below.heap_setCell _ _ _ _ hk)
theorem isI_set2 {w : World} {g : Nat} {A A1 A2 : Option Addr} {n c n1 c1 n2 c2 : Nat} {l : List Int} (h : wo.IsI w A n c l) (hg : TwoX w g (.slice A1 n1 c1) (.slice A2 n2 c2)) (x y : Value) : wo.IsI ((w.setCell ⟨g, 0, none⟩ x).setCell ⟨g, 1, none⟩ y) A n c l :=
  isI_but h hg.notInt (by rw [set2_size]; exact Nat.le_refl _) (fun k _ hk => set2_other w g x y k hk)
theorem below_set2 {n g : Nat} {w0 w : World} (h : Below n w0 w) (hg : n ≤ g) (x y : Value) : Below n w0 ((w.setCell ⟨g, 0, none⟩ x).setCell ⟨g, 1, none⟩ y) :=
  (h.setCell (p := ⟨g, 0, none⟩) hg _).setCell (p := ⟨g, 1, none⟩) hg _
theorem TwoX.new (w : World) (a b : Value) : TwoX (w.alloc (.cells #[a, b] 25)) w.heap.size a b := heap_alloc_new w _
set_option maxRecDepth 100000 in
set_option maxHeartbeats 2000000 in
theorem join_calls (v u : Value) (p q : Pair) (w : World) (h : IsX w v p) (h2 : IsX w u q) :
    Calls Try.prog 9 #[v, u] w fun e w' => ∃ x, e = .returned (.tuple #[x, .int .i64 (if balike p q then 0 else 1)]) ∧ IsX w' x (if balike p q then join p q else ([], [])) ∧ Below w.heap.size w w' := by
  have HA := Lib.hid (fun w' hb => alike_calls v u p q w' (h.below hb) (h2.below hb))
  obtain ⟨A, n, c, A', n', c', rfl, hi, hi'⟩ := h
  obtain ⟨A2, n2, c2, A2', n2', c2', rfl, hi2, hi2'⟩ := h2
  have HB0 := Lib.hid (Below.andThen (Below.andThen (below_new w (.cells #[.slice A n c, .slice A' n' c'] 25)) (below_new _ (.cells #[.slice A2 n2 c2, .slice A2' n2' c2'] 25))) (below_new _ (.cells #[.slice none 0 0, .slice none 0 0] 25)))
  have hT1 := ((Two.new w (.slice A n c) (.slice A' n' c') 25).below (below_new _ (.cells #[.slice A2 n2 c2, .slice A2' n2' c2'] 25))).below (below_new _ (.cells #[.slice none 0 0, .slice none 0 0] 25))
  have hT2 := (Two.new (w.alloc (.cells #[.slice A n c, .slice A' n' c'] 25)) (.slice A2 n2 c2) (.slice A2' n2' c2') 25).below (below_new _ (.cells #[.slice none 0 0, .slice none 0 0] 25))
  have hT3 := TwoX.new ((w.alloc (.cells #[.slice A n c, .slice A' n' c'] 25)).alloc (.cells #[.slice A2 n2 c2, .slice A2' n2' c2'] 25)) (.slice none 0 0) (.slice none 0 0)
  simp only [size_new] at hT2 hT3
  by_cases hal : balike p q = true
  · obtain ⟨hl, hp, hq⟩ := balike_iff.1 hal
    have hn1 := hp.lo.le
    have hnn := hp.len
    have hnn2 := hq.len
    have HJ1 := Lib.hid (fun w' (hb : Below w.heap.size w w') => joined_calls 34 (.inl rfl) A A2 n c n2 c2 p.1 q.1 w' (isI_below hi hb) (isI_below hi2 hb) (by rw [← hi.1, ← hi2.1]; omega) (by rw [← hi.1]; omega))
    have HJ2 := Lib.hid (fun w' (hb : Below w.heap.size w w') => joined_calls 35 (.inr rfl) A' A2' n' c' n2' c2' p.2 q.2 w' (isI_below hi' hb) (isI_below hi2' hb) (by rw [← hi'.1, ← hi2'.1]; omega) (by rw [← hi'.1]; omega))
    clear hi hi' hi2 hi2'
    rw [hal] at HA ⊢
    go_enter Try.func9, Try.ntmps9
    go_wp2_with fail
    refine (HA.out _ HB0.out).mono ?_
    rintro e w1 ⟨rfl, hb⟩
    have HB1 := Lib.hid (HB0.out.trans (hb.mono HB0.out.size))
    have HT1 := Lib.hid (hT1.below hb)
    have HT2 := Lib.hid (hT2.below hb)
    have HT3 := Lib.hid (hT3.below hb)
    replace HJ1 := Lib.hid (fun w' (hb : Below w1.heap.size w1 w') => HJ1.out w' (HB1.out.trans (hb.mono HB1.out.size)))
    replace HJ2 := Lib.hid (fun w' (hb : Below w1.heap.size w1 w') => HJ2.out w' (HB1.out.trans (hb.mono HB1.out.size)))
    clear hb hT1 hT2 hT3
    go_wp2_with fail
    generalize hG : w.heap.size = G at *
    refine wk.region_tailS 11 [.is (.pointer (some ⟨G, 0, none⟩)), .is (.slice A n c), .is (.pointer (some ⟨G + 1, 0, none⟩)), .is (.slice A2 n2 c2), .st (fun u x => IsV u x (joinf 34 p.1 q.1)) (fun u u2 x h hb => h.below hb), .is (.pointer (some ⟨G, 1, none⟩)), .is (.slice A' n' c'), .is (.pointer (some ⟨G + 1, 1, none⟩)), .is (.slice A2' n2' c2'), .st (fun u x => IsV u x (joinf 35 p.2 q.2)) (fun u u2 x h hb => h.below hb), .st (fun u x => IsX u x (joinf 34 p.1 q.1, joinf 35 p.2 q.2)) (fun u u2 x h hb => h.below hb)] [some 11, some 12, some 13, some 14, some 15, some 16, some 17, some 18, some 19, some 20, some 21] (by kernel_rfl) (by kernel_rfl) (by kernel_rfl) (by kernel_rfl) [] (by kernel_rfl) (by intro p hp; cases hp) (by kernel_rfl) (by kernel_rfl) ?hstep ?hdone
    case hstep =>
      intro i o ho hi hns E w4 hb4 D
      have hi2 : i = 0 ∨ i = 1 ∨ i = 2 ∨ i = 3 ∨ i = 4 ∨ i = 5 ∨ i = 6 ∨ i = 7 ∨ i = 8 ∨ i = 9 ∨ i = 10 := by omega
      clear hi
      rcases hi2 with rfl | rfl | rfl | rfl | rfl | rfl | rfl | rfl | rfl | rfl | rfl
      ·
        have ho2 := (Array.getElem?_eq_some_iff.1 ho).2
        simp only [List.getElem_toArray, List.getElem_cons_zero] at ho2
        subst ho2
        clear ho
        have e2 := D.old 2 (by kernel_rfl)
        exact wk.does_run (by simp only [execOp]; rw [show E (.tmp 2) = .pointer (some ⟨G, 0, none⟩) by rw [e2]; rfl]; go_simp) rfl
      ·
        have ho2 := (Array.getElem?_eq_some_iff.1 ho).2
        simp only [List.getElem_toArray, List.getElem_cons_succ, List.getElem_cons_zero] at ho2
        subst ho2
        clear ho
        have e11 := D.is { on := 0, ground := .data } (by simp) rfl rfl 11 rfl
        exact wk.does_load1 rfl e11 ((HT1.out.below ((Below.refl _ _).drew.trans hb4)).c0) Try.underlying23 rfl rfl
      ·
        have ho2 := (Array.getElem?_eq_some_iff.1 ho).2
        simp only [List.getElem_toArray, List.getElem_cons_succ, List.getElem_cons_zero] at ho2
        subst ho2
        clear ho
        have e3 := D.old 3 (by kernel_rfl)
        exact wk.does_run (by simp only [execOp]; rw [show E (.tmp 3) = .pointer (some ⟨G + 1, 0, none⟩) by rw [e3]; rfl]; go_simp) rfl
      ·
        have ho2 := (Array.getElem?_eq_some_iff.1 ho).2
        simp only [List.getElem_toArray, List.getElem_cons_succ, List.getElem_cons_zero] at ho2
        subst ho2
        clear ho
        have e13 := D.is { on := 2, ground := .data } (by simp) rfl rfl 13 rfl
        exact wk.does_load1 rfl e13 ((HT2.out.below ((Below.refl _ _).drew.trans hb4)).c0) Try.underlying23 rfl rfl
      ·
        have ho2 := (Array.getElem?_eq_some_iff.1 ho).2
        simp only [List.getElem_toArray, List.getElem_cons_succ, List.getElem_cons_zero] at ho2
        subst ho2
        clear ho
        have e12 := D.is { on := 1, ground := .data } (by simp) rfl rfl 12 rfl
        have e14 := D.is { on := 3, ground := .data } (by simp) rfl rfl 14 rfl
        refine wk.does_fn (f := 33) (vs := #[.slice A n c, .slice A2 n2 c2, .func (.func 34) #[] #[]]) rfl (D.fn _) (by simp [e12, e14, D.fn _]) (by go_simp) ?_
        refine (HJ1.out w4 ((Below.refl _ _).drew.trans hb4)).mono ?_
        rintro e w7 ⟨v7, rfl, hI7, hb7⟩
        exact ⟨_, rfl, hb7, hI7⟩
      ·
        have ho2 := (Array.getElem?_eq_some_iff.1 ho).2
        simp only [List.getElem_toArray, List.getElem_cons_succ, List.getElem_cons_zero] at ho2
        subst ho2
        clear ho
        have e2 := D.old 2 (by kernel_rfl)
        exact wk.does_run (by simp only [execOp]; rw [show E (.tmp 2) = .pointer (some ⟨G, 0, none⟩) by rw [e2]; rfl]; go_simp) rfl
      ·
        have ho2 := (Array.getElem?_eq_some_iff.1 ho).2
        simp only [List.getElem_toArray, List.getElem_cons_succ, List.getElem_cons_zero] at ho2
        subst ho2
        clear ho
        have e16 := D.is { on := 5, ground := .data } (by simp) rfl rfl 16 rfl
        exact wk.does_load1 rfl e16 ((HT1.out.below ((Below.refl _ _).drew.trans hb4)).c1) Try.underlying23 rfl rfl
      ·
        have ho2 := (Array.getElem?_eq_some_iff.1 ho).2
        simp only [List.getElem_toArray, List.getElem_cons_succ, List.getElem_cons_zero] at ho2
        subst ho2
        clear ho
        have e3 := D.old 3 (by kernel_rfl)
        exact wk.does_run (by simp only [execOp]; rw [show E (.tmp 3) = .pointer (some ⟨G + 1, 0, none⟩) by rw [e3]; rfl]; go_simp) rfl
      ·
        have ho2 := (Array.getElem?_eq_some_iff.1 ho).2
        simp only [List.getElem_toArray, List.getElem_cons_succ, List.getElem_cons_zero] at ho2
        subst ho2
        clear ho
        have e18 := D.is { on := 7, ground := .data } (by simp) rfl rfl 18 rfl
        exact wk.does_load1 rfl e18 ((HT2.out.below ((Below.refl _ _).drew.trans hb4)).c1) Try.underlying23 rfl rfl
      ·
        have ho2 := (Array.getElem?_eq_some_iff.1 ho).2
        simp only [List.getElem_toArray, List.getElem_cons_succ, List.getElem_cons_zero] at ho2
        subst ho2
        clear ho
        have e17 := D.is { on := 6, ground := .data } (by simp) rfl rfl 17 rfl
        have e19 := D.is { on := 8, ground := .data } (by simp) rfl rfl 19 rfl
        refine wk.does_fn (f := 33) (vs := #[.slice A' n' c', .slice A2' n2' c2', .func (.func 35) #[] #[]]) rfl (D.fn _) (by simp [e17, e19, D.fn _]) (by go_simp) ?_
        refine (HJ2.out w4 ((Below.refl _ _).drew.trans hb4)).mono ?_
        rintro e w7 ⟨v7, rfl, hI7, hb7⟩
        exact ⟨_, rfl, hb7, hI7⟩
      ·
        have ho2 := (Array.getElem?_eq_some_iff.1 ho).2
        simp only [List.getElem_toArray, List.getElem_cons_succ, List.getElem_cons_zero] at ho2
        subst ho2
        clear ho
        have s15 := D.st { on := 4, ground := .data } (by simp) rfl rfl 15 rfl
        have s20 := D.st { on := 9, ground := .data } (by simp) rfl rfl 20 rfl
        obtain ⟨A7, n7, c7, e7, hI7⟩ := s15
        obtain ⟨A8, n8, c8, e8, hI8⟩ := s20
        exact wk.does_run (by simp only [execOp, List.map_toArray, List.map_cons, List.map_nil]; rw [show E (.tmp 15) = _ from e7, show E (.tmp 20) = _ from e8]; go_simp) ⟨A7, n7, c7, A8, n8, c8, rfl, hI7, hI8⟩
    case hdone =>
      intro vals w4 hb4 hv
      have h10 := hv 10 (by omega)
      clear hv
      simp only [List.drop_succ_cons, List.drop_zero, wk.setL, List.setIfInBounds_toArray, List.set_cons_zero, List.set_cons_succ, Nat.zero_add, Nat.reduceAdd]
      generalize vals 0 = x0
      generalize vals 1 = x1
      generalize vals 2 = x2
      generalize vals 3 = x3
      generalize vals 4 = x4
      generalize vals 5 = x5
      generalize vals 6 = x6
      generalize vals 7 = x7
      generalize vals 8 = x8
      generalize vals 9 = x9
      generalize vals 10 = x10 at *
      obtain ⟨A7, n7, c7, A8, n8, c8, rfl, hI7, hI8⟩ := h10
      have hb5 := ((Below.refl _ _).drew.trans hb4 : Below w1.heap.size w1 w4)
      have hx3 := HT3.out.below hb5
      have hc0 := hx3.two.c0
      have hc1 := hx3.two.c1
      have hf0 := hx3.f0 0
      have hf1 := hx3.f0 1
      have hB5 := Lib.hid (HB1.out.trans (hb5.mono (by rw [← hG]; exact HB1.out.size)))
      have HX := Lib.hid (⟨_, _, _, _, _, _, rfl, isI_set2 hI7 hx3 _ _, isI_set2 hI8 hx3 _ _⟩ : IsX ((w4.setCell ⟨G + 1 + 1, 0, none⟩ (.slice A7 n7 c7)).setCell ⟨G + 1 + 1, 1, none⟩ (.slice A8 n8 c8)) (.agg #[.slice A7 n7 c7, .slice A8 n8 c8]) (join p q))
      clear hb4 hb5
      have HT := Lib.hid (hx3.set (.slice A7 n7 c7) (.slice A8 n8 c8))
      clear hx3 hI7 hI8
      go_wp2_with fail
      exact bodyPost_ret (v := .tuple #[.agg #[.slice A7 n7 c7, .slice A8 n8 c8], .int .i64 0]) (res_x1 (fn := Try.f9) rfl _ _ (G + 1 + 1) _ _ rfl HT.out) rfl ⟨_, rfl, HX.out, below_set2 hB5.out (by omega) _ _⟩
  · have hal' : balike p q = false := by simpa using hal
    clear hi hi' hi2 hi2' hT1 hT2
    rw [hal'] at HA ⊢
    have HT3 := Lib.hid hT3
    clear hT3
    go_enter Try.func9, Try.ntmps9
    go_wp2_with fail
    refine (HA.out _ HB0.out).mono ?_
    rintro e w1 ⟨rfl, hb⟩
    have HB1 := Lib.hid (HB0.out.trans (hb.mono HB0.out.size))
    have hx3 := HT3.out.below hb
    have hc0 := hx3.two.c0
    have hc1 := hx3.two.c1
    have hf0 := hx3.f0 0
    have hf1 := hx3.f0 1
    have HX3 := Lib.hid hx3
    clear hb hx3
    go_wp2_with fail
    exact bodyPost_ret (v := .tuple #[.agg #[.slice none 0 0, .slice none 0 0], .int .i64 1]) (res_x1 (fn := Try.f9) rfl _ _ (w.heap.size + 1 + 1) _ _ rfl (HX3.out.set _ _)) rfl ⟨_, rfl, isX_nil _, below_set2 HB1.out (by omega) _ _⟩
end Go.Proofs.Ytmnpmjioahnjoaa.bk
