/- The iterator over a box's sides; the law of a range over it. -/
import Derived.Test.YtlcdjabfkfmpdaaBb

import Derived.Shelf.Abstract

import Derived.Shelf.RegionOpen

import Derived.WalkKit

import Derived.OwnWalkIn

import Derived.TacticsInMore

import Derived.LoopNIn

import Derived.LoopIn

namespace Go.Proofs.Ytlcdjabfkfmpdaa.bk

open Go.ChangeShapes Go.WideShapes Go.ChangeAt Go.RowKit

open Go.Proofs.Ytlcdjabfkfmpdaa.bq Go.Proofs.Ytlcdjabfkfmpdaa.vk Go.Proofs.Ytlcdjabfkfmpdaa.wk

set_option linter.unusedVariables false
attribute [local go_sem] Oper.semAt_some
abbrev Nth (n : Nat) := { i : Nat // i < n }
def encs (p : Pair) {n : Nat} (x : Nth n) : Array Value := #[.int .i64 (x.1 : Int), rng (at' p.1 x.1) (at' p.2 x.1)]
theorem map_snoc {n : Nat} (pre : List (Nth n)) (x : Nth n) (hp : pre.map (·.1) = List.range x.1) : (pre ++ [x]).map (·.1) = List.range (x.1 + 1) := by
  rw [List.map_append, hp, List.range_succ]; rfl
theorem grown_of {w w' : World} (h : Below w.heap.size w w') : w.grownBy w' none := ⟨h.os, h.tape, h.output, h.size, fun k hk _ => h.block k hk⟩
theorem len_range {n k : Nat} {pre : List (Nth n)} (hp : pre.map (·.1) = List.range k) : pre.length = k := by
  have := congrArg List.length hp
  simpa using this
set_option maxRecDepth 100000 in
set_option maxHeartbeats 2000000 in
theorem sides1_in (m : Nat) (l Bs n₀ B : Nat) (M : List Nat) (p : Pair) (v1 v2 : Value) (hM : ∀ j ∈ M, n₀ ≤ j) (hBn : n₀ ≤ B) (hBs : Bs < B) (hBsM : Bs ∉ M)
    (hlen : p.1.length ≤ p.2.length) (J Jx : List (Nth p.1.length) → World → Prop) (W : World) (hX : ∀ w', Below n₀ W w' → IsX w' (.agg #[v1, v2]) p)
    (hJ : AbidesFrom W.heap.size J)
    (hY : ∀ pre x W, J pre W → pre.length < p.1.length → YieldAt Fence.wide (m - 1) Try.prog l (encs p x) W fun e W' =>
      (e = .returned (.bool true) ∧ J (pre ++ [x]) W' ∧ Exc M B W W') ∨ (e = .returned (.bool false) ∧ Jx (pre ++ [x]) W'))
    (hB : B ≤ W.heap.size) (hc : Two W Bs v1 v2) (h0 : J [] W) :
    CallsIn Fence.wide m Try.prog 58 #[.func (.yield l) #[] #[], .pointer (some ⟨Bs, 0, none⟩)] W fun e W' => (∃ v, e = .returned v) ∧
      ((∃ ys, ys.map (·.1) = List.range p.1.length ∧ J ys W') ∨ (∃ pre, Jx pre W')) := by
  refine callsIn_of_wp Try.func58 rfl trivial ?_ rfl
  simp only [Try.ntmps58, List.size_toArray, List.length_cons, List.length_nil, Nat.reduceAdd, Nat.reduceSub, Array.replicate_succ, Array.replicate_zero, List.push_toArray, List.append_toArray, List.nil_append, List.cons_append]
  obtain ⟨A, n, c, A', n', c', hv, hi, hi'⟩ := hX W (Below.refl _ _)
  obtain ⟨rfl, rfl⟩ : v1 = .slice A n c ∧ v2 = .slice A' n' c' := by simpa using hv
  have hn := hi.1
  have hm := hi.2.2.1
  have hnc := hi.2.1
  have hc0 := hc.c0
  have HC := Lib.hid hc
  have HX := Lib.hid hX
  have HI := Lib.hid hi
  have HN := Lib.hid hn
  clear hv hi hi' hc hX hn
  gi_wp2
  gi_loopw [7] (fun i wr => ∃ (k : Nat) (pre : List (Nth p.1.length)), k ≤ n ∧ i = .int .i64 k ∧ pre.map (·.1) = List.range k ∧ J pre wr ∧ Exc M B W wr)
    (fun i _ => n - (intOf i).toNat)
  case atStart => exact ⟨0, [], Nat.zero_le _, rfl, rfl, h0, Exc.refl _ _ _⟩
  case round =>
    obtain ⟨k, pre, hk, rfl, hpre, hJs, hx⟩ := hrel
    by_cases hlt : k < n
    · have hlt' : k < p.1.length := by rw [HN.out]; exact hlt
      have hlt2 : (k : Int) < (n : Int) := by omega
      have hT : Two wr Bs (.slice A n c) (.slice A' n' c') := HC.out.at (hx.block Bs hBs hBsM)
      have hT0 := hT.c0
      have hT1 := hT.c1
      have hS := Lib.hid (side_calls (.agg #[.slice A n c, .slice A' n' c']) p k wr (HX.out wr (hx.below hBn hM)) hlt' (by omega))
      clear hT
      gi_wp2
      refine ⟨trivial, (fun hh => by cases hh), (callsIn_wide.2 hS.out).mono ?_⟩
      rintro e w2 ⟨rfl, hb2⟩
      have hJ2 : J pre w2 := hJ _ _ _ none hJs (grown_of hb2) (by intro r hr; cases hr)
      obtain ⟨fn, tmps, assign, body, hy, hR⟩ := hY pre ⟨k, hlt'⟩ w2 hJ2 (by rw [len_range hpre]; exact hlt')
      unfold encs at hy
      dsimp only at hy
      have hx2 : Exc M B W w2 := hx.trans (Exc.of_below (hb2.mono (by have := hx.size; omega)))
      clear hb2 hJ2
      gi_wp2
      refine ⟨(fun hh => by cases hh), hR.mono ?_⟩
      rintro e W3 (⟨rfl, hJ3, hk3⟩ | ⟨rfl, hJx3⟩)
      · gi_wp2
        go_roundw
        case rel => exact ⟨k + 1, _, by omega, by simp, map_snoc pre ⟨k, hlt'⟩ hpre, hJ3, hx2.trans hk3⟩
        case measure => simp [intOf]; omega
      · gi_wp2
        refine bodyPost_ret (results_none rfl _ _ _) rfl ?_
        exact ⟨⟨_, rfl⟩, .inr ⟨_, hJx3⟩⟩
    · obtain rfl : k = n := by omega
      have hpre' : pre.map (·.1) = List.range p.1.length := hpre.trans (congrArg List.range HN.out.symm)
      gi_wp2
      go_end0
      exact ⟨⟨_, rfl⟩, .inl ⟨_, hpre', hJs⟩⟩
/-- what a round may do: nothing to what is no cells from B on, nothing below B but to the blocks M -/
structure Turn (M : List Nat) (B : Nat) (W W' : World) : Prop where
  keeps : KeepsFrom B W W'
  exc : Exc M B W W'
theorem Turn.refl (M : List Nat) (B : Nat) (W : World) : Turn M B W W := ⟨KeepsFrom.refl _ _, Exc.refl _ _ _⟩
theorem Turn.trans {M : List Nat} {B : Nat} {a b c : World} (h : Turn M B a b) (k : Turn M B b c) : Turn M B a c := ⟨h.keeps.trans k.keeps, h.exc.trans k.exc⟩
theorem keeps_below {B : Nat} {W W' : World} (h : Below W.heap.size W W') : KeepsFrom B W W' := ⟨h.size, fun k o _ hk _ => (h.block k (Array.getElem?_eq_some_iff.1 hk).1).trans hk⟩
theorem Turn.of_below {M : List Nat} {B : Nat} {W W' : World} (h : Below W.heap.size W W') (hB : B ≤ W.heap.size) : Turn M B W W' := ⟨keeps_below h, Exc.of_below (h.mono hB)⟩
theorem Turn.setCell {M : List Nat} {B : Nat} {W : World} {p : Addr} (v : Value) (h : p.block ∈ M) : Turn M B W (W.setCell p v) := ⟨(KeepsOthers.setCell _ _ _).from _, Exc.setCell v (.inl h)⟩
def roundPost' {α : Type} (M : List Nat) (B : Nat) (I : List α → World → Prop) (Ix : Code → World → Prop) (xs : List α) (W : World) : Exit → Act → World → Prop
  | .normal, _, W' => Turn M B W W' ∧ I xs W'
  | .ret, _, W' => Turn M B W W' ∧ Ix .ret W'
  | _, _, _ => False
theorem not_out {α : Type} {M : List Nat} {B : Nat} {I : List α → World → Prop} {Ix : Code → World → Prop} {xs : List α} {W : World} : ¬ LetsOut (roundPost' M B I Ix xs W) := fun ⟨_, _, h⟩ => h
theorem range_sides {g : Operand} {ps : Array Tmp} {assign body : Code} {Q : Exit → Act → World → Prop} {a : Act} {w : World} (n₀ Bs : Nat) (M : List Nat) (p : Pair) (v1 v2 : Value)
    (hg : a.eval g = .func (.func 58) #[] #[.pointer (some ⟨Bs, 0, none⟩)]) (hps : ps.size = 2) (hM : ∀ j ∈ M, n₀ ≤ j) (hn₀ : n₀ ≤ w.heap.size) (hBs : Two w Bs v1 v2) (hBsM : Bs ∉ M) (hMB : ∀ j ∈ M, j < w.heap.size)
    (hlen : p.1.length ≤ p.2.length) (hX : ∀ w', Below n₀ w w' → IsX w' (.agg #[v1, v2]) p)
    (I : List (Nth p.1.length) → World → Prop) (Ix : Code → World → Prop) (hI : OwnFrom w.heap.size I) (hIx : ∀ c, OwnFrom w.heap.size (fun (_ : Unit) W => Ix c W)) (h0 : I [] w)
    (F : Nth p.1.length → Nat → Act)
    (hassign : ∀ (l m : Nat) (x : Nth p.1.length) (W : World) (K : Act → World → Prop), K (F x W.heap.size) (W.alloc (.cells #[.int .i64 (at' p.1 x.1), .int .i64 (at' p.2 x.1)] 78)) →
      assign.wpIn (Fence.wide.inRound l) m Try.prog (Exit.then K (fun _ _ _ => False)) { tmps := (ps.zip (encs p x)).foldl (fun t (p, v) => t.setIfInBounds p v) a.tmps, defers := [] } W)
    (hbody : ∀ (l m : Nat) (pre : List (Nth p.1.length)) (x : Nth p.1.length) (Bx : Nat) (W : World), w.heap.size ≤ Bx → Two W Bx (.int .i64 (at' p.1 x.1)) (.int .i64 (at' p.2 x.1)) → Exc M w.heap.size w W → I pre W → pre.length < p.1.length →
      body.wpIn (Fence.wide.inRound l) m Try.prog (roundPost' M w.heap.size I Ix (pre ++ [x]) W) (F x Bx) W)
    (hdone : ∀ (D : Nat) (ys : List (Nth p.1.length)) (W : World), w.heap.size ≤ D → ys.map (·.1) = List.range p.1.length → Exc M w.heap.size w W → I ys W → W.heap[D]? = some (.deferred (some [])) → Q .normal { a with defers := { target := .collected D, args := #[] } :: a.defers } W)
    (hstop : ∀ (D : Nat) (c : Code) (W : World), w.heap.size ≤ D → Exc M w.heap.size w W → Ix c W → W.heap[D]? = some (.deferred (some [])) → c.wp Try.prog Q { a with defers := { target := .collected D, args := #[] } :: a.defers } W) :
    (Code.rangeFunc g ps assign body).wp Try.prog Q a w := by
  refine wpIn_wide.1 (wpIn_rangeFunc_ownH (F := Fence.wide) (n := 4) (w := w) (w0 := w) rfl (by omega) hg trivial (enters_of Try.func58 (by kernel_rfl) rfl)
    (encs := encs p) (Kp := Exc M w.heap.size) (S := fun ys => ys.map (·.1) = List.range p.1.length) (Sp := fun _ => True) (N := p.1.length) ?seq
    (fun h k => h.trans k) (fun W l o o' hl _ _ _ => Exc.put _ hl) (Below.refl _ _) (fun x => by simp [encs, hps])
    (fun pre W => I pre W ∧ Exc M w.heap.size w W) (fun c _ W => Ix c W ∧ Exc M w.heap.size w W)
    (OwnFrom.and hI (Exc.own (Nat.le_refl _))) (fun c => OwnFrom.and (fun s W W' row hs hg' hr => hIx c () W W' row hs hg' hr) (Exc.own (Nat.le_refl _))) ⟨h0, Exc.refl _ _ _⟩
    (fun x a' W => ∃ Bx, w.heap.size ≤ Bx ∧ Two W Bx (.int .i64 (at' p.1 x.1)) (.int .i64 (at' p.2 x.1)) ∧ a' = F x Bx) ?hAx ?hassign ?hbody ?hdone ?hstop)
  case seq =>
    intro l J Jx W hW hJ hJx hY hJ0
    have hXW : ∀ w', Below n₀ W w' → IsX w' (.agg #[v1, v2]) p := fun w' hb => hX w' ((hW.mono hn₀).trans hb)
    refine (sides1_in 3 l Bs n₀ w.heap.size M p v1 v2 hM hn₀ hBs.lt hBsM hlen J Jx W hXW hJ hY hW.size (hBs.at (hW.block _ hBs.lt)) hJ0).mono ?_
    rintro e W' ⟨he, ⟨ys, hy, hj⟩ | ⟨pre, hj⟩⟩
    · exact ⟨he, .inl ⟨ys, hy, hj⟩⟩
    · exact ⟨he, .inr ⟨pre, trivial, hj⟩⟩
  case hAx =>
    rintro x a' u W W' row ⟨Bx, h1, ⟨t, h2⟩, h3⟩ hg' hr
    refine ⟨Bx, h1, ⟨t, ?_⟩, h3⟩
    have hlt := (Array.getElem?_eq_some_iff.1 h2).1
    refine (hg'.block Bx hlt fun e => ?_).trans h2
    obtain ⟨_, o, ho, hnc⟩ := hr Bx e.symm
    rw [h2] at ho
    cases ho
    cases hnc
  case hassign =>
    rintro l pre x W K ⟨hi, hx⟩ hK
    refine hassign l _ x W K ?_
    have hb : Below W.heap.size W (W.alloc (.cells #[.int .i64 (at' p.1 x.1), .int .i64 (at' p.2 x.1)] 78)) := below_new _ _
    have hT := Turn.of_below (M := M) hb hx.size
    exact hK _ _ hT.keeps hT.exc ⟨hI.alloc _ hi, hx.trans hT.exc⟩ ⟨_, hx.size, Two.new _ _ _ _, rfl⟩
  case hbody =>
    rintro l pre x a' W hl hr ⟨hi, hx⟩ ⟨Bx, h1, h2, rfl⟩ hlen'
    refine wpIn_mono (hbody l _ pre x Bx W h1 h2 hx hi hlen') ?_
    intro e a3 W3 hp
    cases e with
    | normal => exact ⟨hp.1.keeps, hp.1.exc, hp.2, hx.trans hp.1.exc⟩
    | ret => exact ⟨hp.1.keeps, hp.2, hx.trans hp.1.exc⟩
    | exit id => exact hp.elim
    | goto t => exact hp.elim
    | panic c => exact hp.elim
    | outgrown => exact hp.elim
  case hdone => rintro D ys W hD hy ⟨hi, hx⟩ hK; exact hdone D ys W hD hy hx hi hK
  case hstop => rintro D c pre W hD _ ⟨hi, hx⟩ hK; exact wpIn_wide.2 (hstop D c W hD hx hi hK)
/-- the temporaries of a round: the two that are handed over; the index, if it is wanted; the box -/
def roundT (T : Array Value) (pi pr : Nat) (si : Option Nat) (sb : Nat) (i r : Value) (Bx : Nat) : Array Value :=
  match si with
  | none => ((T.setIfInBounds pi i).setIfInBounds pr r).setIfInBounds sb (.pointer (some ⟨Bx, 0, none⟩))
  | some s => (((T.setIfInBounds pi i).setIfInBounds pr r).setIfInBounds s i).setIfInBounds sb (.pointer (some ⟨Bx, 0, none⟩))
theorem range_sides' {g : Operand} {pi pr : Nat} {assign body : Code} {Q : Exit → Act → World → Prop} {T : Array Value} {w : World} (si : Option Nat) (sb : Nat) (n₀ Bs : Nat) (M : List Nat) (p : Pair) (v1 v2 : Value)
    (hg : Act.eval { tmps := T, defers := [] } g = .func (.func 58) #[] #[.pointer (some ⟨Bs, 0, none⟩)]) (hM : ∀ j ∈ M, n₀ ≤ j) (hn₀ : n₀ ≤ w.heap.size) (hBs : Two w Bs v1 v2) (hBsM : Bs ∉ M) (hMB : ∀ j ∈ M, j < w.heap.size)
    (hlen : p.1.length ≤ p.2.length) (hX : ∀ w', Below n₀ w w' → IsX w' (.agg #[v1, v2]) p)
    (I : List (Nth p.1.length) → World → Prop) (Ix : Code → World → Prop) (hI : OwnFrom w.heap.size I) (hIx : ∀ c, OwnFrom w.heap.size (fun (_ : Unit) W => Ix c W)) (h0 : I [] w)
    (hassign : ∀ (l m : Nat) (i : Int) (a b : Int) (W : World) (K : Act → World → Prop), K { tmps := roundT T pi pr si sb (.int .i64 i) (rng a b) W.heap.size, defers := [] } (W.alloc (.cells #[.int .i64 a, .int .i64 b] 78)) →
      assign.wpIn (Fence.wide.inRound l) m Try.prog (Exit.then K (fun _ _ _ => False)) { tmps := (T.setIfInBounds pi (.int .i64 i)).setIfInBounds pr (rng a b), defers := [] } W)
    (hbody : ∀ (l m : Nat) (pre : List (Nth p.1.length)) (x : Nth p.1.length) (Bx : Nat) (W : World), w.heap.size ≤ Bx → Two W Bx (.int .i64 (at' p.1 x.1)) (.int .i64 (at' p.2 x.1)) → Exc M w.heap.size w W → I pre W → pre.length < p.1.length →
      body.wpIn (Fence.wide.inRound l) m Try.prog (roundPost' M w.heap.size I Ix (pre ++ [x]) W) { tmps := roundT T pi pr si sb (.int .i64 (x.1 : Int)) (rng (at' p.1 x.1) (at' p.2 x.1)) Bx, defers := [] } W)
    (hdone : ∀ (D : Nat) (ys : List (Nth p.1.length)) (W : World), w.heap.size ≤ D → ys.map (·.1) = List.range p.1.length → Exc M w.heap.size w W → I ys W → W.heap[D]? = some (.deferred (some [])) → Q .normal { tmps := T, defers := [{ target := .collected D, args := #[] }] } W)
    (hstop : ∀ (D : Nat) (c : Code) (W : World), w.heap.size ≤ D → Exc M w.heap.size w W → Ix c W → W.heap[D]? = some (.deferred (some [])) → c.wp Try.prog Q { tmps := T, defers := [{ target := .collected D, args := #[] }] } W) :
    (Code.rangeFunc g #[pi, pr] assign body).wp Try.prog Q { tmps := T, defers := [] } w := by
  refine range_sides n₀ Bs M p v1 v2 hg rfl hM hn₀ hBs hBsM hMB hlen hX I Ix hI hIx h0 (fun x Bx => { tmps := roundT T pi pr si sb (.int .i64 (x.1 : Int)) (rng (at' p.1 x.1) (at' p.2 x.1)) Bx, defers := [] }) ?_ hbody hdone hstop
  intro l m x W K hK
  have e : (#[pi, pr].zip (encs p x)).foldl (fun t (q : Nat × Value) => t.setIfInBounds q.1 q.2) T = (T.setIfInBounds pi (.int .i64 (x.1 : Int))).setIfInBounds pr (rng (at' p.1 x.1) (at' p.2 x.1)) := by
    simp [encs]
  have := hassign l m x.1 _ _ W K hK
  rw [← e] at this
  exact this
/-- a function that holds such a range: how it is entered, and how it leaves -/
theorem enter_marks {f : FuncId} {fn : Func} {c : Code} {args : Array Value} {w : World} {R : Ending → World → Prop} {P : Program}
    (hf : P.funcs[f]? = some fn) (hb : fn.body = some c) (h : c.wp P (bodyPostM Fence.wide 4 P fn R) { tmps := args ++ Array.replicate (fn.ntmps - args.size) undef, defers := [] } w) : Calls P f args w R :=
  callsIn_wide.1 (callsIn_of_wp_marks (n := 4) hf hb trivial (wpIn_wide.2 h) rfl)
theorem leave_mark {fn : Func} {tmps : Array Value} {D : Nat} {W : World} {R : Ending → World → Prop} {P : Program} {v : Value} (hK : W.heap[D]? = some (.deferred (some [])))
    (hr : (results fn tmps).run P (W.putObj D (.deferred none)) = .ok v (W.putObj D (.deferred none))) (hR : R (.returned v) (W.putObj D (.deferred none))) :
    bodyPostM Fence.wide 4 P fn R .ret { tmps := tmps, defers := [{ target := .collected D, args := #[] }] } W :=
  ⟨by simp, .inl ⟨_, _, rfl, run_takeDeferred hK, ⟨_, hr, hR⟩⟩⟩
theorem leave_bare {fn : Func} {tmps : Array Value} {W : World} {R : Ending → World → Prop} {P : Program} {v : Value}
    (hr : (results fn tmps).run P W = .ok v W) (hR : R (.returned v) W) : bodyPostM Fence.wide 4 P fn R .ret { tmps := tmps, defers := [] } W := ⟨_, hr, hR⟩
theorem below_mark {n : Nat} {w W : World} {D : Nat} {o : Obj} (h : Below n w W) (hD : n ≤ D) : Below n w (W.putObj D o) :=
  ⟨h.os, h.tape, h.output, by simp [h.size], fun k hk => (World.putObj_heap_other (by omega)).trans (h.block k hk)⟩
/-- a variable of one cell, its type known -/
def One (w : World) (g : Nat) (t : TypeId) (v : Value) : Prop := w.heap[g]? = some (.cells #[v] t (0, 0))
theorem One.lt {w : World} {g : Nat} {t : TypeId} {v : Value} (h : One w g t v) : g < w.heap.size := (Array.getElem?_eq_some_iff.1 h).1
theorem One.cell {w : World} {g : Nat} {t : TypeId} {v : Value} (h : One w g t v) : w.cell? ⟨g, 0, none⟩ = some v := by
  rw [cell_of_row _ _ _ _ _ _ h]; rfl
theorem One.frozen {w : World} {g : Nat} {t : TypeId} {v : Value} (h : One w g t v) : w.frozen? ⟨g, 0, none⟩ = false := frozen_of_row _ _ _ _ _ h
theorem One.at {w w' : World} {g : Nat} {t : TypeId} {v : Value} (h : One w g t v) (e : w'.heap[g]? = w.heap[g]?) : One w' g t v := e.trans h
theorem One.below {w w' : World} {g : Nat} {t : TypeId} {v : Value} (h : One w g t v) (hb : Below w.heap.size w w') : One w' g t v := h.at (hb.block g h.lt)
theorem One.new (w : World) (t : TypeId) (v : Value) : One (w.alloc (.cells #[v] t)) w.heap.size t v := heap_alloc_new w _
theorem One.set {w : World} {g : Nat} {t : TypeId} {v : Value} (h : One w g t v) (u : Value) : One (w.setCell ⟨g, 0, none⟩ u) g t u := heap_setCell_same _ _ _ _ _ _ h
theorem One.other {w : World} {g k : Nat} {t : TypeId} {v : Value} (h : One w g t v) (u : Value) (hk : g ≠ k) : One (w.setCell ⟨k, 0, none⟩ u) g t v := h.at (Below.heap_setCell _ _ _ _ hk)
theorem One.put {w : World} {g D : Nat} {t : TypeId} {v : Value} {o : Obj} (h : One w g t v) (hk : g ≠ D) : One (w.putObj D o) g t v := h.at (World.putObj_heap_other hk)
theorem own_one {β : Type} {B g : Nat} {t : TypeId} {v : β → Value} (hg : g < B) : OwnFrom B (fun s W => One W g t (v s)) := by
  intro s W W' row hs hgr hr
  exact hs.at (hgr.block g hs.lt fun e => by have := (hr g e.symm).1; omega)
theorem own_pure {β : Type} {B : Nat} {p : β → Prop} : OwnFrom B (fun s _ => p s) := fun _ _ _ _ hs _ _ => hs
theorem all_range {n : Nat} {ys : List (Nth n)} (hy : ys.map (·.1) = List.range n) {P : Nat → Prop} (h : ∀ x ∈ ys, P x.1) : ∀ i, i < n → P i := by
  intro i hi
  have h1 : i ∈ ys.map (·.1) := by rw [hy]; simpa using hi
  obtain ⟨x, hx, rfl⟩ := List.mem_map.1 h1
  exact h x hx
/-- a bool that is handed back out of a variable, behind a range over a function -/
theorem leave_bool {fn : Func} {p : Nat} {ty : TypeId} (hres : fn.results = #[.cell p ty]) {tmps : Array Value} {D g : Nat} {W : World} {R : Ending → World → Prop} {v : Value} {d : TypeDesc}
    (hp : tmps.getD p undef = .pointer (some ⟨g, 0, none⟩)) (hd : (match d with | .struct _ | .array _ _ => true | _ => false) = false) (hu : Try.prog.underlying ty = some d)
    (h1 : One W g ty v) (hK : W.heap[D]? = some (.deferred (some []))) (hgD : g ≠ D) (hR : R (.returned v) (W.putObj D (.deferred none))) :
    bodyPostM Fence.wide 4 Try.prog fn R .ret { tmps := tmps, defers := [{ target := .collected D, args := #[] }] } W :=
  leave_mark hK (wk.results_cell1 hres tmps _ ⟨g, 0, none⟩ v d hp (h1.put hgD).cell hu (by revert hd; cases d <;> simp)) hR
theorem leave_bool0 {fn : Func} {p : Nat} {ty : TypeId} (hres : fn.results = #[.cell p ty]) {tmps : Array Value} {g : Nat} {W : World} {R : Ending → World → Prop} {v : Value} {d : TypeDesc}
    (hp : tmps.getD p undef = .pointer (some ⟨g, 0, none⟩)) (hd : (match d with | .struct _ | .array _ _ => true | _ => false) = false) (hu : Try.prog.underlying ty = some d)
    (h1 : One W g ty v) (hR : R (.returned v) W) :
    bodyPostM Fence.wide 4 Try.prog fn R .ret { tmps := tmps, defers := [] } W :=
  leave_bare (wk.results_cell1 hres tmps _ ⟨g, 0, none⟩ v d hp h1.cell hu (by revert hd; cases d <;> simp)) hR
end Go.Proofs.Ytlcdjabfkfmpdaa.bk
