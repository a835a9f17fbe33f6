
import Derived.Test.YtjhagfggelhpkaaDoorSn

import Derived.Test.YtjhagfggelhpkaaDoorG2

import Derived.Test.YtjhagfggelhpkaaDoorWShift

import Derived.Deep.DeepCutAuto

namespace Go.Proofs.YtjhagfggelhpkaaDoor.hashCrcJoins

open Go.ChangeShapes Go.WideShapes Go.ChangeAt Go.RowKit

set_option linter.unusedVariables false

theorem join_nat (x y : List UInt8) : hi.joinV ((hp.crc x : Nat) : Int) ((hp.crc y : Nat) : Int) ((y.length : Nat) : Int) = hp.crc (x ++ y) := by
  rw [hashShifts.joinV_nat, hb.low_nat (hp.crc_lt x), hb.low_nat (hp.crc_lt y), ← hp.join_crc]
  unfold hp.join
  rw [Nat.mod_eq_of_lt (hp.crc_lt x), Nat.mod_eq_of_lt (hp.crc_lt y)]

/-- 'append(own, b...)', b nil or not -/
theorem append_any (w : World) {ops : Array Oper} {rest : List Oper} {o : Oper} {a : Act} {Q : Exit → Act → World → Prop}
    (hgd : o.guard = none) (s x : Operand) (t : TypeId) (hop : o.op = Op.call { callee := Callee.builtin Builtin.append, args := #[s, x], argTypes := #[t, t] })
    (base : Nat) (e : TypeId) (h1 : Tryd.prog.underlying t = some (.slice e)) (h2 : (Tryd.prog.info? e).map (fun i => (i.zero, i.size, i.bytes)) = some (some (.int .u8 0), 1, 1))
    (v : Value) (k : Nat) (xs : List Value) (hs : a.eval s = v) (hown : w.ownsRow base e 1 v k xs) (hbase : base ≤ w.heap.size)
    (A' : Option Addr) (m c' : Nat) (l' : List UInt8) (hx : a.eval x = .slice A' m c') (hl' : l'.length = m) (hr' : wp.RB w A' l') (hb : k + m ≤ 140737488355328)
    (hK : ∀ v' w', w'.ownsRow base e 1 v' (k + m) (xs ++ wp.bc l') → Below base w w' → wpList Tryd.prog ops Q rest (a.put o.dst v') w') : wpList Tryd.prog ops Q (o :: rest) a w := by
  obtain ⟨i, hi, hz0, hz1, hz2⟩ := info_parts h2
  rcases Nat.eq_zero_or_pos m with h0 | h0
  · subst h0
    have hl0 : l' = [] := List.eq_nil_of_length_eq_zero hl'
    subst hl0
    have hsrc : Src Tryd.prog i.size t (.slice A' 0 c') 0 [] w := by
      cases A' with
      | none => exact Src.ofNil w h1 c'
      | some ad => exact Src.ofSlice w h1 ad 0 c' [] (by simp) (by simp) (by simp)
    obtain ⟨A0, c0, rfl, hc1, hc2, _⟩ := wp.RC.of_own hown
    refine wpList_plain hgd fun K hK' => ?_
    have hrun := run_append_nothing (P := Tryd.prog) w t t o.type e i h1 hi A0 k c0 hc1 _ hsrc
    unfold Oper.wp execOp
    simp only [hop, resolve, invoke, builtin, Sem.run_bind, Sem.run_pure, Result.andThen_ok, List.map_toArray, List.map_cons, List.map_nil, hs, hx, hrun]
    refine hK' _ _ (hK (.slice A0 k c0) w ?_ (Below.refl _ _))
    rw [Nat.add_zero, show wp.bc [] = [] from rfl, List.append_nil]
    exact hown
  · obtain ⟨b', o', rfl, _, _⟩ := hr' (by omega)
    refine wpList_append_own w hgd s x t hop base e i (.int .u8 0) 1 1 h1 hi hz0 hz1 hz2 rfl (by decide) v k xs hs hown ⟨b', o', none⟩ m c' (wp.bc l') hx (by rw [wp.bc_length]; omega) (wk.RB.cells hr') wp.bc_one (by unfold maxLen; omega) (by omega) hbase ?_
    intro v' w' hown' hgr _
    exact hK v' w' hown' ((Below.refl _ _).grown hgr hbase (fun g hg => (hown.lt g hg).1))

end Go.Proofs.YtjhagfggelhpkaaDoor.hashCrcJoins
