
import Derived.Test.YtlcdjabfkfmpdaaKit

import Derived.Deep.QuietTactic

import Derived.BigQuiet

import Derived.ArgAppend

import Derived.Deep.Upon

import Derived.Deep.AppendSrc

namespace Go.Proofs.Ytlcdjabfkfmpdaa.wk

open Go.RowKit

section

variable {P : Program}

theorem run_loadAt_agg (w : World) (a : Addr) (ty : TypeId) (cs : List Value) (d : TypeDesc) (hc : ∀ j v, cs[j]? = some v → w.cell? (a.add j) = some v)
    (hu : P.underlying ty = some d) (hd : (match d with | .struct _ | .array _ _ => true | _ => false) = true) (hi : (P.info? ty).map (·.size) = some cs.length) :
    (Instr.loadAt ty (.pointer (some a))).run P w = .ok (.agg cs.toArray) w := by
  simp only [Instr.loadAt, Instr.sureAddr, Sem.run_bind, Sem.run_pure, Result.andThen_ok, run_load_agg w a ty cs d hc hu hd hi]

theorem quiet_load_agg {ops : Array Oper} {C : World → Prop} {Q : Act → Prop} {a : Act} {o : Oper} {rest : List Oper} (hgd : o.guard = none) (ty : TypeId) (x : Operand) (ho : o.op = .load ty x)
    (ad : Addr) (hx : a.eval x = .pointer (some ad)) (cs : List Value) (d : TypeDesc) (hc : ∀ w, C w → ∀ j v, cs[j]? = some v → w.cell? (ad.add j) = some v)
    (hu : P.underlying ty = some d) (hd : (match d with | .struct _ | .array _ _ => true | _ => false) = true) (hi : (P.info? ty).map (·.size) = some cs.length)
    (h : wpQuiet P ops C Q rest (a.put o.dst (.agg cs.toArray))) : wpQuiet P ops C Q (o :: rest) a := by
  refine BigFrame.wpQuiet_want (by simp [Region.wanted, hgd]) fun K hK => ⟨.agg cs.toArray, fun w hw => ?_, hK _ h⟩
  unfold Oper.quietAt execOp
  simp only [ho, hx, run_loadAt_agg w ad ty cs d (hc w hw) hu hd hi, Sem.run_bind, Sem.run_pure, Result.andThen_ok, Oper.quietUpon]
  exact ⟨trivial, trivial⟩

theorem RB.nil_of {w : World} {l : List UInt8} (h : wp.RB w none l) : l = [] := by
  rcases Nat.eq_zero_or_pos l.length with h0 | h0
  · exact List.eq_nil_of_length_eq_zero h0
  · obtain ⟨_, _, hx, _⟩ := h h0; cases hx

theorem RB.cells {w : World} {ad : Addr} {l : List UInt8} (h : wp.RB w (some ad) l) : ∀ j u, (wp.bc l)[j]? = some u → w.cell? (ad.add j) = some u := fun j u hu => by
  have hl : j < (wp.bc l).length := by
    rcases Nat.lt_or_ge j (wp.bc l).length with h' | h'
    · exact h'
    · rw [List.getElem?_eq_none h'] at hu; cases hu
  rw [wp.bc_length] at hl
  obtain ⟨b, o, hA, _, hc⟩ := h (by omega)
  cases hA
  obtain ⟨x, hx, rfl⟩ := bc_at.1 hu
  rw [add_at]
  exact hc j x hx

/-- 'append(b[:len(b):len(b)], t...)' -/
theorem append_full (w : World) {ops : Array Oper} {rest : List Oper} {o : Oper} {a : Act} {Q : Exit → Act → World → Prop}
    (hgd : o.guard = none) (s x : Operand) (t : TypeId) (hop : o.op = Op.call { callee := Callee.builtin Builtin.append, args := #[s, x], argTypes := #[t, t] })
    (e : TypeId) (h1 : P.underlying t = some (.slice e)) (h2 : (P.info? e).map (fun i => (i.zero, i.size, i.bytes)) = some (some (.int .u8 0), 1, 1))
    (A A' : Option Addr) (n m c' : Nat) (l l' : List UInt8) (hs : a.eval s = .slice A n n) (hx : a.eval x = .slice A' m c') (hl : l.length = n) (hl' : l'.length = m) (hr : wp.RB w A l) (hr' : wp.RB w A' l') (hb : n + m ≤ 140737488355328)
    (hK : ∀ A2 c2 w', n + m ≤ c2 → c2 ≤ 9223372036854775807 → wp.RB w' A2 (l ++ l') → Below w.heap.size w w' → wpList P ops Q rest (a.put o.dst (.slice A2 (n + m) c2)) w') : wpList P ops Q (o :: rest) a w := by
  obtain ⟨i, hi, hz0, hz1, hz2⟩ := info_parts h2
  rcases Nat.eq_zero_or_pos m with h0 | h0
  · subst h0
    have : l' = [] := List.eq_nil_of_length_eq_zero hl'
    subst this
    have hsrc : Src P i.size t (.slice A' 0 c') 0 [] w := by
      cases A' with
      | none => exact Src.ofNil w h1 c'
      | some ad => exact Src.ofSlice w h1 ad 0 c' [] (by simp) (by simp) (by simp)
    refine wpList_plain hgd fun K hK' => ?_
    have hrun := run_append_nothing (P := P) w t t o.type e i h1 hi A n n (Nat.le_refl _) _ hsrc
    unfold Oper.wp execOp
    simp only [hop, resolve, invoke, builtin, Sem.run_bind, Sem.run_pure, Result.andThen_ok, List.map_toArray, List.map_cons, List.map_nil, hs, hx, hrun]
    exact hK' _ _ (hK A n w (Nat.le_refl _) (by omega) (by rw [List.append_nil]; exact hr) (Below.refl _ _))
  · obtain ⟨b', o', rfl, _, _⟩ := hr' (by omega)
    refine wpList_append_grows w hgd s x t hop e i (.int .u8 0) 1 1 h1 hi hz0 hz1 hz2 rfl (by decide) A n n (wp.bc l) hs (fun hA => ?_) (by rw [wp.bc_length]; omega) (fun b hA => ?_) ⟨b', o', none⟩ m c' (wp.bc l') hx (by rw [wp.bc_length]; omega) (RB.cells hr') wp.bc_one (by omega) (by unfold maxLen; omega) (by omega) ?_
    · subst hA
      have := RB.nil_of hr
      subst this
      simp at hl; omega
    · subst hA
      exact RB.cells hr
    · intro v' w' hown hgr
      obtain ⟨A2, c2, rfl, hc1, hc2, hR⟩ := wp.RC.of_own hown
      rw [← wp.bc_append] at hR
      exact hK A2 c2 w' hc1 (by unfold maxLen at hc2; omega) hR.rb ((Below.refl _ _).grown hgr (Nat.le_refl _) (fun k hk => by cases hk))

/-- 'b[:len(b):len(b)]' -/
theorem run_cut_full (w' : World) (t e : TypeId) (ht : P.underlying t = some (.slice e)) (hz : (P.info? e).map (·.size) = some 1) (ad : Addr) (n c : Nat) (hnc : n ≤ c) :
    (Instr.slice t (.slice (some ad) n c) none (some (.int .i64 (n : Int))) (some (.int .i64 (n : Int)))).run P w' = .ok (.slice (some ad) n n) w' := by
  have ht' : P.underlying t = some (.slice (P.elem t)) := by simp [Program.elem, ht]
  have he : P.elem t = e := by simp [Program.elem, ht]
  rw [run_slice_hm w' t (some ad) n c ht' .i64 .i64 (n : Int) (n : Int) (by omega) (Int.le_refl _) (by omega), he, run_sizeOf w' e 1 hz]
  simp only [Result.andThen, sliced, Int.toNat_natCast]
  split <;> simp [Addr.add]
end

end Go.Proofs.Ytlcdjabfkfmpdaa.wk
