/- The map of norms. -/
import Derived.Test.YtngmdonlljpknaaQc

import Derived.Maps.Own

import Derived.Test.YtngmdonlljpknaaVal

namespace Go.Proofs.Ytngmdonlljpknaa.vk

open Go.ChangeShapes Go.WideShapes Go.ChangeAt Go.RowKit Go.MapKept

set_option linter.unusedVariables false

section

variable {P : Program}
theorem ins_step {ops : Array Oper} {rest : List Oper} {o : Oper} {a : Act} {w : World} {Q : Exit → Act → World → Prop} (hg : o.guard = none) (t : TypeId) (m x v : Operand) (ho : o.op = .insert t m x v) (r : Nat) (es : Array MapEntry) (clock : Nat)
    (hm : a.eval m = .map (some r)) (kt et : TypeId) (ht : P.underlying t = some (.map kt et)) (hk : P.underlying kt = some (.int .i64)) (i : Int) (hx : a.eval x = .int .i64 i) (hb : w.heap[r]? = some (.map es clock))
    (hnew : Instr.findNow (.int .i64) (.int .i64 i) es.toList 0 = some none)
    (h : ∀ w', w'.heap[r]? = some (.map (es.push { key := .int .i64 i, val := a.eval v, born := clock }) (clock + 1)) → w'.heap.size = w.heap.size → (∀ B, B ≤ r → Below B w w') → wpList P ops Q rest (a.put o.dst undef) w') :
    wpList P ops Q (o :: rest) a w := by
  refine wpList_plain hg fun K' hK' => ?_
  have hK : IsKey (.int .i64) (.int .i64 i) := rfl
  have hrun : (Instr.mapUpdate t (.map (some r)) (.int .i64 i) (a.eval v)).run P w = .ok () { w with heap := w.heap.setIfInBounds r (.map (es.push { key := .int .i64 i, val := a.eval v, born := clock }) (clock + 1)) } := by
    simp [Instr.mapUpdate, run_underlying ht, Go.MapKept.run_getObj_map hb, Go.MapKept.run_checkKey hk hK, Go.MapKept.run_findKey hk hnew, Go.MapKept.run_setObj_map _ hb, Result.andThen]
  have hlt : r < w.heap.size := by
    rcases Nat.lt_or_ge r w.heap.size with h' | h'
    · exact h'
    · rw [Array.getElem?_eq_none h'] at hb; cases hb
  unfold Oper.wp
  simp [execOp, ho, hm, hx, hrun, Result.andThen]
  refine hK' _ _ (h _ ?_ ?_ ?_)
  · simp [hlt]
  · simp
  · exact fun B hB => ⟨rfl, rfl, rfl, by simp, fun k hk => by simp [Array.getElem?_setIfInBounds, show r ≠ k by omega]⟩
def lookRes (z : Value) : Option (Nat × Value) → Value
  | some (_, v) => .tuple #[v, .bool true]
  | none => .tuple #[z, .bool false]
theorem run_look {w : World} (t : TypeId) (r : Nat) (es : Array MapEntry) (clock : Nat) (kt et : TypeId) (ht : P.underlying t = some (.map kt et)) (hk : P.underlying kt = some (.int .i64)) (i : Int) (hb : w.heap[r]? = some (.map es clock)) (z : Value) (hz : (zeroValue et).run P w = .ok z w) (f : Option (Nat × Value))
    (hf : Instr.findNow (.int .i64) (.int .i64 i) es.toList 0 = some f) : (Instr.lookup t (.map (some r)) (.int .i64 i) true).run P w = .ok (lookRes z f) w := by
  have hK : IsKey (.int .i64) (.int .i64 i) := rfl
  cases f <;> simp [lookRes, Instr.lookup, run_underlying ht, Go.MapKept.run_getObj_map hb, Go.MapKept.run_checkKey hk hK, Go.MapKept.run_findKey hk hf, hz, Result.andThen]
theorem look_step {ops : Array Oper} {rest : List Oper} {o : Oper} {a : Act} {w : World} {Q : Exit → Act → World → Prop} (hg : o.guard = none) (t : TypeId) (m x : Operand) (ho : o.op = .lookup t m x true) (M X v : Value) (hm : a.eval m = M) (hx : a.eval x = X)
    (hrun : (Instr.lookup t M X true).run P w = .ok v w) (h : wpList P ops Q rest (a.put o.dst v) w) : wpList P ops Q (o :: rest) a w := by
  refine wk.list_run hg _ rfl v ?_ h
  unfold execOp
  simp [ho, hm, hx, hrun, Result.andThen]
end
def en (k : Int) (f : FuncId) (b : Nat) : MapEntry := { key := .int .i64 k, val := .func (.func f) #[] #[], born := b }
theorem find3 (m : Int) (f1 f2 f3 : FuncId) : Instr.findNow (.int .i64) (.int .i64 m) [en 1 f1 0, en 2 f2 1, en 3 f3 2] 0 = some (if m = 1 then some (0, .func (.func f1) #[] #[]) else if m = 2 then some (1, .func (.func f2) #[] #[]) else if m = 3 then some (2, .func (.func f3) #[] #[]) else none) := by
  by_cases h1 : m = 1
  · subst h1; simp [Instr.findNow, Instr.sameNow, en]
  · by_cases h2 : m = 2
    · subst h2; simp [Instr.findNow, Instr.sameNow, en]
    · by_cases h3 : m = 3
      · subst h3; simp [Instr.findNow, Instr.sameNow, en]
      · have b1 : (m == 1) = false := by simpa using h1
        have b2 : (m == 2) = false := by simpa using h2
        have b3 : (m == 3) = false := by simpa using h3
        simp [Instr.findNow, Instr.sameNow, en, h1, h2, h3, b1, b2, b3]
theorem zeroF (w : World) : (zeroValue 37).run Try.prog w = .ok .nilFunc w := by kernel_rfl
end Go.Proofs.Ytngmdonlljpknaa.vk
