
import Derived.Test.YtlcdjabfkfmpdaaKit3

namespace Go.Proofs.Ytlcdjabfkfmpdaa.wk

open Go.RowKit

section

variable {P : Program}
theorem run_storeCells_mid (g o : Nat) (t : TypeId) : ∀ (vs : List Value) (i : Nat) (cur : List Value) (w : World), w.heap[g]? = some (.cells cur.toArray t (0, 0)) → o + i + vs.length ≤ cur.length → Ones vs →
    (storeCells ⟨g, o, none⟩ vs i).run P w = .ok () (w.setRow g (cur.take (o + i) ++ (vs ++ cur.drop (o + i + vs.length))).toArray)
  | [], i, cur, w, hg, hl, _ => by
    have hlt : g < w.heap.size := (Array.getElem?_eq_some_iff.1 hg).1
    have hv : w.heap[g] = .cells cur.toArray t (0, 0) := (Array.getElem?_eq_some_iff.1 hg).2
    simp only [storeCells, List.nil_append, List.length_nil, Nat.add_zero, List.take_append_drop]
    show Result.ok () w = _
    congr 1
    unfold World.setRow
    cases w with
    | mk heap tape drawn os output =>
      congr 1
      apply Array.ext
      · simp
      · intro k h1 h2
        simp only [Array.getElem_modify]
        split
        · rename_i hk; subst hk; simp at hv; simp [hv]
        · rfl
  | v :: rest, i, cur, w, hg, hl, h1 => by
    have hi : o + i < cur.length := by simp at hl; omega
    have hadd : (⟨g, o, none⟩ : Addr).add i = ⟨g, o + i, none⟩ := add_at g o i
    have hcell : w.cell? ⟨g, o + i, none⟩ = some cur[o + i] := by rw [cell_of_row _ _ _ _ _ _ hg]; simp [hi]
    have hfro : w.frozen? ⟨g, o + i, none⟩ = false := frozen_of_row _ _ _ _ _ hg
    have hst : (store ((⟨g, o, none⟩ : Addr).add i) v).run P w = .ok () (w.setRow g (cur.set (o + i) v).toArray) := by
      rw [hadd, run_store P w _ v _ (h1 v (by simp)), hcell]
      simp [hfro, setCell_eq_setRow w g (o + i) cur.toArray t (0, 0) v hg]
    have ih := run_storeCells_mid g o t rest (i + 1) (cur.set (o + i) v) (w.setRow g (cur.set (o + i) v).toArray) (setRow_heap w g cur.toArray _ t _ hg) (by simp at hl ⊢; omega) (fun x hx => h1 x (by simp [hx]))
    simp only [storeCells, Sem.run_bind, hst, Result.andThen_ok, ih, setRow_setRow]
    congr 3
    have e1 : (cur.set (o + i) v).take (o + (i + 1)) = cur.take (o + i) ++ [v] := by
      rw [← Nat.add_assoc, List.take_add_one, List.take_set_of_le (Nat.le_refl _), List.getElem?_set_self hi]
      rfl
    have e2 : (cur.set (o + i) v).drop (o + (i + 1) + rest.length) = cur.drop (o + i + (v :: rest).length) := by
      rw [List.drop_set_of_lt (by omega), List.length_cons]
      congr 1
      omega
    rw [e1, e2, List.append_assoc]
    rfl

theorem run_storeVar_mid (w : World) (g : Nat) (t ty : TypeId) (pre mid post cs : List Value) (o : Nat) (hg : w.heap[g]? = some (.cells (pre ++ (mid ++ post)).toArray t (0, 0))) (hp : pre.length = o) (hm : mid.length = cs.length)
    (hi : (P.info? ty).map (·.size) = some cs.length) (h1 : Ones cs) :
    (storeVar ty ⟨g, o, none⟩ (.agg cs.toArray)).run P w = .ok () (w.setRow g (pre ++ (cs ++ post)).toArray) := by
  have := run_storeCells_mid (P := P) g o t cs 0 _ w hg (by simp; omega) h1
  have e1 : (pre ++ (mid ++ post)).take (o + 0) = pre := by rw [Nat.add_zero, ← hp, List.take_left]
  have e2 : (pre ++ (mid ++ post)).drop (o + 0 + cs.length) = post := by
    rw [Nat.add_zero, ← hp, ← hm, ← List.append_assoc, List.drop_left' (by simp)]
  rw [e1, e2] at this
  cases hq : P.info? ty with
  | none => simp [hq] at hi
  | some i =>
    have hs : cs.length = i.size := by simp [hq] at hi; omega
    subst hp
    simp [storeVar, sizeOf, typeInfo, hq, Value.cells, hs] at this ⊢
    rw [this]
end

section

variable {P : Program} {ops : Array Oper} {rest : List Oper} {o : Oper} {a : Act} {w : World} {Q : Exit → Act → World → Prop}
/-- a part of a block is laid anew -/
theorem store_mid (hgd : o.guard = none) (ty : TypeId) (x y : Operand) (ho : o.op = .store ty x y)
    (g off : Nat) (cs pre mid post : List Value) (hx : a.eval x = .pointer (some ⟨g, off, none⟩)) (hy : a.eval y = .agg cs.toArray)
    (t : TypeId) (hg : w.heap[g]? = some (.cells (pre ++ (mid ++ post)).toArray t (0, 0))) (hp : pre.length = off) (hm : mid.length = cs.length) (hi : (P.info? ty).map (·.size) = some cs.length)
    (h1 : Ones cs)
    (h : wpList P ops Q rest (a.put o.dst undef) (w.setRow g (pre ++ (cs ++ post)).toArray)) : wpList P ops Q (o :: rest) a w :=
  wpList_plain hgd fun K hK => by
    unfold Oper.wp execOp
    simp only [ho, hx, hy, Instr.storeAt, Instr.sureAddr, Sem.run_bind, Sem.run_pure, Result.andThen_ok, run_storeVar_mid w g t ty pre mid post cs off hg hp hm hi h1]
    exact hK _ _ h
theorem row_mid {w : World} {g off : Nat} {t : TypeId} {pre mid post : List Value} (hg : w.heap[g]? = some (.cells (pre ++ (mid ++ post)).toArray t (0, 0))) (hp : pre.length = off) :
    ∀ j u, mid[j]? = some u → w.cell? ((⟨g, off, none⟩ : Addr).add j) = some u := fun j u hu => by
  have hj : j < mid.length := by
    rcases Nat.lt_or_ge j mid.length with h | h
    · exact h
    · rw [List.getElem?_eq_none h] at hu; cases hu
  rw [add_at, cell_of_row _ _ _ _ _ _ hg, ← hp, List.getElem?_toArray, List.getElem?_append_right (by omega), Nat.add_sub_cancel_left, List.getElem?_append_left hj]
  exact hu
end

end Go.Proofs.Ytlcdjabfkfmpdaa.wk
