
import Derived.Test.YtlcdjabfkfmpdaaKit4

import Derived.Deep.RegionLaw

import Derived.Lib.Strings

namespace Go.Proofs.Ytlcdjabfkfmpdaa.wk

open Go.RowKit
theorem ext_list (t : ByteArray) (k : Nat) : (t.extract k t.size).data.toList = t.data.toList.drop k := by
  rw [Lib.extract_data, List.take_of_length_le]
  rw [List.length_drop, Array.length_toList]
  exact Nat.le_refl _
section

variable {P : Program}
theorem bc_take (l : List UInt8) (k : Nat) : wp.bc (l.take k) = (l.map fun b : UInt8 => Value.int IntKind.u8 (b.toNat : Int)).take k := by
  unfold wp.bc; rw [List.map_take]
/-- 'copy(b[o:], s)' from a text -/
theorem run_copy_str (w : World) (dT sT ty elem : TypeId) (g o dLen dCap n : Nat) (s : ByteArray) (t : TypeId) (pre mid post : List Value)
    (hu : P.underlying dT = some (.slice elem)) (hs : (P.info? elem).map (·.size) = some 1) (hg : w.heap[g]? = some (.cells (pre ++ (mid ++ post)).toArray t (0, 0))) (hp : pre.length = o) (hm : mid.length = n) (hn : Nat.min s.size dLen = n) :
    (Builtin.copy_ #[dT, sT] ty #[.slice (some ⟨g, o, none⟩) dLen dCap, .string s]).run P w =
      .ok (goInt n) (w.setRow g (pre ++ (wp.bc (s.data.toList.take n) ++ post)).toArray) := by
  have hz : s.data.toList.length = s.size := by rw [Array.length_toList]; rfl
  have hle : n ≤ s.size := by rw [← hn]; exact Nat.min_le_left _ _
  have hlen : (wp.bc (s.data.toList.take n)).length = n := by rw [wp.bc_length, List.length_take, hz]; omega
  have hst := run_storeCells_mid (P := P) g o t (wp.bc (s.data.toList.take n)) 0 _ w hg (by rw [hlen]; simp; omega) (ones_bc _)
  have e1 : (pre ++ (mid ++ post)).take (o + 0) = pre := by rw [Nat.add_zero, ← hp, List.take_left]
  have e2 : (pre ++ (mid ++ post)).drop (o + 0 + (wp.bc (s.data.toList.take n)).length) = post := by
    rw [hlen, Nat.add_zero, ← hp, ← hm, ← List.append_assoc, List.drop_left' (by simp)]
  rw [e1, e2, bc_take] at hst
  rw [bc_take]
  cases hq : P.info? elem with
  | none => simp [hq] at hs
  | some i =>
    simp [Builtin.copy_, run_underlying hu, Builtin.lenOf, Builtin.firstCells, sizeOf, typeInfo, hq, hn]
    simp only [← List.map_take] at hst ⊢
    rw [hst]
    simp [Result.andThen]
end

section

variable {P : Program} {ops : Array Oper} {rest : List Oper} {o : Oper} {a : Act} {w : World} {Q : Exit → Act → World → Prop}
theorem copy_str (hgd : o.guard = none) (d s : Operand) (dT sT : TypeId)
    (ho : o.op = .call { callee := .builtin .copy, args := #[d, s], argTypes := #[dT, sT] }) (elem : TypeId) (hu : P.underlying dT = some (.slice elem)) (hs : (P.info? elem).map (·.size) = some 1)
    (g off dLen dCap n : Nat) (hd : a.eval d = .slice (some ⟨g, off, none⟩) dLen dCap) (str : ByteArray) (hx : a.eval s = .string str)
    (t : TypeId) (pre mid post : List Value) (hg : w.heap[g]? = some (.cells (pre ++ (mid ++ post)).toArray t (0, 0))) (hp : pre.length = off) (hm : mid.length = n) (hn : Nat.min str.size dLen = n)
    (h : wpList P ops Q rest (a.put o.dst (goInt n)) (w.setRow g (pre ++ (wp.bc (str.data.toList.take n) ++ post)).toArray)) : wpList P ops Q (o :: rest) a w :=
  wpList_plain hgd fun K hK => by
    unfold Oper.wp execOp
    simp only [ho, resolve, invoke, builtin, Sem.run_bind, Sem.run_pure, Result.andThen_ok, List.map_toArray, List.map_cons, List.map_nil, hd, hx, run_copy_str w dT sT o.type elem g off dLen dCap n str t pre mid post hu hs hg hp hm hn]
    exact hK _ _ h
theorem copy_str_n (hgd : o.guard = none) (d s : Operand) (dT sT : TypeId)
    (ho : o.op = .call { callee := .builtin .copy, args := #[d, s], argTypes := #[dT, sT] }) (elem : TypeId) (hu : P.underlying dT = some (.slice elem)) (hs : (P.info? elem).map (·.size) = some 1)
    (g off dLen dCap n : Nat) (hd : a.eval d = .slice (some ⟨g, off, none⟩) dLen dCap) (str : ByteArray) (hx : a.eval s = .string str)
    (t : TypeId) (pre mid post : List Value) (hg : w.heap[g]? = some (.cells (pre ++ (mid ++ post)).toArray t (0, 0))) (hp : pre.length = off) (hm : mid.length = n) (hn : Nat.min str.size dLen = n)
    (h : ∀ w2, Hid (w2.heap[g]? = some (.cells (pre ++ (wp.bc (str.data.toList.take n) ++ post)).toArray t (0, 0))) → Hid (∀ k, k ≠ g → w2.heap[k]? = w.heap[k]?) → Hid (∀ B w0, Below B w0 w → B ≤ g → Below B w0 w2) → wpList P ops Q rest (a.put o.dst (goInt n)) w2) : wpList P ops Q (o :: rest) a w :=
  copy_str hgd d s dT sT ho elem hu hs g off dLen dCap n hd str hx t pre mid post hg hp hm hn
    (h _ (setRow_heap _ _ _ _ _ _ hg) (fun _ hk => setRow_other _ _ _ _ hk) (fun _ _ hb hB => below_setRow hb hB _))
theorem cell_last {w : World} {g n : Nat} {l : List Value} {v : Value} {t : TypeId} (h : w.heap[g]? = some (.cells (l ++ [v]).toArray t (0, 0))) (hl : l.length = n) : w.cell? ⟨g, n, none⟩ = some v := by
  rw [cell_of_row _ _ _ _ _ _ h, List.getElem?_toArray, List.getElem?_append_right (by omega), ← hl, Nat.sub_self]
  rfl
theorem row_last {w : World} {g n : Nat} {l : List Value} {v u : Value} {t : TypeId} (h : w.heap[g]? = some (.cells (l ++ [v]).toArray t (0, 0))) (hl : l.length = n) : (w.setCell ⟨g, n, none⟩ u).heap[g]? = some (.cells (l ++ [u]).toArray t (0, 0)) := by
  refine (heap_setCell_same _ _ _ _ _ _ h).trans ?_
  have : (l ++ [v]).toArray.setIfInBounds n u = (l ++ [u]).toArray := by
    apply Array.toList_inj.1
    simp [List.set_append_right, ← hl]
  rw [this]
end

end Go.Proofs.Ytlcdjabfkfmpdaa.wk
