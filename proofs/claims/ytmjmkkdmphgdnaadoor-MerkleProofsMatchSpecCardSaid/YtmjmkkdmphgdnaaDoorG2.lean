/- Joined: Enc Rc Wo Kit4 Rs RInt REnc Hx Hs Hk. -/
import Derived.Test.YtmjmkkdmphgdnaaDoorG1

import Derived.Deep.DeepCutAuto

namespace Go.Proofs.YtmjmkkdmphgdnaaDoor.wi

open Go.ChangeShapes Go.WideShapes Go.ChangeAt Go.RowKit

set_option maxRecDepth 100000 in
theorem appendBytes_own (base k : Nat) (v : Value) (xs : List Value) (s : ByteArray) (w : World)
    (hown : w.ownsRow base 5 1 v k xs) (hb : base ≤ w.heap.size) (hk : k + 10 + s.size ≤ 140737488355328) :
    Calls Tryd.prog 74 #[v, .string s] w fun e w' => ∃ v', e = .returned v' ∧ w'.ownsRow base 5 1 v' (k + (wp.encB s.data.toList).length) (xs ++ wp.bc (wp.encB s.data.toList)) ∧ Below base w w' := by
  obtain ⟨i0, hi, hz0, hz1, hz2⟩ := info_parts info5
  have hs1 : (s.size : Int) ≤ 9223372036854775807 := by omega
  have hlen := wp.encI_length (n := (s.size : Int)) (by omega) hs1
  have HE : Hid (wp.encB s.data.toList = wp.encI (s.size : Int) ++ s.data.toList) := wp.encB_eq s
  go_enter Tryd.func74, Tryd.ntmps74
  go_wp2_with fail
  refine (appendInt_own base k v xs (s.size : Int) _ (by omega) hs1 hown hb (by omega)).mono ?_
  rintro e w1 ⟨v1, rfl, hown1, hbel1⟩
  generalize wp.encI (s.size : Int) = t at *
  go_wp2_with (at_builtin; refine Lib.wpList_append_own_string _ rfl _ _ 75 9 rfl base 5 i0 Tryd.underlying75 Tryd.underlying9 hi hz0 hz1 hz2 _ _ _ rfl hown1 s rfl ?c1 ?c2 ?c3 ?_)
  case c1 => unfold maxLen; omega
  case c2 => omega
  case c3 => have := hbel1.size; omega
  intro v2 w2 hown2 hgrow _
  go_wp2
  go_ret
  refine ⟨v2, rfl, ?_, hbel1.grown hgrow (by have := hbel1.size; omega) (fun g hg => (hown1.lt g hg).1)⟩
  rw [HE.out, wp.bc_append, List.length_append, ← Nat.add_assoc, ← List.append_assoc]
  have hz : s.data.toList.length = s.size := by rw [Array.length_toList]; rfl
  rw [hz, List.append_assoc]
  exact hown2

/-- a fresh row of bytes is handed back -/
def OutB (l : List UInt8) (w : World) (e : Ending) (w' : World) : Prop :=
  ∃ v, e = .returned v ∧ w'.ownsRow w.heap.size 5 1 v l.length (wp.bc l) ∧ Below w.heap.size w w'

theorem bytes_out (s : ByteArray) (w : World) (hs : s.size ≤ 140737488355318) :
    Calls Tryd.prog 62 #[.string s] w (OutB (wp.encB s.data.toList) w) := by
  go_enter Tryd.func62, Tryd.ntmps62
  go_wp2_with fail
  refine (appendBytes_own w.heap.size 0 _ [] s w (World.ownsRow_nil _ _ _ _) (Nat.le_refl _) (by omega)).mono ?_
  rintro e w1 ⟨v1, rfl, hown1, hbel1⟩
  go_wp2
  go_ret
  exact ⟨v1, rfl, by simpa using hown1, hbel1⟩

end Go.Proofs.YtmjmkkdmphgdnaaDoor.wi

namespace Go.Proofs.YtmjmkkdmphgdnaaDoor.hi

open Go.ChangeShapes Go.WideShapes Go.ChangeAt Go.RowKit

set_option linter.unusedVariables false
end Go.Proofs.YtmjmkkdmphgdnaaDoor.hi

namespace Go.Proofs.YtmjmkkdmphgdnaaDoor.hi

open Go.ChangeShapes Go.WideShapes Go.ChangeAt Go.RowKit

set_option linter.unusedVariables false
end Go.Proofs.YtmjmkkdmphgdnaaDoor.hi

namespace Go.Proofs.YtmjmkkdmphgdnaaDoor.wk

open Go.RowKit

section

variable {P : Program}
theorem run_storeCells_mid (g o : Nat) (t : TypeId) : ∀ (vs : List Value) (i : Nat) (cur : List Value) (w : World), w.heap[g]? = some (.cells cur.toArray t (0, 0)) → o + i + vs.length ≤ cur.length → Ones vs →
    (storeCells ⟨g, o, none⟩ vs i).run P w = .ok () (w.setRow g (cur.take (o + i) ++ (vs ++ cur.drop (o + i + vs.length))).toArray)
  | [], i, cur, w, hg, hl, _ => by
    have hlt : g < w.heap.size := (Array.getElem?_eq_some_iff.1 hg).1
    have hv : w.heap[g] = .cells cur.toArray t (0, 0) := (Array.getElem?_eq_some_iff.1 hg).2
    simp only [storeCells, List.nil_append, List.length_nil, Nat.add_zero, List.take_append_drop]
    show Result.ok () w = _
    congr 1
    unfold World.setRow
    cases w with
    | mk heap tape drawn os output =>
      congr 1
      apply Array.ext
      · simp
      · intro k h1 h2
        simp only [Array.getElem_modify]
        split
        · rename_i hk; subst hk; simp at hv; simp [hv]
        · rfl
  | v :: rest, i, cur, w, hg, hl, h1 => by
    have hi : o + i < cur.length := by simp at hl; omega
    have hadd : (⟨g, o, none⟩ : Addr).add i = ⟨g, o + i, none⟩ := add_at g o i
    have hcell : w.cell? ⟨g, o + i, none⟩ = some cur[o + i] := by rw [cell_of_row _ _ _ _ _ _ hg]; simp [hi]
    have hfro : w.frozen? ⟨g, o + i, none⟩ = false := frozen_of_row _ _ _ _ _ hg
    have hst : (store ((⟨g, o, none⟩ : Addr).add i) v).run P w = .ok () (w.setRow g (cur.set (o + i) v).toArray) := by
      rw [hadd, run_store P w _ v _ (h1 v (by simp)), hcell]
      simp [hfro, setCell_eq_setRow w g (o + i) cur.toArray t (0, 0) v hg]
    have ih := run_storeCells_mid g o t rest (i + 1) (cur.set (o + i) v) (w.setRow g (cur.set (o + i) v).toArray) (setRow_heap w g cur.toArray _ t _ hg) (by simp at hl ⊢; omega) (fun x hx => h1 x (by simp [hx]))
    simp only [storeCells, Sem.run_bind, hst, Result.andThen_ok, ih, setRow_setRow]
    congr 3
    have e1 : (cur.set (o + i) v).take (o + (i + 1)) = cur.take (o + i) ++ [v] := by
      rw [← Nat.add_assoc, List.take_add_one, List.take_set_of_le (Nat.le_refl _), List.getElem?_set_self hi]
      rfl
    have e2 : (cur.set (o + i) v).drop (o + (i + 1) + rest.length) = cur.drop (o + i + (v :: rest).length) := by
      rw [List.drop_set_of_lt (by omega), List.length_cons]
      congr 1
      omega
    rw [e1, e2, List.append_assoc]
    rfl

theorem run_storeVar_mid (w : World) (g : Nat) (t ty : TypeId) (pre mid post cs : List Value) (o : Nat) (hg : w.heap[g]? = some (.cells (pre ++ (mid ++ post)).toArray t (0, 0))) (hp : pre.length = o) (hm : mid.length = cs.length)
    (hi : (P.info? ty).map (·.size) = some cs.length) (h1 : Ones cs) :
    (storeVar ty ⟨g, o, none⟩ (.agg cs.toArray)).run P w = .ok () (w.setRow g (pre ++ (cs ++ post)).toArray) := by
  have := run_storeCells_mid (P := P) g o t cs 0 _ w hg (by simp; omega) h1
  have e1 : (pre ++ (mid ++ post)).take (o + 0) = pre := by rw [Nat.add_zero, ← hp, List.take_left]
  have e2 : (pre ++ (mid ++ post)).drop (o + 0 + cs.length) = post := by
    rw [Nat.add_zero, ← hp, ← hm, ← List.append_assoc, List.drop_left' (by simp)]
  rw [e1, e2] at this
  cases hq : P.info? ty with
  | none => simp [hq] at hi
  | some i =>
    have hs : cs.length = i.size := by simp [hq] at hi; omega
    subst hp
    simp [storeVar, sizeOf, typeInfo, hq, Value.cells, hs] at this ⊢
    rw [this]
end

section

variable {P : Program} {ops : Array Oper} {rest : List Oper} {o : Oper} {a : Act} {w : World} {Q : Exit → Act → World → Prop}
/-- a part of a block is laid anew -/
theorem store_mid (hgd : o.guard = none) (ty : TypeId) (x y : Operand) (ho : o.op = .store ty x y)
    (g off : Nat) (cs pre mid post : List Value) (hx : a.eval x = .pointer (some ⟨g, off, none⟩)) (hy : a.eval y = .agg cs.toArray)
    (t : TypeId) (hg : w.heap[g]? = some (.cells (pre ++ (mid ++ post)).toArray t (0, 0))) (hp : pre.length = off) (hm : mid.length = cs.length) (hi : (P.info? ty).map (·.size) = some cs.length)
    (h1 : Ones cs)
    (h : wpList P ops Q rest (a.put o.dst undef) (w.setRow g (pre ++ (cs ++ post)).toArray)) : wpList P ops Q (o :: rest) a w :=
  wpList_plain hgd fun K hK => by
    unfold Oper.wp execOp
    simp only [ho, hx, hy, Instr.storeAt, Instr.sureAddr, Sem.run_bind, Sem.run_pure, Result.andThen_ok, run_storeVar_mid w g t ty pre mid post cs off hg hp hm hi h1]
    exact hK _ _ h
theorem row_mid {w : World} {g off : Nat} {t : TypeId} {pre mid post : List Value} (hg : w.heap[g]? = some (.cells (pre ++ (mid ++ post)).toArray t (0, 0))) (hp : pre.length = off) :
    ∀ j u, mid[j]? = some u → w.cell? ((⟨g, off, none⟩ : Addr).add j) = some u := fun j u hu => by
  have hj : j < mid.length := by
    rcases Nat.lt_or_ge j mid.length with h | h
    · exact h
    · rw [List.getElem?_eq_none h] at hu; cases hu
  rw [add_at, cell_of_row _ _ _ _ _ _ hg, ← hp, List.getElem?_toArray, List.getElem?_append_right (by omega), Nat.add_sub_cancel_left, List.getElem?_append_left hj]
  exact hu
end

end Go.Proofs.YtmjmkkdmphgdnaaDoor.wk

namespace Go.Proofs.YtmjmkkdmphgdnaaDoor.hi

open Go.ChangeShapes Go.WideShapes Go.ChangeAt Go.RowKit

set_option linter.unusedVariables false
/-- texts that lie one after the other -/
def cat (l : List ByteArray) : List UInt8 := l.flatMap fun s => s.data.toList
theorem cat_snoc {l : List ByteArray} {k : Nat} {x : ByteArray} (h : l[k]? = some x) : cat (l.take (k + 1)) = cat (l.take k) ++ x.data.toList := by
  unfold cat; rw [List.take_add_one, h]; simp
theorem str_append (a : List UInt8) (x : ByteArray) : (⟨a.toArray⟩ : ByteArray) ++ x = ⟨(a ++ x.data.toList).toArray⟩ := by
  apply ByteArray.ext
  rw [ByteArray.data_append]
  apply Array.toList_inj.1
  simp
theorem cat_le (l : List ByteArray) (k : Nat) : (cat (l.take k)).length ≤ (cat l).length := wp.flat_le _ l k
theorem str_size (a : List UInt8) : (⟨a.toArray⟩ : ByteArray).size = a.length := by show a.toArray.size = _; simp
/-- at most 12 texts of at most 400 bytes -/
def fewB (l : List ByteArray) : Bool := decide (l.length ≤ 12) && l.all fun s => decide (s.size ≤ 400)

end Go.Proofs.YtmjmkkdmphgdnaaDoor.hi

namespace Go.Proofs.YtmjmkkdmphgdnaaDoor.wi

open Go.ChangeShapes Go.WideShapes Go.ChangeAt Go.RowKit

set_option linter.unusedVariables false

set_option maxRecDepth 100000 in
set_option maxHeartbeats 2000000 in
theorem refInt_out (n : Int) (w : World) (h0 : -9223372036854775808 ≤ n) (h1 : n ≤ 9223372036854775807) :
    Calls Tryd.prog 88 #[.int .i64 n] w (OutB (wp.encI n) w) := by
  obtain ⟨i0, hi, hz0, hz1, hz2⟩ := info_parts info5
  have hlen := wp.encI_length h0 h1
  have hz : Lib.zigzag n < 18446744073709551616 := Lib.zigzag_lt h0 h1
  have HE : Hid (wp.encI n = Lib.uvarint (Lib.zigzag n)) := rfl
  rw [HE.out] at hlen
  have hzz : (n < 0 ∧ Hid (((-1 - n) * 2 + 1 : Int) = (Lib.zigzag n : Nat))) ∨ (0 ≤ n ∧ Hid ((n * 2 : Int) = (Lib.zigzag n : Nat))) := by
    rcases Int.lt_or_le n 0 with h | h
    · refine .inl ⟨h, ?_⟩; show _ = _; unfold Lib.zigzag; rw [if_neg (by omega)]; omega
    · refine .inr ⟨h, ?_⟩; show _ = _; unfold Lib.zigzag; rw [if_pos h]; omega
  generalize hgq : Lib.zigzag n = q0 at *
  have HQ := Lib.hid hgq
  clear hgq
  rcases hzz with ⟨hn, HZ⟩ | ⟨hn, HZ⟩
  all_goals
    go_enter Tryd.func88, Tryd.ntmps88
    go_wp2_with fail
    go_loopw [3, 4] (fun z v wr => ∃ (q m : Nat) (ys : List Value), z = .int .u64 (q : Int) ∧ q ≤ q0 ∧ ys ++ wp.bc (Lib.uvarint q) = wp.bc (Lib.uvarint q0) ∧ m + (Lib.uvarint q).length = (Lib.uvarint q0).length ∧ wr.ownsRow w.heap.size 5 1 v m ys ∧ Below w.heap.size w wr) (fun z _ _ => (intOf z).toNat)
    case atStart => exact ⟨q0, 0, [], by rw [← HZ.out], Nat.le_refl _, rfl, by omega, World.ownsRow_nil _ _ _ _, Below.refl _ _⟩
    case round =>
      obtain ⟨q, m, ys, rfl, hq, hys, hm, hown1, hbel⟩ := hrel
      have HYS := Lib.hid hys
      have HM := Lib.hid hm
      clear hm hys
      by_cases hlt : q < 128
      · have hU : (Lib.uvarint q).length = 1 := by rw [Lib.uvarint_small hlt]; rfl
        have HU := Lib.hid (wp.uv_small hlt)
        have hkm : m + 1 = (Lib.uvarint q0).length := by have := HM.out; omega
        have hkm' : m + 1 ≤ 140737488355328 := by omega
        clear hz h0 h1 hU hlen hn
        have HKM := Lib.hid hkm
        clear hkm
        go_wp2_with (at_builtin; refine wpList_append_own _ rfl _ _ 75 rfl w.heap.size 5 i0 (.int .u8 0) 1 1 Tryd.underlying75 hi hz0 hz1 hz2 rfl (by decide) _ _ _ rfl (hown1.alloc _) ⟨wr.heap.size, 0, none⟩ 1 1 [.int .u8 (q : Int)] rfl rfl ?c1 ?c2 ?c3 ?c4 ?c5 ?_)
        case c1 => exact cell_one_new _ _ _
        case c2 => simp [Value.oneCell']
        case c3 => unfold maxLen; omega
        case c4 => omega
        case c5 => have := hbel.size; simp; omega
        intro v' w1 hown' hgrow _
        go_wp2
        go_ret
        refine ⟨v', rfl, ?_, ?_⟩
        · rw [HE.out, ← HKM.out, ← HYS.out, HU.out]; exact hown'
        · exact (hbel.alloc (by have := hbel.size; omega) _).grown hgrow (by have := hbel.size; simp; omega) (fun g hg => (hown1.lt g hg).1)
      · have hU : (Lib.uvarint q).length = (Lib.uvarint (q / 128)).length + 1 := by rw [Lib.uvarint_big (by omega)]; rfl
        have HU := Lib.hid (wp.uv_big (q := q) (by omega))
        have hu1 : 1 ≤ (Lib.uvarint (q / 128)).length := Lib.uvarint_pos _
        have hkm' : m + 2 ≤ 140737488355328 := by have := HM.out; omega
        have HM' : Hid (m + 1 + (Lib.uvarint (q / 128)).length = (Lib.uvarint q0).length) := by have := HM.out; show _ = _; omega
        have hq64 : (q : Int) ≤ 18446744073709551615 := by omega
        clear hz h0 h1 hlen hu1 HM hU hn
        go_wp2_with (at_builtin; refine wpList_append_own _ rfl _ _ 75 rfl w.heap.size 5 i0 (.int .u8 0) 1 1 Tryd.underlying75 hi hz0 hz1 hz2 rfl (by decide) _ _ _ rfl (hown1.alloc _) ⟨wr.heap.size, 0, none⟩ 1 1 [.int .u8 ((q : Int) % 128 + 128)] rfl rfl ?c1 ?c2 ?c3 ?c4 ?c5 ?_)
        case c1 => exact cell_one_new _ _ _
        case c2 => simp [Value.oneCell']
        case c3 => unfold maxLen; omega
        case c4 => omega
        case c5 => have := hbel.size; simp; omega
        intro v' w1 hown' hgrow _
        go_wp2
        go_roundw
        case rel =>
          refine ⟨q / 128, m + 1, ys ++ [.int .u8 ((q : Int) % 128 + 128)], by simp, by omega, ?_, HM'.out, ?_, ?_⟩
          · rw [← HYS.out, HU.out, List.append_assoc]; rfl
          · exact hown'
          · exact (hbel.alloc (by have := hbel.size; omega) _).grown hgrow (by have := hbel.size; simp; omega) (fun g hg => (hown1.lt g hg).1)
        case measure => simp [intOf]; omega
end Go.Proofs.YtmjmkkdmphgdnaaDoor.wi

namespace Go.Proofs.YtmjmkkdmphgdnaaDoor.wi

open Go.ChangeShapes Go.WideShapes Go.ChangeAt Go.RowKit

set_option linter.unusedVariables false

set_option maxRecDepth 100000 in
theorem refBytes_out (s : ByteArray) (w : World) (hs : s.size ≤ 140737488355318) :
    Calls Tryd.prog 76 #[.string s] w (OutB (wp.encB s.data.toList) w) := by
  obtain ⟨i0, hi, hz0, hz1, hz2⟩ := info_parts info5
  have hs1 : (s.size : Int) ≤ 9223372036854775807 := by omega
  have hlen := wp.encI_length (n := (s.size : Int)) (by omega) hs1
  have HE : Hid (wp.encB s.data.toList = wp.encI (s.size : Int) ++ s.data.toList) := wp.encB_eq s
  go_enter Tryd.func76, Tryd.ntmps76
  go_wp2_with fail
  refine (refInt_out (s.size : Int) w (by omega) hs1).mono ?_
  rintro e w1 ⟨v1, rfl, hown1, hbel1⟩
  generalize wp.encI (s.size : Int) = t at *
  go_wp2_with (at_builtin; refine Lib.wpList_append_own_string _ rfl _ _ 75 9 rfl w.heap.size 5 i0 Tryd.underlying75 Tryd.underlying9 hi hz0 hz1 hz2 _ _ _ rfl hown1 s rfl ?c1 ?c2 ?c3 ?_)
  case c1 => unfold maxLen; omega
  case c2 => omega
  case c3 => exact hbel1.size
  intro v2 w2 hown2 hgrow _
  go_wp2
  go_ret
  refine ⟨v2, rfl, ?_, hbel1.grown hgrow hbel1.size (fun g hg => (hown1.lt g hg).1)⟩
  rw [HE.out, wp.bc_append, List.length_append]
  have hz : s.data.toList.length = s.size := by rw [Array.length_toList]; rfl
  rw [hz]
  exact hown2

end Go.Proofs.YtmjmkkdmphgdnaaDoor.wi
/- Plain facts on bytes: exclusive or, hexadecimal digits: no program here. -/
namespace Go.Proofs.YtmjmkkdmphgdnaaDoor.hx

/-- bytewise exclusive or, as long as the first one -/
def xorL : List UInt8 → List UInt8 → List UInt8
  | [], _ => []
  | c :: r, [] => c :: xorL r []
  | c :: r, d :: s => (c ^^^ d) :: xorL r s
theorem xorL_nil : ∀ a, xorL a [] = a
  | [] => rfl
  | c :: r => by rw [xorL, xorL_nil r]
theorem xorL_length : ∀ (a b : List UInt8), (xorL a b).length = a.length
  | [], _ => by simp [xorL]
  | c :: r, [] => by simp [xorL, xorL_length r []]
  | c :: r, d :: s => by simp [xorL, xorL_length r s]
theorem xorL_at : ∀ (a b : List UInt8) (k : Nat) (x : UInt8), a[k]? = some x → (xorL a b)[k]? = some (match b[k]? with | some y => x ^^^ y | none => x)
  | [], _, k, x, h => by simp at h
  | c :: r, [], k, x, h => by
    rw [xorL_nil]
    simpa using h
  | c :: r, d :: s, 0, x, h => by
    simp at h
    subst h
    simp [xorL]
  | c :: r, d :: s, k + 1, x, h => by
    have := xorL_at r s k x (by simpa using h)
    simpa [xorL] using this
/-- as long as the first one, zeros behind -/
def fit (n : Nat) (b : List UInt8) : List UInt8 := xorL (List.replicate n 0) b
theorem fit_length (n : Nat) (b : List UInt8) : (fit n b).length = n := by unfold fit; rw [xorL_length, List.length_replicate]
theorem reg_xorL : ∀ (a b : List UInt8) (r s : Nat), a.length = b.length → hp.reg (r ^^^ s) (xorL a b) = hp.reg r a ^^^ hp.reg s b
  | [], b, r, s, h => by
    have : b = [] := List.eq_nil_of_length_eq_zero (by simpa using h.symm)
    subst this
    rfl
  | c :: a, d :: b, r, s, h => by
    have ih := reg_xorL a b (hp.Tn 8 (r ^^^ c.toNat * 4294967296)) (hp.Tn 8 (s ^^^ d.toNat * 4294967296)) (by simpa using h)
    show hp.reg (hp.Tn 8 ((r ^^^ s) ^^^ (c ^^^ d).toNat * 4294967296)) (xorL a b) = hp.reg (hp.Tn 8 (r ^^^ c.toNat * 4294967296)) a ^^^ hp.reg (hp.Tn 8 (s ^^^ d.toNat * 4294967296)) b
    rw [← ih, ← hp.Tn_lin 8, hp.xor4]
    congr 3
    rw [UInt8.toNat_xor]
    exact hp.xor_shl c.toNat d.toNat 32
theorem crc_xor3 {a b c : List UInt8} (h1 : a.length = b.length) (h2 : a.length = c.length) : hp.crc (xorL (xorL a b) c) = hp.crc a ^^^ hp.crc b ^^^ hp.crc c := by
  have e1 := reg_xorL a b hp.FULL 0 h1
  have e2 := reg_xorL (xorL a b) c (hp.FULL ^^^ 0) 0 (by rw [xorL_length]; exact h2)
  have hx : ∀ l : List UInt8, hp.reg 0 l = hp.Tn (8 * l.length) hp.FULL ^^^ hp.reg hp.FULL l := fun l => by
    have := hp.reg_xor hp.FULL hp.FULL l
    rw [Nat.xor_self] at this
    exact this
  rw [Nat.xor_zero] at e1 e2
  rw [Nat.xor_zero] at e2
  have e3 : hp.reg hp.FULL (xorL (xorL a b) c) = hp.reg hp.FULL a ^^^ hp.reg 0 b ^^^ hp.reg 0 c := by rw [e2, e1]
  unfold hp.crc
  rw [e3, hx b, hx c, ← h1, ← h2]
  generalize hp.Tn (8 * a.length) hp.FULL = t
  generalize hp.reg hp.FULL a = x
  generalize hp.reg hp.FULL b = y
  generalize hp.reg hp.FULL c = z
  generalize hp.FULL = f
  apply Nat.eq_of_testBit_eq; intro i
  simp only [Nat.testBit_xor]
  cases x.testBit i <;> cases y.testBit i <;> cases z.testBit i <;> cases t.testBit i <;> cases f.testBit i <;> rfl
/-- hexadecimal digits -/
def digs : List UInt8 := [48, 49, 50, 51, 52, 53, 54, 55, 56, 57, 97, 98, 99, 100, 101, 102]
def hex2 (c : UInt8) : List UInt8 := [digs.getD (c.toNat / 16) 0, digs.getD (c.toNat % 16) 0]
def hex (l : List UInt8) : List UInt8 := l.flatMap hex2
end Go.Proofs.YtmjmkkdmphgdnaaDoor.hx
/- Plain SHA-256: no program here. -/
namespace Go.Proofs.YtmjmkkdmphgdnaaDoor.hs

def KK : List Nat := [1116352408, 1899447441, 3049323471, 3921009573, 961987163, 1508970993, 2453635748, 2870763221, 3624381080, 310598401, 607225278, 1426881987, 1925078388, 2162078206, 2614888103, 3248222580, 3835390401, 4022224774, 264347078, 604807628, 770255983, 1249150122, 1555081692, 1996064986, 2554220882, 2821834349, 2952996808, 3210313671, 3336571891, 3584528711, 113926993, 338241895, 666307205, 773529912, 1294757372, 1396182291, 1695183700, 1986661051, 2177026350, 2456956037, 2730485921, 2820302411, 3259730800, 3345764771, 3516065817, 3600352804, 4094571909, 275423344, 430227734, 506948616, 659060556, 883997877, 958139571, 1322822218, 1537002063, 1747873779, 1955562222, 2024104815, 2227730452, 2361852424, 2428436474, 2756734187, 3204031479, 3329325298]
/-- a word turned right -/
def rot (x n : Nat) : Nat := x * 2 ^ (32 - n) % 4294967296 ||| x / 2 ^ n
def ad (a b : Nat) : Nat := (a + b) % 4294967296
def nt (a : Nat) : Nat := a ^^^ 4294967295
def b0 (a : Nat) : Nat := rot a 2 ^^^ rot a 13 ^^^ rot a 22
def b1 (e : Nat) : Nat := rot e 6 ^^^ rot e 11 ^^^ rot e 25
def g0 (a : Nat) : Nat := rot a 7 ^^^ rot a 18 ^^^ a / 8
def g1 (a : Nat) : Nat := rot a 17 ^^^ rot a 19 ^^^ a / 1024
def ch (e f g : Nat) : Nat := (e &&& f) ^^^ (nt e &&& g)
def maj (a b c : Nat) : Nat := (a &&& b) ^^^ (a &&& c) ^^^ (b &&& c)

structure S8 where
  a : Nat
  b : Nat
  c : Nat
  d : Nat
  e : Nat
  f : Nat
  g : Nat
  h : Nat
def tx (s : S8) (k w : Nat) : Nat := ad (ad (ad (ad s.h (b1 s.e)) (ch s.e s.f s.g)) k) w
def ty (s : S8) : Nat := ad (b0 s.a) (maj s.a s.b s.c)
def round (s : S8) (k w : Nat) : S8 := ⟨ad (tx s k w) (ty s), s.a, s.b, s.c, ad s.d (tx s k w), s.e, s.f, s.g⟩
def rounds : S8 → List Nat → List Nat → S8
  | s, k :: ks, w :: ws => rounds (round s k w) ks ws
  | s, _, _ => s
/-- the first 16 words -/
def word (b : List UInt8) (t : Nat) : Nat := (b.getD (4 * t) 0).toNat * 16777216 ||| (b.getD (4 * t + 1) 0).toNat * 65536 ||| (b.getD (4 * t + 2) 0).toNat * 256 ||| (b.getD (4 * t + 3) 0).toNat
def words (b : List UInt8) : Nat → List Nat
  | 0 => []
  | t + 1 => words b t ++ [word b t]
/-- the next word of a list of t words -/
def nextW (l : List Nat) (t : Nat) : Nat := ad (ad (ad (l.getD (t - 16) 0) (g0 (l.getD (t - 15) 0))) (l.getD (t - 7) 0)) (g1 (l.getD (t - 2) 0))
def ext (l : List Nat) : Nat → List Nat
  | 0 => l
  | k + 1 => ext l k ++ [nextW (ext l k) (16 + k)]
def sched (b : List UInt8) : List Nat := ext (words b 16) 48
def plus (s t : S8) : S8 := ⟨ad s.a t.a, ad s.b t.b, ad s.c t.c, ad s.d t.d, ad s.e t.e, ad s.f t.f, ad s.g t.g, ad s.h t.h⟩
def comp (v : S8) (b : List UInt8) : S8 := plus v (rounds v KK (sched b))
def H0 : S8 := ⟨1779033703, 3144134277, 1013904242, 2773480762, 1359893119, 2600822924, 528734635, 1541459225⟩

/-- a message so far: the value, the bytes behind it -/
def push (s : S8 × List UInt8) (c : UInt8) : S8 × List UInt8 := if s.2.length = 63 then (comp s.1 (s.2 ++ [c]), []) else (s.1, s.2 ++ [c])
def feed (s : S8 × List UInt8) (l : List UInt8) : S8 × List UInt8 := l.foldl push s
def len8 (n : Nat) : List UInt8 := [56, 48, 40, 32, 24, 16, 8, 0].map fun i => UInt8.ofNat (8 * n / 2 ^ i)
def zeros (n : Nat) : List UInt8 := List.replicate n 0
/-- the value behind the padding -/
def fin (s : S8 × List UInt8) (n : Nat) : S8 :=
  if s.2.length < 56 then comp s.1 (s.2 ++ 128 :: zeros (55 - s.2.length) ++ len8 n) else comp (comp s.1 (s.2 ++ 128 :: zeros (63 - s.2.length))) (zeros 56 ++ len8 n)
def w4 (a : Nat) : List UInt8 := [UInt8.ofNat (a / 16777216), UInt8.ofNat (a / 65536), UInt8.ofNat (a / 256), UInt8.ofNat a]
def out (s : S8) : List UInt8 := w4 s.a ++ w4 s.b ++ w4 s.c ++ w4 s.d ++ w4 s.e ++ w4 s.f ++ w4 s.g ++ w4 s.h
def sha (m : List UInt8) : List UInt8 := out (fin (feed (H0, []) m) m.length)

theorem feed_append (s : S8 × List UInt8) (a b : List UInt8) : feed s (a ++ b) = feed (feed s a) b := List.foldl_append
end Go.Proofs.YtmjmkkdmphgdnaaDoor.hs

namespace Go.Proofs.YtmjmkkdmphgdnaaDoor.hi

open Go.ChangeShapes Go.WideShapes Go.ChangeAt Go.RowKit

set_option linter.unusedVariables false
theorem ret_u32 {a b : Int} (h : a = b) : Ending.returned (.int .u32 a) = .returned (.int .u32 b) := by rw [h]

set_option maxRecDepth 100000 in
theorem rotl_calls (x n m : Nat) (y : Int) (w : World) (hx : x < 4294967296) (hy : -31 ≤ y ∧ y ≤ 31) (hm : 0 < m) (hm1 : m < 32) (hnm : n = 32 - m) (hk : bits .and .u64 (IntKind.u64.wrap y) 31 = (m : Int)) :
    Calls Tryd.prog 93 #[.int .u32 (x : Int), .int .i64 y] w fun e w' => e = .returned (.int .u32 (hs.rot x n : Nat)) ∧ w = w' := by
  go_enter Tryd.func93, Tryd.ntmps93
  go_wp2_with fail
  go_ret
  refine ⟨ret_u32 ?_, rfl⟩
  have e1 : ((x : Int) * 2 ^ m % 4294967296) = ((x * 2 ^ m % 4294967296 : Nat) : Int) := by rw [Int.natCast_emod, Int.natCast_mul, Int.natCast_pow]; rfl
  have e2 : (x : Int) / 2 ^ (32 - m) = ((x / 2 ^ (32 - m) : Nat) : Int) := by rw [Int.natCast_ediv, Int.natCast_pow]; rfl
  have u1 : hb.U 32 ((x : Int) * 2 ^ m % 4294967296) (x * 2 ^ m % 4294967296) := ⟨e1, Nat.mod_lt _ (by decide)⟩
  have u2 : hb.U 32 ((x : Int) / 2 ^ (32 - m)) (x / 2 ^ (32 - m)) := ⟨e2, Nat.lt_of_le_of_lt (Nat.div_le_self _ _) hx⟩
  rw [(u1.or32 u2).eq, hnm]
  unfold hs.rot
  rw [show 32 - (32 - m) = m by omega]

theorem turn_fact : ∀ n : Nat, n < 32 → 0 < n → bits .and .u64 (IntKind.u64.wrap (-(n : Int))) 31 = ((32 - n : Nat) : Int) := by decide +kernel
theorem rotr_calls (x n : Nat) (w : World) (hx : x < 4294967296) (hn0 : 0 < n) (hn : n < 32) :
    Calls Tryd.prog 91 #[.int .u32 (x : Int), .int .i64 (n : Int)] w fun e w' => e = .returned (.int .u32 (hs.rot x n : Nat)) ∧ w = w' := by
  have H := Lib.hid (rotl_calls x n (32 - n) (-(n : Int)) w hx (by omega) (by omega) (by omega) (by omega) (turn_fact n hn hn0))
  go_enter Tryd.func91, Tryd.ntmps91
  go_wp2_with fail
  refine H.out.mono ?_
  rintro e w1 ⟨rfl, rfl⟩
  go_wp2_with fail
  go_ret
  exact ⟨rfl, rfl⟩
theorem rot_lt {x : Nat} (n : Nat) (hx : x < 4294967296) : hs.rot x n < 4294967296 := by
  unfold hs.rot
  exact Nat.or_lt_two_pow (n := 32) (Nat.mod_lt _ (by decide)) (Nat.lt_of_le_of_lt (Nat.div_le_self _ _) hx)
def u32s (l : List Nat) : List Value := l.map fun n : Nat => Value.int .u32 (n : Int)
theorem u32s_at {l : List Nat} {j x : Nat} (h : l[j]? = some x) : (u32s l)[j]? = some (.int .u32 (x : Int)) := by simp [u32s, h]
theorem u32s_length (l : List Nat) : (u32s l).length = l.length := by simp [u32s]
/-- a row of 64 words that is filled so far -/
def padW (l : List Nat) : List Nat := l ++ List.replicate (64 - l.length) 0
theorem padW_length {l : List Nat} (h : l.length ≤ 64) : (padW l).length = 64 := by simp [padW]; omega
theorem padW_set {l : List Nat} (h : l.length < 64) (x : Nat) : (u32s (padW l)).toArray.setIfInBounds l.length (.int .u32 (x : Int)) = (u32s (padW (l ++ [x]))).toArray := by
  apply Array.toList_inj.1
  have e : 64 - l.length = (64 - (l.length + 1)) + 1 := by omega
  simp [u32s, padW, e, List.replicate_succ, List.set_append_right]
theorem padW_at {l : List Nat} {j : Nat} (h : j < l.length) : (padW l)[j]? = some l[j] := by
  unfold padW
  rw [List.getElem?_append_left h, List.getElem?_eq_getElem h]
end Go.Proofs.YtmjmkkdmphgdnaaDoor.hi
