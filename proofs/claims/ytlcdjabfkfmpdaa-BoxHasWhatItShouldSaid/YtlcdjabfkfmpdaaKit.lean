/- Laws of memory that this seat's proofs use: an array's cells read out of a longer row; no program here. -/
import Derived.Test.YtlcdjabfkfmpdaaPlain

import Derived.Laws.Tables

import Derived.Laws.Rows

import Derived.Laws.CopyOwn

import Derived.Laws.StructEq

import Derived.Laws.BytesString

import Derived.Laws.BytesArg

namespace Go.Proofs.Ytlcdjabfkfmpdaa.wk

open Go.RowKit

theorem add_at (b o j : Nat) : (⟨b, o, none⟩ : Addr).add j = ⟨b, o + j, none⟩ := by
  unfold Addr.add
  by_cases hj : j = 0 <;> simp [hj]

theorem cells_new (w : World) (cs : List Value) (t : TypeId) : ∀ j u, cs[j]? = some u → (w.alloc (.cells cs.toArray t)).cell? ((⟨w.heap.size, 0, none⟩ : Addr).add j) = some u := fun j u hu => by
  rw [add_at, Nat.zero_add, cell_of_row _ _ _ _ _ _ (heap_alloc_new w _)]
  simpa using hu

theorem cells_new' {w : World} {g : Nat} (hg : w.heap.size = g) (cs : List Value) (t : TypeId) : ∀ j u, cs[j]? = some u → (w.alloc (.cells cs.toArray t)).cell? ((⟨g, 0, none⟩ : Addr).add j) = some u := by
  subst hg; exact cells_new w cs t

theorem cells_under (w : World) (cs : List Value) (t : TypeId) (O : Obj) : ∀ j u, cs[j]? = some u → ((w.alloc (.cells cs.toArray t)).alloc O).cell? ((⟨w.heap.size, 0, none⟩ : Addr).add j) = some u := fun j u hu => by
  rw [add_at, Nat.zero_add, cell_of_row _ _ _ _ _ _ (heap_alloc2_old w _ _)]
  simpa using hu

theorem bc_at {l : List UInt8} {j : Nat} {u : Value} : (wp.bc l)[j]? = some u ↔ ∃ x, l[j]? = some x ∧ Value.int .u8 (x.toNat : Int) = u := by
  simp [wp.bc]

theorem ownsRow_below {w w' : World} {base : Nat} {e : TypeId} {size n : Nat} {v : Value} {xs : List Value} (h : w.ownsRow base e size v n xs) (hb : Below w.heap.size w w') : w'.ownsRow base e size v n xs := by
  refine ⟨h.1, ?_⟩
  rcases h.2 with h2 | ⟨g, cap, cur, hv, hg, hh, hr⟩
  · exact .inl h2
  · refine .inr ⟨g, cap, cur, hv, hg, ?_, hr⟩
    have hlt : g < w.heap.size := (h.lt g (by rw [hv]; rfl)).2
    rw [hb.block g hlt]
    exact hh

/-- cells laid one by one over a row -/
theorem fold_set (l : List Value) : ∀ (pre z : List Value), z.length = l.length → (l.zipIdx pre.length).foldl (fun cs x => cs.setIfInBounds x.2 x.1) (pre ++ z).toArray = (pre ++ l).toArray := by
  induction l with
  | nil => intro pre z hz; simp [List.eq_nil_of_length_eq_zero hz]
  | cons a r ih =>
    intro pre z hz
    obtain ⟨b, z', rfl⟩ : ∃ b z', z = b :: z' := by
      cases z with
      | nil => simp at hz
      | cons b z' => exact ⟨b, z', rfl⟩
    have h := ih (pre ++ [a]) z' (by simpa using hz)
    simp only [List.zipIdx_cons, List.foldl_cons]
    have e : (pre ++ b :: z').toArray.setIfInBounds pre.length a = (pre ++ [a] ++ z').toArray := by
      apply Array.toList_inj.1
      simp
    rw [e]
    simpa using h

section

variable {P : Program}

theorem run_load_agg (w : World) (a : Addr) (ty : TypeId) (cs : List Value) (d : TypeDesc) (hc : ∀ j v, cs[j]? = some v → w.cell? (a.add j) = some v)
    (hu : P.underlying ty = some d) (hd : (match d with | .struct _ | .array _ _ => true | _ => false) = true) (hi : (P.info? ty).map (·.size) = some cs.length) :
    (loadVar ty a).run P w = .ok (.agg cs.toArray) w := by
  have hl : (loadCells a cs.length).run P w = .ok cs.toArray w := run_loadCells_list (P := P) w a cs hc
  cases hq : P.info? ty with
  | none => simp [hq] at hi
  | some i =>
    have hs : i.size = cs.length := by simpa [hq] using hi
    have hagg : (isAgg ty).run P w = .ok true w := by
      unfold isAgg
      rw [Sem.run_bind, run_underlying hu w]
      cases d <;> simp_all
    simp [loadVar, Sem.run_bind, hagg, sizeOf, typeInfo, hq, hs, hl]

theorem load_agg {ops : Array Oper} {rest : List Oper} {o : Oper} {a : Act} {w : World} {Q : Exit → Act → World → Prop} (hgd : o.guard = none) (ty : TypeId) (x : Operand) (ho : o.op = .load ty x)
    (ad : Addr) (hx : a.eval x = .pointer (some ad)) (cs : List Value) (d : TypeDesc) (hc : ∀ j v, cs[j]? = some v → w.cell? (ad.add j) = some v)
    (hu : P.underlying ty = some d) (hd : (match d with | .struct _ | .array _ _ => true | _ => false) = true) (hi : (P.info? ty).map (·.size) = some cs.length)
    (h : wpList P ops Q rest (a.put o.dst (.agg cs.toArray)) w) : wpList P ops Q (o :: rest) a w :=
  wpList_plain hgd fun K hK => by
    unfold Oper.wp execOp
    simp only [ho, hx, Instr.loadAt, Instr.sureAddr, Sem.run_bind, Sem.run_pure, Result.andThen_ok, run_load_agg w ad ty cs d hc hu hd hi]
    exact hK _ _ h

theorem setRow_alloc (w : World) (old cs : Array Value) (t : TypeId) : (w.alloc (.cells old t)).setRow w.heap.size cs = w.alloc (.cells cs t) := by
  simp only [World.setRow, World.alloc]
  congr 1
  apply Array.ext_getElem?
  intro i
  rw [Array.getElem?_modify, Array.getElem?_push, Array.getElem?_push]
  by_cases hi : i = w.heap.size
  · subst hi; simp
  · rw [if_neg (fun h => hi h.symm), if_neg hi, if_neg hi]

theorem store_new {ops : Array Oper} {rest : List Oper} {o : Oper} {a : Act} {w : World} {Q : Exit → Act → World → Prop} (hgd : o.guard = none) (ty : TypeId) (x y : Operand) (ho : o.op = .store ty x y)
    (t : TypeId) (old : Array Value) (cs : List Value) (hx : a.eval x = .pointer (some ⟨w.heap.size, 0, none⟩)) (hy : a.eval y = .agg cs.toArray)
    (hi : (P.info? ty).map (·.size) = some cs.length) (hold : old.size = cs.length) (h1 : ∀ u ∈ cs, u.oneCell' = true)
    (h : wpList P ops Q rest (a.put o.dst undef) (w.alloc (.cells cs.toArray t))) : wpList P ops Q (o :: rest) a (w.alloc (.cells old t)) := by
  refine wpList_store_row hgd ty x y ho w.heap.size cs.toArray hx hy t old (heap_alloc_new w _) (by simpa using hi) (by simpa using hold) (Array.all_eq_true_iff_forall_mem.2 fun u hu => h1 u (by simpa using hu)) ?_
  rw [setRow_alloc]
  exact h

/-- a cut keeps the bytes -/
theorem RB.cut {w : World} {A : Option Addr} {l : List UInt8} (h : wp.RB w A l) {k m c : Nat} (hc : l.length ≤ c) : wp.RB w (if c = k then A else A.map (·.add (k * 1))) ((l.drop k).take m) := fun hl => by
  have hlen : 0 < min m (l.length - k) := by simpa using hl
  obtain ⟨b, o, rfl, hb, hcell⟩ := h (by omega)
  rw [if_neg (by omega)]
  refine ⟨b, o + k, by simp [add_at], hb, fun j u hu => ?_⟩
  rw [Nat.add_assoc]
  refine hcell _ u ?_
  rw [List.getElem?_take] at hu
  split at hu
  · rw [← hu, List.getElem?_drop]
  · cases hu

theorem run_sizeOf (w : World) (e : TypeId) (n : Nat) (hz : (P.info? e).map (·.size) = some n) : (Go.sizeOf e).run P w = .ok n w := by
  cases hq : P.info? e with
  | none => simp [hq] at hz
  | some i =>
    have : i.size = n := by simpa [hq] using hz
    simp [Go.sizeOf, typeInfo, hq, this]

theorem cut_lh (w : World) (t e : TypeId) (ht : P.underlying t = some (.slice e)) (hz : (P.info? e).map (·.size) = some 1) (A : Option Addr) (n c : Nat) (l : List UInt8) (hn : l.length = n) (hnc : n ≤ c)
    (h : wp.RB w A l) (lo hi : Int) (h0 : 0 ≤ lo) (h1 : lo ≤ hi) (h2 : hi ≤ n) :
    ∃ A2 m c2, (∀ w', (Instr.slice t (.slice A n c) (some (.int .i64 lo)) (some (.int .i64 hi)) none).run P w' = .ok (.slice A2 m c2) w') ∧ m ≤ c2 ∧ c2 ≤ c ∧ ((l.drop lo.toNat).take (hi - lo).toNat).length = m ∧ wp.RB w A2 ((l.drop lo.toNat).take (hi - lo).toNat) := by
  have ht' : P.underlying t = some (.slice (P.elem t)) := by simp [Program.elem, ht]
  have he : P.elem t = e := by simp [Program.elem, ht]
  refine ⟨_, (hi - lo).toNat, c - lo.toNat, fun w' => ?_, by omega, by omega, by simp; omega, RB.cut h (k := lo.toNat) (m := (hi - lo).toNat) (c := c) (by omega)⟩
  rw [run_slice_lh w' t A n c ht' .i64 .i64 lo hi h0 h1 (by omega), he, run_sizeOf w' e 1 hz]
  simp only [Result.andThen, sliced]
  rw [show hi.toNat - lo.toNat = (hi - lo).toNat from by omega]

theorem cut_l (w : World) (t e : TypeId) (ht : P.underlying t = some (.slice e)) (hz : (P.info? e).map (·.size) = some 1) (A : Option Addr) (n c : Nat) (l : List UInt8) (hn : l.length = n) (hnc : n ≤ c)
    (h : wp.RB w A l) (lo : Int) (h0 : 0 ≤ lo) (h2 : lo ≤ n) :
    ∃ A2 m c2, (∀ w', (Instr.slice t (.slice A n c) (some (.int .i64 lo)) none none).run P w' = .ok (.slice A2 m c2) w') ∧ m ≤ c2 ∧ c2 ≤ c ∧ (l.drop lo.toNat).length = m ∧ wp.RB w A2 (l.drop lo.toNat) := by
  have ht' : P.underlying t = some (.slice (P.elem t)) := by simp [Program.elem, ht]
  have he : P.elem t = e := by simp [Program.elem, ht]
  have hr := RB.cut h (k := lo.toNat) (m := l.length) (c := c) (by omega)
  rw [List.take_of_length_le (by simp)] at hr
  refine ⟨_, n - lo.toNat, c - lo.toNat, fun w' => ?_, by omega, by omega, by simp; omega, hr⟩
  rw [run_slice_l w' t A n c ht' .i64 lo h0 (by omega), he, run_sizeOf w' e 1 hz]
  simp only [Result.andThen, sliced]

/-- a text out of bytes -/
theorem conv_str (w : World) (src e dst : TypeId) (hs : P.underlying src = some (.slice e)) (he : P.underlying e = some (.int .u8)) (hd : P.underlying dst = some .string) (A : Option Addr) (n c : Nat) (l : List UInt8) (hn : l.length = n)
    (h : wp.RB w A l) : (convert src dst (.slice A n c)).run P w = .ok (.string ⟨l.toArray⟩) w := by
  rw [run_convert_bytes_string w src dst e _ n c hs he hd]
  cases A with
  | none =>
    have : l = [] := by
      rcases Nat.eq_zero_or_pos l.length with h0 | h0
      · exact List.eq_nil_of_length_eq_zero h0
      · obtain ⟨_, _, hx, _⟩ := h h0; cases hx
    subst this
    simp [Conv.bytesToString, ByteArray.empty, ByteArray.emptyWithCapacity]
    rfl
  | some ad =>
    have hl : (loadCells ad n).run P w = .ok ((l.map fun u => (u.toNat : Int)).map (Value.int .u8)).toArray w := by
      have := run_loadCells_list (P := P) w ad ((l.map fun u => (u.toNat : Int)).map (Value.int .u8)) (fun j v hv => by
        have hjl : j < l.length := by
          rcases Nat.lt_or_ge j l.length with h | h
          · exact h
          · simp [List.getElem?_eq_none h] at hv
        obtain ⟨b, o, hx, _, hc⟩ := h (by omega)
        cases hx
        rw [add_at, hc j l[j] (List.getElem?_eq_getElem hjl)]
        simp [List.getElem?_eq_getElem hjl] at hv
        rw [← hv])
      simpa [hn] using this
    rw [run_bytesToString w _ n c _ hl, foldl_push_bytes]
    congr 2
    simp [ByteArray.empty, ByteArray.emptyWithCapacity]
    have e : ((fun n : Int => UInt8.ofNat n.toNat) ∘ fun u : UInt8 => (u.toNat : Int)) = id := by funext u; simp
    rw [e, List.map_id]
    rfl

theorem RB.below {w w' : World} {A : Option Addr} {l : List UInt8} (h : wp.RB w A l) (hb : Below w.heap.size w w') : wp.RB w' A l := fun hl => by
  obtain ⟨b, o, hA, hlt, hc⟩ := h hl
  exact ⟨b, o, hA, Nat.lt_of_lt_of_le hlt hb.size, fun j u hu => (hb.cell (p := ⟨b, o + j, none⟩) hlt).trans (hc j u hu)⟩

/-- 'copy(d[:], b)' where d is the block that was made last -/
theorem copy_new {w : World} {ops : Array Oper} {rest : List Oper} {o : Oper} {a : Act} {Q : Exit → Act → World → Prop} (hgd : o.guard = none) (d s : Operand) (dT sT : TypeId)
    (ho : o.op = .call { callee := .builtin .copy, args := #[d, s], argTypes := #[dT, sT] }) (elem : TypeId) (hu : P.underlying dT = some (.slice elem)) (hsz : (P.info? elem).map (·.size) = some 1)
    (t : TypeId) (old : Array Value) (ad : Addr) (m dc sLen sCap : Nat) (g : Nat) (hd : a.eval d = .slice (some ⟨g, 0, none⟩) m dc) (hg : w.heap.size = g) (hs : a.eval s = .slice (some ad) sLen sCap) (cs : List Value)
    (hm : cs.length = m) (hold : old.size = m) (hle : m ≤ sLen) (hsrc : ∀ j v, cs[j]? = some v → (w.alloc (.cells old t)).cell? (ad.add j) = some v) (h1 : ∀ v ∈ cs, v.oneCell' = true)
    (h : wpList P ops Q rest (a.put o.dst (goInt m)) (w.alloc (.cells cs.toArray t))) : wpList P ops Q (o :: rest) a (w.alloc (.cells old t)) := by
  subst hg
  refine wpList_copy_own hgd d s dT sT ho elem hu hsz w.heap.size 0 m dc ad sLen sCap hd hs old t (heap_alloc_new w _) cs (by rw [hm]; exact (Nat.min_eq_right hle).symm) hsrc (by omega) h1 ?_
  have e : (old.toList.take 0 ++ (cs ++ old.toList.drop (0 + cs.length))).toArray = cs.toArray := by
    rw [List.drop_eq_nil_of_le (by simp; omega)]; simp
  rw [e, setRow_alloc, hm]
  exact h

/-- a store into the block below the last one -/
theorem store_below {ops : Array Oper} {rest : List Oper} {o : Oper} {a : Act} {w : World} {Q : Exit → Act → World → Prop} (hgd : o.guard = none) (ty : TypeId) (x y : Operand) (ho : o.op = .store ty x y)
    (t : TypeId) (old : Array Value) (O : Obj) (cs : List Value) (hx : a.eval x = .pointer (some ⟨w.heap.size, 0, none⟩)) (hy : a.eval y = .agg cs.toArray)
    (hi : (P.info? ty).map (·.size) = some cs.length) (hold : old.size = cs.length) (h1 : ∀ u ∈ cs, u.oneCell' = true)
    (h : wpList P ops Q rest (a.put o.dst undef) ((w.alloc (.cells cs.toArray t)).alloc O)) : wpList P ops Q (o :: rest) a ((w.alloc (.cells old t)).alloc O) := by
  have hg : ((w.alloc (.cells old t)).alloc O).heap[w.heap.size]? = some (.cells old t (0, 0)) := heap_alloc2_old w _ _
  refine wpList_store_row hgd ty x y ho w.heap.size cs.toArray hx hy t old hg (by simpa using hi) (by simpa using hold) (Array.all_eq_true_iff_forall_mem.2 fun u hu => h1 u (by simpa using hu)) ?_
  have e : ((w.alloc (.cells old t)).alloc O).setRow w.heap.size cs.toArray = (w.alloc (.cells cs.toArray t)).alloc O := by
    simp only [World.setRow, World.alloc]
    congr 1
    apply Array.ext_getElem?
    intro i
    simp only [Array.getElem?_modify, Array.getElem?_push, Array.size_push]
    by_cases h2 : i = w.heap.size + 1
    · subst h2
      simp
    · by_cases hi : i = w.heap.size
      · subst hi
        simp
      · simp [h2, hi]
        intro h
        exact absurd h.symm hi
  rw [e]
  exact h

theorem results_cell2 {fn : Func} {p u v : Tmp} {ty : TypeId} (h : fn.results = #[.cell p ty, .tmp u, .tmp v]) (tmps : Array Value) (w : World) (ad : Addr) (cs : List Value) (d : TypeDesc)
    (hp : tmps.getD p undef = .pointer (some ad)) (hc : ∀ j x, cs[j]? = some x → w.cell? (ad.add j) = some x)
    (hu : P.underlying ty = some d) (hd : (match d with | .struct _ | .array _ _ => true | _ => false) = true) (hi : (P.info? ty).map (·.size) = some cs.length) :
    (results fn tmps).run P w = .ok (.tuple #[.agg cs.toArray, tmps.getD u undef, tmps.getD v undef]) w := by
  have hp' : tmps[p]?.getD undef = .pointer (some ad) := by simpa using hp
  simp [results, h, hp', asAddr, run_load_agg w ad ty cs d hc hu hd hi, Result.andThen]

theorem run_part (w : World) (e : TypeId) (k : IntKind) (he : P.underlying e = some (.int k)) (cs : Array Value) (i : Nat) (v : Value) (h : cs[i]? = some v) : (part e cs i).run P w = .ok v w := by
  have ha : (isAgg e).run P w = .ok false w := by
    unfold isAgg
    rw [Sem.run_bind, run_underlying he w]
    simp [Result.andThen]
  simp [part, ha, h, Result.andThen]

theorem run_eq_arr (w : World) (d : Nat) (t e : TypeId) (n : Nat) (ht : P.underlying t = some (.array n e)) (he : P.underlying e = some (.int .u8)) (hs : (P.info? e).map (·.size) = some 1) (xs ys : List UInt8)
    (hx : xs.length = n) (hy : ys.length = n) : (Op.equalIn (d + 2) t (.agg (wp.bc xs).toArray) (.agg (wp.bc ys).toArray)).run P w = .ok (xs == ys) w := by
  have hone : ∀ (a b : UInt8), (Op.equalIn (d + 1) e (.int .u8 (a.toNat : Int)) (.int .u8 (b.toNat : Int))).run P w = .ok (a == b) w := fun a b => by
    rw [run_equalIn_int w d e .u8 .u8 _ _ he]
    congr 1
    rw [Bool.eq_iff_iff, beq_iff_eq, beq_iff_eq, ← UInt8.toNat_inj]
    omega
  have hp : ∀ (l : List UInt8) (i : Nat) (x : UInt8), l[i]? = some x → (part e (wp.bc l).toArray i).run P w = .ok (.int .u8 (x.toNat : Int)) w := fun l i x hi => run_part w e .u8 he _ i _ (by simp [wp.bc, hi])
  rw [Op.equalIn]
  simp only [Sem.run_bind, run_underlying ht, Result.andThen_ok, run_sizeOf w e 1 hs, Nat.mul_one]
  rw [Std.Legacy.Range.forIn_eq_forIn_range']
  have key : ∀ (k s : Nat), s + k = n → (forIn (List.range' s k) ((none : Option Bool), ()) fun i __s => do
            let a ← part e (wp.bc xs).toArray i
            let b ← part e (wp.bc ys).toArray i
            let r ← Op.equalIn (d + 1) e a b
            if (!r) = true then pure (ForInStep.done (some false, ())) else pure (ForInStep.yield (none, ()))).run P w = .ok (if xs.drop s == ys.drop s then (none, ()) else (some false, ())) w := by
    intro k
    induction k with
    | zero => intro s h; simp [List.drop_eq_nil_of_le (show xs.length ≤ s by omega), List.drop_eq_nil_of_le (show ys.length ≤ s by omega)]
    | succ k ih =>
      intro s h
      have h1 : s < xs.length := by omega
      have h2 : s < ys.length := by omega
      rw [List.range'_succ, List.forIn_cons]
      simp only [Sem.run_bind, hp xs s xs[s] (List.getElem?_eq_getElem h1), hp ys s ys[s] (List.getElem?_eq_getElem h2), Result.andThen_ok, hone]
      have hdrop : (xs.drop s == ys.drop s) = (xs[s] == ys[s] && xs.drop (s + 1) == ys.drop (s + 1)) := by
        rw [List.drop_eq_getElem_cons h1, List.drop_eq_getElem_cons h2]; rfl
      rw [hdrop]
      cases hq : xs[s] == ys[s]
      · simp only [Bool.not_false, if_true, Bool.false_and, Bool.false_eq_true, if_false, Sem.run_pure, Result.andThen_ok]
      · simp only [Bool.not_true, Bool.false_eq_true, if_false, Bool.true_and, Sem.run_pure, Result.andThen_ok]
        exact ih (s + 1) (by omega)
  have := key n 0 (by omega)
  simp only [List.drop_zero] at this
  have hsz : [:n].size = n := by simp [Std.Legacy.Range.size]
  show ((Sem.run P (forIn (List.range' 0 [:n].size 1) ((none : Option Bool), ()) _) w).andThen _) = _
  rw [hsz, this]
  cases hq : xs == ys <;> simp [Result.andThen]

theorem run_ne_arr_same (t e : TypeId) (n : Nat) (ht : P.underlying t = some (.array n e)) (he : P.underlying e = some (.int .u8)) (hs : (P.info? e).map (·.size) = some 1) (xs : List UInt8)
    (hx : xs.length = n) (w : World) : (binOp .neq t (.agg (wp.bc xs).toArray) (.agg (wp.bc xs).toArray)).run P w = .ok (.bool false) w := by
  rw [run_neq_struct, run_eq_arr w 9998 t e n ht he hs xs xs hx hx]
  simp [Result.andThen]
end

end Go.Proofs.Ytlcdjabfkfmpdaa.wk
