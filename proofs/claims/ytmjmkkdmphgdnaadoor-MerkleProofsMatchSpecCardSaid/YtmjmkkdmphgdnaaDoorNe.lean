/- Top of peaks of any list; appending to a row of one's own. -/
import Derived.Test.YtmjmkkdmphgdnaaDoorNd

import Derived.Laws.AppendOwnNone

namespace Go.Proofs.YtmjmkkdmphgdnaaDoor.mk

open Go.ChangeShapes Go.WideShapes Go.ChangeAt Go.RowKit

set_option linter.unusedVariables false
theorem run_eqGuard_agg_neq {P : Program} {w : World} {t : TypeId} {x y : Operand} {xs ys : Array Value} (hg : P.eqGuardType P.depth t = false) : (eqGuard .neq t x y (.agg xs) (.agg ys)).run P w = .ok () w := by
  unfold eqGuard
  simp [hg, Sem.run_bind, Sem.run_pure, Result.andThen]
theorem does_neq_arr {P : Program} {Q : Exit → Act → World → Prop} {o : Oper} {E : Operand → Value} {w : World} {R : World → Value → Prop} {t t2 : TypeId} {x y : Operand} {xs ys : Array Value} {b : Bool} (ho : o.op = .binOp .neq t x y t2) (hx : E x = .agg xs) (hy : E y = .agg ys) (hg : P.eqGuardType P.depth t = false)
    (hrun : (Op.equal t (.agg xs) (.agg ys)).run P w = .ok b w) (hR : R w (.bool !b)) : wk.Does P Q o E w R :=
  wk.does_bin ho (by rw [hx, hy, Sem.run_bind, run_eqGuard_agg_neq hg, Result.andThen_ok]; simp only [binOp, Sem.run_bind, hrun, Result.andThen_ok, Sem.run_pure]) hR
/-- appending what a slice owns to a row of one's own -/
theorem list_appendO {ops : Array Oper} {rest : List Oper} {o : Oper} {a : Act} {w : World} {Q : Exit → Act → World → Prop} (hgd : o.guard = none) (s x : Operand) (ho : o.op = .call { callee := .builtin .append, args := #[s, x], argTypes := #[22, 22] })
    (base : Nat) (v : Value) (m : Nat) (xs : List Value) (hs : a.eval s = v) (hown : w.ownsRow base 31 16 v m xs) (base2 : Nat) (v2 : Value) (n : Nat) (ys : List Value) (hx : a.eval x = v2) (h2 : w.ownsRow base2 31 16 v2 n ys) (hones : wk.Ones ys)
    (hb : m + n ≤ 1000000) (hbase : base ≤ w.heap.size)
    (h : ∀ v' w', w'.ownsRow base 31 16 v' (m + n) (xs ++ ys) → w.grownBy w' v.ownBlock → wpList Tryd.prog ops Q rest (a.put o.dst v') w') : wpList Tryd.prog ops Q (o :: rest) a w := by
  obtain ⟨i0, hi, hz0, hz1, hz2⟩ := info_parts infoDz
  rcases h2.2 with ⟨hv, hn⟩ | ⟨g, cap, cur, hv, hb2, hh, h3, h4, h5, h6⟩
  · subst hv
    subst hn
    have hy : ys = [] := List.eq_nil_of_length_eq_zero (by simpa using h2.1)
    subst hy
    refine wpList_append_own_none hgd s x 22 ho base 31 i0 16 Tryd.underlying22 hi v m xs hs hown hx ?_
    exact h v w (by simpa using hown) (World.grownBy.refl w _)
  · subst hv
    refine wpList_append_own w hgd s x 22 ho base 31 i0 zeroD 16 16 Tryd.underlying22 hi hz0 hz1 hz2 rfl (by decide) v m xs hs hown ⟨g, 0, none⟩ n cap ys hx h2.1 (h2.cells rfl) hones (by unfold maxLen; omega) (by omega) hbase ?_
    intro v' w' h7 h8 _
    exact h v' w' h7 h8
theorem formed_40 {k n : Nat} (hk : k ≤ 40) (hn : n = pop 64 k) (A : Option Addr) (c : Nat) (w : World) : Calls Tryd.prog 52 #[pk (k : Int) (.slice A n c)] w fun e w' => e = .returned (.bool true) ∧ Below w.heap.size w w' := by
  have h := formed_calls (k : Int) A n c w (by omega) (by omega)
  have hsw : swar (k : Int) = (n : Int) := by rw [hn]; exact swar_small ⟨k, by omega⟩
  have hf : formed k n = true := by
    unfold formed
    rw [hsw]
    simp
    omega
  rwa [hf] at h
set_option maxRecDepth 100000 in
set_option maxHeartbeats 4000000 in
theorem top0_calls (A : Option Addr) (n c : Nat) (w : World) (hT : Tab w)
    (hfm : ∀ w', Calls Tryd.prog 52 #[pk 0 (.slice A n c)] w' fun e w'' => e = .returned (.bool true) ∧ Below w'.heap.size w' w'') :
    Calls Tryd.prog 26 #[pk 0 (.slice A n c)] w fun e w' => e = .returned (.tuple #[dv emptyD, .int .i64 0]) ∧ Below w.heap.size w w' := by
  have HT := Lib.hid hT
  have HFM := Lib.hid hfm
  clear hT hfm
  unfold pk at HFM ⊢
  go_enter Tryd.func26, Tryd.ntmps26
  go_upto_region 1 with fail
  change Code.wp _ _ _ _ ((w.alloc (.cells #[.int .i64 0, .slice A n c] 43)).alloc (.cells hi.z16 31))
  have b1 : Below w.heap.size w (w.alloc (.cells #[.int .i64 0, .slice A n c] 43)) := (Below.refl _ _).alloc (Nat.le_refl _) _
  have q1 : (w.alloc (.cells #[.int .i64 0, .slice A n c] 43)).heap[w.heap.size]? = some (.cells #[.int .i64 0, .slice A n c] 43 (0, 0)) := heap_alloc_new _ _
  have s1 : (w.alloc (.cells #[.int .i64 0, .slice A n c] 43)).heap.size = w.heap.size + 1 := Array.size_push ..
  generalize w.alloc (.cells #[.int .i64 0, .slice A n c] 43) = w1 at *
  have b2 : Below w1.heap.size w1 (w1.alloc (.cells hi.z16 31)) := (Below.refl _ _).alloc (Nat.le_refl _) _
  have q2 : (w1.alloc (.cells hi.z16 31)).heap[w1.heap.size]? = some (.cells hi.z16 31 (0, 0)) := heap_alloc_new _ _
  generalize w1.alloc (.cells hi.z16 31) = w2 at *
  have q1' := wk.row_below q1 b2
  have b := b1.trans (b2.mono (by omega))
  rw [s1] at q2
  generalize hB : w.heap.size = B at *
  have HB := Lib.hid hB
  have HB2 := Lib.hid b
  have Q1 := Lib.hid q1'
  have Q2 := Lib.hid q2
  clear q1 q2 q1' b1 b2 s1 b hB
  have hzp : (Tryd.prog.info? 43).map (·.size) = some (#[Value.int .i64 0, .slice A n c] : Array Value).size := infoP
  have hq1 := Q1.out
  go_upto_region 3 with (first | (refine wpList_load_row rfl 43 (.tmp 1) rfl B rfl 43 #[.int .i64 0, .slice A n c] (0, 0) _ hq1 Tryd.underlying43 rfl hzp ?_) | (go_at_call 52; refine (HFM.out _).mono ?_; rintro e w4 ⟨rfl, hb4⟩; have HB4 := Lib.hid hb4; clear hb4))
  replace Q1 := Lib.hid (wk.row_below Q1.out HB4.out)
  replace Q2 := Lib.hid (wk.row_below Q2.out HB4.out)
  have hc0 := cell2_0 Q1.out
  have hc1 := cell2_1 Q1.out
  have hBw : Below B w w4 := HB2.out.trans (HB4.out.mono (by have := HB2.out.size; have := HB.out; have := wk.row_lt hq1; omega))
  have hs4 : B + 1 < w4.heap.size := wk.row_lt Q2.out
  have HTw := Lib.hid (HT.out.below HT.out.1.1 (by rw [HB.out]; exact hBw))
  have HBW := Lib.hid hBw
  have he : emptyD.length = 16 := dig_length _ _
  clear hq1 hzp HB2 HB4 hBw
  go_wp2_with fail
  refine (empty_calls _ HTw.out).mono ?_
  rintro e w6 ⟨rfl, hb6⟩
  have hq2 := wk.row_below Q2.out hb6
  have HBF := Lib.hid (HBW.out.trans (hb6.mono (by have := wk.row_lt Q2.out; omega)))
  clear hb6
  have hz := dv_size he
  have hz3 : hi.z16.size = (wp.bc emptyD).length := by rw [bc_len he]; rfl
  unfold dv
  go_wp2_with (refine wk.store_row rfl 31 (.tmp 2) (.tmp 14) rfl (B + 1) (wp.bc emptyD) rfl rfl 31 hi.z16 hq2 hz hz3 (wk.ones_bc _) ?_)
  refine bodyPost_ret (v := .tuple #[dv emptyD, .int .i64 0]) (results_cellD_tmp (fn := Tryd.f26) rfl _ _ (B + 1) emptyD rfl (setRow_heap _ _ _ _ _ _ hq2) he) rfl ⟨rfl, ?_⟩
  rw [HB.out]
  exact wk.below_setRow HBF.out (by omega) _
/-- the root of a list's peaks -/
theorem topk_calls (l : List D) (A : Option Addr) (c : Nat) (w : World) (hl : l.length ≤ 40) (h : IsD w A (pkD l).length c (pkD l)) (hT : Tab w) :
    Calls Tryd.prog 26 #[pk (l.length : Nat) (.slice A (pkD l).length c)] w fun e w' => e = .returned (.tuple #[dv (rootD l), .int .i64 0]) ∧ Below w.heap.size w w' := by
  have hfm := fun w' => formed_40 hl (pkD_len l) A c w'
  rcases Nat.eq_zero_or_pos l.length with h0 | h0
  · have hr : rootD l = emptyD := rootD_nil h0
    rw [hr]
    rw [h0] at hfm ⊢
    exact top0_calls A _ c w hT hfm
  · have hp : 1 ≤ (pkD l).length := by
      obtain ⟨xs, b, hx, _⟩ := pks_last 64 0 l.length l (by omega) (by simp) h0
      unfold pkD; rw [hx]; simp
    have hle : (pkD l).length ≤ 100 := by rw [pkD_len]; have := pop_le 64 l.length; omega
    rw [← pkD_top h0 (by omega)]
    exact top_calls _ A _ c _ w h hT hp hle (by omega) hfm
end Go.Proofs.YtmjmkkdmphgdnaaDoor.mk
