/- The reference's: with. -/
import Derived.Test.YtmjmkkdmphgdnaaDoorNi

import Derived.Test.YtmjmkkdmphgdnaaDoorVal3

namespace Go.Proofs.YtmjmkkdmphgdnaaDoor.mk

open Go.ChangeShapes Go.WideShapes Go.ChangeAt Go.RowKit

set_option linter.unusedVariables false
theorem wp_appendO {o : Oper} {a : Act} {K : Act → World → Prop} {Q : Exit → Act → World → Prop} {w : World} (s x : Operand) (ho : o.op = .call { callee := .builtin .append, args := #[s, x], argTypes := #[22, 22] })
    (base : Nat) (v : Value) (m : Nat) (xs : List Value) (hs : a.eval s = v) (hown : w.ownsRow base 31 16 v m xs) (base2 : Nat) (v2 : Value) (n : Nat) (ys : List Value) (hx : a.eval x = v2) (h2 : w.ownsRow base2 31 16 v2 n ys) (hones : wk.Ones ys)
    (hb : m + n ≤ 1000000) (hbase : base ≤ w.heap.size)
    (h : ∀ v' w', w'.ownsRow base 31 16 v' (m + n) (xs ++ ys) → w.grownBy w' v.ownBlock → K (a.put o.dst v') w') : o.wp Tryd.prog a w K Q := by
  obtain ⟨i0, hi, hz0, hz1, hz2⟩ := info_parts infoDz
  rcases h2.2 with ⟨hv, hn⟩ | ⟨g, cap, cur, hv, hb2, hh, h3, h4, h5, h6⟩
  · subst hv
    subst hn
    have hy : ys = [] := List.eq_nil_of_length_eq_zero (by simpa using h2.1)
    subst hy
    have hrun := run_append_owned_none (P := Tryd.prog) (w := w) base 22 o.type 31 i0 16 Tryd.underlying22 hi v m xs hown
    have hk := h v w (by simpa using hown) (World.grownBy.refl w _)
    unfold Oper.wp
    simp [execOp, ho, resolve, invoke, builtin, hs, hx, hrun, Result.andThen]
    exact hk
  · subst hv
    refine wp_append_own w s x 22 ho base 31 i0 zeroD 16 16 Tryd.underlying22 hi hz0 hz1 hz2 rfl (by decide) v m xs hs hown ⟨g, 0, none⟩ n cap ys hx h2.1 (h2.cells rfl) hones (by unfold maxLen; omega) (by omega) hbase ?_
    intro v' w' h7 h8 _
    exact h v' w' h7 h8
def WRel (lo : Nat) (vs : Value) (n : Nat) (ys : List Value) (d : D) (L : Nat → Bool) : Nat → World → Value → Prop
  | 0, w, v => ∃ g, v = .slice (some ⟨g, 0, none⟩) 0 0 ∧ lo ≤ g ∧ (L 2 = false → w.heap[g]? = some (.cells #[] 31 (0, 0)))
  | 1, _, v => v = vs
  | 2, w, v => L 5 = false → w.ownsRow lo 31 16 v n ys
  | 3, _, v => v = dv d
  | 4, w, v => ∃ g, v = .slice (some ⟨g, 0, none⟩) 1 1 ∧ lo ≤ g ∧ (L 5 = false → w.heap[g]? = some (.cells (wp.bc d).toArray 31 (0, 0)))
  | 5, w, v => w.ownsRow lo 31 16 v (n + 1) (ys ++ wp.bc d)
  | 6, w, v => w.ownsRow lo 31 16 v (n + 1) (ys ++ wp.bc d)
  | _, _, _ => True
theorem WRel.next {lo : Nat} {vs : Value} {n : Nat} {ys : List Value} {d : D} {L L' : Nat → Bool} {w w' : World} (h2 : L' 2 = L 2) (h5 : L' 5 = L 5) (hb : Below w.heap.size w w') : ∀ j u, WRel lo vs n ys d L j w u → WRel lo vs n ys d L' j w' u
  | 0, u, ⟨g, q1, q2, q3⟩ => ⟨g, q1, q2, fun q => wk.row_below (q3 (h2 ▸ q)) hb⟩
  | 1, _, h => h
  | 2, u, h => fun q => wk.ownsRow_below (h (h5 ▸ q)) hb
  | 3, _, h => h
  | 4, u, ⟨g, q1, q2, q3⟩ => ⟨g, q1, q2, fun q => wk.row_below (q3 (h5 ▸ q)) hb⟩
  | 5, u, h => wk.ownsRow_below h hb
  | 6, u, h => wk.ownsRow_below h hb
  | _ + 7, _, _ => trivial
set_option maxRecDepth 100000 in
set_option maxHeartbeats 4000000 in
theorem rwith_calls (vs : Value) (n base2 : Nat) (ys : List Value) (d : D) (w : World) (hv : w.ownsRow base2 31 16 vs n ys) (hones : wk.Ones ys) (hd : d.length = 16) (hn : n ≤ 1000) :
    Calls Tryd.prog 59 #[vs, dv d] w fun e w' => ∃ v, e = .returned v ∧ w'.ownsRow w.heap.size 31 16 v (n + 1) (ys ++ wp.bc d) ∧ Below w.heap.size w w' := by
  have HV := Lib.hid hv
  have HD := Lib.hid hd
  clear hv hd
  unfold dv
  go_enter Tryd.func59, Tryd.ntmps59
  go_upto_region 1 with fail
  change Code.wp _ _ _ _ (w.alloc (.cells (wp.bc d).toArray 31))
  have hq := heap_alloc_new w (.cells (wp.bc d).toArray 31)
  have hb1 : Below w.heap.size w (w.alloc (.cells (wp.bc d).toArray 31)) := (Below.refl _ _).alloc (Nat.le_refl _) _
  have hsz : (w.alloc (.cells (wp.bc d).toArray 31)).heap.size = w.heap.size + 1 := Array.size_push ..
  have HV1 := Lib.hid (wk.ownsRow_below HV.out hb1)
  generalize w.alloc (.cells (wp.bc d).toArray 31) = w1 at *
  generalize hB : w.heap.size = B at *
  have HB := Lib.hid hB
  have HQ := Lib.hid hq
  have HB1 := Lib.hid hb1
  have HSZ := Lib.hid hsz
  clear hq hb1 hsz hB HV
  refine wk.region_lev2 7 (WRel w1.heap.size vs n ys d) [some 5, some 6, some 7, some 8, some 9, some 10, some 4] (fun L u => (L 5 = true → L 2 = true) ∧ (L 6 = true → L 5 = true) ∧ Below w1.drew.heap.size w1.drew u) ⟨(fun h => by cases h), (fun h => by cases h), Below.refl _ _⟩ (by kernel_rfl) (by kernel_rfl) (by kernel_rfl) (by kernel_rfl) (by kernel_rfl) (by kernel_rfl) ?hstep ?hdone
  case hstep =>
    intro i o ho hi E L w4 hS4 hL hdeps DG
    obtain ⟨hc5, hc6, hb4⟩ := hS4
    have hi2 : i = 0 ∨ i = 1 ∨ i = 2 ∨ i = 3 ∨ i = 4 ∨ i = 5 ∨ i = 6 := by omega
    clear hi
    rcases hi2 with rfl | rfl | rfl | rfl | rfl | rfl | rfl
    ·
      have ho2 := (Array.getElem?_eq_some_iff.1 ho).2
      simp only [List.getElem_toArray, List.getElem_cons_zero] at ho2
      subst ho2
      clear ho
      refine wk.Does.weak (R := fun w' v => ∃ g, v = .slice (some ⟨g, 0, none⟩) 0 0 ∧ w1.heap.size ≤ g ∧ w'.heap[g]? = some (.cells #[] 31 (0, 0))) ?_ fun w' v hb hr => ⟨(by obtain ⟨g, q1, q2, q3⟩ := hr; exact ⟨g, q1, q2, fun _ => q3⟩), fun j u _ _ => WRel.next rfl rfl hb j u, hc5, hc6, hb4.trans (hb.mono hb4.size)⟩
      exact wk.does_new (v := .slice (some ⟨w4.heap.size, 0, none⟩) 0 0) (w' := w4.alloc (.cells #[] 31)) (by unfold execOp; go_simp) ((Below.refl _ _).alloc (Nat.le_refl _) _) ⟨_, rfl, hb4.size, heap_alloc_new _ _⟩
    ·
      have ho2 := (Array.getElem?_eq_some_iff.1 ho).2
      simp only [List.getElem_toArray, List.getElem_cons_succ, List.getElem_cons_zero] at ho2
      subst ho2
      clear ho
      have e0 := DG.old 0 (by kernel_rfl)
      refine wk.Does.weak (R := fun _ v => v = vs) ?_ fun w' v hb hr => ⟨hr, fun j u _ _ => WRel.next rfl rfl hb j u, hc5, hc6, hb4.trans (hb.mono hb4.size)⟩
      exact wk.does_move rfl (by rw [e0]; rfl)
    ·
      have ho2 := (Array.getElem?_eq_some_iff.1 ho).2
      simp only [List.getElem_toArray, List.getElem_cons_succ, List.getElem_cons_zero] at ho2
      subst ho2
      clear ho
      have s5 : WRel w1.heap.size vs n ys d L 0 w4 (E (.tmp 5)) := DG.is { on := 0, ground := .data } (by simp) rfl 5 rfl
      have e6 : E (.tmp 6) = vs := DG.is { on := 1, ground := .data } (by simp) rfl 6 rfl
      obtain ⟨g, q1, q2, q3⟩ := s5
      have hrow := q3 hL
      have hown : w4.ownsRow w1.heap.size 31 16 (E (.tmp 5)) 0 [] := by
        rw [q1]; exact ⟨rfl, .inr ⟨g, 0, #[], rfl, q2, hrow, Nat.le_refl _, by unfold maxLen; omega, rfl, rfl⟩⟩
      have hnot5 : L 5 = false := by cases h : L 5; rfl; rw [hc5 h] at hL; cases hL
      have hvs : w4.ownsRow base2 31 16 (E (.tmp 6)) n ys := by rw [e6]; exact wk.ownsRow_below HV1.out ((Below.refl _ _).drew.trans hb4)
      intro a K hE hK
      refine wp_appendO (.tmp 5) (.tmp 6) rfl w1.heap.size _ 0 [] (by rw [hE]) hown base2 _ n ys (by rw [hE]) hvs hones (by omega) hb4.size ?_
      intro v' w' h7 h8
      have hblk : (E (.tmp 5)).ownBlock = some g := by rw [q1]; rfl
      refine hK v' w' ⟨fun _ => by simpa using h7, fun j u hj hu hr => ?_, fun _ => rfl, fun h => hc6 h, hb4.grown h8 hb4.size (fun k hk => (hown.lt k hk).1)⟩
      match j, hr with
      | 0, ⟨g', p1, p2, p3⟩ => exact ⟨g', p1, p2, fun h => by cases h⟩
      | 1, hr => exact hr
      | 2, hr => rw [hL] at hj; cases hj
      | 3, hr => exact hr
      | 4, ⟨g', p1, p2, p3⟩ =>
        refine ⟨g', p1, p2, fun h5 => ?_⟩
        have hr4 := p3 hnot5
        have hne : g' ≠ g := by
          rintro rfl
          rw [hrow] at hr4
          injection hr4 with hr4
          injection hr4 with h9 _ _
          have := congrArg Array.size h9
          have h10 : 0 = (wp.bc d).length := this
          rw [bc_len HD.out] at h10
          cases h10
        rw [hblk] at h8
        exact (h8.block g' (wk.row_lt hr4) (fun e => hne (by injection e))).trans hr4
      | 5, hr => rw [hnot5] at hj; cases hj
      | 6, hr => rw [hc6 hj] at hnot5; cases hnot5
      | _ + 7, _ => trivial
    ·
      have ho2 := (Array.getElem?_eq_some_iff.1 ho).2
      simp only [List.getElem_toArray, List.getElem_cons_succ, List.getElem_cons_zero] at ho2
      subst ho2
      clear ho
      have e3 := DG.old 3 (by kernel_rfl)
      refine wk.Does.weak (R := fun _ v => v = dv d) ?_ fun w' v hb hr => ⟨hr, fun j u _ _ => WRel.next rfl rfl hb j u, hc5, hc6, hb4.trans (hb.mono hb4.size)⟩
      exact wk.does_load_row rfl (by rw [e3]; rfl) (wk.row_below HQ.out ((Below.refl _ _).drew.trans hb4)) Tryd.underlying31 rfl (dv_sizeA HD.out) rfl
    ·
      have ho2 := (Array.getElem?_eq_some_iff.1 ho).2
      simp only [List.getElem_toArray, List.getElem_cons_succ, List.getElem_cons_zero] at ho2
      subst ho2
      clear ho
      have e8 : E (.tmp 8) = dv d := DG.is { on := 3, ground := .data } (by simp) rfl 8 rfl
      refine wk.Does.weak (R := fun w' v => ∃ g, v = .slice (some ⟨g, 0, none⟩) 1 1 ∧ w1.heap.size ≤ g ∧ w'.heap[g]? = some (.cells (wp.bc d).toArray 31 (0, 0))) ?_ fun w' v hb hr => ⟨(by obtain ⟨g, q1, q2, q3⟩ := hr; exact ⟨g, q1, q2, fun _ => q3⟩), fun j u _ _ => WRel.next rfl rfl hb j u, hc5, hc6, hb4.trans (hb.mono hb4.size)⟩
      exact wk.does_new (v := .slice (some ⟨w4.heap.size, 0, none⟩) 1 1) (w' := w4.alloc (.cells (wp.bc d).toArray 31)) (run_build1 (o := _) (x := .tmp 8) rfl e8 HD.out) ((Below.refl _ _).alloc (Nat.le_refl _) _) ⟨_, rfl, hb4.size, heap_alloc_new _ _⟩
    ·
      have ho2 := (Array.getElem?_eq_some_iff.1 ho).2
      simp only [List.getElem_toArray, List.getElem_cons_succ, List.getElem_cons_zero] at ho2
      subst ho2
      clear ho
      have s7 : WRel w1.heap.size vs n ys d L 2 w4 (E (.tmp 7)) := DG.is { on := 2, ground := .data } (by simp) rfl 7 rfl
      have s9 : WRel w1.heap.size vs n ys d L 4 w4 (E (.tmp 9)) := DG.is { on := 4, ground := .data } (by simp) rfl 9 rfl
      have hL2 : L 2 = true := hdeps { on := 2, ground := .data } (by simp) rfl
      have hown := s7 hL
      obtain ⟨g, q1, q2, q3⟩ := s9
      have hrow := q3 hL
      have hsrc : w4.ownsRow w1.heap.size 31 16 (E (.tmp 9)) 1 (wp.bc d) := by
        rw [q1]; exact ⟨by rw [bc_len HD.out], .inr ⟨g, 1, (wp.bc d).toArray, rfl, q2, hrow, Nat.le_refl _, by unfold maxLen; omega, by rw [List.size_toArray, bc_len HD.out], List.take_of_length_le (by show (wp.bc d).length ≤ _; rw [bc_len HD.out]; omega)⟩⟩
      intro a K hE hK
      refine wp_appendO (.tmp 7) (.tmp 9) rfl w1.heap.size _ n ys (by rw [hE]) hown w1.heap.size _ 1 (wp.bc d) (by rw [hE]) hsrc (wk.ones_bc d) (by omega) hb4.size ?_
      intro v' w' h7 h8
      refine hK v' w' ⟨h7, fun j u hj hu hr => ?_, fun _ => hL2, fun h => rfl, hb4.grown h8 hb4.size (fun k hk => (hown.lt k hk).1)⟩
      match j, hr with
      | 0, ⟨g', p1, p2, p3⟩ => exact ⟨g', p1, p2, fun h => by have h' : L 2 = false := h; rw [hL2] at h'; cases h'⟩
      | 1, hr => exact hr
      | 2, hr => exact fun h => by cases h
      | 3, hr => exact hr
      | 4, ⟨g', p1, p2, p3⟩ => exact ⟨g', p1, p2, fun h => by cases h⟩
      | 5, hr => rw [hL] at hj; cases hj
      | 6, hr => rw [hc6 hj] at hL; cases hL
      | _ + 7, _ => trivial
    ·
      have ho2 := (Array.getElem?_eq_some_iff.1 ho).2
      simp only [List.getElem_toArray, List.getElem_cons_succ, List.getElem_cons_zero] at ho2
      subst ho2
      clear ho
      have s10 : WRel w1.heap.size vs n ys d L 5 w4 (E (.tmp 10)) := DG.is { on := 5, ground := .data } (by simp) rfl 10 rfl
      have hL5 : L 5 = true := hdeps { on := 5, ground := .data } (by simp) rfl
      refine wk.Does.weak (R := fun w' v => w'.ownsRow w1.heap.size 31 16 v (n + 1) (ys ++ wp.bc d)) ?_ fun w' v hb hr => ⟨hr, fun j u _ _ => WRel.next rfl rfl hb j u, hc5, fun _ => hL5, hb4.trans (hb.mono hb4.size)⟩
      exact wk.does_assign rfl s10
  case hdone =>
    intro vals L w4 hall hS4 hv
    obtain ⟨_, _, hb4⟩ := hS4
    have h6 : w4.ownsRow w1.heap.size 31 16 (vals 6) (n + 1) (ys ++ wp.bc d) := hv 6 (by omega)
    clear hv hall
    simp only [List.drop_succ_cons, List.drop_zero, List.drop_nil, wpList, wk.setL, List.setIfInBounds_toArray, List.set_cons_zero, List.set_cons_succ, Nat.zero_add, Nat.reduceAdd]
    generalize vals 0 = x0
    generalize vals 1 = x1
    generalize vals 2 = x2
    generalize vals 3 = x3
    generalize vals 4 = x4
    generalize vals 5 = x5
    generalize vals 6 = v at *
    have hbf : Below B w w4 := HB1.out.trans (((Below.refl w1.heap.size w1).drew.trans hb4).mono (by have := HSZ.out; omega))
    have H6 := Lib.hid (ownsRow_weak h6 (show B ≤ w1.heap.size by have := HSZ.out; omega))
    have HBF := Lib.hid hbf
    clear h6 hbf hb4
    go_wp2_with fail
    go_ret
    exact ⟨_, rfl, by rw [HB.out]; exact H6.out, by rw [HB.out]; exact HBF.out⟩
end Go.Proofs.YtmjmkkdmphgdnaaDoor.mk
