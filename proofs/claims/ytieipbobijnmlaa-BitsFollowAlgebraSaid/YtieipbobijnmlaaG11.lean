/- Joined: Kj Kk Kl Km Kn Ko Kp Kq. -/
import Derived.Test.YtieipbobijnmlaaG10

import Derived.Shelf.Sort.Plain

import Derived.Shelf.Slices.In.SortNone

import Derived.Shelf.Slices.CompactI

import Derived.Lib.OwnBridge

import Derived.BigQuiet
/- The slots of a set, yielded. -/
namespace Go.Proofs.Ytieipbobijnmlaa.tk

open Go.ChangeShapes Go.WideShapes Go.ChangeAt Go.RowKit

open Go.Proofs.Ytieipbobijnmlaa.tq Go.Proofs.Ytieipbobijnmlaa.uk Go.Proofs.Ytieipbobijnmlaa.bk Go.Proofs.Ytieipbobijnmlaa.vk Go.Proofs.Ytieipbobijnmlaa.wk

set_option linter.unusedVariables false
attribute [local go_sem] Oper.semAt_some
set_option maxRecDepth 100000 in
set_option maxHeartbeats 4000000 in
theorem runs1_gen (mm l Bc : Nat) (Kr : World → World → Prop) (hKr : ∀ A, Kr A A) (hKt : ∀ {A B C : World}, Kr A B → Kr B C → Kr A C) (hKw : ∀ A B, Below A.heap.size A B → Kr A B) (A : Option Addr) (n c m : Nat) (b : List Int) (hok : Ok b) (hnm : n = 2 * m)
    (J Jx : List (Nth m) → World → Prop) (W : World) (hX : ∀ w', Kr W w' → wo.IsI w' A n c b) (hBx : ∀ w', Kr W w' → Box w' Bc (.slice A n c)) (hJ : AbidesFrom W.heap.size J)
    (hY : ∀ pre x W, J pre W → pre.length < m → YieldAt Fence.wide (mm - 1) Try.prog l (encr b x) W fun e W' =>
      (e = .returned (.bool true) ∧ J (pre ++ [x]) W' ∧ Kr W W') ∨ (e = .returned (.bool false) ∧ Jx (pre ++ [x]) W'))
    (hAb : ∀ w', Kr W w' → W.heap.size ≤ w'.heap.size) (h0 : J [] W) :
    CallsIn Fence.wide mm Try.prog 63 #[.func (.yield l) #[] #[], .pointer (some ⟨Bc, 0, none⟩)] W fun e W' => (∃ v, e = .returned v) ∧
      ((∃ ys, ys.map (·.1) = List.range m ∧ J ys W') ∨ (∃ pre, pre.map (·.1) = List.range pre.length ∧ Jx pre W')) := by
  refine callsIn_of_wp Try.func63 rfl trivial ?_ rfl
  simp only [Try.ntmps63, List.size_toArray, List.length_cons, List.length_nil, Nat.reduceAdd, Nat.reduceSub, Array.replicate_succ, Array.replicate_zero, List.push_toArray, List.append_toArray, List.nil_append, List.cons_append]
  have h1 := hBx W (hKr W)
  have hi := hX W (hKr W)
  have hln := hi.1
  have hmn := hi.2.2.1
  have hnc := hi.2.1
  have hm2 : m = b.length / 2 := by omega
  have hn4 : n ≤ 4097 := by have := ok_len hok; omega
  have HNM := Lib.hid (And.intro hnm (And.intro hm2 hln))
  have H1 := Lib.hid h1
  have HXX := Lib.hid hX
  have HOK := Lib.hid hok
  have hc1 := h1.cell
  clear h1 hX hi hok hnm hm2 hln
  gi_wp2
  gi_loopw [3] (fun i wr => ∃ (k : Nat) (pre : List (Nth m)), k ≤ m ∧ i = .int .i64 (2 * (k : Int) + 1) ∧ pre.map (·.1) = List.range k ∧ J pre wr ∧ Kr W wr)
    (fun i _ => n + 1 - (intOf i).toNat)
  case atStart => exact ⟨0, [], Nat.zero_le _, by simp, rfl, h0, hKr W⟩
  case round =>
    obtain ⟨k, pre, hk, rfl, hpre, hJs, hx⟩ := hrel
    have HBw := Lib.hid (hBx wr hx)
    have hq1 := HBw.out.cell
    have HJS := Lib.hid hJs
    have HPRE := Lib.hid hpre
    have HX := Lib.hid hx
    clear hJs hpre hx
    by_cases hlt : k < m
    · obtain ⟨hx0, hx1, hl0, hl1, hl2⟩ := run_of HOK.out (show k < b.length / 2 by have := HNM.out; omega)
      have hnm2 := HNM.out.1
      have hIr := HXX.out wr HX.out
      obtain ⟨-, b0, o0, eA, -⟩ := vk.isI_get hIr hx0
      subst eA
      have HC0 : Hid (∀ u, Below wr.heap.size wr u → u.cell? ⟨b0, o0 + 2 * k, none⟩ = some (.int .i64 (rlo b k))) := fun u hu => by
        obtain ⟨-, b', o', e, hc⟩ := vk.isI_get (vk.isI_below hIr hu) hx0; cases e; exact hc
      have HC1 : Hid (∀ u, Below wr.heap.size wr u → u.cell? ⟨b0, o0 + (2 * k + 1), none⟩ = some (.int .i64 (rhi b k))) := fun u hu => by
        obtain ⟨-, b', o', e, hc⟩ := vk.isI_get (vk.isI_below hIr hu) hx1; cases e; exact hc
      have hlt2 : 2 * (k : Int) + 1 < (n : Int) := by omega
      have hlt3 : 2 * (k : Int) < (n : Int) := by omega
      have h01 : (0 : Int) ≤ 2 * (k : Int) + 1 := by omega
      have h02 : (0 : Int) ≤ 2 * (k : Int) := by omega
      have ht1 : (2 * (k : Int) + 1).toNat = 2 * k + 1 := by omega
      have ht2 : (2 * (k : Int)).toNat = 2 * k := by omega
      have HMAX : Hid (max (rlo b k) 0 = rlo b k) := by show _ = _; omega
      have HMIN : Hid (min (rhi b k) 4096 = rhi b k) := by show _ = _; omega
      clear hIr hx0 hx1 hnm2
      gi_wp2
      refine wk.region_tailY (by kernel_rfl) 12 [.is (.func (.yield l) #[] #[]), .is (.slice (some ⟨b0, o0, none⟩) n c), .is (.int .i64 (2 * (k : Int) + 1)), .is (.int .i64 (2 * (k : Int))), .is (.pointer (some ⟨b0, o0 + 2 * k, none⟩)), .is (.int .i64 (rlo b k)), .is (.int .i64 (rlo b k)), .is (.slice (some ⟨b0, o0, none⟩) n c), .is (.int .i64 (2 * (k : Int) + 1)), .is (.pointer (some ⟨b0, o0 + (2 * k + 1), none⟩)), .is (.int .i64 (rhi b k)), .is (.int .i64 (rhi b k))] [some 10, some 11, some 12, some 13, some 14, some 15, some 16, some 17, some 18, some 19, some 20, some 21] (by kernel_rfl) (by kernel_rfl) (by kernel_rfl) (by kernel_rfl) [] (by kernel_rfl) (by intro p hp; cases hp) (by kernel_rfl) (by kernel_rfl) ?hstep ?hdone
      case hstep =>
        intro i o ho hi hns E w4 hb4 D
        have hi2 : i = 0 ∨ i = 1 ∨ i = 2 ∨ i = 3 ∨ i = 4 ∨ i = 5 ∨ i = 6 ∨ i = 7 ∨ i = 8 ∨ i = 9 ∨ i = 10 ∨ i = 11 := by omega
        clear hi
        rcases hi2 with rfl | rfl | rfl | rfl | rfl | rfl | rfl | rfl | rfl | rfl | rfl | rfl
        ·
          have ho2 := (Array.getElem?_eq_some_iff.1 ho).2
          simp only [List.getElem_toArray, List.getElem_cons_zero] at ho2
          subst ho2
          clear ho
          have e0 := D.old 0 (by kernel_rfl)
          exact wk.does_move rfl (by rw [e0]; rfl)
        ·
          have ho2 := (Array.getElem?_eq_some_iff.1 ho).2
          simp only [List.getElem_toArray, List.getElem_cons_succ, List.getElem_cons_zero] at ho2
          subst ho2
          clear ho
          have e1 := D.old 1 (by kernel_rfl)
          exact wk.does_load1 rfl (show E (.tmp 1) = .pointer (some ⟨Bc, 0, none⟩) by rw [e1]; rfl) ((HBw.out.below ((Below.refl _ _).drew.trans hb4)).cell) Try.underlying23 rfl rfl
        ·
          have ho2 := (Array.getElem?_eq_some_iff.1 ho).2
          simp only [List.getElem_toArray, List.getElem_cons_succ, List.getElem_cons_zero] at ho2
          subst ho2
          clear ho
          have e3 := D.old 3 (by kernel_rfl)
          exact wk.does_move rfl (by rw [e3]; rfl)
        ·
          have ho2 := (Array.getElem?_eq_some_iff.1 ho).2
          simp only [List.getElem_toArray, List.getElem_cons_succ, List.getElem_cons_zero] at ho2
          subst ho2
          clear ho
          have e12 := D.is { on := 2, ground := .data } (by simp) rfl rfl 12 rfl
          exact wk.does_run (by simp only [execOp]; rw [show E (.tmp 12) = _ from e12, show E (.const (.int .i64 1)) = .int .i64 1 from D.con _]; go_simp; try (rw [IntKind.wrap_i64]; omega)) rfl
        ·
          have ho2 := (Array.getElem?_eq_some_iff.1 ho).2
          simp only [List.getElem_toArray, List.getElem_cons_succ, List.getElem_cons_zero] at ho2
          subst ho2
          clear ho
          have e11 := D.is { on := 1, ground := .data } (by simp) rfl rfl 11 rfl
          have e13 := D.is { on := 3, ground := .data } (by simp) rfl rfl 13 rfl
          exact wk.does_run (by simp only [execOp]; rw [show E (.tmp 11) = _ from e11, show E (.tmp 13) = _ from e13]; go_simp; try (intro h0; omega)) rfl
        ·
          have ho2 := (Array.getElem?_eq_some_iff.1 ho).2
          simp only [List.getElem_toArray, List.getElem_cons_succ, List.getElem_cons_zero] at ho2
          subst ho2
          clear ho
          have e14 := D.is { on := 4, ground := .data } (by simp) rfl rfl 14 rfl
          exact wk.does_load1 rfl e14 (HC0.out _ ((Below.refl _ _).drew.trans hb4)) Try.underlying3 rfl rfl
        ·
          have ho2 := (Array.getElem?_eq_some_iff.1 ho).2
          simp only [List.getElem_toArray, List.getElem_cons_succ, List.getElem_cons_zero] at ho2
          subst ho2
          clear ho
          have e15 := D.is { on := 5, ground := .data } (by simp) rfl rfl 15 rfl
          exact wk.does_run (v := .int .i64 (rlo b k)) (by unfold execOp; simp only [resolve, invoke, builtin, Sem.run_bind, Sem.run_pure, Result.andThen_ok, List.map_toArray, List.map_cons, List.map_nil]; rw [show E (.tmp 15) = _ from e15, show E (.const (.int .i64 0)) = .int .i64 0 from D.con _]; go_simp; try rw [HMAX.out]) rfl
        ·
          have ho2 := (Array.getElem?_eq_some_iff.1 ho).2
          simp only [List.getElem_toArray, List.getElem_cons_succ, List.getElem_cons_zero] at ho2
          subst ho2
          clear ho
          have e1 := D.old 1 (by kernel_rfl)
          exact wk.does_load1 rfl (show E (.tmp 1) = .pointer (some ⟨Bc, 0, none⟩) by rw [e1]; rfl) ((HBw.out.below ((Below.refl _ _).drew.trans hb4)).cell) Try.underlying23 rfl rfl
        ·
          have ho2 := (Array.getElem?_eq_some_iff.1 ho).2
          simp only [List.getElem_toArray, List.getElem_cons_succ, List.getElem_cons_zero] at ho2
          subst ho2
          clear ho
          have e3 := D.old 3 (by kernel_rfl)
          exact wk.does_move rfl (by rw [e3]; rfl)
        ·
          have ho2 := (Array.getElem?_eq_some_iff.1 ho).2
          simp only [List.getElem_toArray, List.getElem_cons_succ, List.getElem_cons_zero] at ho2
          subst ho2
          clear ho
          have e17 := D.is { on := 7, ground := .data } (by simp) rfl rfl 17 rfl
          have e18 := D.is { on := 8, ground := .data } (by simp) rfl rfl 18 rfl
          exact wk.does_run (by simp only [execOp]; rw [show E (.tmp 17) = _ from e17, show E (.tmp 18) = _ from e18]; go_simp; try (intro h0; omega)) rfl
        ·
          have ho2 := (Array.getElem?_eq_some_iff.1 ho).2
          simp only [List.getElem_toArray, List.getElem_cons_succ, List.getElem_cons_zero] at ho2
          subst ho2
          clear ho
          have e19 := D.is { on := 9, ground := .data } (by simp) rfl rfl 19 rfl
          exact wk.does_load1 rfl e19 (HC1.out _ ((Below.refl _ _).drew.trans hb4)) Try.underlying3 rfl rfl
        ·
          have ho2 := (Array.getElem?_eq_some_iff.1 ho).2
          simp only [List.getElem_toArray, List.getElem_cons_succ, List.getElem_cons_zero] at ho2
          subst ho2
          clear ho
          have e20 := D.is { on := 10, ground := .data } (by simp) rfl rfl 20 rfl
          exact wk.does_run (v := .int .i64 (rhi b k)) (by unfold execOp; simp only [resolve, invoke, builtin, Sem.run_bind, Sem.run_pure, Result.andThen_ok, List.map_toArray, List.map_cons, List.map_nil]; rw [show E (.tmp 20) = _ from e20, show E (.const (.int .i64 4096)) = .int .i64 4096 from D.con _]; go_simp; try rw [HMIN.out]) rfl
      case hdone =>
        intro vals w4 hb4 hv
        have h0 := hv 0 (by omega)
        have h6 := hv 6 (by omega)
        have h11 := hv 11 (by omega)
        clear hv
        replace h0 : vals 0 = (.func (.yield l) #[] #[]) := h0
        replace h6 : vals 6 = (.int .i64 (rlo b k)) := h6
        replace h11 : vals 11 = (.int .i64 (rhi b k)) := h11
        simp only [List.drop_succ_cons, List.drop_zero, wk.setL, List.setIfInBounds_toArray, List.set_cons_zero, List.set_cons_succ, Nat.zero_add, Nat.reduceAdd, h0, h6, h11]
        generalize vals 1 = x1
        generalize vals 2 = x2
        generalize vals 3 = x3
        generalize vals 4 = x4
        generalize vals 5 = x5
        generalize vals 7 = x7
        generalize vals 8 = x8
        generalize vals 9 = x9
        generalize vals 10 = x10
        have hb5 := ((Below.refl _ _).drew.trans hb4)
        have hJ5 : J pre w4 := hJ _ _ _ none HJS.out (grown_of hb5) (by intro r hr; cases hr)
        obtain ⟨fn, tmps, assign, body, hy, hR⟩ := hY pre ⟨k, hlt⟩ w4 hJ5 (by rw [len_range HPRE.out]; exact hlt)
        have hcb1 := (HBw.out.below hb5).cell
        have HX5 := Lib.hid (hKt HX.out (hKw _ _ hb5))
        unfold encr at hy
        dsimp only at hy
        clear hb5 hb4 hJ5
        gi_wp2
        refine ⟨(fun hh => by cases hh), hR.mono ?_⟩
        rintro e W3 (⟨rfl, hJ3, hk4⟩ | ⟨rfl, hJx3⟩)
        · have hx6 := hKt HX5.out hk4
          have hz1 := (hBx W3 hx6).cell
          have HX6 := Lib.hid hx6
          clear hx6
          gi_wp2
          go_roundw
          case rel => exact ⟨k + 1, _, by omega, by go_num, map_snoc pre ⟨k, hlt⟩ HPRE.out, hJ3, HX6.out⟩
          case measure => have := HNM.out; simp [intOf]; omega
        · gi_wp2
          refine bodyPost_ret (results_none rfl _ _ _) rfl ?_
          exact ⟨⟨_, rfl⟩, .inr ⟨_, by rw [List.length_append, List.length_singleton, len_range HPRE.out]; exact map_snoc pre ⟨k, hlt⟩ HPRE.out, hJx3⟩⟩
    · obtain rfl : m = k := by omega
      have hlt2 : ¬ 2 * (m : Int) + 1 < (n : Int) := by have := HNM.out; omega
      gi_wp2
      go_end0
      exact ⟨⟨_, rfl⟩, .inl ⟨_, HPRE.out, HJS.out⟩⟩
theorem range_gen {g : Operand} {p1 p2 : Nat} {assign body : Code} {Q : Exit → Act → World → Prop} {T : Array Value} {w : World} (Bc : Nat) (Kr : World → World → Prop) (hKr : ∀ A, Kr A A) (hKt : ∀ {A B C : World}, Kr A B → Kr B C → Kr A C) (hKw : ∀ A B, Below A.heap.size A B → Kr A B) (hKs : ∀ A B, Kr A B → A.heap.size ≤ B.heap.size)
    (hKg : ∀ (W W' : World) (r : Nat), W.grownBy W' (some r) → (w.heap.size ≤ r ∧ ∃ o : Obj, W.heap[r]? = some o ∧ o.isCells = false) → Kr W W') (hKb : ∀ (W : World) (l : Nat) (o o' : Obj), w.heap.size ≤ l → W.heap[l]? = some o → o.isCells = false → o.isWalk = false → Kr W (W.putObj l o'))
    (A : Option Addr) (n c m : Nat) (b : List Int) (hok : Ok b) (hnm : n = 2 * m)
    (hg : Act.eval { tmps := T, defers := [] } g = .func (.func 63) #[] #[.pointer (some ⟨Bc, 0, none⟩)])
    (hX : ∀ w', Kr w w' → wo.IsI w' A n c b) (hBx : ∀ w', Kr w w' → Box w' Bc (.slice A n c))
    (I : List (Nth m) → World → Prop) (hI : OwnFrom w.heap.size I) (h0 : I [] w)
    (F : Nth m → Act)
    (hassign : ∀ (l mm : Nat) (x : Nth m) (W : World) (K : Act → World → Prop), K (F x) W →
      assign.wpIn (Fence.wide.inRound l) mm Try.prog (Exit.then K (fun _ _ _ => False)) { tmps := (T.setIfInBounds p1 (.int .i64 (rlo b x.1))).setIfInBounds p2 (.int .i64 (rhi b x.1)), defers := [] } W)
    (hbody : ∀ (l mm : Nat) (pre : List (Nth m)) (x : Nth m) (W : World), Kr w W → I pre W → pre.length < m →
      body.wpIn (Fence.wide.inRound l) mm Try.prog (postO w.heap.size Kr I (pre ++ [x]) W) (F x) W)
    (hdone : ∀ (D : Nat) (ys : List (Nth m)) (W : World), w.heap.size ≤ D → ys.map (·.1) = List.range m → Kr w W → I ys W → W.heap[D]? = some (.deferred (some [])) → Q .normal { tmps := T, defers := [{ target := .collected D, args := #[] }] } W) :
    (Code.rangeFunc g #[p1, p2] assign body).wp Try.prog Q { tmps := T, defers := [] } w := by
  have hKo : OwnFrom w.heap.size (fun (_ : List (Nth m)) W => Kr w W) := fun s W W' row hs hg hr => hKt hs (by
    cases row with
    | none => exact hKw _ _ ⟨hg.os, hg.tape, hg.output, hg.size, fun k hk => hg.block k hk (by simp)⟩
    | some r0 => exact hKg W W' r0 hg (hr r0 rfl))
  refine wpIn_wide.1 (wpIn_rangeFunc_ownH (F := Fence.wide) (n := 4) (w := w) (w0 := w) rfl (by omega) hg trivial (fun args w' => by kernel_rfl)
    (encs := encr b) (Kp := Kr) (S := fun ys => ys.map (·.1) = List.range m) (Sp := fun _ => True) (N := m) ?seq
    hKt hKb (Below.refl _ _) (fun x => by simp [encr])
    (fun pre W => I pre W ∧ Kr w W) (fun _ _ _ => False)
    (OwnFrom.and hI hKo) (fun c s W W' row hs _ _ => hs) ⟨h0, hKr w⟩
    (fun x a' W => a' = F x) ?hAx ?hassign ?hbody ?hdone ?hstop)
  case seq =>
    intro l J Jx W hW hJ hJx hY hJ0
    have hwW : Kr w W := hKw _ _ hW
    refine (runs1_gen 3 l Bc Kr hKr hKt hKw A n c m b hok hnm J Jx W (fun w' hk => hX w' (hKt hwW hk)) (fun w' hk => hBx w' (hKt hwW hk)) hJ hY (fun w' hk => hKs _ _ hk) hJ0).mono ?_
    rintro e W' ⟨he, ⟨ys, hy, hj⟩ | ⟨pre, _, hj⟩⟩
    · exact ⟨he, .inl ⟨ys, hy, hj⟩⟩
    · exact ⟨he, .inr ⟨pre, trivial, hj⟩⟩
  case hAx =>
    rintro x a' u W W' row h1 hg' hr
    exact h1
  case hassign =>
    rintro l pre x W K ⟨hi, hx⟩ hK
    have e : (#[p1, p2].zip (encr b x)).foldl (fun t (q : Nat × Value) => t.setIfInBounds q.1 q.2) T = (T.setIfInBounds p1 (.int .i64 (rlo b x.1))).setIfInBounds p2 (.int .i64 (rhi b x.1)) := by simp [encr]
    have := hassign l (4 - 1 - 1) x W K (hK _ _ (KeepsFrom.refl _ _) (hKr _) ⟨hi, hx⟩ rfl)
    rw [← e] at this
    exact this
  case hbody =>
    rintro l pre x a' W hl hr ⟨hi, hx⟩ rfl hlen'
    refine wpIn_mono (hbody l _ pre x W hx hi hlen') ?_
    intro e a3 W3 hp
    cases e with
    | normal => exact ⟨hp.1, hp.2.1, hp.2.2, hKt hx hp.2.1⟩
    | ret => exact hp.elim
    | exit id => exact hp.elim
    | goto t => exact hp.elim
    | panic c => exact hp.elim
    | outgrown => exact hp.elim
  case hdone => rintro D ys W hD hy ⟨hi, hx⟩ hK; exact hdone D ys W hD hy hx hi hK
  case hstop => rintro D c pre W hD _ hf hK; exact hf.elim
/-- nothing below B but the blocks M, and no row of another type than int, turns -/
def KT (M : List Nat) (B : Nat) (A C : World) : Prop := Exc M B A C ∧ ∀ k cs t z, A.heap[k]? = some (.cells cs t z) → t ≠ 3 → k ∉ M → C.heap[k]? = A.heap[k]?
theorem KT.refl (M : List Nat) (B : Nat) (A : World) : KT M B A A := ⟨Exc.refl _ _ _, fun _ _ _ _ _ _ _ => rfl⟩
theorem KT.trans {M : List Nat} {B : Nat} {A C D : World} (h : KT M B A C) (k : KT M B C D) : KT M B A D :=
  ⟨h.1.trans k.1, fun i cs t z hi ht hm => by
    have e := h.2 i cs t z hi ht hm
    exact (k.2 i cs t z (e.trans hi) ht hm).trans e⟩
theorem KT.of_below {M : List Nat} {B : Nat} {A C : World} (h : Below A.heap.size A C) (hB : B ≤ A.heap.size) : KT M B A C :=
  ⟨Exc.of_below (h.mono hB), fun i cs t z hi _ _ => h.block i (Array.getElem?_eq_some_iff.1 hi).1⟩
theorem KT.grown {M : List Nat} {B : Nat} {A C : World} {r : Nat} (h : A.grownBy C (some r)) (hr : B ≤ r) (ho : ∃ o : Obj, A.heap[r]? = some o ∧ o.isCells = false) (hB : B ≤ A.heap.size) : KT M B A C := by
  obtain ⟨o, ho, hc⟩ := ho
  refine ⟨⟨h.os, h.tape, h.output, h.size, fun k hk _ => h.block k (by omega) (by simp; omega)⟩, fun i cs t z hi _ _ => h.block i (Array.getElem?_eq_some_iff.1 hi).1 ?_⟩
  intro e
  have e : i = r := by simpa using e
  subst e
  rw [ho] at hi; cases hi; cases hc
theorem KT.put {M : List Nat} {B : Nat} {W : World} {l : Nat} {o : Obj} (o' : Obj) (hl : B ≤ l) (ho : W.heap[l]? = some o) (hc : o.isCells = false) : KT M B W (W.putObj l o') := by
  refine ⟨Exc.put _ hl, fun i cs t z hi _ _ => World.putObj_heap_other ?_⟩
  rintro rfl
  rw [ho] at hi; cases hi; cases hc
theorem callsIn_any {n m : Nat} {f : FuncId} {args : Array Value} {w : World} {R : Ending → World → Prop} (h : CallsIn Fence.wide n Try.prog f args w R) : CallsIn Fence.wide m Try.prog f args w R := ⟨h.1, fun cs _ => h.2 cs (room_wide _)⟩
theorem yieldAt_in {n m l l2 : Nat} {args : Array Value} {w : World} {R : Ending → World → Prop} (h : YieldAt Fence.wide n Try.prog l args w R) : YieldAt (Fence.wide.inRound l2) m Try.prog l args w R := by
  obtain ⟨fn, tmps, assign, body, hy, hR⟩ := h
  exact ⟨fn, tmps, assign, body, hy, ⟨hR.1, fun c cs _ => hR.2 c cs (room_wide _)⟩⟩
end Go.Proofs.Ytieipbobijnmlaa.tk
/- The slots of a set, yielded: the iterator. -/
namespace Go.Proofs.Ytieipbobijnmlaa.tk

open Go.ChangeShapes Go.WideShapes Go.ChangeAt Go.RowKit

open Go.Proofs.Ytieipbobijnmlaa.tq Go.Proofs.Ytieipbobijnmlaa.uk Go.Proofs.Ytieipbobijnmlaa.bk Go.Proofs.Ytieipbobijnmlaa.vk Go.Proofs.Ytieipbobijnmlaa.wk

set_option linter.unusedVariables false
attribute [local go_sem] Oper.semAt_some
def Kr4 (M : List Nat) (B : Nat) (A C : World) : Prop := A.heap.size ≤ C.heap.size ∧ (B ≤ A.heap.size → KT M B A C)
theorem Kr4.refl (M : List Nat) (B : Nat) (A : World) : Kr4 M B A A := ⟨Nat.le_refl _, fun _ => KT.refl _ _ _⟩
theorem Kr4.trans {M : List Nat} {B : Nat} {A C D : World} (h : Kr4 M B A C) (k : Kr4 M B C D) : Kr4 M B A D := ⟨Nat.le_trans h.1 k.1, fun hB => (h.2 hB).trans (k.2 (Nat.le_trans hB h.1))⟩
theorem Kr4.of_below {M : List Nat} {B : Nat} {A C : World} (h : Below A.heap.size A C) : Kr4 M B A C := ⟨h.size, fun hB => KT.of_below h hB⟩
def KpO (M : List Nat) (B : Nat) (A C : World) : Prop := Kr4 M B A C ∧ KeepsFrom (B + 2) A C
theorem leave_markN {fn : Func} {tmps : Array Value} {D : Nat} {W : World} {R : Ending → World → Prop} {P : Program} {v : Value} (hK : W.heap[D]? = some (.deferred (some [])))
    (hr : (results fn tmps).run P (W.putObj D (.deferred none)) = .ok v (W.putObj D (.deferred none))) (hR : R (.returned v) (W.putObj D (.deferred none))) :
    bodyPostM Fence.wide 4 P fn R .normal { tmps := tmps, defers := [{ target := .collected D, args := #[] }] } W :=
  ⟨by simp, .inl ⟨_, _, rfl, run_takeDeferred hK, ⟨_, hr, hR⟩⟩⟩
def catp (b : List Int) {m : Nat} (pre : List (Nth m)) : List Int := pre.flatMap fun x => tq.rng (rlo b x.1) (rhi b x.1)
theorem catp_snoc (b : List Int) {m : Nat} (pre : List (Nth m)) (x : Nth m) : catp b (pre ++ [x]) = catp b pre ++ tq.rng (rlo b x.1) (rhi b x.1) := by unfold catp; rw [List.flatMap_append]; simp
theorem catk : ∀ {b : List Int}, b.length % 2 = 0 → ((List.range (b.length / 2)).flatMap fun k => tq.rng (rlo b k) (rhi b k)) = slots b
  | [], _ => rfl
  | [a], h => by simp at h
  | a :: c :: r, hl => by
    simp only [List.length_cons] at hl ⊢
    rw [show (r.length + 1 + 1) / 2 = r.length / 2 + 1 by omega, List.range_succ_eq_map, List.flatMap_cons, List.flatMap_map, slots_two, ← catk (b := r) (by omega)]
    have e : (fun k => tq.rng (rlo (a :: c :: r) (Nat.succ k)) (rhi (a :: c :: r) (Nat.succ k))) = fun k => tq.rng (rlo r k) (rhi r k) := funext fun k => by
      show tq.rng (rlo _ (k + 1)) (rhi _ (k + 1)) = _
      rw [rlo_succ, rhi_succ]
    rw [e]; rfl
theorem catp_all {b : List Int} (hl : b.length % 2 = 0) {m : Nat} (hm : m = b.length / 2) {ys : List (Nth m)} (h : ys.map (·.1) = List.range m) : catp b ys = slots b := by
  rw [← catk hl, ← hm, ← h, List.flatMap_map]; rfl
theorem rng_snoc {a : Int} (i : Nat) : tq.rng a (a + (i : Int)) ++ [a + (i : Int)] = tq.rng a (a + ((i + 1 : Nat) : Int)) := by
  unfold tq.rng
  rw [show (a + (i : Int) - a).toNat = i by omega, show (a + ((i + 1 : Nat) : Int) - a).toNat = i + 1 by omega, List.range_succ, List.map_append]; rfl
theorem rng_nil (a : Int) : tq.rng a a = [] := by unfold tq.rng; simp
theorem catp_len {b : List Int} (hok : Ok b) {m : Nat} (hm : m = b.length / 2) : ∀ (pre : List (Nth m)), (catp b pre).length ≤ 4096 * pre.length
  | [] => by simp [catp]
  | x :: pre => by
    have ih := catp_len hok hm pre
    have hr := run_of hok (show x.1 < b.length / 2 by have := x.2; omega)
    have e : catp b (x :: pre) = tq.rng (rlo b x.1) (rhi b x.1) ++ catp b pre := by unfold catp; simp
    rw [e, List.length_append, rng_len, List.length_cons]
    omega
set_option maxRecDepth 100000 in
set_option maxHeartbeats 16000000 in
theorem each1_seq {w : World} (M : List Nat) (A : Option Addr) (n c m Bc : Nat) (b : List Int) (hok : Ok b) (hnm : n = 2 * m) (hln : b.length = n) (hX : ∀ w', Kr4 M w.heap.size w w' → wo.IsI w' A n c b) (hBc : One w Bc 23 (.slice A n c)) (hMw : ∀ j ∈ M, j < w.heap.size) :
    SeqO 65 #[.pointer (some ⟨Bc, 0, none⟩)] (fun x : Int => .int .i64 x) (KpO M w.heap.size) (fun ys => ys = slots b) 20000000 w := by
  intro l J W hW hsz hJ hY hJ0
  refine callsIn_any (n := 4) (callsIn_of_wp_marks (n := 4) Try.func65 rfl trivial (wpIn_wide.2 ?_) rfl)
  simp only [Try.ntmps65, List.size_toArray, List.length_cons, List.length_nil, Nat.reduceAdd, Nat.reduceSub, Array.replicate_succ, Array.replicate_zero, List.push_toArray, List.append_toArray, List.nil_append, List.cons_append]
  have hm2 : m = b.length / 2 := by omega
  have hn4 := ok_len hok
  have hev := hok.2.2
  have hb1 := below_new W (.cells #[.func (.yield l) #[] #[]] 50)
  have hbc := ((hBc.below hW).below hb1).cell
  have hb2 := Below.andThen hb1 (below_new (W.alloc (.cells #[.func (.yield l) #[] #[]] 50)) (.cells #[.slice A n c] 23))
  have hO := (One.new W 50 (.func (.yield l) #[] #[])).below (below_new _ (.cells #[.slice A n c] 23))
  have hP := One.new (W.alloc (.cells #[.func (.yield l) #[] #[]] 50)) 23 (.slice A n c)
  rw [size_new] at hP
  have hJ2 : J [] ((W.alloc (.cells #[.func (.yield l) #[] #[]] 50)).alloc (.cells #[.slice A n c] 23)) := hJ.alloc _ (hJ.alloc _ hJ0)
  have HKW : Hid (Kr4 M w.heap.size w ((W.alloc (.cells #[.func (.yield l) #[] #[]] 50)).alloc (.cells #[.slice A n c] 23))) := (Kr4.of_below hW).trans (Kr4.of_below hb2)
  have HO := Lib.hid hO
  have HP := Lib.hid hP
  have HJ2 := Lib.hid hJ2
  have HM := Lib.hid (And.intro hnm (And.intro hm2 (And.intro hn4 hev)))
  have HOK := Lib.hid hok
  have HX := Lib.hid hX
  have HSZ := Lib.hid hsz
  have HMW := Lib.hid hMw
  clear hb1 hb2 hO hP hJ2 hnm hm2 hn4 hev hln hok hX hsz hJ0 hBc
  go_wp2_with fail
  refine (runs_calls _).mono ?_
  rintro e w' ⟨rfl, rfl⟩
  go_wp2_with fail
  clear hbc
  have hs2 : ((W.alloc (.cells #[.func (.yield l) #[] #[]] 50)).alloc (.cells #[.slice A n c] 23)).heap.size = W.heap.size + 2 := by simp only [size_new]
  have hgs : (W.alloc (.cells #[.func (.yield l) #[] #[]] 50)).heap.size = W.heap.size + 1 := by simp only [size_new]
  try rw [hgs]
  clear hgs
  generalize ((W.alloc (.cells #[.func (.yield l) #[] #[]] 50)).alloc (.cells #[.slice A n c] 23)) = w2 at *
  generalize hG : W.heap.size = G at *
  have HS2 := Lib.hid hs2
  have hsz := HSZ.out
  refine range_gen (G + 1) (Kr4 M w.heap.size) (Kr4.refl _ _) (fun h k => h.trans k) (fun A C h => Kr4.of_below h) (fun A C h => h.1) ?hKg ?hKb A n c m b HOK.out HM.out.1 rfl (fun w' hk => HX.out _ (HKW.out.trans hk)) ?hBx (fun pre u => J (catp b pre) u ∧ One u G 50 (.func (.yield l) #[] #[])) ?hI ?h0 (fun x => { tmps := #[.func (.yield l) #[] #[], .pointer (some ⟨Bc, 0, none⟩), .pointer (some ⟨G, 0, none⟩), .int .i64 (rlo b x.1), .int .i64 (rhi b x.1), undef, .slice A n c, .func (.func 63) #[] #[.pointer (some ⟨G + 1, 0, none⟩)], .int .i64 (rlo b x.1), .int .i64 (rhi b x.1), undef, undef, undef, undef, undef, undef, undef, undef, undef, undef], defers := [] }) ?hassign ?hbody ?hdone
  case hKg =>
    rintro X Y r hgr ⟨hr, ho⟩
    refine ⟨hgr.size, fun hB => KT.grown hgr ?_ ho hB⟩
    rw [HS2.out] at hr; omega
  case hKb =>
    intro X l2 o o' hl ho hc _
    refine ⟨by simp, fun hB => KT.put o' ?_ ho hc⟩
    rw [HS2.out] at hl; omega
  case hBx =>
    intro w' hk
    refine ⟨23, ?_⟩
    have hp : w2.heap[G + 1]? = some (.cells #[.slice A n c] 23 (0, 0)) := HP.out
    exact ((hk.2 (by rw [HS2.out]; omega)).2 (G + 1) _ _ _ hp (by decide) (fun hm => by have := HMW.out _ hm; omega)).trans hp
  case hI =>
    refine OwnFrom.and (fun s X Y row hs hg hr => hJ _ X Y row hs hg (fun r e => ⟨by have := (hr r e).1; rw [HS2.out] at this; omega, (hr r e).2⟩)) (own_one (by rw [HS2.out]; omega))
  case h0 => exact ⟨HJ2.out, HO.out⟩
  case hassign =>
    intro l2 mm x X K hK
    simp only [List.setIfInBounds_toArray, List.set_cons_succ, List.set_cons_zero] at hK ⊢
    gi_wp2
    exact hK
  case hbody =>
    rintro l2 mm pre x Xb hkx ⟨hj, hone⟩ hlen
    have hxl : x.1 < b.length / 2 := by have := x.2; have := HM.out.2.1; omega
    obtain ⟨-, -, hlo, hlh, hhi⟩ := run_of HOK.out hxl
    have hcl := catp_len HOK.out HM.out.2.1 pre
    have hm5 : m ≤ 2048 := by have := HM.out; omega
    have HCL : Hid ((catp b pre).length ≤ 10000000) := by show _ ≤ _; omega
    have HKX := Lib.hid hkx
    have HONE := Lib.hid hone
    have HJJ := Lib.hid hj
    have HSN := Lib.hid (catp_snoc b pre x)
    clear hcl hkx hone hj hxl hm5
    generalize rlo b x.1 = lo at *
    generalize rhi b x.1 = hi at *
    gi_wp2
    gi_loopw [5] (fun i u => ∃ k : Nat, lo + (k : Int) ≤ hi ∧ i = .int .i64 (lo + (k : Int)) ∧ J (catp b pre ++ tq.rng lo (lo + (k : Int))) u ∧ KpO M w.heap.size Xb u) (fun i _ => (hi - intOf i).toNat)
    case atStart => exact ⟨0, by omega, by simp, by rw [show lo + ((0 : Nat) : Int) = lo by omega, rng_nil, List.append_nil]; exact HJJ.out, Kr4.refl _ _ _, KeepsFrom.refl _ _⟩
    case round =>
      obtain ⟨k, hk, rfl, hj, hkp⟩ := hrel
      have HKP := Lib.hid hkp
      have HJK := Lib.hid hj
      have honeU : One wr G 50 (.func (.yield l) #[] #[]) := by
        have hp : Xb.heap[G]? = some (.cells #[.func (.yield l) #[] #[]] 50 (0, 0)) := HONE.out
        have hsx : w.heap.size ≤ Xb.heap.size := by have := HKX.out.1; rw [HS2.out] at this; omega
        exact ((HKP.out.1.2 hsx).2 G _ _ _ hp (by decide) (fun hm => by have := HMW.out _ hm; omega)).trans hp
      have hc0 := honeU.cell
      have HONU := Lib.hid honeU
      clear hkp hj honeU
      by_cases hlt : lo + (k : Int) < hi
      · obtain ⟨fn, tmps, assign, body, hy, hR⟩ := yieldAt_in (m := mm - 1) (l2 := l2) (hY (catp b pre ++ tq.rng lo (lo + (k : Int))) (lo + (k : Int)) wr HJK.out (by rw [List.length_append, rng_len]; have := HCL.out; omega))
        gi_wp2
        refine ⟨(fun hh => by cases hh), hR.mono ?_⟩
        rintro e W3 ⟨rfl, hj3, hk3⟩
        have HK3 : Hid (KpO M w.heap.size Xb W3) := ⟨HKP.out.1.trans hk3.1, HKP.out.2.trans hk3.2⟩
        have HJ3 := Lib.hid hj3
        have hone3 : One W3 G 50 (.func (.yield l) #[] #[]) := by
          have hp : wr.heap[G]? = some (.cells #[.func (.yield l) #[] #[]] 50 (0, 0)) := HONU.out
          have hsx : w.heap.size ≤ wr.heap.size := by have := HKX.out.1; have := HKP.out.1.1; rw [HS2.out] at *; omega
          exact ((hk3.1.2 hsx).2 G _ _ _ hp (by decide) (fun hm => by have := HMW.out _ hm; omega)).trans hp
        have hc3 := hone3.cell
        clear hk3 hj3 hone3
        gi_wp2
        go_roundw
        case rel =>
          refine ⟨k + 1, by omega, by go_num, ?_, HK3.out⟩
          rw [← rng_snoc, ← List.append_assoc]; exact HJ3.out
        case measure => simp [intOf]; omega
      · gi_wp2
        have hke : lo + (k : Int) = hi := by omega
        refine ⟨?_, HKP.out.1, ?_, HONU.out⟩
        · exact ⟨HKP.out.2.size, fun i o hi2 ho hc => HKP.out.2.same i o (by first | omega | (rw [HS2.out] at hi2; omega)) ho hc⟩
        · rw [HSN.out, ← hke]; exact HJK.out
  case hdone =>
    rintro D ys X hD hys hkx ⟨hj, -⟩ hK
    rw [HS2.out] at hD
    have hJD := hJ.putObj (.deferred none) hj (by omega) hK rfl
    rw [catp_all HM.out.2.2.2 HM.out.2.1 hys] at hJD
    have HJD := Lib.hid hJD
    clear hJD hj
    go_wp2_with fail
    exact leave_markN hK (results_none rfl _ _ _) ⟨⟨_, rfl⟩, slots b, rfl, HJD.out⟩
end Go.Proofs.Ytieipbobijnmlaa.tk
/- Sorting numbers, and leaving out what is there twice: the library's contracts at this seat. -/
namespace Go.Proofs.Ytieipbobijnmlaa.tk

open Go.ChangeShapes Go.WideShapes Go.ChangeAt Go.RowKit

open Go.Proofs.Ytieipbobijnmlaa.tq Go.Proofs.Ytieipbobijnmlaa.uk Go.Proofs.Ytieipbobijnmlaa.bk Go.Proofs.Ytieipbobijnmlaa.vk Go.Proofs.Ytieipbobijnmlaa.wk

set_option linter.unusedVariables false
set_option maxRecDepth 100000 in
def renI : Go.Shelf.Ren := ⟨fun x => match x with | 125 => 75 | 128 => 89 | 129 => 90 | 189 => 61 | 215 => 96 | 216 => 86 | 257 => 74 | 294 => 80 | 295 => 81 | 296 => 82 | 297 => 83 | 298 => 84 | 299 => 85 | 300 => 87 | 301 => 88 | 328 => 91 | 329 => 92 | 330 => 93 | 331 => 94 | 332 => 95 | 343 => 97 | n => n, fun x => match x with | 0 => 0 | 3 => 3 | 4 => 4 | 5 => 5 | 9 => 9 | 28 => 22 | 46 => 82 | 51 => 95 | 53 => 83 | 131 => 92 | 182 => 87 | 183 => 88 | 218 => 96 | 222 => 100 | 228 => 102 | 229 => 103 | n => n, fun n => n⟩
theorem sortI : Go.Proofs.Lays.n189 Try.prog renI where
  mixed := by kernel_rfl
  f125 := Try.func75.trans (congrArg some (by kernel_rfl))
  f128 := Try.func89.trans (congrArg some (by kernel_rfl))
  f129 := Try.func90.trans (congrArg some (by kernel_rfl))
  f189 := Try.func61.trans (congrArg some (by kernel_rfl))
  f215 := Try.func96.trans (congrArg some (by kernel_rfl))
  f216 := Try.func86.trans (congrArg some (by kernel_rfl))
  f257 := Try.func74.trans (congrArg some (by kernel_rfl))
  f294 := Try.func80.trans (congrArg some (by kernel_rfl))
  f295 := Try.func81.trans (congrArg some (by kernel_rfl))
  f296 := Try.func82.trans (congrArg some (by kernel_rfl))
  f297 := Try.func83.trans (congrArg some (by kernel_rfl))
  f298 := Try.func84.trans (congrArg some (by kernel_rfl))
  f299 := Try.func85.trans (congrArg some (by kernel_rfl))
  f300 := Try.func87.trans (congrArg some (by kernel_rfl))
  f301 := Try.func88.trans (congrArg some (by kernel_rfl))
  f328 := Try.func91.trans (congrArg some (by kernel_rfl))
  f329 := Try.func92.trans (congrArg some (by kernel_rfl))
  f330 := Try.func93.trans (congrArg some (by kernel_rfl))
  f331 := Try.func94.trans (congrArg some (by kernel_rfl))
  f332 := Try.func95.trans (congrArg some (by kernel_rfl))
  f343 := Try.func97.trans (congrArg some (by kernel_rfl))
  t0 := Try.underlying0
  a0 := Try.isAgg0
  z0 := Try.sizeOf0
  v0 := Try.zeroValue0
  t3 := Try.underlying3
  a3 := Try.isAgg3
  z3 := Try.sizeOf3
  v3 := Try.zeroValue3
  t4 := Try.underlying4
  a4 := Try.isAgg4
  z4 := Try.sizeOf4
  v4 := Try.zeroValue4
  t5 := Try.underlying5
  a5 := Try.isAgg5
  z5 := Try.sizeOf5
  v5 := Try.zeroValue5
  t9 := Try.underlying9
  a9 := Try.isAgg9
  z9 := Try.sizeOf9
  v9 := Try.zeroValue9
  t28 := Try.underlying22
  a28 := Try.isAgg22
  z28 := Try.sizeOf22
  v28 := Try.zeroValue22
  t46 := Try.underlying82
  a46 := Try.isAgg82
  z46 := Try.sizeOf82
  v46 := Try.zeroValue82
  t51 := Try.underlying95
  a51 := Try.isAgg95
  z51 := Try.sizeOf95
  v51 := Try.zeroValue95
  t53 := Try.underlying83
  a53 := Try.isAgg83
  z53 := Try.sizeOf83
  v53 := Try.zeroValue83
  t131 := Try.underlying92
  a131 := Try.isAgg92
  z131 := Try.sizeOf92
  v131 := Try.zeroValue92
  t182 := Try.underlying87
  a182 := Try.isAgg87
  z182 := Try.sizeOf87
  v182 := Try.zeroValue87
  t183 := Try.underlying88
  a183 := Try.isAgg88
  z183 := Try.sizeOf88
  v183 := Try.zeroValue88
  t218 := Try.underlying96
  a218 := Try.isAgg96
  z218 := Try.sizeOf96
  v218 := Try.zeroValue96
  t222 := Try.underlying100
  a222 := Try.isAgg100
  z222 := Try.sizeOf100
  v222 := Try.zeroValue100
  t228 := Try.underlying102
  a228 := Try.isAgg102
  z228 := Try.sizeOf102
  v228 := Try.zeroValue102
  t229 := Try.underlying103
  a229 := Try.isAgg103
  z229 := Try.sizeOf103
  v229 := Try.zeroValue103
def renC : Go.Shelf.Ren := ⟨fun x => match x with | 20 => 42 | n => n, fun x => match x with | 0 => 0 | 3 => 3 | 4 => 4 | 22 => 22 | n => n, fun n => n⟩
theorem compI : Go.Proofs.Lays2.n20 Try.prog renC where
  mixed := by kernel_rfl
  f20 := Try.func42.trans (congrArg some (by kernel_rfl))
  t0 := Try.underlying0
  a0 := Try.isAgg0
  z0 := Try.sizeOf0
  v0 := Try.zeroValue0
  t3 := Try.underlying3
  a3 := Try.isAgg3
  z3 := Try.sizeOf3
  v3 := Try.zeroValue3
  t4 := Try.underlying4
  a4 := Try.isAgg4
  z4 := Try.sizeOf4
  v4 := Try.zeroValue4
  t22 := Try.underlying22
  a22 := Try.isAgg22
  z22 := Try.sizeOf22
  v22 := Try.zeroValue22
  i3 := by kernel_rfl
open Go.Sort in
theorem below_grow (w : World) (os : Array Obj) : Below w.heap.size w (grow w os) := ⟨rfl, rfl, rfl, by simp [grow], fun k hk => heap_grow_old w os hk⟩
def srtI (zs : List Int) : List Int := zs.mergeSort fun x y => decide (x ≤ y)
theorem srtI_len (zs : List Int) : (srtI zs).length = zs.length := List.length_mergeSort _
theorem mem_srtI {zs : List Int} {x : Int} : x ∈ srtI zs ↔ x ∈ zs := List.mem_mergeSort
theorem srtI_asc (zs : List Int) : (srtI zs).Pairwise (· ≤ ·) := by
  have h := List.pairwise_mergeSort (le := fun x y : Int => decide (x ≤ y)) (by intro a b c h1 h2; simp at h1 h2 ⊢; omega) (by intro a b; simp; omega) zs
  exact h.imp fun h => by simpa using h
set_option maxRecDepth 100000 in
set_option maxHeartbeats 4000000 in
theorem sort_own {w : World} {B : Nat} {v : Value} {zs : List Int} (h : w.ownsRow B 3 1 v zs.length (iv zs)) (hn : zs.length ≤ 20000000) : Calls Try.prog 61 #[v] w fun e w' => e = .returned (.tuple #[]) ∧ w'.ownsRow B 3 1 v zs.length (iv (srtI zs)) ∧ Below B w w' := by
  by_cases hv : v = .slice none 0 0
  · subst hv
    have h0 : zs = [] := by
      rcases h.2 with ⟨_, hl⟩ | ⟨g, cap, cur, hv, _⟩
      · exact List.length_eq_zero_iff.1 hl
      · cases hv
    subst h0
    refine (Any.slices_Sort_int_none (ρ := renI) sortI none 0 w).mono ?_
    rintro e w' ⟨rfl, rfl⟩
    exact ⟨rfl, by simpa [srtI] using h, Below.refl _ _⟩
  · obtain ⟨g, cap, rfl, hbg, hgl, hncap, hcm, hlen, hH⟩ := Lib.holds_of_ownsRow (enc := Value.int .i64) h hv
    refine (Any.slices_Sort_int (ρ := renI) sortI g 0 cap zs w hH hgl (by omega)).mono ?_
    rintro e w' ⟨rfl, q, os, rfl⟩
    have h1 := Lib.ownsRow_putRow (enc := Value.int .i64) (q := q) (k := zs.length) h (srtI_len zs) (Nat.le_refl _)
    rw [List.take_of_length_le (Nat.le_of_eq (srtI_len zs))] at h1
    have h2 := Lib.below_putRow (enc := Value.int .i64) (q := q) (d := (srtI zs).toArray) (Below.refl B w) hbg
    have h3 := below_grow (Go.Sort.putRow (Value.int .i64) (Go.Sort.ahead w q) g 0 (srtI zs).toArray) os
    exact ⟨rfl, keptB h1 h3, ⟨(h3.os).trans h2.os, (h3.tape).trans h2.tape, (h3.output).trans h2.output, Nat.le_trans h2.size h3.size, fun k hk => (h3.block k (by have := h2.size; have := hgl; omega)).trans (h2.block k hk)⟩⟩
theorem compact_spec {zs : List Int} (hs : zs.Pairwise (· ≤ ·)) : ∀ m, m ≤ zs.length → Asc (Lib.compactUpTo zs.toArray m) ∧ ∀ x, x ∈ Lib.compactUpTo zs.toArray m ↔ x ∈ zs.take m
  | 0, _ => by simp [Lib.compactUpTo, Asc]
  | m + 1, hm => by
    obtain ⟨h1, h2⟩ := compact_spec hs m (by omega)
    have hz : zs[m]? = some (zs[m]'(by omega)) := List.getElem?_eq_getElem _
    have e1 : zs.toArray[m]! = zs[m]'(by omega) := by simp [getElem!_pos, show m < zs.length by omega]
    have htk := take_snoc hz
    rw [Lib.compactUpTo_succ]
    by_cases hk : Lib.keeps zs.toArray m = true
    · rw [if_pos hk, e1]
      have hlt : ∀ x ∈ zs.take m, x < zs[m]'(by omega) := fun x hx => by
        have hm0 : 0 < m := by rcases Nat.eq_zero_or_pos m with h | h; subst h; simp at hx; exact h
        have hne : zs.toArray[m]! ≠ zs.toArray[m - 1]! := fun e => by rw [Lib.keeps_neg hm0 e] at hk; cases hk
        have e2 : zs.toArray[m - 1]! = zs[m - 1]'(by omega) := by simp [getElem!_pos, show m - 1 < zs.length by omega]
        rw [e1, e2] at hne
        have hle := List.pairwise_iff_getElem.1 hs (m - 1) m (by omega) (by omega) (by omega)
        obtain ⟨i, hi, rfl⟩ := List.mem_iff_getElem.1 hx
        rw [List.length_take] at hi
        rw [List.getElem_take]
        by_cases e : i = m - 1
        · subst e; omega
        · have := List.pairwise_iff_getElem.1 hs i (m - 1) (by omega) (by omega) (by omega); omega
      exact ⟨asc_snoc h1 fun x hx => hlt x ((h2 x).1 hx), fun x => by rw [htk, List.mem_append, List.mem_append, h2]⟩
    · rw [if_neg hk, List.append_nil]
      have hm0 : 0 < m := by
        rcases Nat.eq_zero_or_pos m with h | h
        · subst h; exact absurd (Lib.keeps_lt_one _ 0 (by omega)) hk
        · exact h
      have heq : zs.toArray[m]! = zs.toArray[m - 1]! := Decidable.byContradiction fun hne => hk (Lib.keeps_pos hne)
      have e2 : zs.toArray[m - 1]! = zs[m - 1]'(by omega) := by simp [getElem!_pos, show m - 1 < zs.length by omega]
      rw [e1, e2] at heq
      refine ⟨h1, fun x => ?_⟩
      rw [htk, List.mem_append, h2, List.mem_singleton]
      constructor
      · exact .inl
      · rintro (h | rfl)
        · exact h
        · rw [heq]
          exact List.mem_iff_getElem.2 ⟨m - 1, by rw [List.length_take]; omega, by rw [List.getElem_take]⟩
theorem compact_asc {zs : List Int} (hs : zs.Pairwise (· ≤ ·)) : Asc (Lib.compact zs) ∧ ∀ x, x ∈ Lib.compact zs ↔ x ∈ zs := by
  have h := compact_spec hs zs.length (Nat.le_refl _)
  rw [List.take_length] at h
  exact h
theorem compact_len (zs : List Int) : (Lib.compact zs).length ≤ zs.length := by
  have h : ∀ m, (Lib.compactUpTo zs.toArray m).length ≤ m := by
    intro m
    induction m with
    | zero => simp [Lib.compactUpTo]
    | succ m ih =>
      rw [Lib.compactUpTo_succ, List.length_append]
      split <;> simp <;> omega
  exact h _
set_option maxRecDepth 100000 in
set_option maxHeartbeats 4000000 in
theorem compact_own {w : World} {B : Nat} {v : Value} {zs : List Int} (h : w.ownsRow B 3 1 v zs.length (iv zs)) (hn : zs.length ≤ 20000000) : Calls Try.prog 42 #[v] w fun e w' => ∃ v', e = .returned v' ∧ w'.ownsRow B 3 1 v' (Lib.compact zs).length (iv (Lib.compact zs)) ∧ Below B w w' := by
  by_cases hv : v = .slice none 0 0
  · subst hv
    have h0 : zs = [] := by
      rcases h.2 with ⟨_, hl⟩ | ⟨g, cap, cur, hv, _⟩
      · exact List.length_eq_zero_iff.1 hl
      · cases hv
    subst h0
    refine (Any.slices_Compact_int_empty (ρ := renC) compI none 0 w).mono ?_
    rintro e w' ⟨rfl, rfl⟩
    exact ⟨_, rfl, by simpa [Lib.compact, Lib.compactUpTo] using h, Below.refl _ _⟩
  · obtain ⟨g, cap, rfl, hbg, hgl, hncap, hcm, hlen, hH⟩ := Lib.holds_of_ownsRow (enc := Value.int .i64) h hv
    have hcl := compact_len zs
    refine (Any.slices_Compact_int (ρ := renC) compI g 0 cap zs w hH (by omega) hncap).mono ?_
    rintro e w' ⟨rfl, q, rfl⟩
    have h1 := Lib.ownsRow_putRow (enc := Value.int .i64) (q := q) (k := (Lib.compact zs).length) (ys := Lib.compact zs ++ List.replicate (zs.length - (Lib.compact zs).length) 0) h (by simp; omega) (by omega)
    rw [List.take_left] at h1
    exact ⟨_, rfl, h1, Lib.below_putRow (Below.refl B w) hbg⟩
end Go.Proofs.Ytieipbobijnmlaa.tk
/- What is yielded, collected; Slots, and what is sorted. -/
namespace Go.Proofs.Ytieipbobijnmlaa.tk

open Go.ChangeShapes Go.WideShapes Go.ChangeAt Go.RowKit

open Go.Proofs.Ytieipbobijnmlaa.tq Go.Proofs.Ytieipbobijnmlaa.uk Go.Proofs.Ytieipbobijnmlaa.bk Go.Proofs.Ytieipbobijnmlaa.vk Go.Proofs.Ytieipbobijnmlaa.wk

set_option linter.unusedVariables false
attribute [local go_sem] Oper.semAt_some
theorem own_from {w w' : World} {B n size : Nat} {e : TypeId} {v : Value} {xs : List Value} {row : Option Nat} (h : w.ownsRow B e size v n xs) (hg : w.grownBy w' row) (hr : ∀ r, row = some r → ∃ o : Obj, w.heap[r]? = some o ∧ o.isCells = false) : w'.ownsRow B e size v n xs := by
  refine World.ownsRow.kept h hg ?_
  rcases h.2 with ⟨rfl, _⟩ | ⟨g, cap, cur, rfl, _, hh, _⟩
  · exact .inl rfl
  · refine .inr fun he => ?_
    obtain ⟨o, ho, hnc⟩ := hr g he.symm
    rw [hh] at ho
    cases ho
    cases hnc
theorem grown_set1 (w : World) (g : Nat) (x : Value) : w.grownBy (w.setCell ⟨g, 0, none⟩ x) (some g) :=
  ⟨rfl, rfl, rfl, by simp [World.setCell], fun k _ hk => Below.heap_setCell _ _ _ _ (by simpa using fun e => hk (by rw [e]))⟩
/-- what is collected so far: the row, and the variable that holds its slice -/
structure Col (w : World) (S : Nat) (W : World) (v : Value) (l : List Int) : Prop where
  box : One W S 22 v
  row : W.ownsRow (S + 1) 3 1 v l.length (iv l)
theorem Col.below {w : World} {S : Nat} {W W' : World} {v : Value} {l : List Int} (h : Col w S W v l) (hb : Below W.heap.size W W') : Col w S W' v l := ⟨h.box.below hb, keptB h.row hb⟩
theorem Col.from {w : World} {S : Nat} {W W' : World} {v : Value} {l : List Int} {row : Option Nat} (h : Col w S W v l) (hg : W.grownBy W' row) (hr : ∀ r, row = some r → ∃ o : Obj, W.heap[r]? = some o ∧ o.isCells = false) : Col w S W' v l :=
  ⟨h.box.at (hg.block S h.box.lt fun e => by
    obtain ⟨o, ho, hnc⟩ := hr S e.symm
    have := h.box
    unfold bk.One at this
    rw [this] at ho
    cases ho
    cases hnc), own_from h.row hg hr⟩
def colI (w : World) (S : Nat) (pre : List Int) (W : World) : Prop := Below S w W ∧ ∃ v, Col w S W v pre
theorem colI_own {w : World} {S n : Nat} (hn : S ≤ n) (hS : S ≤ w.heap.size) : OwnFrom n (colI w S) := fun s W W' row hs hg hr => by
  obtain ⟨h1, v, h2⟩ := hs
  exact ⟨h1.grown hg (Nat.le_trans hS h1.size) (fun k e => by have := (hr k e).1; omega), v, h2.from hg (fun r e => (hr r e).2)⟩
/-- one number more: what turned -/
theorem col_step {w W wa w3 : World} {S : Nat} {v v3 : Value} {pre : List Int} {x : Int} (h : Col w S W v pre) (hS : S < W.heap.size) (ha : Below W.heap.size W wa) (hg : wa.grownBy w3 v.ownBlock) (hr : w3.ownsRow (S + 1) 3 1 v3 (pre.length + 1) (iv pre ++ iv [x])) (hbel : Below S w W) :
    KeepsFrom (S + 1) W (w3.setCell ⟨S, 0, none⟩ v3) ∧ KpO [S] (S + 1) W (w3.setCell ⟨S, 0, none⟩ v3) ∧ colI w S (pre ++ [x]) (w3.setCell ⟨S, 0, none⟩ v3) := by
  have hva : wa.ownsRow (S + 1) 3 1 v pre.length (iv pre) := keptB h.row ha
  have hne : some S ≠ v.ownBlock := fun e => by have := (hva.lt S e.symm).1; omega
  have hbox : One w3 S 22 v := (h.box.below ha).at (hg.block S (h.box.below ha).lt hne)
  have hsz : W.heap.size ≤ (w3.setCell ⟨S, 0, none⟩ v3).heap.size := by have := ha.size; have := hg.size; simp only [World.setCell, Array.size_modify]; omega
  have hown : ∀ q, v.ownBlock = some q → ∃ cur, wa.heap[q]? = some (.cells cur 3 (0, 0)) := fun q hq => by
    rcases hva.2 with ⟨hv, _⟩ | ⟨g, cap, cur, hv, _, hh, _⟩
    · rw [hv] at hq; simp [Value.ownBlock] at hq
    · rw [hv] at hq
      have : g = q := by simpa [Value.ownBlock] using hq
      subst this; exact ⟨cur, hh⟩
  have keep : ∀ (i : Nat), i < W.heap.size → i ≠ S → (v.ownBlock ≠ some i) → (w3.setCell ⟨S, 0, none⟩ v3).heap[i]? = W.heap[i]? := fun i hi hiS hio => by
    rw [Below.heap_setCell _ _ _ _ hiS]
    exact (hg.block i (Nat.lt_of_lt_of_le hi ha.size) (fun e => hio e.symm)).trans (ha.block i hi)
  have nonc : ∀ (i : Nat) (o : Obj), W.heap[i]? = some o → o.isCells = false → (w3.setCell ⟨S, 0, none⟩ v3).heap[i]? = some o := fun i o ho hc => by
    have hi := (Array.getElem?_eq_some_iff.1 ho).1
    refine (keep i hi ?_ ?_).trans ho
    · rintro rfl
      have := h.box; unfold bk.One at this
      rw [this] at ho; cases ho; cases hc
    · intro e
      obtain ⟨cur, hq⟩ := hown i e
      rw [ha.block i hi, ho] at hq
      cases hq; cases hc
  refine ⟨⟨hsz, fun i o _ ho hc => nonc i o ho hc⟩, ⟨⟨hsz, fun hB => ⟨⟨?_, ?_, ?_, hsz, fun i hi hm => ?_⟩, fun i cs t z hi ht hm => ?_⟩⟩, hsz, fun i o _ ho hc => nonc i o ho hc⟩, ?_⟩
  · exact (hg.os).trans ha.os
  · exact (hg.tape).trans ha.tape
  · exact (hg.output).trans ha.output
  · have hiS : i ≠ S := fun e => hm (by simp [e])
    exact keep i (by omega) hiS (fun e => by have := (hva.lt i e).1; omega)
  · have hiS : i ≠ S := fun e => hm (by simp [e])
    have hil := (Array.getElem?_eq_some_iff.1 hi).1
    refine keep i hil hiS fun e => ?_
    obtain ⟨cur, hq⟩ := hown i e
    rw [ha.block i hil, hi] at hq
    cases hq; exact ht rfl
  · refine ⟨?_, v3, hbox.set v3, ?_⟩
    · refine Below.setCell ((hbel.trans (ha.mono (Nat.le_of_lt hS))).grown hg ?_ (fun q hq => by have := (hva.lt q hq).1; omega)) (p := ⟨S, 0, none⟩) (Nat.le_refl _) _
      have := ha.size; omega
    · have h8 := World.ownsRow.kept hr (grown_set1 w3 S v3) (by
        rcases hr.2 with ⟨hv, _⟩ | ⟨g, cap, cur, hv, hb, _⟩
        · left; rw [hv]; rfl
        · right; rw [hv]; intro e; have : g = S := by simpa [Value.ownBlock] using e
          omega)
      rw [List.length_append, List.length_singleton]
      rw [← iv_append] at h8
      exact h8
set_option maxRecDepth 100000 in
set_option maxHeartbeats 16000000 in
theorem appendSeq_calls {L : List Int} {gfn : Nat} {lb : Array Value} {N : Nat} (w : World) (eg : ∀ args w', (callFunc gfn args).run Try.prog w' = .ok (.enter gfn args) w') (hN : N ≤ 20000000)
    (hseq : SeqO gfn lb (fun x : Int => .int .i64 x) (KpO [w.heap.size] (w.heap.size + 1)) (fun ys => ys = L) N (w.alloc (.cells #[.slice none 0 0] 22))) :
    Calls Try.prog 64 #[.slice none 0 0, .func (.func gfn) #[] lb] w fun e w' => ∃ v, e = .returned v ∧ w'.ownsRow w.heap.size 3 1 v L.length (iv L) ∧ Below w.heap.size w w' := by
  obtain ⟨i0, hi, hz0, hz1, hz2⟩ := info_parts wi.infoI
  have hs1 : (w.alloc (.cells #[.slice none 0 0] 22)).heap.size = w.heap.size + 1 := size_new _ _
  have HB0 : Hid (Below w.heap.size w (w.alloc (.cells #[.slice none 0 0] 22))) := below_new _ _
  have HC0 : Hid (Col w w.heap.size (w.alloc (.cells #[.slice none 0 0] 22)) (.slice none 0 0) []) := ⟨One.new w _ _, World.ownsRow_nil _ _ _ _⟩
  have HSEQ := Lib.hid hseq
  clear hseq
  refine enter_marks Try.func64 rfl ?_
  simp only [Try.ntmps64, List.size_toArray, List.length_cons, List.length_nil, Nat.reduceAdd, Nat.reduceSub, Array.replicate_succ, Array.replicate_zero, List.push_toArray, List.append_toArray, List.nil_append, List.cons_append]
  go_wp2_with fail
  generalize hw1 : w.alloc (.cells #[.slice none 0 0] 22) = w1 at *
  clear hw1
  refine range_all (fun x : Int => .int .i64 x) N (fun ys => ys = L) (KpO [w.heap.size] (w.heap.size + 1)) rfl eg HSEQ.out (fun h k => ⟨h.1.trans k.1, h.2.trans k.2⟩) ?hKb (colI w w.heap.size) (colI_own (by omega) (Nat.le_refl _)) ⟨HB0.out, _, HC0.out⟩
    (fun x => { tmps := #[.slice none 0 0, .func (.func gfn) #[] lb, .pointer (some ⟨w.heap.size, 0, none⟩), undef, .slice none 0 0, .int .i64 x, .func (.func gfn) #[] lb, .int .i64 x, undef, undef, undef, undef, undef], defers := [] }) ?hassign ?hbody ?hdone
  case hKb =>
    intro W o' o ho hc
    refine ⟨⟨by simp, fun hB => KT.put o' (by omega) ho hc⟩, by simp, fun i q hi2 hq _ => ?_⟩
    rw [World.putObj_heap_other (by omega)]; exact hq
  case hassign =>
    intro l m x W K hK
    simp only [List.setIfInBounds_toArray, List.set_cons_succ, List.set_cons_zero] at hK ⊢
    gi_wp2
    exact hK
  case hbody =>
    rintro l m pre x W ⟨hbel, v, hC⟩ hsW hlen
    have hc0 := hC.box.cell
    have hf0 := hC.box.frozen
    have HC := Lib.hid hC
    have HBEL := Lib.hid hbel
    have HSW : Hid (w.heap.size < W.heap.size) := by show _ < _; omega
    have HBN := Lib.hid (below_new W (.cells #[.int .i64 x] 3))
    have HCI : Hid (∀ k u, (iv [x])[k]? = some u → (W.alloc (.cells #[.int .i64 x] 3)).cell? ((⟨W.heap.size, 0, none⟩ : Addr).add k) = some u) := fun k u hu => one_cell W x k u hu
    have hpl : pre.length < 20000000 := by omega
    clear hC hbel
    gi_wp2_with (first | (gi_at_builtin; refine wpListIn_append_own _ rfl _ _ 22 rfl (w.heap.size + 1) 3 i0 (.int .i64 0) 1 8 Try.underlying22 hi hz0 hz1 hz2 rfl (by decide) _ _ _ rfl (keptB HC.out.row HBN.out) ⟨W.heap.size, 0, none⟩ 1 1 (iv [x]) rfl rfl HCI.out (ones1 x) ?c3 ?c4 ?c5 ?_) | gi_in)
    case c3 => unfold maxLen; omega
    case c4 => omega
    case c5 => have := HSW.out; simp only [size_new]; omega
    intro v3 w3 hown3 hg3 _
    obtain ⟨A3, c3, rfl⟩ := own_shape hown3
    have hO3 : One w3 w.heap.size 22 v := (HC.out.box.below HBN.out).at (hg3.block _ (HC.out.box.below HBN.out).lt (fun e => by have := ((keptB HC.out.row HBN.out).lt _ e.symm).1; omega))
    have HF := Lib.hid (col_step HC.out HSW.out HBN.out hg3 hown3 HBEL.out)
    have hq0 := hO3.cell
    have hq1 := hO3.frozen
    clear hown3 hg3 hO3
    gi_wp2

    exact HF.out
  case hdone =>
    rintro D ys W hD rfl ⟨hbel, v, hC⟩ hK
    have hc0 := hC.box.cell
    obtain ⟨A3, c3, rfl⟩ := own_shape hC.row
    have HR : Hid ((W.putObj D (.deferred none)).ownsRow w.heap.size 3 1 (.slice A3 ys.length c3) ys.length (iv ys)) := by
      have h := own_from hC.row (grownBy_putObj' W D (.deferred none)) (fun r e => by cases e; exact ⟨_, hK, rfl⟩)
      exact ⟨h.1, h.2.imp id fun ⟨g, cap, cur, h1, h2, h3⟩ => ⟨g, cap, cur, h1, by omega, h3⟩⟩
    have HBD := Lib.hid (below_mark (o := .deferred none) hbel (by omega : w.heap.size ≤ D))
    clear hbel hC
    go_wp2_with fail
    exact leave_mark hK (results_tmp (t := 4) rfl _ _ _) ⟨_, rfl, HR.out, HBD.out⟩
end Go.Proofs.Ytieipbobijnmlaa.tk
/- Slots; what is sorted. -/
namespace Go.Proofs.Ytieipbobijnmlaa.tk

open Go.ChangeShapes Go.WideShapes Go.ChangeAt Go.RowKit

open Go.Proofs.Ytieipbobijnmlaa.tq Go.Proofs.Ytieipbobijnmlaa.uk Go.Proofs.Ytieipbobijnmlaa.bk Go.Proofs.Ytieipbobijnmlaa.vk Go.Proofs.Ytieipbobijnmlaa.wk

set_option linter.unusedVariables false
attribute [local go_sem] Oper.semAt_some
set_option maxRecDepth 100000 in
set_option maxHeartbeats 4000000 in
theorem collect_calls {L : List Int} {gfn : Nat} {lb : Array Value} {N : Nat} (w : World) (eg : ∀ args w', (callFunc gfn args).run Try.prog w' = .ok (.enter gfn args) w') (hN : N ≤ 20000000)
    (hseq : SeqO gfn lb (fun x : Int => .int .i64 x) (KpO [w.heap.size] (w.heap.size + 1)) (fun ys => ys = L) N (w.alloc (.cells #[.slice none 0 0] 22))) :
    Calls Try.prog 49 #[.func (.func gfn) #[] lb] w fun e w' => ∃ v, e = .returned v ∧ w'.ownsRow w.heap.size 3 1 v L.length (iv L) ∧ Below w.heap.size w w' := by
  have HC := Lib.hid (appendSeq_calls w eg hN hseq)
  clear hseq
  go_enter Try.func49, Try.ntmps49
  go_wp2_with fail
  refine HC.out.mono ?_
  rintro e w' ⟨v, rfl, hr, hb⟩
  have HR := Lib.hid (And.intro hr hb)
  clear hr hb
  go_wp2_with fail
  go_ret
  exact ⟨_, rfl, HR.out⟩
set_option maxRecDepth 100000 in
set_option maxHeartbeats 4000000 in
theorem each_calls {A : Option Addr} {n c : Nat} (w : World) : Calls Try.prog 50 #[.slice A n c] w fun e w' => e = .returned (.func (.func 65) #[] #[.pointer (some ⟨w.heap.size, 0, none⟩)]) ∧ w' = w.alloc (.cells #[.slice A n c] 23) := by
  go_enter Try.func50, Try.ntmps50
  go_wp2_with fail
  go_ret
  exact ⟨rfl, rfl⟩
set_option maxRecDepth 100000 in
set_option maxHeartbeats 4000000 in
theorem slots_calls {l : List Int} {A : Option Addr} {n c : Nat} (w : World) (h : wo.IsI w A n c l) (ho : Ok l) : Calls Try.prog 23 #[.slice A n c] w fun e w' => ∃ A' c', e = .returned (.slice A' (slots l).length c') ∧ wo.IsI w' A' (slots l).length c' (slots l) ∧ Below w.heap.size w w' := by
  have hev := ho.2.2
  have hln := h.1
  have hb1 := below_new w (.cells #[.slice A n c] 23)
  have hb2 := below_new (w.alloc (.cells #[.slice A n c] 23)) (.cells #[.slice none 0 0] 22)
  have hs2 : ((w.alloc (.cells #[.slice A n c] 23)).alloc (.cells #[.slice none 0 0] 22)).heap.size = w.heap.size + 1 + 1 := by simp only [size_new]
  have hP := (One.new w 23 (.slice A n c)).below hb2
  have hseq := each1_seq (w := (w.alloc (.cells #[.slice A n c] 23)).alloc (.cells #[.slice none 0 0] 22)) [w.heap.size + 1] A n c (n / 2) w.heap.size l ho (by omega) hln (fun w' hk => by
    rw [hs2] at hk
    have hx := (hk.2 (by rw [hs2]; exact Nat.le_refl _)).1.below (n := w.heap.size) (by omega) (by simp)
    exact vk.isI_below h ((Below.andThen hb1 hb2).trans hx)) hP (by intro j hj; simp at hj; subst hj; rw [hs2]; omega)
  rw [hs2] at hseq
  have hc := collect_calls (w.alloc (.cells #[.slice A n c] 23)) (N := 20000000) (fun args w' => by kernel_rfl) (Nat.le_refl _) (by rw [size_new]; exact hseq)
  have HC := Lib.hid hc
  have HB := Lib.hid hb1
  have HSI : Hid (∀ x ∈ slots l, -9223372036854775808 ≤ x ∧ x ≤ 9223372036854775807) := fun x hx => by have := slots_in ho hx; omega
  clear h ho hev hln hb1 hb2 hs2 hP hseq hc
  go_enter Try.func23, Try.ntmps23
  go_wp2_with fail
  refine (each_calls _).mono ?_
  rintro e w' ⟨rfl, rfl⟩
  go_wp2_with fail
  refine HC.out.mono ?_
  rintro e w' ⟨v, rfl, hr, hb⟩
  obtain ⟨A', c', rfl, hI⟩ := vk.isI_of_own hr HSI.out
  have HF := Lib.hid (And.intro hI (HB.out.trans (hb.mono HB.out.size)))
  clear hr hb hI
  go_wp2_with fail
  go_ret
  exact ⟨_, _, rfl, HF.out⟩
set_option maxRecDepth 100000 in
set_option maxHeartbeats 16000000 in
theorem values1_seq {w : World} (M : List Nat) (B : Nat) (A : Option Addr) (n c Bc : Nat) (L : List Int) (hBw : B = w.heap.size) (hX : ∀ w', Kr4 M B w w' → wo.IsI w' A n c L) (hBc : One w Bc 22 (.slice A n c)) :
    SeqO 62 #[.pointer (some ⟨Bc, 0, none⟩)] (fun x : Int => .int .i64 x) (KpO M B) (fun ys => ys = L) (n + 1) w := by
  intro l J W hW hsz hJ hY hJ0
  refine callsIn_any (n := 4) (callsIn_of_wp Try.func62 rfl trivial ?_ rfl)
  simp only [Try.ntmps62, List.size_toArray, List.length_cons, List.length_nil, Nat.reduceAdd, Nat.reduceSub, Array.replicate_succ, Array.replicate_zero, List.push_toArray, List.append_toArray, List.nil_append, List.cons_append]
  have hc0 := (hBc.below hW).cell
  have hiW := hX W (Kr4.of_below hW)
  have hnc := hiW.2.1
  have hnm := hiW.2.2.1
  have HLN := Lib.hid hiW.1
  have HX := Lib.hid (fun w' (hk : Kr4 M B W w') => hX w' ((Kr4.of_below hW).trans hk))
  clear hX hBc hiW
  gi_wp2
  gi_loopw [7] (fun i u => ∃ k : Nat, k ≤ n ∧ i = .int .i64 (k : Int) ∧ J (L.take k) u ∧ Kr4 M B W u) (fun i _ => n - (intOf i).toNat)
  case atStart => exact ⟨0, Nat.zero_le _, rfl, hJ0, Kr4.refl _ _ _⟩
  case round =>
    obtain ⟨k, hk, rfl, hj, hkr⟩ := hrel
    have HJ := Lib.hid hj
    have HK := Lib.hid hkr
    clear hj hkr
    by_cases hlt : k < n
    · have hx : L[k]? = some (L[k]'(by rw [HLN.out]; omega)) := List.getElem?_eq_getElem _
      generalize L[k]'(by rw [HLN.out]; omega) = x at *
      obtain ⟨-, b, o, rfl, hcell⟩ := vk.isI_get (HX.out wr HK.out) hx
      have hlt0 : (k : Int) < (n : Int) := by omega
      have HTS := Lib.hid (take_snoc hx)
      obtain ⟨fn, tmps, assign, body, hy, hR⟩ := hY (L.take k) x wr HJ.out (by rw [List.length_take]; omega)
      clear hx
      gi_wp2
      refine RoundIn.mono (show RoundIn Fence.wide _ Try.prog l fn tmps assign body wr _ from ⟨hR.1, fun c2 cs _ => hR.2 c2 cs (room_wide _)⟩) ?_
      rintro e W3 ⟨rfl, hj3, hk3⟩
      have HJ3 := Lib.hid hj3
      have HK3 := Lib.hid (HK.out.trans hk3.1)
      clear hj3 hk3
      gi_wp2
      go_roundw
      case rel => exact ⟨k + 1, by omega, by go_num, by rw [HTS.out]; exact HJ3.out, HK3.out⟩
      case measure => simp [intOf]; omega
    · obtain rfl : n = k := by omega
      gi_wp2
      go_end0
      refine ⟨⟨_, rfl⟩, L, rfl, ?_⟩
      have := HJ.out
      rw [List.take_of_length_le (by rw [HLN.out]; omega)] at this
      exact this
set_option maxRecDepth 100000 in
set_option maxHeartbeats 4000000 in
theorem values_calls {A : Option Addr} {n c : Nat} (w : World) : Calls Try.prog 44 #[.slice A n c] w fun e w' => e = .returned (.func (.func 62) #[] #[.pointer (some ⟨w.heap.size, 0, none⟩)]) ∧ w' = w.alloc (.cells #[.slice A n c] 22) := by
  go_enter Try.func44, Try.ntmps44
  go_wp2_with fail
  go_ret
  exact ⟨rfl, rfl⟩
set_option maxRecDepth 100000 in
set_option maxHeartbeats 4000000 in
theorem sorted_calls {L : List Int} {gfn : Nat} {lb : Array Value} {N : Nat} (w : World) (eg : ∀ args w', (callFunc gfn args).run Try.prog w' = .ok (.enter gfn args) w') (hN : N ≤ 20000000) (hL : L.length ≤ 20000000)
    (hseq : SeqO gfn lb (fun x : Int => .int .i64 x) (KpO [w.heap.size] (w.heap.size + 1)) (fun ys => ys = L) N (w.alloc (.cells #[.slice none 0 0] 22))) :
    Calls Try.prog 43 #[.func (.func gfn) #[] lb] w fun e w' => ∃ v, e = .returned v ∧ w'.ownsRow w.heap.size 3 1 v (srtI L).length (iv (srtI L)) ∧ Below w.heap.size w w' := by
  have HC := Lib.hid (collect_calls w eg hN hseq)
  clear hseq
  go_enter Try.func43, Try.ntmps43
  go_wp2_with fail
  refine HC.out.mono ?_
  rintro e w' ⟨v, rfl, hr, hb⟩
  have HS := Lib.hid (sort_own hr hL)
  have HB := Lib.hid hb
  clear hr hb
  go_wp2_with fail
  refine HS.out.mono ?_
  rintro e w2 ⟨rfl, hr, hb⟩
  have HR : Hid (w2.ownsRow w.heap.size 3 1 v (srtI L).length (iv (srtI L)) ∧ Below w.heap.size w w2) := ⟨by rw [srtI_len]; exact hr, HB.out.trans hb⟩
  clear hr hb
  go_wp2_with fail
  go_ret
  exact ⟨_, rfl, HR.out⟩
end Go.Proofs.Ytieipbobijnmlaa.tk
/- Of. -/
namespace Go.Proofs.Ytieipbobijnmlaa.tk

open Go.ChangeShapes Go.WideShapes Go.ChangeAt Go.RowKit

open Go.Proofs.Ytieipbobijnmlaa.tq Go.Proofs.Ytieipbobijnmlaa.uk Go.Proofs.Ytieipbobijnmlaa.bk Go.Proofs.Ytieipbobijnmlaa.vk Go.Proofs.Ytieipbobijnmlaa.wk

set_option linter.unusedVariables false
attribute [local go_sem] Oper.semAt_some
def bad (x : Int) : Bool := decide (x < 0 ∨ 4096 ≤ x)
set_option maxRecDepth 100000 in
set_option maxHeartbeats 4000000 in
theorem of1_calls (x : Int) (w : World) : Calls Try.prog 41 #[.int .i64 x] w fun e w' => e = .returned (.bool (bad x)) ∧ w' = w := by
  unfold bad
  by_cases h1 : x < 0
  · go_enter Try.func41, Try.ntmps41
    go_wp2_with fail
    go_ret
    exact ⟨by simp [h1], rfl⟩
  · by_cases h2 : 4096 ≤ x
    · go_enter Try.func41, Try.ntmps41
      go_wp2_with fail
      go_ret
      exact ⟨by simp, rfl⟩
    · go_enter Try.func41, Try.ntmps41
      go_wp2_with fail
      go_ret
      exact ⟨by simp [h1, h2], rfl⟩
set_option maxRecDepth 100000 in
set_option maxHeartbeats 4000000 in
theorem index_calls {L : List Int} {A : Option Addr} {n c : Nat} (w : World) (h : wo.IsI w A n c L) : Calls Try.prog 60 #[.slice A n c, .func (.func 41) #[] #[]] w fun e w' => ∃ i, e = .returned (.int .i64 i) ∧ decide (0 ≤ i) = L.any bad ∧ w' = w := by
  have hnc := h.2.1
  have hnm := h.2.2.1
  have H := Lib.hid h
  have HL := Lib.hid h.1
  clear h
  go_enter Try.func60, Try.ntmps60
  go_wp2_with fail
  go_loopg [8] n (fun g x wr => ∃ k : Nat, k + g = n ∧ x = .int .i64 (k : Int) ∧ wr = w ∧ L.any bad = (L.drop k).any bad)
  case atStart => exact ⟨0, by omega, rfl, rfl, rfl⟩
  case round =>
    obtain ⟨k, hk, rfl, rfl, hd⟩ := hrel
    have HK := Lib.hid hk
    have HD := Lib.hid hd
    have hkn : k ≤ n := by omega
    clear hk hd
    by_cases hlt : k < n
    · have hx : L[k]? = some (L[k]'(by rw [HL.out]; omega)) := List.getElem?_eq_getElem _
      generalize L[k]'(by rw [HL.out]; omega) = x at *
      obtain ⟨-, b, o, rfl, hcell⟩ := vk.isI_get H.out hx
      have hlt0 : (k : Int) < (n : Int) := by omega
      have HDC := Lib.hid (drop_cons_at hx)
      clear hx
      go_wp2_with fail
      refine (of1_calls x _).mono ?_
      rintro e w' ⟨rfl, hw⟩
      rw [hw]
      clear hw w'
      cases hb : bad x with
      | true =>
        have HB : Hid (L.any bad = true) := by show _ = _; rw [HD.out, HDC.out, List.any_cons, hb]; rfl
        go_wp2_with fail
        go_ret
        exact ⟨_, rfl, by rw [HB.out]; simp, rfl⟩
      | false =>
        have HB : Hid (L.any bad = (L.drop (k + 1)).any bad) := by show _ = _; rw [HD.out, HDC.out, List.any_cons, hb]; rfl
        go_wp2_with fail
        go_roundg (gk - 1)
        case measure => have := HK.out; omega
        case rel => exact ⟨k + 1, by have := HK.out; omega, by go_num, rfl, HB.out⟩
    · have HB : Hid (L.any bad = false) := by show _ = _; rw [HD.out, List.drop_of_length_le (by rw [HL.out]; omega)]; rfl
      go_wp2_with fail
      go_ret
      exact ⟨_, rfl, by rw [HB.out]; rfl, rfl⟩
set_option maxRecDepth 100000 in
set_option maxHeartbeats 4000000 in
theorem contains_calls {L : List Int} {A : Option Addr} {n c : Nat} (w : World) (h : wo.IsI w A n c L) : Calls Try.prog 40 #[.slice A n c, .func (.func 41) #[] #[]] w fun e w' => e = .returned (.bool (L.any bad)) ∧ w' = w := by
  have HI := Lib.hid (index_calls w h)
  clear h
  go_enter Try.func40, Try.ntmps40
  go_wp2_with fail
  refine HI.out.mono ?_
  rintro e w' ⟨i, rfl, hi, hw⟩
  rw [hw]
  have HH := Lib.hid hi
  clear hw hi HI
  go_wp2_with fail
  go_ret
  exact ⟨by rw [← HH.out]; rfl, rfl⟩
theorem own_last {w : World} {B m : Nat} {v : Value} {d : List Int} {y : Int} (h : w.ownsRow B 3 1 v (m + 1) (iv (d ++ [y]))) (hd : d.length = m) : ∃ g cap, v = .slice (some ⟨g, 0, none⟩) (m + 1) cap ∧ B ≤ g ∧ m + 1 ≤ cap ∧ w.cell? ⟨g, m, none⟩ = some (.int .i64 y) ∧ w.frozen? ⟨g, m, none⟩ = false ∧ ∀ y', (w.setCell ⟨g, m, none⟩ (.int .i64 y')).ownsRow B 3 1 v (m + 1) (iv (d ++ [y'])) := by
  rcases h.2 with ⟨_, hn⟩ | ⟨g, cap, cur, rfl, hb, hg, h3, h4, h5, h6⟩
  · omega
  · have hcell0 := h.cells (g := g) rfl m (.int .i64 y) (by unfold iv; rw [List.getElem?_map, List.getElem?_append_right (by omega), hd, Nat.sub_self]; rfl)
    have hcell : w.cell? ⟨g, m, none⟩ = some (.int .i64 y) := by rw [wk.add_at, Nat.zero_add] at hcell0; exact hcell0
    refine ⟨g, cap, rfl, hb, h3, hcell, frozen_of_row _ _ _ _ _ hg, fun y' => ⟨?_, .inr ⟨g, cap, cur.setIfInBounds m (.int .i64 y'), rfl, hb, heap_setCell_same w g m cur 3 _ hg, h3, h4, by simpa using h5, ?_⟩⟩⟩
    · unfold iv; simp [hd]
    · rw [Array.toList_setIfInBounds, List.take_set, h6]
      unfold iv
      rw [List.map_append, List.map_append, List.set_append_right _ _ (by simp [hd])]
      simp [hd]
theorem two_cells (w : World) (x y : Int) (k : Nat) (u : Value) (hu : (iv [x, y])[k]? = some u) : (w.alloc (.cells #[.int .i64 x, .int .i64 y] 3)).cell? ((⟨w.heap.size, 0, none⟩ : Addr).add k) = some u := by
  rw [wk.add_at, Nat.zero_add, cell_of_row _ _ _ _ _ _ (heap_alloc_new w _)]
  simpa [iv] using hu
theorem ones2 (x y : Int) : ∀ u ∈ iv [x, y], u.oneCell' = true := by
  intro u hu; simp [iv] at hu; rcases hu with rfl | rfl <;> rfl
def ofp (L : List Int) (x : Int) : Bool := !(L.any bad) && decide (x ∈ L)
def ofe (L : List Int) : Int := if L.any bad then 1 else 0
theorem bad_of {L : List Int} (h : L.any bad = false) : ∀ x ∈ L, 0 ≤ x ∧ x < 4096 := fun x hx => by
  have := List.any_eq_false.1 h x hx
  unfold bad at this
  simp at this
  omega
set_option maxRecDepth 100000 in
set_option maxHeartbeats 16000000 in
theorem of_calls {L : List Int} {A : Option Addr} {n c : Nat} (w : World) (h : wo.IsI w A n c L) (hn : n ≤ 1000000) : Calls Try.prog 11 #[.slice A n c] w fun e w' => ∃ A' n' c', e = .returned (.tuple #[.slice A' n' c', .int .i64 (ofe L)]) ∧ IsS w' A' n' c' (ofp L) ∧ Below w.heap.size w w' := by
  obtain ⟨i0, hi, hz0, hz1, hz2⟩ := info_parts wi.infoI
  have HC := Lib.hid (contains_calls w h)
  have HL := Lib.hid h.1
  have hb1 := below_new w (.cells #[.slice A n c] 22)
  have hb2 := below_new (w.alloc (.cells #[.slice A n c] 22)) (.cells #[.slice none 0 0] 22)
  have hs2 : ((w.alloc (.cells #[.slice A n c] 22)).alloc (.cells #[.slice none 0 0] 22)).heap.size = w.heap.size + 1 + 1 := by simp only [size_new]
  have hseq := values1_seq (w := (w.alloc (.cells #[.slice A n c] 22)).alloc (.cells #[.slice none 0 0] 22)) [w.heap.size + 1] (w.heap.size + 1 + 1) A n c w.heap.size L hs2.symm (fun w' hk => by
    have hx := (hk.2 (by rw [hs2]; exact Nat.le_refl _)).1.below (n := w.heap.size) (by omega) (by simp)
    exact vk.isI_below h ((Below.andThen hb1 hb2).trans hx)) ((One.new w 22 (.slice A n c)).below hb2)
  have HS := Lib.hid (sorted_calls (L := L) (w.alloc (.cells #[.slice A n c] 22)) (N := n + 1) (fun args w' => by kernel_rfl) (by omega) (by have := h.1; omega) (by rw [size_new]; exact hseq))
  have HB0 := Lib.hid hb1
  clear h hb1 hb2 hs2 hseq
  go_enter Try.func11, Try.ntmps11
  go_wp2_with fail
  refine HC.out.mono ?_
  rintro e w' ⟨rfl, hw⟩
  rw [hw]
  clear hw w'
  cases hbad : L.any bad with
  | true =>
    have HP : Hid (∀ x, ofp L x = false) := fun x => by unfold ofp; rw [hbad]; rfl
    have HE : Hid (ofe L = 1) := by show _ = _; unfold ofe; rw [hbad]; rfl
    clear hbad
    go_wp2_with fail
    exact bodyPost_ret (res2 rfl _ _) rfl ⟨none, 0, 0, by rw [HE.out]; rfl, isS_nil _ HP.out, Below.refl _ _⟩
  | false =>
    have HIN := Lib.hid (bad_of hbad)
    have HE : Hid (ofe L = 0) := by show _ = _; unfold ofe; rw [hbad]; rfl
    have HPP : Hid (∀ x, ofp L x = decide (x ∈ L)) := fun x => by unfold ofp; rw [hbad]; rfl
    clear hbad
    go_wp2_with fail
    refine (values_calls _).mono ?_
    rintro e w' ⟨rfl, rfl⟩
    go_wp2_with fail
    refine HS.out.mono ?_
    rintro e w2 ⟨v2, rfl, hr2, hb2⟩
    have HC2 := Lib.hid (compact_own hr2 (by rw [srtI_len, HL.out]; omega))
    have HB2w := Lib.hid (HB0.out.trans (hb2.mono HB0.out.size))
    have HBS : Hid (w.heap.size + 1 ≤ w2.heap.size) := by have := hb2.size; rw [size_new] at this; exact this
    clear hr2 hb2
    go_wp2_with fail
    refine HC2.out.mono ?_
    rintro e w3 ⟨v3, rfl, hr3, hb3⟩
    obtain ⟨hasc, hmem⟩ := compact_asc (srtI_asc L)
    have hcl := compact_len (srtI L)
    rw [srtI_len, HL.out] at hcl
    generalize Lib.compact (srtI L) = s at *
    have hms : ∀ x, x ∈ s ↔ x ∈ L := fun x => by rw [hmem, mem_srtI]
    have HSI : Hid (∀ x ∈ s, 0 ≤ x ∧ x < 4096) := fun x hx => HIN.out x ((hms x).1 hx)
    obtain ⟨A3, c3, rfl, hI⟩ := vk.isI_of_own hr3 (fun x hx => by have := HSI.out x hx; omega)
    have HMS := Lib.hid hms
    have HASC := Lib.hid hasc
    have HI3 := Lib.hid hI
    have HB3 : Hid (Below w.heap.size w w3) := HB2w.out.trans (by
      refine ⟨hb3.os, hb3.tape, hb3.output, ?_, fun k hk => hb3.block k (by rw [size_new]; omega)⟩
      have := hb3.size; have := HBS.out; exact hb3.size)
    have hnc3 := hI.2.1
    have hnm3 := hI.2.2.1
    obtain ⟨ns, hns⟩ : ∃ ns, s.length = ns := ⟨_, rfl⟩
    rw [hns] at hcl hnc3 HI3
    rw [hns]
    have HNS := Lib.hid hns
    clear hr3 hb3 hI hms hasc hmem hns
    go_wp2_with fail
    go_loopg [4, 15] ns (fun gg s4 xk wr => ∃ (k : Nat) (v : Value) (d : List Int), k + gg = ns ∧ v = s4 ∧ xk = .int .i64 (k : Int) ∧ Below w3.heap.size w3 wr ∧ wr.ownsRow w3.heap.size 3 1 v d.length (iv d) ∧ Oi s k d ∧ d.length ≤ 2 * k)
    case atStart => exact ⟨0, _, [], by omega, rfl, rfl, Below.refl _ _, by simpa [iv] using World.ownsRow_nil _ _ _ _, oi_start s, by simp⟩
    case round =>
      obtain ⟨k, v, d, hk, rfl, rfl, hbel, hown, hoi, hdl⟩ := hrel
      have HK := Lib.hid hk
      have HBEL := Lib.hid hbel
      have HOW := Lib.hid hown
      have HOI := Lib.hid hoi
      have HLE := Lib.hid hdl
      have HBW : Hid (w3.heap.size ≤ wr.heap.size) := hbel.size
      have hkn : k ≤ ns := by omega
      clear hk hown hoi
      by_cases hlt : k < ns
      · have hx : s[k]? = some (s[k]'(by rw [HNS.out]; omega)) := List.getElem?_eq_getElem _
        generalize s[k]'(by rw [HNS.out]; omega) = x at *
        obtain ⟨-, b, o, rfl, hcell⟩ := vk.isI_get (vk.isI_below HI3.out hbel) hx
        have hlt0 : (k : Int) < (ns : Int) := by omega
        have hxr := HSI.out x (List.mem_of_getElem? hx)
        have hwx : IntKind.i64.wrap (x + 1) = x + 1 := by rw [IntKind.wrap_i64]; omega
        rcases List.eq_nil_or_concat d with hd0 | ⟨d2, y, hd2⟩
        · subst hd0
          have HN := Lib.hid (oi_grow HASC.out HSI.out HOI.out hx (by simp))
          obtain ⟨A5, c5, rfl⟩ := own_shape HOW.out
          have hwn : IntKind.i64.wrap (-1) = -1 := by decide
          have hng : ¬ (0 : Int) ≤ -1 := by omega
          clear hx hbel hdl
          have HR2 := Lib.hid (below_new wr (.cells #[.int .i64 x, .int .i64 (x + 1)] 3))
          have HO2 := Lib.hid (keptB HOW.out HR2.out)
          have HCI : Hid (∀ k u, (iv [x, x + 1])[k]? = some u → (wr.alloc (.cells #[.int .i64 x, .int .i64 (x + 1)] 3)).cell? ((⟨wr.heap.size, 0, none⟩ : Addr).add k) = some u) := fun k u hu => two_cells wr x (x + 1) k u hu
          have HB2 : Hid (Below w3.heap.size w3 (wr.alloc (.cells #[.int .i64 x, .int .i64 (x + 1)] 3))) := HBEL.out.trans (HR2.out.mono HBW.out)
          go_wp2_with (at_builtin; refine wpList_append_own _ rfl _ _ 23 rfl w3.heap.size 3 i0 (.int .i64 0) 1 8 Try.underlying23 hi hz0 hz1 hz2 rfl (by decide) _ _ _ rfl HO2.out ⟨wr.heap.size, 0, none⟩ 2 2 (iv [x, x + 1]) rfl rfl HCI.out (ones2 x (x + 1)) (by have := HLE.out; unfold maxLen; omega) (by have := HLE.out; omega) (by rw [size_new]; have := HBW.out; omega) ?_)
          intro v5 w5 hown5 hg5 _
          have HB5 := Lib.hid (HB2.out.grown hg5 HB2.out.size (fun g hg => (HO2.out.lt g hg).1))
          have HOW5 := Lib.hid hown5
          clear hown5 hg5
          go_wp2_with fail
          go_roundg (gk - 1)
          case measure => have := HK.out; omega
          case rel => exact ⟨k + 1, _, [] ++ [x, x + 1], by have := HK.out; omega, rfl, by go_num, HB5.out, by rw [iv_append, List.length_append]; exact HOW5.out, HN.out, by have := HLE.out; rw [List.length_append]; simp only [List.length_cons, List.length_nil] at this ⊢; omega⟩
        · rw [List.concat_eq_append] at hd2
          subst hd2
          have hdl2 := hdl
          rw [List.length_append, List.length_singleton] at hdl2
          obtain ⟨m, hm⟩ : ∃ m, d2.length = m := ⟨_, rfl⟩
          have HOW1 := HOW.out
          rw [List.length_append, List.length_singleton, hm] at HOW1
          obtain ⟨g5, c5, rfl, hg5, hmc, hy0, hy1, hset⟩ := own_last HOW1 hm
          have HSET := Lib.hid hset
          have HG5 := Lib.hid hg5
          have HM := Lib.hid hm
          have hmi : (m : Int) < ((m : Int) + 1) := by omega
          have hm0 : (0 : Int) ≤ (m : Int) := by omega
          have hmb : m < 2000000 := by omega
          have hwm : IntKind.i64.wrap (m : Int) = (m : Int) := by rw [IntKind.wrap_i64]; omega
          have hmn : (m : Int) < ((m + 1 : Nat) : Int) := by omega
          have hlen : ((d2 ++ [y]).length : Int) - 1 = (m : Int) := by rw [List.length_append, List.length_singleton, hm]; omega
          by_cases hxy : y = x
          · subst hxy
            have HN := Lib.hid (oi_last HASC.out HSI.out HOI.out hx)
            clear hx hbel hdl HOW1 hset hg5 hm hlen
            go_wp2_with fail
            go_roundg (gk - 1)
            case measure => have := HK.out; omega
            case rel => exact ⟨k + 1, _, d2 ++ [y + 1], by have := HK.out; omega, rfl, by go_num, HBEL.out.setCell (p := ⟨g5, m, none⟩) HG5.out _, by rw [List.length_append, List.length_singleton, HM.out]; exact HSET.out _, HN.out, by have := HLE.out; rw [List.length_append, List.length_singleton] at this ⊢; omega⟩
          · have HN := Lib.hid (oi_grow HASC.out HSI.out HOI.out hx (fun z hz => by
              rcases List.mem_append.1 hz with hz | hz
              · have h1 := HOI.out.1
                have := (List.pairwise_append.1 h1).2.2 z hz y (by simp)
                have := HOI.out.2.2.2.2 x (by rw [drop_cons_at hx]; simp) y (by simp)
                omega
              · rw [List.mem_singleton.1 hz]; exact hxy))
            have hne : (y == x) = false := by simpa using hxy
            clear hx hbel hdl HOW1 hset hg5 hm hlen hxy
            have HR2 := Lib.hid (below_new wr (.cells #[.int .i64 x, .int .i64 (x + 1)] 3))
            have HO2 := Lib.hid (keptB HOW.out HR2.out)
            have HCI : Hid (∀ k u, (iv [x, x + 1])[k]? = some u → (wr.alloc (.cells #[.int .i64 x, .int .i64 (x + 1)] 3)).cell? ((⟨wr.heap.size, 0, none⟩ : Addr).add k) = some u) := fun k u hu => two_cells wr x (x + 1) k u hu
            have HB2 : Hid (Below w3.heap.size w3 (wr.alloc (.cells #[.int .i64 x, .int .i64 (x + 1)] 3))) := HBEL.out.trans (HR2.out.mono HBW.out)
            go_wp2_with (at_builtin; refine wpList_append_own _ rfl _ _ 23 rfl w3.heap.size 3 i0 (.int .i64 0) 1 8 Try.underlying23 hi hz0 hz1 hz2 rfl (by decide) _ _ _ rfl HO2.out ⟨wr.heap.size, 0, none⟩ 2 2 (iv [x, x + 1]) rfl rfl HCI.out (ones2 x (x + 1)) (by have := HLE.out; unfold maxLen; omega) (by have := HLE.out; omega) (by rw [size_new]; have := HBW.out; omega) ?_)
            intro v5 w5 hown5 hg5 _
            have HB5 := Lib.hid (HB2.out.grown hg5 HB2.out.size (fun g hg => (HO2.out.lt g hg).1))
            have HOW5 := Lib.hid hown5
            clear hown5 hg5
            go_wp2_with fail
            go_roundg (gk - 1)
            case measure => have := HK.out; omega
            case rel => exact ⟨k + 1, _, (d2 ++ [y]) ++ [x, x + 1], by have := HK.out; omega, rfl, by go_num, HB5.out, by have := HOW5.out; simpa [iv, Nat.add_assoc] using this, HN.out, by have := HLE.out; rw [List.length_append]; simp only [List.length_cons, List.length_nil] at this ⊢; omega⟩
      · obtain rfl : ns = k := by omega
        have hE := oi_end (s := s) (b := d) (by rw [HNS.out]; exact HOI.out)
        obtain ⟨A7, c7, rfl, hI⟩ := vk.isI_of_own HOW.out (fun x hx => by have := hE.1.2.1 x hx; omega)
        have HS7 : Hid (IsS wr A7 d.length c7 (ofp L)) := ⟨d, hI, hE.1, fun x => by
          rw [HPP.out]
          cases hx : has d x with
          | true => rw [decide_eq_true ((HMS.out x).1 ((hE.2 x).1 hx))]
          | false => rw [decide_eq_false (fun h => by rw [(hE.2 x).2 ((HMS.out x).2 h)] at hx; cases hx)]⟩
        have HB7 := Lib.hid (HB3.out.trans (hbel.mono HB3.out.size))
        clear hE hI hbel hdl
        go_wp2_with fail
        exact bodyPost_ret (res2 rfl _ _) rfl ⟨A7, d.length, c7, by rw [HE.out]; rfl, HS7.out, HB7.out⟩
end Go.Proofs.Ytieipbobijnmlaa.tk
/- The reference's Same. -/
namespace Go.Proofs.Ytieipbobijnmlaa.tk

open Go.ChangeShapes Go.WideShapes Go.ChangeAt Go.RowKit

open Go.Proofs.Ytieipbobijnmlaa.tq Go.Proofs.Ytieipbobijnmlaa.vk Go.Proofs.Ytieipbobijnmlaa.wk

set_option linter.unusedVariables false
attribute [local go_sem] Oper.semAt_some
theorem below_drewN (w : World) (q : Nat) : Below w.heap.size w (w.drewN q) := ⟨rfl, rfl, rfl, Nat.le_refl _, fun k hk => rfl⟩
theorem dropI_eq {a b : List Int} {k : Nat} {x y : Int} (h : a[k]? = some x) (h' : b[k]? = some y) : (a.drop k == b.drop k) = (x == y && (a.drop (k + 1) == b.drop (k + 1))) := by
  rw [drop_cons_at h, drop_cons_at h']; rfl
theorem ix_get {l : List Int} {k : Nat} (h : k < l.length) : ∃ x, l[k]? = some x := ⟨_, List.getElem?_eq_getElem h⟩
set_option maxRecDepth 100000 in
set_option maxHeartbeats 4000000 in
theorem rsame_calls {r s : List Int} {n c n' c' : Nat} {A A' : Option Addr} (w : World) (h : wo.IsI w A n c r) (h' : wo.IsI w A' n' c' s) :
    Calls Try.prog 16 #[.slice A n c, .slice A' n' c'] w fun e w' => e = .returned (.bool (r == s)) ∧ Below w.heap.size w w' := by
  have hm := h.2.2.1
  have hnc := h.2.1
  have hm' := h'.2.2.1
  have hnc' := h'.2.1
  by_cases hnn : n = n'
  · subst hnn
    have H := Lib.hid h
    have H' := Lib.hid h'
    clear h h'
    go_enter Try.func16, Try.ntmps16
    go_wp2_with fail
    go_loopg [5] n (fun g x wr => ∃ k q : Nat, k + g = n ∧ x = .int .i64 (k : Int) ∧ wr = w.drewN q ∧ (r == s) = (r.drop k == s.drop k))
    case atStart => exact ⟨0, 0, by omega, rfl, rfl, rfl⟩
    case round =>
      obtain ⟨k, q, hk, rfl, rfl, hr⟩ := hrel
      have HK := Lib.hid hk
      have HR := Lib.hid hr
      have hkn : k ≤ n := by omega
      clear hk hr
      by_cases hlt : k < n
      · obtain ⟨x, hX⟩ := ix_get (l := r) (k := k) (by have := H.out.1; omega)
        obtain ⟨y, hY⟩ := ix_get (l := s) (k := k) (by have := H'.out.1; omega)
        obtain ⟨-, b, o, rfl, hc1⟩ := vk.isI_get H.out hX
        obtain ⟨-, b2, o2, rfl, hc2⟩ := vk.isI_get H'.out hY
        have HS := Lib.hid (dropI_eq hX hY)
        have hlt0 : (k : Int) < (n : Int) := by omega
        clear hX hY
        by_cases hxy : x = y
        · subst hxy
          have HBE : Hid ((x == x) = true) := by show _ = _; simp
          go_wp2_with fail
          go_quiet (fail)
          go_wp2_with fail
          go_roundg (gk - 1)
          case measure => have := HK.out; omega
          case rel => exact ⟨k + 1, _, by have := HK.out; omega, by go_num, by first | rfl | exact drewN_add _ _ _, by rw [HR.out, HS.out, HBE.out]; rfl⟩
        · have HBE : Hid ((x == y) = false) := by show _ = _; rw [beq_eq_false_iff_ne]; exact hxy
          have hne : (x == y) = false := HBE.out
          go_wp2_with fail
          go_quiet (fail)
          go_wp2_with fail
          go_ret
          exact ⟨by rw [HR.out, HS.out, HBE.out]; rfl, by first | exact below_drewN _ _ | (rw [drewN_add]; exact below_drewN _ _)⟩
      · have h1 := HR.out
        rw [List.drop_of_length_le (by have := H.out.1; omega), List.drop_of_length_le (by have := H'.out.1; omega)] at h1
        have H1 := Lib.hid h1
        clear h1
        go_wp2_with fail
        go_ret
        exact ⟨by rw [H1.out]; rfl, below_drewN _ _⟩
  · have hE : (r == s) = false := by
      rw [beq_eq_false_iff_ne]
      intro h2; subst h2; exact hnn (h.1.symm.trans h'.1)
    rw [hE]
    have hne : ((n : Int) == (n' : Int)) = false := by simp; omega
    clear h h' hE
    go_enter Try.func16, Try.ntmps16
    go_wp2_with fail
    go_ret
    exact ⟨rfl, Below.refl _ _⟩
end Go.Proofs.Ytieipbobijnmlaa.tk
/- The reference's Valid. -/
namespace Go.Proofs.Ytieipbobijnmlaa.tk

open Go.ChangeShapes Go.WideShapes Go.ChangeAt Go.RowKit

open Go.Proofs.Ytieipbobijnmlaa.tq Go.Proofs.Ytieipbobijnmlaa.vk Go.Proofs.Ytieipbobijnmlaa.wk

set_option linter.unusedVariables false
attribute [local go_sem] Oper.semAt_some
set_option maxRecDepth 100000 in
set_option maxHeartbeats 16000000 in
theorem rvalid_calls {l : List Int} {A : Option Addr} {n c : Nat} (w : World) (h : wo.IsI w A n c l) : Calls Try.prog 15 #[.slice A n c] w fun e w' => e = .returned (.bool (vs l)) ∧ Below w.heap.size w w' := by
  have hnc := h.2.1
  have hnm := h.2.2.1
  have H := Lib.hid h
  have HL := Lib.hid h.1
  clear h
  go_enter Try.func15, Try.ntmps15
  go_wp2_with fail
  go_loopg [3] n (fun g x wr => ∃ (k q : Nat) (last : Int), k + g = n ∧ x = .int .i64 (k : Int) ∧ wr = w.drewN q ∧ chk (-1) l = chk last (l.drop k) ∧ -1 ≤ last ∧ (k = 0 → last = -1) ∧ ∀ p, k = p + 1 → l[p]? = some last)
  case atStart => exact ⟨0, 0, -1, by omega, rfl, rfl, rfl, by omega, fun _ => rfl, fun p h => by omega⟩
  case round =>
    obtain ⟨k, q, last, hk, rfl, rfl, hc, hl1, hl2, hl3⟩ := hrel
    have HK := Lib.hid hk
    have HC := Lib.hid hc
    have hkn : k ≤ n := by omega
    clear hk hc
    by_cases hlt : k < n
    · obtain ⟨x, hx⟩ := ix_get (l := l) (k := k) (by rw [HL.out]; omega)
      obtain ⟨-, b, o, rfl, hcell⟩ := vk.isI_get H.out hx
      have hlt0 : (k : Int) < (n : Int) := by omega
      have HX := Lib.hid hx
      clear hx
      by_cases h0 : x < 0
      · have HV := Lib.hid (chk_bad HX.out HC.out (.inl (by omega)))
        clear hl2 hl3
        go_wp2_with fail
        go_quiet (fail)
        go_wp2_with fail
        go_ret
        exact ⟨by rw [HV.out]; rfl, by first | exact below_drewN _ _ | (rw [drewN_add]; exact below_drewN _ _)⟩
      · have hd0 : decide (x < 0) = false := decide_eq_false h0
        by_cases h2 : 4096 < x
        · have HV := Lib.hid (chk_bad HX.out HC.out (.inr h2))
          have hd2 : decide (4096 < x) = true := decide_eq_true h2
          clear h0 h2 hl1
          clear hl2 hl3
          go_wp2_with fail
          go_quiet (fail)
          go_wp2_with fail
          go_ret
          exact ⟨by rw [HV.out]; rfl, by first | exact below_drewN _ _ | (rw [drewN_add]; exact below_drewN _ _)⟩
        · have hd2 : decide (4096 < x) = false := decide_eq_false h2
          by_cases hk0 : k = 0
          · have hlz := hl2 hk0
            have HK0 := Lib.hid hk0
            have hdk : decide (0 < k) = false := decide_eq_false (by omega)
            have HN := Lib.hid (chk_next HX.out HC.out (by omega) (by omega))
            have HX1 : Hid (-1 ≤ x) := by show _ ≤ _; omega
            clear hl2 hl3 hk0 hlz h0 h2 hl1
            go_wp2_with fail
            go_quiet (fail)
            go_wp2_with fail
            go_roundg (gk - 1)
            case measure => have := HK.out; omega
            case rel => exact ⟨k + 1, _, x, by have := HK.out; omega, by go_num, by first | rfl | exact drewN_add _ _ _, HN.out, HX1.out, fun h => by omega, fun p1 h => (by omega : k = p1) ▸ HX.out⟩
          · obtain ⟨p, hp⟩ : ∃ p, k = p + 1 := ⟨k - 1, by omega⟩
            have HKP := Lib.hid hp
            have hy := hl3 p hp
            obtain ⟨-, b2, o2, he, hcell2⟩ := vk.isI_get H.out hy
            cases he
            have hpn : p < n := by omega
            have hpn0 : (p : Int) < (n : Int) := by omega
            have hwp : IntKind.i64.wrap ((k : Int) - 1) = (p : Int) := by rw [IntKind.wrap_i64]; omega
            have hdk : decide (0 < k) = true := decide_eq_true (by omega)
            clear hl2 hl3 hy hk0 hp
            by_cases h1 : x ≤ last
            · have HV := Lib.hid (chk_bad HX.out HC.out (.inl h1))
              have hd1 : decide (x ≤ last) = true := decide_eq_true h1
              clear h0 h2 h1
              go_wp2_with fail
              go_quiet (fail)
              go_wp2_with fail
              go_ret
              exact ⟨by rw [HV.out]; rfl, by first | exact below_drewN _ _ | (rw [drewN_add]; exact below_drewN _ _)⟩
            · have HN := Lib.hid (chk_next HX.out HC.out (by omega) (by omega))
              have hd1 : decide (x ≤ last) = false := decide_eq_false h1
              have HX1 : Hid (-1 ≤ x) := by show _ ≤ _; omega
              clear h0 h2 h1 hl1
              go_wp2_with fail
              go_quiet (fail)
              go_wp2_with fail
              go_roundg (gk - 1)
              case measure => have := HK.out; omega
              case rel => exact ⟨k + 1, _, x, by have := HK.out; omega, by go_num, by first | rfl | exact drewN_add _ _ _, HN.out, HX1.out, fun h => by omega, fun p1 h => (by omega : k = p1) ▸ HX.out⟩
    · obtain rfl : n = k := by omega
      have HV := Lib.hid (chk_end HL.out HC.out)
      have ho : n % 2 = 0 ∨ n % 2 = 1 := by omega
      clear hl2 hl3
      rcases ho with ho | ho
      · have HO : Hid ((!odd n) = true) := by show _ = _; rw [odd_false.2 ho]; rfl
        have hr : Int.tmod (n : Int) 2 = 0 := by rw [Int.tmod_eq_emod_of_nonneg (by omega)]; omega
        go_wp2_with fail
        go_ret
        exact ⟨by rw [HV.out, HO.out]; rfl, below_drewN _ _⟩
      · have HO : Hid ((!odd n) = false) := by show _ = _; rw [odd_iff.2 ho]; rfl
        have hr : Int.tmod (n : Int) 2 = 1 := by rw [Int.tmod_eq_emod_of_nonneg (by omega)]; omega
        go_wp2_with fail
        go_ret
        exact ⟨by rw [HV.out, HO.out]; rfl, below_drewN _ _⟩
theorem vs_ok {l : List Int} : vs l = true ↔ Ok l := vs_iff
end Go.Proofs.Ytieipbobijnmlaa.tk
