/- Joined: Hs Ht Val10. -/
import Derived.Test.YtckipafciomklaaG11
/- Decode. -/
namespace Go.Proofs.Ytckipafciomklaa.bk

open Go.ChangeShapes Go.WideShapes Go.ChangeAt Go.RowKit

open Go.Proofs.Ytckipafciomklaa.bq Go.Proofs.Ytckipafciomklaa.vk Go.Proofs.Ytckipafciomklaa.wk

set_option linter.unusedVariables false
attribute [local go_sem] Oper.semAt_some
theorem map_rangeN {α : Type} {n : Nat} {ys : List (Nth n)} (hy : ys.map (·.1) = List.range n) (f : Nat → α) : ys.map (fun x => f x.1) = (List.range n).map f := by
  rw [← hy, List.map_map]; rfl
def hitAt (N : List Int) (k : Nat) : H := (hits N).getD k (0, 0, 0)
theorem hits_range (N : List Int) {m : Nat} (h : N.length = 3 * m) : (List.range m).map (hitAt N) = hits N := by
  have hl : (hits N).length = m := by rw [hits_length, h]; omega
  refine List.ext_getElem (by simp [hl]) fun i h1 h2 => ?_
  simp only [List.getElem_map, List.getElem_range]
  unfold hitAt
  rw [List.getD_eq_getElem?_getD, List.getElem?_eq_getElem h2]; rfl
theorem hitAt_of {N : List Int} {k : Nat} (h : 3 * k + 2 < N.length) : N[3 * k]? = some (hitAt N k).1 ∧ N[3 * k + 1]? = some (hitAt N k).2.1 ∧ N[3 * k + 2]? = some (hitAt N k).2.2 := by
  obtain ⟨a, b, c, h1, h2, h3, h4⟩ := hits_at h
  have e : hitAt N k = (a, b, c) := by unfold hitAt; rw [List.getD_eq_getElem?_getD, h4]; rfl
  rw [e]; exact ⟨h1, h2, h3⟩
set_option maxRecDepth 100000 in
set_option maxHeartbeats 4000000 in
theorem chunk_calls (A : Option Addr) (n c : Nat) (w : World) : Calls Try.prog 51 #[.slice A n c, .int .i64 3] w fun e w' => e = .returned (.func (.func 69) #[] #[.pointer (some ⟨w.heap.size, 0, none⟩), .pointer (some ⟨w.heap.size + 1, 0, none⟩)]) ∧ w' = (w.alloc (.cells #[.slice A n c] 66)).alloc (.cells #[.int .i64 3] 3) := by
  have hc := heap_alloc_new (w.alloc (.cells #[.slice A n c] 66)) (.cells #[.int .i64 3] 3)
  rw [size_new] at hc
  have hc0 : ((w.alloc (.cells #[.slice A n c] 66)).alloc (.cells #[.int .i64 3] 3)).cell? ⟨w.heap.size + 1, 0, none⟩ = some (.int .i64 3) := by rw [cell_of_row _ _ _ _ _ _ hc]; rfl
  clear hc
  go_enter Try.func51, Try.ntmps51
  go_wp2_with fail
  go_ret
  exact ⟨rfl, rfl⟩
theorem infoIn1 : (Try.prog.info? 3).map (·.size) = some 1 := by kernel_rfl
theorem run_chunk (w' : World) (b o n c k : Nat) (h : 3 * k + 3 ≤ n) (hc : n ≤ c) : (Instr.slice 66 (.slice (some ⟨b, o, none⟩) n c) (some (.int .i64 (3 * (k : Int)))) (some (.int .i64 (3 * (k : Int) + 3))) (some (.int .i64 (3 * (k : Int) + 3)))).run Try.prog w' = .ok (.slice (some ⟨b, o + 3 * k, none⟩) 3 3) w' := by
  have ht : Try.prog.underlying 66 = some (.slice (Try.prog.elem 66)) := by simp [Program.elem, Try.underlying66]
  have he : Try.prog.elem 66 = 3 := by simp [Program.elem, Try.underlying66]
  rw [run_slice_lhm w' 66 (some ⟨b, o, none⟩) n c ht .i64 .i64 .i64 (3 * (k : Int)) (3 * (k : Int) + 3) (3 * (k : Int) + 3) (by omega) (by omega) (by omega) (by omega), he, wk.run_sizeOf w' 3 1 infoIn1]
  have h1 : (3 * (k : Int)).toNat = 3 * k := by omega
  have h2 : (3 * (k : Int) + 3).toNat = 3 * k + 3 := by omega
  simp only [Result.andThen, sliced, h1, h2, Nat.mul_one]
  rw [if_neg (by omega)]
  simp [wk.add_at]
theorem run_tailI (w' : World) (b o n c k : Nat) (h : 3 * k + 3 ≤ n) (hc : n ≤ c) : (Instr.slice 66 (.slice (some ⟨b, o, none⟩) n c) (some (.int .i64 (3 * (k : Int)))) none none).run Try.prog w' = .ok (.slice (some ⟨b, o + 3 * k, none⟩) (n - 3 * k) (c - 3 * k)) w' := by
  have ht : Try.prog.underlying 66 = some (.slice (Try.prog.elem 66)) := by simp [Program.elem, Try.underlying66]
  have he : Try.prog.elem 66 = 3 := by simp [Program.elem, Try.underlying66]
  rw [run_slice_l w' 66 (some ⟨b, o, none⟩) n c ht .i64 (3 * (k : Int)) (by omega) (by omega), he, wk.run_sizeOf w' 3 1 infoIn1]
  have h1 : (3 * (k : Int)).toNat = 3 * k := by omega
  simp only [Result.andThen, sliced, h1, Nat.mul_one]
  rw [if_neg (by omega)]
  simp [wk.add_at]
set_option maxRecDepth 100000 in
set_option maxHeartbeats 4000000 in
theorem chunk1_in (mm : Nat) (l B1 B2 B : Nat) (M : List Nat) (A : Option Addr) (b o n c m : Nat) (hA : 0 < n → A = some ⟨b, o, none⟩) (hnm : n = 3 * m) (hnc : n ≤ c) (hc63 : c ≤ 9223372036854775807) (h1000 : n ≤ 1000000) (hB1 : B1 < B) (hB1M : B1 ∉ M) (hB2 : B2 < B) (hB2M : B2 ∉ M)
    (J Jx : List (Nth m) → World → Prop) (W : World) (hJ : AbidesFrom W.heap.size J)
    (hY : ∀ pre x W, J pre W → pre.length < m → YieldAt Fence.wide (mm - 1) Try.prog l #[.slice (some ⟨b, o + 3 * x.1, none⟩) 3 3] W fun e W' =>
      (e = .returned (.bool true) ∧ J (pre ++ [x]) W' ∧ Exc M B W W') ∨ (e = .returned (.bool false) ∧ Jx (pre ++ [x]) W'))
    (hB : B ≤ W.heap.size) (h1 : Box W B1 (.slice A n c)) (h2 : Box W B2 (.int .i64 3)) (h0 : J [] W) :
    CallsIn Fence.wide mm Try.prog 69 #[.func (.yield l) #[] #[], .pointer (some ⟨B1, 0, none⟩), .pointer (some ⟨B2, 0, none⟩)] W fun e W' => (∃ v, e = .returned v) ∧
      ((∃ ys, ys.map (·.1) = List.range m ∧ J ys W') ∨ (∃ pre, Jx pre W')) := by
  refine callsIn_of_wp Try.func69 rfl trivial ?_ rfl
  simp only [Try.ntmps69, List.size_toArray, List.length_cons, List.length_nil, Nat.reduceAdd, Nat.reduceSub, Array.replicate_succ, Array.replicate_zero, List.push_toArray, List.append_toArray, List.nil_append, List.cons_append]
  have HNM := Lib.hid hnm
  clear hnm
  have hc1 := h1.cell
  have hc2 := h2.cell
  have H1 := Lib.hid h1
  have H2 := Lib.hid h2
  clear h1 h2
  gi_wp2
  gi_loopw [4] (fun i wr => ∃ (k : Nat) (pre : List (Nth m)), k ≤ m ∧ i = .int .i64 (3 * (k : Int)) ∧ pre.map (·.1) = List.range k ∧ J pre wr ∧ Exc M B W wr)
    (fun i _ => n - (intOf i).toNat)
  case atStart => exact ⟨0, [], Nat.zero_le _, by simp, rfl, h0, Exc.refl _ _ _⟩
  case round =>
    obtain ⟨k, pre, hk, rfl, hpre, hJs, hx⟩ := hrel
    have HB1w := Lib.hid (uk.Box.at H1.out (hx.block B1 hB1 hB1M))
    have HB2w := Lib.hid (uk.Box.at H2.out (hx.block B2 hB2 hB2M))
    have hq1 := HB1w.out.cell
    have hq2 := HB2w.out.cell
    have HJS := Lib.hid hJs
    have HPRE := Lib.hid hpre
    have HX := Lib.hid hx
    clear hJs hpre hx
    by_cases hlt : k < m
    · have hk3 : 3 * k + 3 ≤ n := by have := HNM.out; omega
      have hAA := hA (by omega)
      subst hAA
      have hlt2 : 3 * (k : Int) < (n : Int) := by omega
      have HTL := Lib.hid (fun w' => run_tailI w' b o n c k (by omega) hnc)
      have HMIN : Hid (min (3 : Int) ((n - 3 * k : Nat) : Int) = 3) := by show _ = _; omega
      have hch := fun w' => run_chunk w' b o n c k (by omega) hnc
      gi_wp2
      refine wpIn_wide.2 ?_
      refine wk.region_tailS 7 [.is (.int .i64 3), .is (.slice (some ⟨b, o, none⟩) n c), .is (.int .i64 (3 * (k : Int))), .is (.slice (some ⟨b, o + 3 * k, none⟩) (n - 3 * k) (c - 3 * k)), .is (.int .i64 ((n - 3 * k : Nat) : Int)), .is (.int .i64 3), .is (.int .i64 3)] [some 13, some 14, some 15, some 16, some 17, some 18, some 5] (by kernel_rfl) (by kernel_rfl) (by kernel_rfl) (by kernel_rfl) [] (by kernel_rfl) (by intro p hp; cases hp) (by kernel_rfl) (by kernel_rfl) ?hstep ?hdone
      case hstep =>
        intro i o ho hi hns E w4 hb4 D
        have hi2 : i = 0 ∨ i = 1 ∨ i = 2 ∨ i = 3 ∨ i = 4 ∨ i = 5 ∨ i = 6 := by omega
        clear hi
        rcases hi2 with rfl | rfl | rfl | rfl | rfl | rfl | rfl
        ·
          have ho2 := (Array.getElem?_eq_some_iff.1 ho).2
          simp only [List.getElem_toArray, List.getElem_cons_zero] at ho2
          subst ho2
          clear ho
          have e2 := D.old 2 (by kernel_rfl)
          exact wk.does_load1 rfl (show E (.tmp 2) = .pointer (some ⟨B2, 0, none⟩) by rw [e2]; rfl) ((HB2w.out.below ((Below.refl _ _).drew.trans hb4)).cell) Try.underlying3 rfl rfl
        ·
          have ho2 := (Array.getElem?_eq_some_iff.1 ho).2
          simp only [List.getElem_toArray, List.getElem_cons_succ, List.getElem_cons_zero] at ho2
          subst ho2
          clear ho
          have e1 := D.old 1 (by kernel_rfl)
          exact wk.does_load1 rfl (show E (.tmp 1) = .pointer (some ⟨B1, 0, none⟩) by rw [e1]; rfl) ((HB1w.out.below ((Below.refl _ _).drew.trans hb4)).cell) Try.underlying66 rfl rfl
        ·
          have ho2 := (Array.getElem?_eq_some_iff.1 ho).2
          simp only [List.getElem_toArray, List.getElem_cons_succ, List.getElem_cons_zero] at ho2
          subst ho2
          clear ho
          have e4 := D.old 4 (by kernel_rfl)
          exact wk.does_move rfl (by rw [e4]; rfl)
        ·
          have ho2 := (Array.getElem?_eq_some_iff.1 ho).2
          simp only [List.getElem_toArray, List.getElem_cons_succ, List.getElem_cons_zero] at ho2
          subst ho2
          clear ho
          have e14 := D.is { on := 1, ground := .data } (by simp) rfl rfl 14 rfl
          have e15 := D.is { on := 2, ground := .data } (by simp) rfl rfl 15 rfl
          exact wk.does_run (wk.op_slice (LO := some (.int .i64 (3 * (k : Int)))) (HI := none) (MX := none) rfl e14 (by show some (E (.tmp 15)) = _; rw [e15]) rfl rfl (by rw [run_sliceAt_slice _ 66 _ _ _ _ (by simp [Program.elem, Try.underlying66])]; exact HTL.out w4)) rfl
        ·
          have ho2 := (Array.getElem?_eq_some_iff.1 ho).2
          simp only [List.getElem_toArray, List.getElem_cons_succ, List.getElem_cons_zero] at ho2
          subst ho2
          clear ho
          have e16 := D.is { on := 3, ground := .data } (by simp) rfl rfl 16 rfl
          exact wk.does_run (by simp only [execOp, resolve, invoke, builtin, Sem.run_bind, Sem.run_pure, Result.andThen_ok, List.map_toArray, List.map_cons, List.map_nil]; rw [show E (.tmp 16) = _ from e16]; go_simp) rfl
        ·
          have ho2 := (Array.getElem?_eq_some_iff.1 ho).2
          simp only [List.getElem_toArray, List.getElem_cons_succ, List.getElem_cons_zero] at ho2
          subst ho2
          clear ho
          have e13 := D.is { on := 0, ground := .data } (by simp) rfl rfl 13 rfl
          have e17 := D.is { on := 4, ground := .data } (by simp) rfl rfl 17 rfl
          exact wk.does_run (by simp only [execOp, resolve, invoke, builtin, Sem.run_bind, Sem.run_pure, Result.andThen_ok, List.map_toArray, List.map_cons, List.map_nil]; rw [e13, e17]; go_simp; try rw [HMIN.out]) rfl
        ·
          have ho2 := (Array.getElem?_eq_some_iff.1 ho).2
          simp only [List.getElem_toArray, List.getElem_cons_succ, List.getElem_cons_zero] at ho2
          subst ho2
          clear ho
          have e18 := D.is { on := 5, ground := .data } (by simp) rfl rfl 18 rfl
          exact wk.does_assign rfl e18
      case hdone =>
        intro vals w4 hb4 hv
        have h6 := hv 6 (by omega)
        clear hv
        replace h6 : vals 6 = (.int .i64 3) := h6
        simp only [List.drop_succ_cons, List.drop_zero, wpList, wk.setL, List.setIfInBounds_toArray, List.set_cons_zero, List.set_cons_succ, Nat.zero_add, Nat.reduceAdd, h6]
        generalize vals 0 = x0
        generalize vals 1 = x1
        generalize vals 2 = x2
        generalize vals 3 = x3
        generalize vals 4 = x4
        generalize vals 5 = x5
        have hb5 := ((Below.refl _ _).drew.trans hb4)
        obtain ⟨w5, hw5⟩ : ∃ w5, w5 = w4 := ⟨_, rfl⟩
        have hJ5 : J pre w4 := hJ _ _ _ none HJS.out (grown_of hb5) (by intro r hr; cases hr)
        obtain ⟨fn, tmps, assign, body, hy, hR⟩ := hY pre ⟨k, hlt⟩ w4 hJ5 (by rw [len_range HPRE.out]; exact hlt)
        have hcb1 := (HB1w.out.below hb5).cell
        have hcb2 := (HB2w.out.below hb5).cell
        have HX5 := Lib.hid (HX.out.trans (Exc.of_below (hb5.mono (show B ≤ wr.heap.size from Nat.le_trans hB HX.out.size))))
        dsimp only at hy
        clear hb5 hb4 hw5 hJ5
        gi_wp2
        refine ⟨(fun hh => by cases hh), hR.mono ?_⟩
        rintro e W3 (⟨rfl, hJ3, hk4⟩ | ⟨rfl, hJx3⟩)
        · have hx6 := HX5.out.trans hk4
          have hz1 := (uk.Box.at H1.out (hx6.block B1 hB1 hB1M)).cell
          have hz2 := (uk.Box.at H2.out (hx6.block B2 hB2 hB2M)).cell
          have HX6 := Lib.hid hx6
          clear hx6
          gi_wp2
          go_roundw
          case rel => exact ⟨k + 1, _, by omega, by go_num, map_snoc pre ⟨k, hlt⟩ HPRE.out, hJ3, HX6.out⟩
          case measure => simp [intOf]; omega
        · gi_wp2
          refine bodyPost_ret (results_none rfl _ _ _) rfl ?_
          exact ⟨⟨_, rfl⟩, .inr ⟨_, hJx3⟩⟩
    · obtain rfl : k = m := by omega
      have hlt2 : ¬ 3 * (k : Int) < (n : Int) := by have := HNM.out; omega
      gi_wp2
      go_end0
      exact ⟨⟨_, rfl⟩, .inl ⟨_, HPRE.out, HJS.out⟩⟩
def dcI (n0 : Nat) (w0 : World) (S : Nat) (N : List Int) {m : Nat} (pre : List (Nth m)) (W : World) : Prop := Below n0 w0 W ∧ pre.map (·.1) = List.range pre.length ∧ ∃ v, BoxRow n0 S W v (pre.map fun x => hitAt N x.1)
theorem dcI_own {n0 : Nat} {w0 : World} {S n m : Nat} {N : List Int} (hn : n0 ≤ n) (h0 : n0 ≤ w0.heap.size) : OwnFrom n (dcI n0 w0 S N (m := m)) := fun s W W' row hs hg hr => by
  obtain ⟨h1, h2, v, h3⟩ := hs
  exact ⟨h1.grown hg (Nat.le_trans h0 h1.size) (fun k e => by have := (hr k e).1; omega), h2, v, h3.from hg (fun r e => (hr r e).2)⟩
end Go.Proofs.Ytckipafciomklaa.bk
/- Decode, the second part. -/
namespace Go.Proofs.Ytckipafciomklaa.bk

open Go.ChangeShapes Go.WideShapes Go.ChangeAt Go.RowKit

open Go.Proofs.Ytckipafciomklaa.bq Go.Proofs.Ytckipafciomklaa.vk Go.Proofs.Ytckipafciomklaa.wk

set_option linter.unusedVariables false
attribute [local go_sem] Oper.semAt_some
theorem range_seqK {α : Type} {g : Operand} {p : Nat} {assign body : Code} {Q : Exit → Act → World → Prop} {T : Array Value} {w : World} {gfn : Nat} {lb : Array Value} (Kp : World → World → Prop) (hKt : ∀ {A B C : World}, Kp A B → Kp B C → Kp A C) (hKb : ∀ (W : World) (l : Nat) (o o' : Obj), w.heap.size ≤ l → W.heap[l]? = some o → o.isCells = false → o.isWalk = false → Kp W (W.putObj l o')) (enc1 : α → Value) (N : Nat) (S : List α → Prop)
    (hg : Act.eval { tmps := T, defers := [] } g = .func (.func gfn) #[] lb) (eg : ∀ args w', (callFunc gfn args).run Try.prog w' = .ok (.enter gfn args) w')
    (hseq : SeqStopsK Fence.wide 3 Try.prog gfn lb (fun x => #[enc1 x]) Kp S (fun _ => True) N w)
    (I : List α → World → Prop) (hI : OwnFrom w.heap.size I) (h0 : I [] w) (G : Array Value → α → Nat → Act) (X : α → Nat → World → Prop) (hX : ∀ x Bx, OwnFrom w.heap.size (fun (_ : Unit) W => X x Bx W))
    (hassign : ∀ (l m : Nat) (pre : List α) (x : α) (W : World) (K : Act → World → Prop), I pre W → (∀ Bx W', KeepsFrom w.heap.size W W' → Kp W W' → I pre W' → X x Bx W' → K (G T x Bx) W') →
      assign.wpIn (Fence.wide.inRound l) m Try.prog (Exit.then K (fun _ _ _ => False)) { tmps := T.setIfInBounds p (enc1 x), defers := [] } W)
    (hbody : ∀ (l m : Nat) (pre : List α) (x : α) (Bx : Nat) (W : World), I pre W → X x Bx W → pre.length < N →
      body.wpIn (Fence.wide.inRound l) m Try.prog (ownPostG w.heap.size Kp I (fun _ _ _ => False) (pre ++ [x]) W) (G T x Bx) W)
    (hdone : ∀ (D : Nat) (ys : List α) (W : World), w.heap.size ≤ D → S ys → I ys W → W.heap[D]? = some (.deferred (some [])) → Q .normal { tmps := T, defers := [{ target := .collected D, args := #[] }] } W) :
    (Code.rangeFunc g #[p] assign body).wp Try.prog Q { tmps := T, defers := [] } w := by
  refine wpIn_wide.1 (wpIn_rangeFunc_ownH (F := Fence.wide) (n := 4) (w := w) (w0 := w) rfl (by omega) hg trivial eg
    (encs := fun x => #[enc1 x]) (Kp := Kp) (S := S) (Sp := fun _ => True) (N := N) hseq
    hKt hKb (Below.refl _ _) (fun x => by simp)
    I (fun _ _ _ => False) hI (fun c s W W' row hs _ _ => hs) h0
    (fun x a' W => ∃ Bx, X x Bx W ∧ a' = G T x Bx) ?hAx ?hassign ?hbody ?hdone ?hstop)
  case hAx =>
    rintro x a' u W W' row ⟨Bx, h1, h3⟩ hg' hr
    exact ⟨Bx, hX x Bx u W W' row h1 hg' hr, h3⟩
  case hassign =>
    rintro l pre x W K hi hK
    have e : (#[p].zip #[enc1 x]).foldl (fun t (q : Nat × Value) => t.setIfInBounds q.1 q.2) T = T.setIfInBounds p (enc1 x) := by simp
    have := hassign l (4 - 1 - 1) pre x W K hi (fun Bx W' h1 h2 h3 h4 => hK _ _ h1 h2 h3 ⟨Bx, h4, rfl⟩)
    rw [← e] at this
    exact this
  case hbody =>
    rintro l pre x a' W hl hr hi ⟨Bx, h1, rfl⟩ hlen'
    exact hbody l _ pre x Bx W hi h1 hlen'
  case hdone => rintro D ys W hD hy hi hK; exact hdone D ys W hD hy hi hK
  case hstop => rintro D c pre W hD _ hf hK; exact hf.elim
theorem res2 {fn : Func} {u v : Tmp} (h : fn.results = #[.tmp u, .tmp v]) (tmps : Array Value) (w : World) : (results fn tmps).run Try.prog w = .ok (.tuple #[tmps.getD u undef, tmps.getD v undef]) w := by
  simp [results, h]
theorem used_le (l : List UInt8) (h : (wp.getL wp.getI 1 l).2.2 = 0) : 0 ≤ (wp.getL wp.getI 1 l).2.1 ∧ (wp.getL wp.getI 1 l).2.1 ≤ l.length := by
  have := wp.getL_canon (enc := wp.encI) wp.getI_one 1 (Nat.le_refl 1) l h
  exact ⟨this.2.1, this.2.2⟩
theorem getL_len (l : List UInt8) (h : (wp.getL wp.getI 1 l).2.2 = 0) : (wp.getL wp.getI 1 l).1.length ≤ l.length := by
  have h1 := (wp.getL_canon (enc := wp.encI) wp.getI_one 1 (Nat.le_refl 1) l h).1
  have h2 := vq.getL_bd l
  have h3 := congrArg List.length h1
  rw [List.length_take, List.length_append] at h3
  have h4 : ∀ N : List Int, (∀ x ∈ N, -9223372036854775808 ≤ x ∧ x ≤ 9223372036854775807) → N.length ≤ (N.flatMap wp.encI).length := by
    intro N
    induction N with
    | nil => simp
    | cons x N ih =>
      intro hN
      have h5 := wp.encI_pos x
      have h6 := ih fun y hy => hN y (by simp [hy])
      rw [List.flatMap_cons, List.length_append, List.length_cons]
      omega
  have h5 := h4 _ h2
  omega
theorem hits_wd {N : List Int} (h : ∀ x ∈ N, -9223372036854775808 ≤ x ∧ x ≤ 9223372036854775807) : ∀ r ∈ hits N, Wd r := fun r hr => by
  obtain ⟨h1, h2, h3⟩ := hits_mem hr
  exact ⟨h _ h1, h _ h2, h _ h3⟩
set_option maxRecDepth 100000 in
set_option maxHeartbeats 4000000 in
theorem decode_calls {b : List UInt8} {A : Option Addr} {n c : Nat} (k : Int) (w : World) (h : wo.IsB w A n c b) (hn : n ≤ 1300) : Calls Try.prog 31 #[.slice A n c, .int .i64 k] w fun e w' => ∃ A' n' c', e = .returned (.tuple #[.slice A' n' c', .int .i64 (decR b k).2]) ∧ IsH w' A' n' c' (decR b k).1 ∧ Below w.heap.size w w' := by
  obtain ⟨hln, hnc, hc, hR⟩ := h
  have H := Lib.hid (wi.getInts_any A n c b w hnc hc hln hR (by omega))
  have HBD := Lib.hid (vq.getL_bd b)
  have HLE := Lib.hid (getL_len b)
  have HLN : Hid (b.length ≤ 1300) := by show _ ≤ _; omega
  have hE : decR b k = if (wp.getL wp.getI 1 b).2.2 ≠ 0 then ([], (wp.getL wp.getI 1 b).2.2) else if (wp.getL wp.getI 1 b).2.1 < (n : Int) then ([], 11) else if (wp.getL wp.getI 1 b).1.length % 3 ≠ 0 then ([], 3) else if vld (hits (wp.getL wp.getI 1 b).1) k then (hits (wp.getL wp.getI 1 b).1, 0) else ([], 3) := by unfold decR; rw [hln]
  have HE := Lib.hid hE
  clear hE hR hln
  generalize decR b k = D at *
  generalize wp.getL wp.getI 1 b = R at *
  obtain ⟨r1, r2, r3⟩ := R
  dsimp only at *
  refine enter_marks Try.func31 rfl ?_
  simp only [Try.ntmps31, List.size_toArray, List.length_cons, List.length_nil, Nat.reduceAdd, Nat.reduceSub, Array.replicate_succ, Array.replicate_zero, List.push_toArray, List.append_toArray, List.nil_append, List.cons_append]
  go_wp2_with fail
  refine H.out.mono ?_
  rintro e w1 ⟨v, rfl, hown, hb⟩
  have HB := Lib.hid hb
  by_cases h3 : r3 = 0
  · by_cases h2 : r2 < (n : Int)
    · have HE2 : Hid (D = ([], 11)) := by show _ = _; rw [HE.out, if_neg (by simpa using h3), if_pos h2]
      clear hown hb
      go_wp2_with fail
      exact leave_bare (res2 rfl _ _) ⟨none, 0, 0, by rw [HE2.out]; rfl, by rw [HE2.out]; exact isH_nil _, HB.out⟩
    · obtain ⟨A1, c1, rfl, hI⟩ := isI_of_own hown HBD.out
      have HI := Lib.hid hI
      have hI2 := hI.2.1
      have hI3 := hI.2.2.1
      obtain ⟨n1, hn1⟩ : ∃ n1, n1 = r1.length := ⟨_, rfl⟩
      rw [← hn1] at hI2
      rw [← hn1]
      by_cases hmod : n1 % 3 = 0
      · obtain ⟨m, hm⟩ : ∃ m, n1 = 3 * m := ⟨n1 / 3, by omega⟩
        have hnb : n1 ≤ 1300 := by have := HLE.out h3; have := HLN.out; omega
        have hq1 : (n1 : Int) % 3 = 0 := by omega
        have hq2 : (n1 : Int).tmod 3 = 0 := by rw [Int.tmod_eq_emod_of_nonneg (by omega)]; exact hq1
        have hq3 : (n1 : Int) / 3 = (m : Int) := by omega
        have hq4 : (n1 : Int).tdiv 3 = (m : Int) := by rw [Int.tdiv_eq_ediv_of_nonneg (by omega)]; exact hq3
        have HM := Lib.hid hm
        have HN1 := Lib.hid hn1
        obtain ⟨i0, hi, hz0, hz1, hz2⟩ := info_parts infoHt
        have hmI : (i0.bytes : Nat) * m ≤ 281474976710656 := by rw [hz2]; omega
        obtain ⟨w2, hmk, hown2, hgr⟩ := run_make_own (P := Try.prog) w1 w1.heap.size 22 27 i0 (.agg #[.int .i64 0, .int .i64 0, .int .i64 0]) 3 Try.underlying22 hi hz0 hz1 .i64 .i64 m hmI (by unfold maxLen; omega) (Nat.le_refl _)
        have hb2 : Below w1.heap.size w1 w2 := (Below.refl _ _).grown hgr (Nat.le_refl _) (fun k hk => by cases hk)
        have HB2 := Lib.hid hb2
        have HO2 := Lib.hid hown2
        have HI2 := Lib.hid (isI_below hI hb2)
        have HIB : Hid (∀ b o, A1 = some ⟨b, o, none⟩ → b < w1.heap.size) := fun b o e => (hown.lt b (by rw [e]; rfl)).2
        clear hown hb hI hmod hm hn1 hb2 hown2 hgr
        go_wp2_with fail
        refine (chunk_calls A1 n1 c1 _).mono ?_
        rintro e w4 ⟨rfl, rfl⟩
        go_wp2_with fail
        obtain ⟨b7, o7, hA7⟩ : ∃ b o, 0 < n1 → A1 = some ⟨b, o, none⟩ := by
          by_cases h0 : 0 < n1
          · obtain ⟨b, o, e, _⟩ := HI2.out.2.2.2.1 (by rw [List.length_map, ← HN1.out]; exact h0)
            exact ⟨b, o, fun _ => e⟩
          · exact ⟨0, 0, fun h => absurd h h0⟩
        have BLT : Hid (A1 = some ⟨b7, o7, none⟩ → b7 < w1.heap.size) := fun e => HIB.out b7 o7 e
        have hBS := One1.new w2 (.slice (some ⟨w1.heap.size, 0, none⟩) 0 m)
        obtain ⟨w3, hw3⟩ : ∃ w3, w3 = w2.alloc (.cells #[.slice (some ⟨w1.heap.size, 0, none⟩) 0 m] 22) := ⟨_, rfl⟩
        have hs3 : w3.heap.size = w2.heap.size + 1 := by rw [hw3]; exact size_new _ _
        have hb3 : Below w2.heap.size w2 w3 := by rw [hw3]; exact below_new _ _
        rw [← hw3] at hBS ⊢
        have hown3 := keptB HO2.out hb3
        have hBx1 : Box w3 w3.heap.size (.int .i64 0) ∨ True := .inr trivial
        obtain ⟨w4, hw4⟩ : ∃ w4, w4 = (w3.alloc (.cells #[.slice A1 n1 c1] 66)).alloc (.cells #[.int .i64 3] 3) := ⟨_, rfl⟩
        have hb4 : Below w3.heap.size w3 w4 := by rw [hw4]; exact Below.andThen (below_new _ _) (below_new _ _)
        have hs4 : w4.heap.size = w3.heap.size + 2 := by rw [hw4, size_new, size_new]
        have hX1 : Box w4 w3.heap.size (.slice A1 n1 c1) := ⟨66, by rw [hw4, Below.heap_alloc _ _ _ (by rw [size_new]; omega)]; exact heap_alloc_new w3 _⟩
        have hX2 : Box w4 (w3.heap.size + 1) (.int .i64 3) := ⟨3, by
          have := heap_alloc_new (w3.alloc (.cells #[.slice A1 n1 c1] 66)) (.cells #[.int .i64 3] 3)
          rw [size_new] at this
          rw [hw4]; exact this⟩
        rw [← hw4]
        have hrow4 : BoxRow w1.heap.size w2.heap.size w4 (.slice (some ⟨w1.heap.size, 0, none⟩) 0 m) [] := ⟨(hBS.below hb4), keptB hown3 hb4⟩
        have hr2 : w1.heap.size < w2.heap.size := by rcases HO2.out.2 with ⟨hv, _⟩ | ⟨g', cap', cur', hv, _, hh, _⟩; cases hv; cases hv; exact (Array.getElem?_eq_some_iff.1 hh).1
        have HB34 : Hid (Below w1.heap.size w1 w4) := (HB2.out.trans (hb3.mono (by omega))).trans (hb4.mono (by omega))
        have HI4 := Lib.hid (isI_below (isI_below HI2.out hb3) hb4)
        have HX1 := Lib.hid hX1
        have HX2 := Lib.hid hX2
        have HR4 := Lib.hid hrow4
        clear hBS hw3 hb3 hown3 hBx1 hw4 hb4 hX1 hX2 hrow4
        refine range_seqK (Exc [w1.heap.size, w2.heap.size] w4.heap.size) (fun h k => h.trans k) (fun W l o o' hl _ _ _ => Exc.put _ hl) (fun x : Nth m => .slice (some ⟨b7, o7 + 3 * x.1, none⟩) 3 3) m (fun ys => ys.map (·.1) = List.range m) rfl (fun args w' => by kernel_rfl) ?hseq (fun pre W => Exc [w1.heap.size, w2.heap.size] w4.heap.size w4 W ∧ BoxRow w1.heap.size w2.heap.size W (.slice (some ⟨w1.heap.size, 0, none⟩) pre.length m) (pre.map fun x => hitAt r1 x.1)) ?hI ?h0
          (fun T x _ => { tmps := (T.setIfInBounds 37 (.slice (some ⟨b7, o7 + 3 * x.1, none⟩) 3 3)).setIfInBounds 10 (.slice (some ⟨b7, o7 + 3 * x.1, none⟩) 3 3), defers := [] }) (fun _ _ _ => True) (fun _ _ _ _ _ _ _ _ _ => trivial) ?hassign ?hbody ?hdone
        case hseq =>
          intro l J Jx W hW hJ hJx hY hJ0
          have q1 : w3.heap.size < w4.heap.size := by omega
          have q2 : w3.heap.size + 1 < w4.heap.size := by omega
          have q3 : w3.heap.size ∉ [w1.heap.size, w2.heap.size] := fun h => by
            rcases List.mem_cons.1 h with h | h
            · omega
            · rw [List.mem_singleton] at h; omega
          have q4 : w3.heap.size + 1 ∉ [w1.heap.size, w2.heap.size] := fun h => by
            rcases List.mem_cons.1 h with h | h
            · omega
            · rw [List.mem_singleton] at h; omega
          have x1 : Box W w3.heap.size (.slice A1 n1 c1) := uk.Box.at HX1.out (hW.block _ q1)
          have x2 : Box W (w3.heap.size + 1) (.int .i64 3) := uk.Box.at HX2.out (hW.block _ q2)
          have q5 : n1 ≤ 1000000 := by omega
          have hcc := chunk1_in 3 l w3.heap.size (w3.heap.size + 1) w4.heap.size [w1.heap.size, w2.heap.size] A1 b7 o7 n1 c1 m hA7 HM.out hI2 hI3 q5 q1 q3 q2 q4 J Jx W hJ hY hW.size x1 x2 hJ0
          have hfin : CallsIn Fence.wide 3 Try.prog 69 #[.func (.yield l) #[] #[], .pointer (some ⟨w3.heap.size, 0, none⟩), .pointer (some ⟨w3.heap.size + 1, 0, none⟩)] W fun e W' => (∃ v, e = .returned v) ∧ ((∃ xs, xs.map (·.1) = List.range m ∧ J xs W') ∨ (∃ pre, True ∧ Jx pre W')) := hcc.mono fun e W' ⟨he, hh⟩ => ⟨he, hh.elim (fun ⟨ys, hy, hj⟩ => .inl ⟨ys, hy, hj⟩) (fun ⟨pre, hj⟩ => .inr ⟨pre, trivial, hj⟩)⟩
          clear hcc hY
          rw [hs3] at hfin
          simp only [List.append_toArray, List.cons_append, List.nil_append]
          exact hfin
        case hI =>
          rintro pre W W' row ⟨h1, h4⟩ hg hr
          exact ⟨Exc.own (β := Unit) (Nat.le_refl _) () W W' row h1 hg hr, h4.from hg (fun r e => (hr r e).2)⟩
        case h0 => exact ⟨Exc.refl _ _ _, HR4.out⟩
        case hassign =>
          intro l mm pre x W K hi hK
          simp only [List.setIfInBounds_toArray, List.set_cons_succ, List.set_cons_zero] at hK ⊢
          gi_wp2
          exact hK 0 W (KeepsFrom.refl _ _) (Exc.refl _ _ _) hi trivial
        case hbody =>
          rintro l mm pre xx Bx W ⟨hexc, hR⟩ _ hlen
          simp only [List.setIfInBounds_toArray, List.set_cons_succ, List.set_cons_zero]
          have HR := Lib.hid hR
          have hexs := hexc.size
          have HEXC := Lib.hid hexc
          have hx3 : 3 * xx.1 + 2 < n1 := by have := xx.2; have := HM.out; omega
          have HIT := Lib.hid (hitAt_of (N := r1) (k := xx.1) (by rw [← HN1.out]; exact hx3))
          have hA1 : A1 = some ⟨b7, o7, none⟩ := hA7 (by omega)
          have HCL : Hid (∀ j u, r1[3 * xx.1 + j]? = some u → ∀ w' : World, Below W.heap.size W w' → w'.cell? ⟨b7, o7 + 3 * xx.1 + j, none⟩ = some (.int .i64 u)) := fun j u hu w' hb' => by
            obtain ⟨b', o', e, hb9, hc9⟩ := HI4.out.2.2.2.1 (by rw [List.length_map]; have := (List.getElem?_eq_some_iff.1 hu).1; omega)
            rw [hA1] at e
            cases e
            have h9 := hc9 (3 * xx.1 + j) (.int .i64 u) (by rw [List.getElem?_map, hu]; rfl)
            have hb10 : b7 < w1.heap.size := BLT.out hA1
            have h10 : W.cell? ⟨b7, o7 + (3 * xx.1 + j), none⟩ = some (.int .i64 u) := by
              rw [← h9]; exact World.cell?_of_block (hexc.block b7 (by omega) (fun h => by
                rcases List.mem_cons.1 h with h | h
                · omega
                · rw [List.mem_singleton] at h; omega))
            rw [Nat.add_assoc, ← h10]
            exact hb'.cell (p := ⟨b7, _, none⟩) (by show b7 < _; omega)
          have hlenI : pre.length < m := hlen
          clear hexc hR
          gi_wp2
          refine wk.region_tailS_in l (by kernel_rfl) (fun ⟨_, _, h⟩ => h) 12 [.is (.slice (some ⟨w1.heap.size, 0, none⟩) pre.length m), .is (.slice (some ⟨b7, o7 + 3 * xx.1, none⟩) 3 3), .is (.pointer (some ⟨b7, o7 + 3 * xx.1, none⟩)), .is (.int .i64 (hitAt r1 xx.1).1), .is (.slice (some ⟨b7, o7 + 3 * xx.1, none⟩) 3 3), .is (.pointer (some ⟨b7, o7 + 3 * xx.1 + 1, none⟩)), .is (.int .i64 (hitAt r1 xx.1).2.1), .is (.slice (some ⟨b7, o7 + 3 * xx.1, none⟩) 3 3), .is (.pointer (some ⟨b7, o7 + 3 * xx.1 + 2, none⟩)), .is (.int .i64 (hitAt r1 xx.1).2.2), .is (.agg #[.int .i64 (hitAt r1 xx.1).1, .int .i64 (hitAt r1 xx.1).2.1, .int .i64 (hitAt r1 xx.1).2.2]), .st (fun u x => ∃ g, x = .slice (some ⟨g, 0, none⟩) 1 1 ∧ RowH u g (hitAt r1 xx.1)) (fun u u2 x h hb => by obtain ⟨g, h1, h2⟩ := h; exact ⟨g, h1, h2.below hb⟩)] [some 38, some 39, some 40, some 41, some 42, some 43, some 44, some 45, some 46, some 47, some 48, some 49] (by kernel_rfl) (by kernel_rfl) (by kernel_rfl) (by kernel_rfl) [] (by kernel_rfl) (by intro p hp; cases hp) (by kernel_rfl) (by kernel_rfl) ?hstep ?hfin
          case hstep =>
            intro i o ho hi hns E w4x hb4 D
            have hi2 : i = 0 ∨ i = 1 ∨ i = 2 ∨ i = 3 ∨ i = 4 ∨ i = 5 ∨ i = 6 ∨ i = 7 ∨ i = 8 ∨ i = 9 ∨ i = 10 ∨ i = 11 := by omega
            clear hi
            rcases hi2 with rfl | rfl | rfl | rfl | rfl | rfl | rfl | rfl | rfl | rfl | rfl | rfl
            ·
              have ho2 := (Array.getElem?_eq_some_iff.1 ho).2
              simp only [List.getElem_toArray, List.getElem_cons_zero] at ho2
              subst ho2
              clear ho
              have e9 := D.old 9 (by kernel_rfl)
              exact wk.does_load1 rfl (show E (.tmp 9) = .pointer (some ⟨w2.heap.size, 0, none⟩) by rw [e9]; rfl) ((HR.out.box.below ((Below.refl _ _).drew.trans hb4)).c0) Try.underlying22 rfl rfl
            ·
              have ho2 := (Array.getElem?_eq_some_iff.1 ho).2
              simp only [List.getElem_toArray, List.getElem_cons_succ, List.getElem_cons_zero] at ho2
              subst ho2
              clear ho
              have e10 := D.old 10 (by kernel_rfl)
              exact wk.does_move rfl (by rw [e10]; rfl)
            ·
              have ho2 := (Array.getElem?_eq_some_iff.1 ho).2
              simp only [List.getElem_toArray, List.getElem_cons_succ, List.getElem_cons_zero] at ho2
              subst ho2
              clear ho
              have e39 := D.is { on := 1, ground := .data } (by simp) rfl rfl 39 rfl
              exact wk.does_run (by simp only [execOp]; rw [show E (.tmp 39) = _ from e39, show E (.const (.int .i64 0)) = .int .i64 0 from D.con _]; go_simp; try (intro h0; omega)) rfl
            ·
              have ho2 := (Array.getElem?_eq_some_iff.1 ho).2
              simp only [List.getElem_toArray, List.getElem_cons_succ, List.getElem_cons_zero] at ho2
              subst ho2
              clear ho
              have e40 := D.is { on := 2, ground := .data } (by simp) rfl rfl 40 rfl
              exact wk.does_load1 rfl e40 (HCL.out 0 _ HIT.out.1 w4x ((Below.refl _ _).drew.trans hb4)) Try.underlying3 rfl rfl
            ·
              have ho2 := (Array.getElem?_eq_some_iff.1 ho).2
              simp only [List.getElem_toArray, List.getElem_cons_succ, List.getElem_cons_zero] at ho2
              subst ho2
              clear ho
              have e10 := D.old 10 (by kernel_rfl)
              exact wk.does_move rfl (by rw [e10]; rfl)
            ·
              have ho2 := (Array.getElem?_eq_some_iff.1 ho).2
              simp only [List.getElem_toArray, List.getElem_cons_succ, List.getElem_cons_zero] at ho2
              subst ho2
              clear ho
              have e42 := D.is { on := 4, ground := .data } (by simp) rfl rfl 42 rfl
              exact wk.does_run (by simp only [execOp]; rw [show E (.tmp 42) = _ from e42, show E (.const (.int .i64 1)) = .int .i64 1 from D.con _]; go_simp; try (intro h0; omega)) rfl
            ·
              have ho2 := (Array.getElem?_eq_some_iff.1 ho).2
              simp only [List.getElem_toArray, List.getElem_cons_succ, List.getElem_cons_zero] at ho2
              subst ho2
              clear ho
              have e43 := D.is { on := 5, ground := .data } (by simp) rfl rfl 43 rfl
              exact wk.does_load1 rfl e43 (HCL.out 1 _ HIT.out.2.1 w4x ((Below.refl _ _).drew.trans hb4)) Try.underlying3 rfl rfl
            ·
              have ho2 := (Array.getElem?_eq_some_iff.1 ho).2
              simp only [List.getElem_toArray, List.getElem_cons_succ, List.getElem_cons_zero] at ho2
              subst ho2
              clear ho
              have e10 := D.old 10 (by kernel_rfl)
              exact wk.does_move rfl (by rw [e10]; rfl)
            ·
              have ho2 := (Array.getElem?_eq_some_iff.1 ho).2
              simp only [List.getElem_toArray, List.getElem_cons_succ, List.getElem_cons_zero] at ho2
              subst ho2
              clear ho
              have e45 := D.is { on := 7, ground := .data } (by simp) rfl rfl 45 rfl
              exact wk.does_run (by simp only [execOp]; rw [show E (.tmp 45) = _ from e45, show E (.const (.int .i64 2)) = .int .i64 2 from D.con _]; go_simp; try (intro h0; omega)) rfl
            ·
              have ho2 := (Array.getElem?_eq_some_iff.1 ho).2
              simp only [List.getElem_toArray, List.getElem_cons_succ, List.getElem_cons_zero] at ho2
              subst ho2
              clear ho
              have e46 := D.is { on := 8, ground := .data } (by simp) rfl rfl 46 rfl
              exact wk.does_load1 rfl e46 (HCL.out 2 _ HIT.out.2.2 w4x ((Below.refl _ _).drew.trans hb4)) Try.underlying3 rfl rfl
            ·
              have ho2 := (Array.getElem?_eq_some_iff.1 ho).2
              simp only [List.getElem_toArray, List.getElem_cons_succ, List.getElem_cons_zero] at ho2
              subst ho2
              clear ho
              have e41 := D.is { on := 3, ground := .data } (by simp) rfl rfl 41 rfl
              have e44 := D.is { on := 6, ground := .data } (by simp) rfl rfl 44 rfl
              have e47 := D.is { on := 9, ground := .data } (by simp) rfl rfl 47 rfl
              exact wk.does_run (by simp only [execOp, List.map_toArray, List.map_cons, List.map_nil]; rw [show E (.tmp 41) = _ from e41, show E (.tmp 44) = _ from e44, show E (.tmp 47) = _ from e47]; go_simp) rfl
            ·
              have ho2 := (Array.getElem?_eq_some_iff.1 ho).2
              simp only [List.getElem_toArray, List.getElem_cons_succ, List.getElem_cons_zero] at ho2
              subst ho2
              clear ho
              have e48 := D.is { on := 10, ground := .data } (by simp) rfl rfl 48 rfl
              refine wk.does_new (v := .slice (some ⟨w4x.heap.size, 0, none⟩) 1 1) (w' := w4x.alloc (.cells #[.int .i64 (hitAt r1 xx.1).1, .int .i64 (hitAt r1 xx.1).2.1, .int .i64 (hitAt r1 xx.1).2.2] 27)) (by simp only [execOp, List.map_toArray, List.map_cons, List.map_nil]; rw [show E (.tmp 48) = _ from e48]; go_simp) (below_new _ _) ⟨_, rfl, RowH.new _ _⟩
          case hfin =>
            intro vals w4x hb4 hv
            have h0 := hv 0 (by omega)
            have h11 := hv 11 (by omega)
            clear hv
            replace h0 : vals 0 = (.slice (some ⟨w1.heap.size, 0, none⟩) pre.length m) := h0
            simp only [List.drop_succ_cons, List.drop_zero, wk.setL, List.setIfInBounds_toArray, List.set_cons_zero, List.set_cons_succ, Nat.zero_add, Nat.reduceAdd, h0]
            generalize vals 1 = x1
            generalize vals 2 = x2
            generalize vals 3 = x3
            generalize vals 4 = x4
            generalize vals 5 = x5
            generalize vals 6 = x6
            generalize vals 7 = x7
            generalize vals 8 = x8
            generalize vals 9 = x9
            generalize vals 10 = x10
            generalize vals 11 = x11 at *
            obtain ⟨g, rfl, hrow⟩ := h11
            have hbb : Below W.heap.size W w4x := (Below.refl _ _).drew.trans hb4
            have HRB := Lib.hid (HR.out.below hbb)
            have hcx := HRB.out.box.c0
            have HROW := Lib.hid hrow
            have HBB := Lib.hid hbb
            clear hb4 hbb hrow
            go_wp2_with (at_builtin; refine wpList_append_fits _ rfl _ _ 22 rfl w1.heap.size 27 i0 3 Try.underlying22 hi hz1 w1.heap.size pre.length m _ rfl (by have h := HRB.out.row; rw [List.length_map] at h; exact h) ⟨g, 0, none⟩ 1 1 (rv (hitAt r1 xx.1)) rfl rfl HROW.out.cells ones3 (by omega) ?_)
            intro w6 hown6 hg6
            have hq2 : w2.heap.size < w4.heap.size := by omega
            have hO3 := HRB.out.box.at (hg6.block _ HRB.out.box.lt (fun e => by injection e with e; omega))
            have HF : Hid (KeepsFrom w4.heap.size W (w6.setCell ⟨w2.heap.size, 0, none⟩ (.slice (some ⟨w1.heap.size, 0, none⟩) (pre.length + 1) m)) ∧ Exc [w1.heap.size, w2.heap.size] w4.heap.size W (w6.setCell ⟨w2.heap.size, 0, none⟩ (.slice (some ⟨w1.heap.size, 0, none⟩) (pre.length + 1) m)) ∧ Exc [w1.heap.size, w2.heap.size] w4.heap.size w4 (w6.setCell ⟨w2.heap.size, 0, none⟩ (.slice (some ⟨w1.heap.size, 0, none⟩) (pre.length + 1) m)) ∧ BoxRow w1.heap.size w2.heap.size (w6.setCell ⟨w2.heap.size, 0, none⟩ (.slice (some ⟨w1.heap.size, 0, none⟩) (pre.length + 1) m)) (.slice (some ⟨w1.heap.size, 0, none⟩) (pre ++ [xx]).length m) ((pre ++ [xx]).map fun x => hitAt r1 x.1)) := by
              have hs7 := HBB.out.size
              have e1 : Exc [w1.heap.size, w2.heap.size] w4.heap.size w4x w6 := ⟨hg6.os, hg6.tape, hg6.output, hg6.size, fun i hi hm => hg6.block i (by omega) (fun e => hm (by injection e with e; rw [e]; exact List.mem_cons_self))⟩
              have e2 : Exc [w1.heap.size, w2.heap.size] w4.heap.size W (w6.setCell ⟨w2.heap.size, 0, none⟩ (.slice (some ⟨w1.heap.size, 0, none⟩) (pre.length + 1) m)) := (Exc.of_below (HBB.out.mono hexs)).trans (e1.trans (Exc.setCell _ (.inl (by simp))))
              refine ⟨⟨e2.size, fun j o hj ho hnc => ?_⟩, e2, HEXC.out.trans e2, ?_⟩
              · have hjl := (Array.getElem?_eq_some_iff.1 ho).1
                rw [Below.heap_setCell _ _ _ _ (fun e => by have e : j = w2.heap.size := e; omega)]
                exact (hg6.block j (by omega) (fun e => by injection e with e; omega)).trans ((HBB.out.block j hjl).trans ho)
              · have hown7 : w6.ownsRow w1.heap.size 27 3 (.slice (some ⟨w1.heap.size, 0, none⟩) (pre.length + 1) m) (pre.length + 1) (fl ((pre ++ [xx]).map fun x => hitAt r1 x.1)) := by
                  have h := hown6
                  have e : fl (pre.map fun x => hitAt r1 x.1) ++ rv (hitAt r1 xx.1) = fl ((pre ++ [xx]).map fun x => hitAt r1 x.1) := by rw [List.map_append, fl_append]; simp [fl]
                  have hun : (pre.map fun x => hitAt r1 x.1) = List.map (hitAt r1) pre.unattach := by unfold List.unattach; rw [List.map_map]; rfl
                  rw [← hun, e] at h
                  exact h
                have h8 := World.ownsRow.kept hown7 (grown_set1 w6 w2.heap.size (.slice (some ⟨w1.heap.size, 0, none⟩) (pre.length + 1) m)) (.inr (fun e => by
                  have e : w1.heap.size = w2.heap.size := by simpa [Value.ownBlock] using e
                  omega))
                have el : (pre ++ [xx]).length = pre.length + 1 := by simp
                have el2 : ((pre ++ [xx]).map fun x => hitAt r1 x.1).length = pre.length + 1 := by simp
                refine ⟨?_, ?_⟩
                · rw [el]; exact hO3.set _
                · rw [el, el2]; exact h8
            have hc3 := hO3.c0
            have hf3 := hO3.f0
            clear hown6 hg6 hO3
            go_wp2_with fail
            exact HF.out
        case hdone =>
          rintro D1 ys W hD hys ⟨hexc, hR⟩ hK
          have hylen : ys.length = m := by have := congrArg List.length hys; simpa using this
          rw [map_rangeN hys (hitAt r1), hits_range r1 (by rw [← HN1.out]; exact HM.out), hylen] at hR
          have hlh : (hits r1).length = m := by rw [hits_length, ← HN1.out, HM.out]; omega
          have hc0 := hR.box.c0
          have hrow := hR.row
          rw [hlh] at hrow
          obtain ⟨A2, c2, hv2, hH⟩ := isH_of_own hrow (hits_wd HBD.out)
          injection hv2 with e1 _ e2
          subst e1
          subst e2
          have hbw : Below w.heap.size w W := (HB.out.trans (HB34.out.mono HB.out.size)).trans (hexc.below (by have := HB.out.size; omega) (fun q hq => by
            have := HB.out.size
            rcases List.mem_cons.1 hq with h | h
            · omega
            · rw [List.mem_singleton] at h; omega))
          have HROW := Lib.hid hrow
          have HBX := Lib.hid hR.box
          have HHH := Lib.hid hH
          have HK := Lib.hid hK
          have HBW := Lib.hid hbw
          clear hR hexc hK hys hrow hH hbw
          have HEV : Hid (D = if vld (hits r1) k then (hits r1, 0) else ([], 3)) := by show _ = _; rw [HE.out, if_neg (by simpa using h3), if_neg (by omega), if_neg (by rw [← HN1.out]; omega)]
          go_wp2_with fail
          refine (valid_calls k _ HHH.out (by omega)).mono ?_
          rintro e w5 ⟨rfl, hb5⟩
          have hK5 : w5.heap[D1]? = some (.deferred (some [])) := (hb5.block D1 (Array.getElem?_eq_some_iff.1 HK.out).1).trans HK.out
          have HK5 := Lib.hid hK5
          have hc05 := (HBX.out.below hb5).c0
          have hrow5 := own_from (keptB HROW.out hb5) (grownBy_putObj' w5 D1 (.deferred none)) (fun r hr => by cases hr; exact ⟨_, hK5, rfl⟩)
          obtain ⟨A3, c3, hv3, hH5⟩ := isH_of_own hrow5 (hits_wd HBD.out)
          injection hv3 with e1 _ e2
          subst e1
          subst e2
          have HH5 := Lib.hid hH5
          have hD0 : w.heap.size ≤ D1 := by have := HB.out.size; omega
          have HB5 : Hid (Below w.heap.size w (w5.putObj D1 (.deferred none))) := below_mark (HBW.out.trans (hb5.mono HBW.out.size)) hD0
          clear hK5 hrow5 hH5 hb5
          cases hvl : vld (hits r1) k with
          | true =>
            have HE3 : Hid (D = (hits r1, 0)) := by show _ = _; rw [HEV.out, hvl]; rfl
            go_wp2_with fail
            exact leave_mark HK5.out (res2 rfl _ _) ⟨_, _, _, by rw [HE3.out]; rfl, by rw [HE3.out]; exact HH5.out, HB5.out⟩
          | false =>
            have HE3 : Hid (D = ([], 3)) := by show _ = _; rw [HEV.out, hvl]; rfl
            go_wp2_with fail
            exact leave_mark HK5.out (res2 rfl _ _) ⟨none, 0, 0, by rw [HE3.out]; rfl, by rw [HE3.out]; exact isH_nil _, HB5.out⟩
      · have HE2 : Hid (D = ([], 3)) := by show _ = _; rw [HE.out, if_neg (by simpa using h3), if_neg h2, if_pos (by rw [← hn1]; exact hmod)]
        have hq1 : (n1 : Int) % 3 ≠ 0 := by omega
        have hq2 : (n1 : Int).tmod 3 ≠ 0 := by rw [Int.tmod_eq_emod_of_nonneg (by omega)]; exact hq1
        have hq3 : ((n1 : Int) % 3 == 0) = false := by simpa using hq1
        have hq4 : ((n1 : Int).tmod 3 == 0) = false := by simpa using hq2
        clear hown hb hI hmod
        go_wp2_with fail
        exact leave_bare (res2 rfl _ _) ⟨none, 0, 0, by rw [HE2.out]; rfl, by rw [HE2.out]; exact isH_nil _, HB.out⟩
  · have HE2 : Hid (D = ([], r3)) := by show _ = _; rw [HE.out, if_pos (by simpa using h3)]
    clear hown hb
    go_wp2_with fail
    exact leave_bare (res2 rfl _ _) ⟨none, 0, 0, by rw [HE2.out]; rfl, by rw [HE2.out]; exact isH_nil _, HB.out⟩
end Go.Proofs.Ytckipafciomklaa.bk
/- A region of known values where a guard may itself be skipped. No program here. -/
namespace Go.Proofs.Ytckipafciomklaa.wk

set_option linter.unusedVariables false

open Go.ChangeShapes Go.WideShapes Go.ChangeAt Go.RowKit

section

variable {P : Program} {ops : Array Oper} {Q : Exit → Act → World → Prop}
def SP.boolU : SP → Option (Option Bool)
  | .is (.bool b) => some (some b)
  | .is _ => some none
  | .st _ _ => none
def skipsU (ops : Array Oper) (R : List SP) (i : Nat) : Bool :=
  match ops[i]? with
  | none => false
  | some o => match o.guard with
    | none => false
    | some (j, want) => match (R.getD j SP.any).boolU with
      | some (some b) => b != want
      | some none => true
      | none => false
def guardedU (ops : Array Oper) (R : List SP) (k : Nat) : Bool :=
  (List.range k).all fun i => match ops[i]? with
    | none => true
    | some o => match o.guard with
      | none => true
      | some (j, _) => (R.getD j SP.any).boolU.isSome && o.dst.isSome && (dstOf ops j).isSome && o.after.any fun e => e.on == j && Region.binds .any e
def skippedU (ops : Array Oper) (R : List SP) (k : Nat) : List Nat := (List.range k).filter fun i => skipsU ops R i
theorem skip_ofU {R : List SP} {k : Nat} {l : List Nat} (hl : skippedU ops R k = l) (h : ∀ p ∈ l, R.getD p SP.any = .is undef) : ∀ i, i < k → skipsU ops R i = true → R.getD i SP.any = .is undef := fun i hi hs => by
  refine h i ?_
  rw [← hl]
  exact List.mem_filter.2 ⟨List.mem_range.2 hi, hs⟩
theorem vinv_stepU {a0 : Act} {B : World} {k : Nat} (R : List SP) (hap : apart ops a0.tmps.size = true) (hg : guardedU ops R k = true) (hsk : ∀ i, i < k → skipsU ops R i = true → R.getD i SP.any = .is undef) {L : Nat → Bool} {a : Act} {w : World} {i : Nat} {o : Oper} (hik : i < k) (hI : VInv ops R B a0 L a w) (ho : ops[i]? = some o) (hLi : L i = false) (hdep : ∀ e ∈ o.after, Region.binds .any e = true → L e.on = true)
    (hstep : skipsU ops R i = false → ∀ E w, Below B.heap.size B w → Due ops R a0 o E w → Does P Q o E w (R.getD i SP.any).has) :
    wpOp P ops Q i (fun a' w' => VInv ops R B a0 (fun j => if j = i then true else L j) a' w') a w := by
  have hio : i < ops.size := (Array.getElem?_eq_some_iff.1 ho).1
  have hdv : ∀ e ∈ o.after, Region.binds .any e = true → ∃ v, (R.getD e.on SP.any).has w v ∧ ∀ d, dstOf ops e.on = some d → a.tmps[d]? = some v := fun e he hb => hI.vals e.on (hdep e he hb)
  have hfin : ∀ v w', Below w.heap.size w w' → (R.getD i SP.any).has w' v → VInv ops R B a0 (fun j => if j = i then true else L j) (a.put o.dst v) w' := fun v w' hb hR => by
    have hB := hI.below.trans (hb.mono hI.below.size)
    have hdo : dstOf ops i = o.dst := by unfold dstOf; rw [ho]; rfl
    refine ⟨hB, ?_, ?_, fun j hj => ?_, fun k hk => ?_⟩
    · cases hd : o.dst <;> exact hI.defers
    · cases hd : o.dst <;> simp only [Act.put, Array.size_setIfInBounds] <;> exact hI.size
    · by_cases hji : j = i
      · subst hji
        refine ⟨v, hR, fun d hd => ?_⟩
        rw [hdo] at hd
        have hlt := apart_lt hap hio (by rw [hdo]; exact hd)
        rw [hd]
        show (a.tmps.setIfInBounds d v)[d]? = some v
        rw [Array.getElem?_setIfInBounds, if_pos rfl, if_pos (by rw [hI.size]; exact hlt)]
      · rw [if_neg hji] at hj
        obtain ⟨u, hu, hud⟩ := hI.vals j hj
        refine ⟨u, SP.has_below hu hb, fun d hd => ?_⟩
        cases hod : o.dst with
        | none => exact hud d hd
        | some d' =>
          have hne : d' ≠ d := fun e => hji (apart_ne hap (dst_lt hd) hio hd (by rw [hdo, hod, e]))
          show (a.tmps.setIfInBounds d' v)[d]? = some u
          rw [Array.getElem?_setIfInBounds, if_neg hne]
          exact hud d hd
    · have hk' : ∀ j, L j = true → dstOf ops j ≠ some k := fun j hj => hk j (by by_cases h : j = i <;> simp [h, hj])
      have hki : o.dst ≠ some k := by rw [← hdo]; exact hk i (by simp)
      cases hod : o.dst with
      | none => exact hI.rest k hk'
      | some d' =>
        have hne : d' ≠ k := fun e => hki (by rw [hod, e])
        show (a.tmps.setIfInBounds d' v)[k]? = _
        rw [Array.getElem?_setIfInBounds, if_neg hne]
        exact hI.rest k hk'
  by_cases hs : skipsU ops R i = true
  · have hw : Region.wanted o (yielded ops a.tmps) = false := by
      have h1 := List.all_eq_true.1 hg i (List.mem_range.2 hik)
      unfold skipsU at hs
      simp only [ho] at h1 hs
      unfold Region.wanted
      cases hgd : o.guard with
      | none => rw [hgd] at hs; cases hs
      | some x =>
        obtain ⟨j, want⟩ := x
        simp only [hgd, Bool.and_eq_true] at h1 hs
        obtain ⟨⟨_, hsm⟩, h2⟩ := h1
        obtain ⟨ix, hix, h3⟩ := Array.any_eq_true.1 h2
        have he : o.after[ix] ∈ o.after := Array.getElem_mem hix
        generalize o.after[ix] = e at *
        simp only [Bool.and_eq_true, beq_iff_eq] at h3
        obtain ⟨h3, h4⟩ := h3
        obtain ⟨v, hv, hd⟩ := hdv e he h4
        rw [h3] at hv hd
        obtain ⟨d, hdj⟩ := Option.isSome_iff_exists.1 hsm
        have hy : yielded ops a.tmps j ≠ some want := by
          unfold yielded
          have e1 : (ops[j]?).bind (·.dst) = some d := hdj
          rw [e1]
          simp only [Option.bind_some, hd d hdj]
          cases hr : R.getD j SP.any with
          | is x =>
            rw [hr] at hs hv
            have hv : v = x := hv
            subst hv
            intro h
            cases v <;> simp_all [SP.boolU]
          | st p hp => rw [hr] at hs; simp [SP.boolU] at hs
        exact beq_eq_false_iff_ne.2 hy
    refine wpOp_step ho fun K' hK => ?_
    rw [if_neg (by rw [hw]; exact Bool.false_ne_true)]
    exact hK _ _ (hfin undef w (Below.refl _ _) (by rw [hsk i hik hs]; rfl))
  have hw : Region.wanted o (yielded ops a.tmps) = true := by
    have h1 := List.all_eq_true.1 hg i (List.mem_range.2 hik)
    unfold skipsU at hs
    simp only [ho] at h1 hs
    unfold Region.wanted
    cases hgd : o.guard with
    | none => rfl
    | some x =>
      obtain ⟨j, want⟩ := x
      simp only [hgd, Bool.and_eq_true] at h1 hs
      obtain ⟨⟨⟨hbs, _⟩, hsm⟩, h2⟩ := h1
      obtain ⟨ix, hix, h3⟩ := Array.any_eq_true.1 h2
      have he : o.after[ix] ∈ o.after := Array.getElem_mem hix
      generalize o.after[ix] = e at *
      simp only [Bool.and_eq_true, beq_iff_eq] at h3
      obtain ⟨h3, h4⟩ := h3
      obtain ⟨v, hv, hd⟩ := hdv e he h4
      rw [h3] at hv hd
      have hvb : v = .bool want := by
        cases hr : R.getD j SP.any with
        | is x =>
          rw [hr] at hs hv
          have hv : v = x := hv
          subst hv
          cases v <;> simp_all [SP.boolU]
        | st p hp => rw [hr] at hbs; simp [SP.boolU] at hbs
      obtain ⟨d, hdj⟩ := Option.isSome_iff_exists.1 hsm
      have hy : yielded ops a.tmps j = some want := by
        unfold yielded
        have e1 : (ops[j]?).bind (·.dst) = some d := hdj
        rw [e1]
        simp only [Option.bind_some, hd d hdj, hvb]
      simp only [hy, beq_self_eq_true]
  refine wpOp_step ho fun K' hK => ?_
  rw [if_pos hw]
  refine hstep (by simpa using hs) a.eval w hI.below ⟨fun _ => rfl, fun _ => rfl, fun k hk => ?_, fun e he hb => ?_⟩ a K' rfl fun v w' hb hR => ?_
  · show a.tmps.getD k undef = a0.tmps.getD k undef
    rw [Array.getD_eq_getD_getElem?, Array.getD_eq_getD_getElem?, hI.rest k fun j hj h => ?_]
    have := List.all_eq_true.1 hk j (List.mem_range.2 (dst_lt h))
    rw [h] at this
    simp at this
  · obtain ⟨v, hv, hd⟩ := hdv e he hb
    exact ⟨v, hv, fun d hdd => getD_of (hd d hdd)⟩
  · exact hK _ _ (hfin v w' hb hR)
theorem region_tailU {id : Nat} {a0 : Act} {w0 : World} (k : Nat) (R : List SP) (ds : List (Option Tmp)) (hm : P.follows .mixedOrders = true) (hord : orderedB .any ops = true) (hap : apart ops a0.tmps.size = true) (hg : guardedU ops R k = true) (sk : List Nat) (hskl : skippedU ops R k = sk) (hsk0 : ∀ p ∈ sk, R.getD p SP.any = .is undef) (hds : (List.range k).map (dstOf ops) = ds) (htl : tailed ops k = true)
    (hstep : ∀ i o, ops[i]? = some o → i < k → skipsU ops R i = false → ∀ E w, Below w0.drew.heap.size w0.drew w → Due ops R a0 o E w → Does P Q o E w (R.getD i SP.any).has)
    (hdone : ∀ (vals : Nat → Value) w, Below w0.drew.heap.size w0.drew w → (∀ i, i < k → (R.getD i SP.any).has w (vals i)) → wpList P ops Q (ops.toList.drop k) { a0 with tmps := setL ds vals 0 a0.tmps } w) : (Code.region id ops true).wp P Q a0 w0 := by
  have hsk := skip_ofU hskl hsk0
  unfold tailed at htl
  simp only [Bool.and_eq_true, decide_eq_true_eq] at htl
  obtain ⟨⟨hkn, hcov⟩, hch⟩ := htl
  have hchain : ∀ i, k ≤ i → i + 1 < ops.size → waitsFor ops (i + 1) i = true := fun i h1 h2 => by
    have := List.all_eq_true.1 hch i (List.mem_range.2 (by omega))
    simp only [Bool.or_eq_true, decide_eq_true_eq] at this
    rcases this with (h | h) | h
    · omega
    · omega
    · exact h
  have hcover : ∀ j, j < k → k < ops.size → ∃ i, j < i ∧ i ≤ k ∧ waitsFor ops i j = true := fun j h1 h2 => by
    have := List.all_eq_true.1 hcov j (List.mem_range.2 h1)
    simp only [Bool.or_eq_true, beq_iff_eq] at this
    rcases this with h | h
    · omega
    · obtain ⟨i, hi, h⟩ := List.any_eq_true.1 h
      simp only [Bool.and_eq_true, decide_eq_true_eq] at h
      exact ⟨i, h.1, by have := List.mem_range.1 hi; omega, h.2⟩
  have hfin : ∀ L a w, VInv ops R w0.drew a0 L a w → (∀ j, j < k → L j = true) → (∀ j, k ≤ j → L j = false) → wpList P ops Q (ops.toList.drop k) a w := fun L a w hI hall hno => by
    have hv : ∀ i, ∃ v, i < k → (R.getD i SP.any).has w v ∧ ∀ d, dstOf ops i = some d → a.tmps[d]? = some v := fun i => by
      by_cases hi : i < k
      · obtain ⟨v, h⟩ := hI.vals i (hall i hi); exact ⟨v, fun _ => h⟩
      · exact ⟨undef, fun h => absurd h hi⟩
    obtain ⟨vals, hvals⟩ := Classical.axiomOfChoice hv
    have ha : a = { a0 with tmps := setAll ops vals k a0.tmps } := by
      obtain ⟨tm, df⟩ := a
      have h1 : df = a0.defers := hI.defers
      have h2 : tm = setAll ops vals k a0.tmps := by
        refine Array.ext_getElem? fun s => ?_
        have hset := setAll_get vals hap s k a0.tmps hkn rfl
        by_cases hk : ∃ i, i < k ∧ dstOf ops i = some s
        · obtain ⟨i, hik, hi⟩ := hk
          rw [hset.2 i hik hi]
          exact (hvals i hik).2 s hi
        · rw [hset.1 fun i hi h => hk ⟨i, hi, h⟩]
          refine hI.rest s fun i hi h => ?_
          rcases Nat.lt_or_ge i k with hl | hl
          · exact hk ⟨i, hl, h⟩
          · rw [hno i hl] at hi; cases hi
      rw [h1, h2]
    rw [ha, setAll_eq, hds]
    exact hdone vals w hI.below fun i hi => (hvals i hi).1
  refine region_invB (fun a0 B L a w => (VInv ops R B a0 L a w ∧ (∀ i, k ≤ i → L i = false) ∧ Closed ops L) ∨ ∃ m, k ≤ m ∧ m ≤ ops.size ∧ (∀ i, L i = decide (i < m)) ∧ wpList P ops Q (ops.toList.drop m) a w) hm hord
    (Or.inl ⟨⟨Below.refl _ _, rfl, rfl, fun i h => (Bool.noConfusion h), fun k _ => rfl⟩, fun _ _ => rfl, fun i o _ h => (Bool.noConfusion h)⟩) ?_ ?_
  · intro L a w hI i o ho hLi hdep
    have hio : i < ops.size := (Array.getElem?_eq_some_iff.1 ho).1
    rcases hI with ⟨hI, hno, hcl⟩ | ⟨m, hm1, hm2, hL, hwp⟩
    · by_cases hik : i < k
      · refine wpOp_mono (fun a' w' h => Or.inl ?_) (vinv_stepU R hap hg hsk hik hI ho hLi hdep (hstep i o ho hik))
        refine ⟨h, fun j hj => ?_, fun j o' ho' hj e he hb => ?_⟩
        · have hji : j ≠ i := by omega
          simp only [hji, if_false]
          exact hno j hj
        · by_cases hji : j = i
          · subst hji
            rw [ho] at ho'; cases ho'
            by_cases h2 : e.on = j
            · simp [h2]
            · simp only [h2, if_false]; exact hdep e he hb
          · simp only [hji, if_false] at hj
            by_cases h2 : e.on = i
            · simp [h2]
            · simp only [h2, if_false]; exact hcl j o' ho' hj e he hb
      · have hik' : i = k := by
          rcases Nat.lt_or_ge k i with h | h
          · have := waits_done (L := L) (hchain (i - 1) (by omega) (by omega)) (by rw [show i - 1 + 1 = i by omega]; exact ho) hdep
            rw [hno (i - 1) (by omega)] at this; cases this
          · omega
        subst hik'
        have hall : ∀ d j, i - j ≤ d → j < i → L j = true := by
          intro d
          induction d with
          | zero => intro j h1 h2; omega
          | succ d ih =>
            intro j h1 h2
            obtain ⟨q, hq1, hq2, hq3⟩ := hcover j h2 hio
            by_cases hqi : q = i
            · subst hqi; exact waits_done hq3 ho hdep
            · have hq : L q = true := ih q (by omega) (by omega)
              have hqo : ops[q]? = some ops[q] := Array.getElem?_eq_getElem (by omega)
              exact waits_done hq3 hqo (hcl q _ hqo hq)
        refine wpOp_mono (fun a' w' h => Or.inr ⟨i + 1, by omega, by omega, fun j => ?_, h⟩) (wpList_to_op ho (hfin L a w hI (fun j hj => hall _ j (Nat.le_refl _) hj) hno))
        by_cases hji : j = i
        · subst hji; simp
        · simp only [hji, if_false]
          rcases Nat.lt_or_ge j i with h1 | h1
          · rw [hall _ j (Nat.le_refl _) h1]; simp; omega
          · rw [hno j h1]; simp; omega
    · have him : i = m := by
        have h1 : ¬ i < m := fun h => by rw [hL i] at hLi; simp [h] at hLi
        rcases Nat.lt_or_ge m i with h | h
        · have := waits_done (L := L) (hchain (i - 1) (by omega) (by omega)) (by rw [show i - 1 + 1 = i by omega]; exact ho) hdep
          rw [hL (i - 1)] at this
          simp at this; omega
        · omega
      subst him
      refine wpOp_mono (fun a' w' h => Or.inr ⟨i + 1, by omega, by omega, fun j => ?_, h⟩) (wpList_to_op ho hwp)
      by_cases hji : j = i
      · subst hji; simp
      · simp only [hji, if_false]
        rw [hL j]
        rcases Nat.lt_or_ge j i with h1 | h1
        · simp [h1]; omega
        · simp; omega
  · intro L a w hall hI
    rcases hI with ⟨hI, hno, hcl⟩ | ⟨m, hm1, hm2, hL, hwp⟩
    · have hk : k = ops.size := by
        rcases Nat.lt_or_ge k ops.size with h | h
        · have := hall k h; rw [hno k (Nat.le_refl _)] at this; cases this
        · omega
      have := hfin L a w hI (fun j hj => hall j (by omega)) hno
      rw [hk, ← Array.length_toList, List.drop_length] at this
      exact this
    · have hk : m = ops.size := by
        rcases Nat.lt_or_ge m ops.size with h | h
        · have := hall m h; rw [hL m] at this; simp at this
        · omega
      rw [hk, ← Array.length_toList, List.drop_length] at hwp
      exact hwp
end

end Go.Proofs.Ytckipafciomklaa.wk
