/- Top. -/
import Derived.Test.YtmjmkkdmphgdnaaDoorG12

import Derived.Test.YtmjmkkdmphgdnaaDoorNb

import Derived.Deep.LoopGhost

namespace Go.Proofs.YtmjmkkdmphgdnaaDoor.mk

open Go.ChangeShapes Go.WideShapes Go.ChangeAt Go.RowKit

set_option linter.unusedVariables false
theorem op_index {P : Program} {o : Oper} {E : Operand → Value} {w : World} {ty : TypeId} {x i : Operand} {X I v : Value} (ho : o.op = .indexAddr ty x i) (hx : E x = X) (hi : E i = I) (hr : (Instr.indexAt ty X I).run P w = .ok v w) : (execOp E o).run P w = .ok (.value v) w := by
  unfold execOp
  simp only [ho, hx, hi]
  rw [Sem.run_bind, hr]; rfl
theorem results_cellD_tmp {fn : Func} {p u : Tmp} (h : fn.results = #[.cell p 31, .tmp u]) (tmps : Array Value) (w : World) (g : Nat) (d : D) (hp : tmps.getD p undef = .pointer (some ⟨g, 0, none⟩)) (hg : w.heap[g]? = some (.cells (wp.bc d).toArray 31 (0, 0))) (hd : d.length = 16) :
    (results fn tmps).run Tryd.prog w = .ok (.tuple #[dv d, tmps.getD u undef]) w := by
  have hp' : tmps[p]?.getD undef = .pointer (some ⟨g, 0, none⟩) := by simpa using hp
  unfold dv
  simp [results, h, hp', asAddr, run_loadVar_row w g _ _ (wp.bc d).toArray (0, 0) _ hg Tryd.underlying31 rfl (dv_sizeA hd)]
structure TopR (B : Nat) (w0 : World) (size : Int) (A : Option Addr) (n c : Nat) (G : Nat) (d : D) (w : World) : Prop where
  q1 : w.heap[B]? = some (.cells #[.int .i64 size, .slice A n c] 43 (0, 0))
  q2 : w.heap[B + 1]? = some (.cells hi.z16 31 (0, 0))
  q5 : w.heap[G]? = some (.cells (wp.bc d).toArray 31 (0, 0))
  d16 : d.length = 16
  bel : Below B w0 w
  lt : B + 1 < G
theorem TopR.next {B : Nat} {w0 : World} {size : Int} {A : Option Addr} {n c G : Nat} {d : D} {w w' : World} (h : TopR B w0 size A n c G d w) (hB : B ≤ w.heap.size) (hb : Below w.heap.size w w') : TopR B w0 size A n c G d w' :=
  ⟨wk.row_below h.q1 hb, wk.row_below h.q2 hb, wk.row_below h.q5 hb, h.d16, h.bel.trans (hb.mono hB), h.lt⟩
theorem TopR.set {B : Nat} {w0 : World} {size : Int} {A : Option Addr} {n c G : Nat} {d d' : D} {w : World} (h : TopR B w0 size A n c G d w) (hd : d'.length = 16) : TopR B w0 size A n c G d' (w.setRow G (wp.bc d').toArray) :=
  ⟨by rw [heap_setRow_ne (by have := h.lt; omega)]; exact h.q1, by rw [heap_setRow_ne (by have := h.lt; omega)]; exact h.q2, setRow_heap _ _ _ _ _ _ h.q5, hd, wk.below_setRow h.bel (by have := h.lt; omega) _, h.lt⟩
set_option maxRecDepth 100000 in
set_option maxHeartbeats 4000000 in
theorem top_calls (size : Int) (A : Option Addr) (n c : Nat) (l : List D) (w : World) (h : IsD w A n c l) (hT : Tab w) (hn1 : 1 ≤ n) (hn2 : n ≤ 100) (hs : size ≠ 0)
    (hfm : ∀ w', Calls Tryd.prog 52 #[pk size (.slice A n c)] w' fun e w'' => e = .returned (.bool true) ∧ Below w'.heap.size w' w'') :
    Calls Tryd.prog 26 #[pk size (.slice A n c)] w fun e w' => e = .returned (.tuple #[dv (topD l), .int .i64 0]) ∧ Below w.heap.size w w' := by
  have hlen := h.len
  have HI := Lib.hid h
  have HT := Lib.hid hT
  have HFM := Lib.hid hfm
  obtain ⟨d0, hx⟩ : ∃ d, l[n - 1]? = some d := ⟨_, List.getElem?_eq_getElem (by omega)⟩
  have hd16 : d0.length = 16 := h.dl _ (List.mem_of_getElem? hx)
  have hlast : l.getLastD [] = d0 := by rw [List.getLastD_eq_getLast?, List.getLast?_eq_getElem?, hlen, hx]; rfl
  have htop : (l.take (n - 1)).foldr nodeD d0 = topD l := by unfold topD; rw [hlen, hlast]
  have HX := Lib.hid hx
  have HD16 := Lib.hid hd16
  have HTOP := Lib.hid htop
  have HLEN := Lib.hid hlen
  clear h hT hfm hx hd16 hlast htop hlen
  unfold pk at HFM ⊢
  go_enter Tryd.func26, Tryd.ntmps26
  go_upto_region 1 with fail
  change Code.wp _ _ _ _ ((w.alloc (.cells #[.int .i64 size, .slice A n c] 43)).alloc (.cells hi.z16 31))
  have b1 : Below w.heap.size w (w.alloc (.cells #[.int .i64 size, .slice A n c] 43)) := (Below.refl _ _).alloc (Nat.le_refl _) _
  have q1 : (w.alloc (.cells #[.int .i64 size, .slice A n c] 43)).heap[w.heap.size]? = some (.cells #[.int .i64 size, .slice A n c] 43 (0, 0)) := heap_alloc_new _ _
  have s1 : (w.alloc (.cells #[.int .i64 size, .slice A n c] 43)).heap.size = w.heap.size + 1 := Array.size_push ..
  generalize w.alloc (.cells #[.int .i64 size, .slice A n c] 43) = w1 at *
  have b2 : Below w1.heap.size w1 (w1.alloc (.cells hi.z16 31)) := (Below.refl _ _).alloc (Nat.le_refl _) _
  have q2 : (w1.alloc (.cells hi.z16 31)).heap[w1.heap.size]? = some (.cells hi.z16 31 (0, 0)) := heap_alloc_new _ _
  generalize w1.alloc (.cells hi.z16 31) = w2 at *
  have q1' := wk.row_below q1 b2
  have b := b1.trans (b2.mono (by omega))
  rw [s1] at q2
  generalize hB : w.heap.size = B at *
  have HB := Lib.hid hB
  have HB2 := Lib.hid b
  have Q1 := Lib.hid q1'
  have Q2 := Lib.hid q2
  clear q1 q2 q1' b1 b2 s1 b hB
  have hzp : (Tryd.prog.info? 43).map (·.size) = some (#[Value.int .i64 size, .slice A n c] : Array Value).size := infoP
  have hq1 := Q1.out
  go_upto_region 3 with (first | (refine wpList_load_row rfl 43 (.tmp 1) rfl B rfl 43 #[.int .i64 size, .slice A n c] (0, 0) _ hq1 Tryd.underlying43 rfl hzp ?_) | (go_at_call 52; refine (HFM.out _).mono ?_; rintro e w4 ⟨rfl, hb4⟩; have HB4 := Lib.hid hb4; clear hb4))
  replace Q1 := Lib.hid (wk.row_below Q1.out HB4.out)
  replace Q2 := Lib.hid (wk.row_below Q2.out HB4.out)
  have hc0 := cell2_0 Q1.out
  have hc1 := cell2_1 Q1.out
  have hBw : Below B w w4 := HB2.out.trans (HB4.out.mono (by have := HB2.out.size; have := HB.out; have := wk.row_lt hq1; omega))
  have hs4 : B + 1 < w4.heap.size := wk.row_lt Q2.out
  obtain ⟨ad, hix, hld⟩ := (HI.out.below (by rw [HB.out]; exact hBw)).load (i := ((n - 1 : Nat) : Int)) (by omega) (d := d0) (by rw [Int.toNat_natCast]; exact HX.out)
  have hci : ((n : Int) - 1) = ((n - 1 : Nat) : Int) := by omega
  have hs0 : (size == 0) = false := by simpa using hs
  have hl1 := hld w4 (Below.refl _ _)
  have hz := dv_size HD16.out
  have hz3 : hi.z16.size = (wp.bc d0).length := by rw [bc_len HD16.out]; rfl
  have ho := wk.ones_bc d0
  have HBW := Lib.hid hBw
  have HS4 := Lib.hid hs4
  clear hq1 hzp HB2 HB4 hld hBw hs4
  generalize hcs : wp.bc d0 = cs at *
  have HCS := Lib.hid hcs
  clear hcs
  unfold hi.z16 at hz3
  go_upto_region 7 with (first | (refine wk.load_agg rfl 31 (.tmp 22) rfl ad rfl cs _ hl1 Tryd.underlying31 rfl hz ?_) | (refine wk.store_new rfl 31 (.tmp 5) (.tmp 23) rfl 31 _ cs rfl rfl hz hz3 ho ?_))
  rw [← HCS.out]
  have hb5 : Below w4.heap.size w4 (w4.alloc (.cells (wp.bc d0).toArray 31)) := (Below.refl _ _).alloc (Nat.le_refl _) _
  have hR0 : TopR B w size A n c w4.heap.size d0 (w4.alloc (.cells (wp.bc d0).toArray 31)) := ⟨wk.row_below Q1.out hb5, wk.row_below Q2.out hb5, heap_alloc_new _ _, HD16.out, HBW.out.trans (hb5.mono (by have := HS4.out; omega)), HS4.out⟩
  generalize w4.alloc (.cells (wp.bc d0).toArray 31) = w5 at *
  generalize w4.heap.size = G at *
  have HR0 := Lib.hid hR0
  clear hb5 hR0 HBW HS4 Q1 Q2 hc0 hc1 hl1 hz hz3 ho hix
  go_wp2_with fail
  go_loopg [6] (n - 1) (fun g x wr => ∃ (d : D), x = .int .i64 ((g : Int) - 1) ∧ g ≤ n - 1 ∧ (l.take g).foldr nodeD d = topD l ∧ TopR B w size A n c G d wr)
  case atStart => exact ⟨d0, rfl, Nat.le_refl _, HTOP.out, HR0.out⟩
  case round =>
    obtain ⟨d, rfl, hg, hfold, hR⟩ := hrel
    have HF := Lib.hid hfold
    have HR := Lib.hid hR
    have HBr : Hid (B ≤ wr.heap.size) := Lib.hid (by have := wk.row_lt hR.q1; omega)
    clear hfold hR HR0
    rcases Nat.eq_zero_or_pos gk with hz | hz
    · subst hz
      have hq5 := HR.out.q5
      have hz2 := dv_sizeA HR.out.d16
      have hz := dv_size HR.out.d16
      have hq2 := HR.out.q2
      have hz3 : hi.z16.size = (wp.bc d).length := by rw [bc_len HR.out.d16]; rfl
      have ho := wk.ones_bc d
      go_wp2_with (first | (refine wpList_load_row rfl 31 (.tmp 5) rfl G rfl 31 (wp.bc d).toArray (0, 0) _ hq5 Tryd.underlying31 rfl hz2 ?_) | (refine wk.store_row rfl 31 (.tmp 2) (.tmp 37) rfl (B + 1) (wp.bc d) rfl rfl 31 hi.z16 hq2 hz hz3 ho ?_))
      refine bodyPost_ret (v := .tuple #[dv d, .int .i64 0]) (results_cellD_tmp (fn := Tryd.f26) rfl _ _ (B + 1) d rfl (setRow_heap _ _ _ _ _ _ hq2) HR.out.d16) rfl ⟨by have := HF.out; rw [List.take_zero] at this; rw [← this]; rfl, ?_⟩
      rw [HB.out]
      exact wk.below_setRow HR.out.bel (by omega) _
    · obtain ⟨j, rfl⟩ : ∃ j, gk = j + 1 := ⟨gk - 1, by omega⟩
      have hj : l[j]? = some (l[j]'(by have := HLEN.out; omega)) := List.getElem?_eq_getElem _
      have hx16 : (l[j]'(by have := HLEN.out; omega)).length = 16 := HI.out.dl _ (List.getElem_mem _)
      have hfold : (l.take j).foldr nodeD (nodeD (l[j]'(by have := HLEN.out; omega)) d) = topD l := by
        have := HF.out
        rw [← List.take_append_getElem (show j < l.length by have := HLEN.out; omega), List.foldr_append] at this
        exact this
      obtain ⟨ad2, hix2, hld2⟩ := (HI.out.below (by rw [HB.out]; exact HR.out.bel)).load (i := (j : Int)) (by omega) (d := l[j]'(by have := HLEN.out; omega)) (by rw [Int.toNat_natCast]; exact hj)
      generalize (l[j]'(by have := HLEN.out; omega)) = y at *
      have hgj : ((j + 1 : Nat) : Int) - 1 = (j : Int) := by omega
      rw [hgj]
      have HX16 := Lib.hid hx16
      have HIX := Lib.hid hix2
      have HLD := Lib.hid hld2
      have HFO := Lib.hid hfold
      have HTr := Lib.hid (HT.out.below HT.out.1.1 (by rw [HB.out]; exact HR.out.bel))
      clear hj hx16 hix2 hld2 hfold HF hgj
      go_upto_region 10 with fail
      refine wk.region_tail 7 [.is (.pointer (some ⟨B, 1, none⟩)), .is (.slice A n c), .is (.int .i64 (j : Int)), .is (.pointer (some ad2)), .is (dv y), .is (dv d), .is (dv (nodeD y d))] [some 30, some 31, some 32, some 33, some 34, some 35, some 36] (by kernel_rfl) (by kernel_rfl) (by kernel_rfl) (by kernel_rfl) (by kernel_rfl) (by kernel_rfl) ?hstep ?hdone
      case hstep =>
        intro i o ho hi E w4 hb4 D
        have hi2 : i = 0 ∨ i = 1 ∨ i = 2 ∨ i = 3 ∨ i = 4 ∨ i = 5 ∨ i = 6 := by omega
        clear hi
        rcases hi2 with rfl | rfl | rfl | rfl | rfl | rfl | rfl
        ·
          have ho2 := (Array.getElem?_eq_some_iff.1 ho).2
          simp only [List.getElem_toArray, List.getElem_cons_zero] at ho2
          subst ho2
          clear ho
          have e1 := D.old 1 (by kernel_rfl)
          exact wk.does_run (by simp only [execOp]; rw [show E (.tmp 1) = .pointer (some ⟨B, 0, none⟩) by rw [e1]; rfl]; go_simp) rfl
        ·
          have ho2 := (Array.getElem?_eq_some_iff.1 ho).2
          simp only [List.getElem_toArray, List.getElem_cons_succ, List.getElem_cons_zero] at ho2
          subst ho2
          clear ho
          have e30 := D.is { on := 0, ground := .data } (by simp) rfl rfl 30 rfl
          exact wk.does_load1 rfl e30 (cell2_1 (wk.row_below HR.out.q1 ((Below.refl _ _).drew.trans hb4))) Tryd.underlying22 rfl rfl
        ·
          have ho2 := (Array.getElem?_eq_some_iff.1 ho).2
          simp only [List.getElem_toArray, List.getElem_cons_succ, List.getElem_cons_zero] at ho2
          subst ho2
          clear ho
          have e6 := D.old 6 (by kernel_rfl)
          exact wk.does_move rfl (by rw [e6]; rfl)
        ·
          have ho2 := (Array.getElem?_eq_some_iff.1 ho).2
          simp only [List.getElem_toArray, List.getElem_cons_succ, List.getElem_cons_zero] at ho2
          subst ho2
          clear ho
          have e31 := D.is { on := 1, ground := .data } (by simp) rfl rfl 31 rfl
          have e32 := D.is { on := 2, ground := .data } (by simp) rfl rfl 32 rfl
          exact wk.does_run (op_index rfl e31 e32 (HIX.out _)) rfl
        ·
          have ho2 := (Array.getElem?_eq_some_iff.1 ho).2
          simp only [List.getElem_toArray, List.getElem_cons_succ, List.getElem_cons_zero] at ho2
          subst ho2
          clear ho
          have e33 := D.is { on := 3, ground := .data } (by simp) rfl rfl 33 rfl
          exact wk.does_load_agg rfl e33 (HLD.out _ ((Below.refl _ _).drew.trans hb4)) Tryd.underlying31 rfl (dv_size HX16.out) rfl
        ·
          have ho2 := (Array.getElem?_eq_some_iff.1 ho).2
          simp only [List.getElem_toArray, List.getElem_cons_succ, List.getElem_cons_zero] at ho2
          subst ho2
          clear ho
          have e5 := D.old 5 (by kernel_rfl)
          exact wk.does_load_row rfl (by rw [e5]; rfl) (wk.row_below HR.out.q5 ((Below.refl _ _).drew.trans hb4)) Tryd.underlying31 rfl (dv_sizeA HR.out.d16) rfl
        ·
          have ho2 := (Array.getElem?_eq_some_iff.1 ho).2
          simp only [List.getElem_toArray, List.getElem_cons_succ, List.getElem_cons_zero] at ho2
          subst ho2
          clear ho
          have e34 := D.is { on := 4, ground := .data } (by simp) rfl rfl 34 rfl
          have e35 := D.is { on := 5, ground := .data } (by simp) rfl rfl 35 rfl
          refine wk.does_fn (f := 19) (vs := #[dv y, dv d]) rfl (D.fn _) (by simp [e34, e35]) (by go_simp) ?_
          refine (node_calls _ _ HX16.out HR.out.d16 w4 (HTr.out.next ((Below.refl _ _).drew.trans hb4))).mono ?_
          rintro e w8 ⟨rfl, hb8⟩
          exact ⟨_, rfl, hb8, rfl⟩
      case hdone =>
        intro vals w4 hb4 hv
        have h6 := hv 6 (by omega)
        clear hv
        replace h6 : vals 6 = (dv (nodeD y d)) := h6
        simp only [List.drop_succ_cons, List.drop_zero, wk.setL, List.setIfInBounds_toArray, List.set_cons_zero, List.set_cons_succ, Nat.zero_add, Nat.reduceAdd, h6]
        generalize vals 0 = x0
        generalize vals 1 = x1
        generalize vals 2 = x2
        generalize vals 3 = x3
        generalize vals 4 = x4
        generalize vals 5 = x5
        have hn16 : (nodeD y d).length = 16 := dig_length _ _
        have hR5 := HR.out.next HBr.out ((Below.refl _ _).drew.trans hb4)
        have hq5 := hR5.q5
        have hz := dv_size hn16
        have hz3 : (wp.bc d).toArray.size = (wp.bc (nodeD y d)).length := by rw [List.size_toArray, bc_len HR.out.d16, bc_len hn16]
        have HR6 := Lib.hid (hR5.set hn16)
        clear hb4 hR5 hn16
        unfold dv
        go_wp2_with (refine wk.store_row rfl 31 (.tmp 5) (.tmp 36) rfl G (wp.bc (nodeD y d)) rfl rfl 31 _ hq5 hz hz3 (wk.ones_bc _) ?_)
        go_roundg j
        case measure => omega
        case rel => exact ⟨nodeD y d, rfl, by omega, HFO.out, HR6.out⟩
end Go.Proofs.YtmjmkkdmphgdnaaDoor.mk
