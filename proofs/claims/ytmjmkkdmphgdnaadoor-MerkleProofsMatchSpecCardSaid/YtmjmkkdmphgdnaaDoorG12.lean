/- Joined: Ms Mt Mu Mv Mw Mx My Mya. -/
import Derived.Test.YtmjmkkdmphgdnaaDoorG11

import Derived.Deep.QuietTactic

import Derived.Deep.CutBlock
/- CheckMany, the function. -/
namespace Go.Proofs.YtmjmkkdmphgdnaaDoor.mk

open Go.ChangeShapes Go.WideShapes Go.ChangeAt Go.RowKit

set_option linter.unusedVariables false
theorem infoRF3 : (Tryd.prog.info? 81).map (·.size) = some 1 := by kernel_rfl
/-- the middle of the check -/
structure MS (B H pr pn : Nat) (root : D) (n : Nat) (A2 : Option Addr) (m c2 : Nat) (A3 : Option Addr) (c3 : Nat) (wS : World) (s : St) (w : World) : Prop where
  es : ES B pr pn (mwF pr pn) 81 [(H + 1 + 1 + 1, wp.bc root)] wS s w
  cn : w.heap[H]? = some (.cells #[.int .i64 n] 3 (0, 0))
  cp : w.heap[H + 1]? = some (.cells #[.slice A2 m c2] 37 (0, 0))
  cf : w.heap[H + 1 + 1]? = some (.cells #[.slice A3 m c3] 22 (0, 0))
  low : H + 1 + 1 + 1 < B
theorem MS.turn {B H pr pn : Nat} {root : D} {n : Nat} {A2 : Option Addr} {m c2 : Nat} {A3 : Option Addr} {c3 : Nat} {wS : World} {s s' : St} {w w' : World} (h : MS B H pr pn root n A2 m c2 A3 c3 wS s w) (hB1 : 1 < B) (hk : Keep B w w') (hn : Nx B w' s'.1 s'.2) : MS B H pr pn root n A2 m c2 A3 c3 wS s' w' :=
  ⟨h.es.turn hB1 hk hn, hk.row h.cn (by have := h.low; omega) (by have := h.low; omega), hk.row h.cp (by have := h.low; omega) (by have := h.low; omega), hk.row h.cf (by have := h.low; omega) (by have := h.low; omega), h.low⟩
theorem MS.next {B H pr pn : Nat} {root : D} {n : Nat} {A2 : Option Addr} {m c2 : Nat} {A3 : Option Addr} {c3 : Nat} {wS : World} {s : St} {w w' : World} (h : MS B H pr pn root n A2 m c2 A3 c3 wS s w) (hB1 : 1 < B) (hb : Below w.heap.size w w') : MS B H pr pn root n A2 m c2 A3 c3 wS s w' := h.turn hB1 (Keep.of hb) (h.es.nx.next hb)
set_option maxRecDepth 100000 in
set_option maxHeartbeats 4000000 in
theorem leadM0_calls (B H : Nat) (hB1 : 1 < B) (root : D) (hroot : root.length = 16) (l : List D) (w : World) (hHB : H + 1 + 1 + 1 < B) (hN : Nx B w l false) (hT : Tab w)
    (h0 : w.heap[H]? = some (.cells #[.int .i64 0] 3 (0, 0))) (h3 : w.heap[H + 1 + 1 + 1]? = some (.cells (wp.bc root).toArray 31 (0, 0))) :
    Calls Tryd.prog 48 #[nextV B, .pointer (some ⟨H, 0, none⟩), .pointer (some ⟨H + 1 + 1 + 1, 0, none⟩), .pointer (some ⟨H + 1, 0, none⟩), .pointer (some ⟨H + 1 + 1, 0, none⟩)] w fun e w' => e = .returned (.bool (root == emptyD)) ∧ Nx B w' l false ∧ Keep B w w' := by
  have HN := Lib.hid hN
  have HT := Lib.hid hT
  have H2 := Lib.hid h3
  have hc0 := wk.cell_row1 h0
  clear hN hT h0 h3
  go_enter Tryd.func48, Tryd.ntmps48
  have b1 : Below w.heap.size w (w.alloc (.cells #[nextV B] 71)) := (Below.refl _ _).alloc (Nat.le_refl _) _
  have hc1 : (w.alloc (.cells #[nextV B] 71)).cell? ⟨H, 0, none⟩ = some (.int .i64 0) := (b1.cell (p := ⟨H, 0, none⟩) (World.block_lt_of_cell? _ _ hc0)).trans hc0
  go_upto_region 1 with fail
  change Code.wp _ _ _ _ (w.alloc (.cells #[nextV B] 71))
  generalize w.alloc (.cells #[nextV B] 71) = w1 at *
  have HB1 := Lib.hid b1
  have HN1 := Lib.hid (HN.out.next b1)
  have HT1 := Lib.hid (HT.out.next b1.drew)
  have Q2 := Lib.hid (wk.row_below H2.out b1.drew)
  clear b1 hc0
  go_upto_region 2 with fail
  refine wk.region_tail 4 [.is (dv root), .is (dv emptyD), .is (.bool (root == emptyD)), .is (.bool (root == emptyD))] [some 10, some 11, some 12, some 6] (by kernel_rfl) (by kernel_rfl) (by kernel_rfl) (by kernel_rfl) (by kernel_rfl) (by kernel_rfl) ?hstep ?hdone
  case hstep =>
    intro i o ho hi E w4 hb4 D
    have hi2 : i = 0 ∨ i = 1 ∨ i = 2 ∨ i = 3 := by omega
    clear hi
    rcases hi2 with rfl | rfl | rfl | rfl
    ·
      have ho2 := (Array.getElem?_eq_some_iff.1 ho).2
      simp only [List.getElem_toArray, List.getElem_cons_zero] at ho2
      subst ho2
      clear ho
      have e2 := D.old 2 (by kernel_rfl)
      exact wk.does_load_row rfl (by rw [e2]; rfl) (wk.row_below Q2.out hb4) Tryd.underlying31 rfl (dv_sizeA hroot) rfl
    ·
      have ho2 := (Array.getElem?_eq_some_iff.1 ho).2
      simp only [List.getElem_toArray, List.getElem_cons_succ, List.getElem_cons_zero] at ho2
      subst ho2
      clear ho
      refine wk.does_fn (f := 38) (vs := #[]) rfl (D.fn _) (by simp) (by go_simp) ?_
      refine (empty_calls w4 (HT1.out.next hb4)).mono ?_
      rintro e w5 ⟨rfl, hb5⟩
      exact ⟨_, rfl, hb5, rfl⟩
    ·
      have ho2 := (Array.getElem?_eq_some_iff.1 ho).2
      simp only [List.getElem_toArray, List.getElem_cons_succ, List.getElem_cons_zero] at ho2
      subst ho2
      clear ho
      have e10 := D.is { on := 0, ground := .data } (by simp) rfl rfl 10 rfl
      have e11 := D.is { on := 1, ground := .data } (by simp) rfl rfl 11 rfl
      exact wk.does_eq_arr rfl e10 e11 (by kernel_rfl) (eq_dv _ _ _ hroot (dig_length _ _)) rfl
    ·
      have ho2 := (Array.getElem?_eq_some_iff.1 ho).2
      simp only [List.getElem_toArray, List.getElem_cons_succ, List.getElem_cons_zero] at ho2
      subst ho2
      clear ho
      have e12 := D.is { on := 2, ground := .data } (by simp) rfl rfl 12 rfl
      exact wk.does_assign rfl e12
  case hdone =>
    intro vals w4 hb4 hv
    have h3 := hv 3 (by omega)
    clear hv
    replace h3 : vals 3 = (.bool (root == emptyD)) := h3
    simp only [List.drop_succ_cons, List.drop_zero, wpList, Act.put, wk.setL, List.setIfInBounds_toArray, List.set_cons_zero, List.set_cons_succ, Nat.zero_add, Nat.reduceAdd, h3]
    generalize vals 0 = x0
    generalize vals 1 = x1
    generalize vals 2 = x2
    have hbb : Below w1.heap.size w1 w4 := (Below.refl _ _).drew.trans hb4
    have hbw : Below w.heap.size w w4 := HB1.out.trans (hbb.mono HB1.out.size)
    have HBB := Lib.hid hbb
    have HBW := Lib.hid hbw
    clear hb4 hbb hbw
    go_wp2_with fail
    go_ret
    exact ⟨rfl, HN1.out.next HBB.out, Keep.of HBW.out⟩
set_option maxRecDepth 100000 in
set_option maxHeartbeats 4000000 in
theorem leadM1_calls (B H : Nat) (hB1 : 1 < B) (root : D) (hroot : root.length = 16) (n : Nat) (hn1 : 1 ≤ n) (hn40 : n ≤ 1099511627776) (A2 : Option Addr) (m c2 : Nat) (p : List Int) (A3 : Option Addr) (c3 : Nat) (fd : List D) (hm40 : m ≤ 1099511627776) (hAs : Asc p) (l : List D) (w : World) (hHB : H + 1 + 1 + 1 < B) (hN : Nx B w l false) (hT : Tab w)
    (hY : IsY B w A2 m c2 p) (hI : IsL B w A3 m c3 fd)
    (h0 : w.heap[H]? = some (.cells #[.int .i64 n] 3 (0, 0))) (h1 : w.heap[H + 1]? = some (.cells #[.slice A2 m c2] 37 (0, 0))) (h2 : w.heap[H + 1 + 1]? = some (.cells #[.slice A3 m c3] 22 (0, 0))) (h3 : w.heap[H + 1 + 1 + 1]? = some (.cells (wp.bc root).toArray 31 (0, 0))) :
    Calls Tryd.prog 48 #[nextV B, .pointer (some ⟨H, 0, none⟩), .pointer (some ⟨H + 1 + 1 + 1, 0, none⟩), .pointer (some ⟨H + 1, 0, none⟩), .pointer (some ⟨H + 1 + 1, 0, none⟩)] w fun e w' => e = .returned (.bool ((mwD n 0 p fd (l, false)).1 == root)) ∧ Nx B w' (mwD n 0 p fd (l, false)).2.1 (mwD n 0 p fd (l, false)).2.2 ∧ Keep B w w' := by
  have HN := Lib.hid hN
  have HT := Lib.hid hT
  have H0 := Lib.hid h0
  have H1 := Lib.hid h1
  have H2 := Lib.hid h2
  have H3 := Lib.hid h3
  have HY := Lib.hid hY
  have HI := Lib.hid hI
  have HAS := Lib.hid hAs
  have hmf := fun (fn : Fn) (first cap : Array Value) (w : World) => hmf (P := Tryd.prog) fn first cap w
  have HX := Lib.hid (fun pr pn w => mw1_calls B pr pn hB1 n 0 A2 m c2 p A3 c3 fd (l, false) w)
  have hr16 := (mw_16 n n 0 p fd (l, false) hn1 (Nat.le_refl _) (by rw [hI.is.len, hY.is.len]) hI.is.dl hN.dl).1
  change (mwD n 0 p fd (l, false)).1.length = 16 at hr16
  generalize mwD n 0 p fd (l, false) = r at *
  have HR16 := Lib.hid hr16
  have hn0 : ¬ (n : Int) = 0 := by omega
  clear hN hT h0 h1 h2 h3 hr16 hY hI hAs
  go_enter Tryd.func48, Tryd.ntmps48
  have b1 : Below w.heap.size w (w.alloc (.cells #[nextV B] 71)) := (Below.refl _ _).alloc (Nat.le_refl _) _
  have hc1 : (w.alloc (.cells #[nextV B] 71)).cell? ⟨H, 0, none⟩ = some (.int .i64 n) := wk.cell_row1 (wk.row_below H0.out b1)
  have q1 : (w.alloc (.cells #[nextV B] 71)).heap[w.heap.size]? = some (.cells #[nextV B] 71 (0, 0)) := heap_alloc_new _ _
  have s1 : (w.alloc (.cells #[nextV B] 71)).heap.size = w.heap.size + 1 := Array.size_push ..
  go_upto_region 1 with fail
  change Code.wp _ _ _ _ (w.alloc (.cells #[nextV B] 71))
  generalize w.alloc (.cells #[nextV B] 71) = w1 at *
  have HSZ1 := Lib.hid s1
  clear s1
  go_upto_region 4 with fail
  have b2 : Below w1.heap.size w1 (w1.alloc (.cells #[.nilFunc] 81)) := (Below.refl _ _).alloc (Nat.le_refl _) _
  have q2 : (w1.alloc (.cells #[.nilFunc] 81)).heap[w1.heap.size]? = some (.cells #[.nilFunc] 81 (0, 0)) := heap_alloc_new _ _
  change Code.wp _ _ _ _ (w1.alloc (.cells #[.nilFunc] 81))
  have q1' := wk.row_below q1 b2
  have b := b1.trans (b2.mono b1.size)
  generalize w1.alloc (.cells #[.nilFunc] 81) = w2 at *
  have hlt := HN.out.lt
  generalize hG1 : w1.heap.size = G1 at *
  generalize hG : w.heap.size = G at *
  have HG := Lib.hid hG
  have HG1 : Hid (G1 = G + 1) := HSZ1.out
  have HB2 := Lib.hid b
  have Q1 := Lib.hid q1'
  have Q2 := Lib.hid q2
  clear q1 q2 q1' b1 b2 b hG hG1 HSZ1 hc1
  go_upto_region 5 with (refine wpList_store_oneTo rfl 81 (.tmp 7) (.tmp 13) rfl rfl G1 (mwF G1 G) rfl rfl rfl 81 .nilFunc Q2.out infoRF3 ?_)
  have hg1 := HG1.out
  have hk3 : Keep B w (w2.setRow G1 #[mwF G1 G]) := (Keep.of (by rw [HG.out]; exact HB2.out)).setNew (by have := HG.out; omega) _
  have hn3 : Nx B (w2.setRow G1 #[mwF G1 G]) l false := (HN.out.next (by rw [HG.out]; exact HB2.out)).set (by omega) _
  have HS3 : Hid (MS B H G1 G root n A2 m c2 A3 c3 w (l, false) (w2.setRow G1 #[mwF G1 G])) :=
    ⟨⟨setRow_heap _ _ _ _ _ _ Q2.out, by rw [heap_setRow_ne (by omega)]; exact Q1.out, by omega, by omega, by omega, by omega, hn3, HT.out.keep hB1 hk3 (by have := HG.out; omega), fun p hp => by
      simp only [List.mem_cons, List.not_mem_nil, or_false] at hp
      rcases hp with rfl
      exact hk3.row H3.out (by omega) (by omega), fun p hp => by
      simp only [List.mem_cons, List.not_mem_nil, or_false] at hp
      rcases hp with rfl
      show H + 1 + 1 + 1 ≠ B ∧ H + 1 + 1 + 1 ≠ B + 2
      omega, hk3⟩, hk3.row H0.out (by omega) (by omega), hk3.row H1.out (by omega) (by omega), hk3.row H2.out (by omega) (by omega), hHB⟩
  generalize w2.setRow G1 #[mwF G1 G] = w3 at *
  have HX2 := Lib.hid (HX.out G1 G)
  have HBW : Hid (B ≤ w.heap.size) := by have := HG.out; show _ ≤ _; omega
  clear hk3 hn3 HN HT HX H0 H1 H2 H3 HB2 Q1 Q2 hg1
  refine wk.region_state 8 4 [mwF G1 G, .int .i64 n, .slice A2 m c2, .slice A3 m c3, dv r.1, dv root, .bool (r.1 == root), .bool (r.1 == root)] [some 14, some 15, some 16, some 17, some 18, some 19, some 20, some 6] (fun b u => MS B H G1 G root n A2 m c2 A3 c3 w (if b then r.2 else (l, false)) u) (fun b w w' h hb => h.next hB1 hb) (HS3.out.next hB1 (Below.refl _ _).drew) rfl (by omega) (by kernel_rfl) (by kernel_rfl) (by kernel_rfl) (by kernel_rfl) (by kernel_rfl) (by kernel_rfl) ?hstep ?hturn ?hdone
  case hstep =>
    intro i o ho hi hic E b w4 hS4 D
    have hi2 : i = 0 ∨ i = 1 ∨ i = 2 ∨ i = 3 ∨ i = 4 ∨ i = 5 ∨ i = 6 ∨ i = 7 := by omega
    clear hi
    rcases hi2 with rfl | rfl | rfl | rfl | rfl | rfl | rfl | rfl
    ·
      have ho2 := (Array.getElem?_eq_some_iff.1 ho).2
      simp only [List.getElem_toArray, List.getElem_cons_zero] at ho2
      subst ho2
      clear ho
      have e7 := D.old 7 (by kernel_rfl)
      exact wk.does_load1 rfl (by rw [e7]; rfl) (wk.cell_row1 hS4.es.rf) Tryd.underlying81 rfl rfl
    ·
      have ho2 := (Array.getElem?_eq_some_iff.1 ho).2
      simp only [List.getElem_toArray, List.getElem_cons_succ, List.getElem_cons_zero] at ho2
      subst ho2
      clear ho
      have e1 := D.old 1 (by kernel_rfl)
      exact wk.does_load1 rfl (by rw [e1]; rfl) (wk.cell_row1 hS4.cn) Tryd.underlying3 rfl rfl
    ·
      have ho2 := (Array.getElem?_eq_some_iff.1 ho).2
      simp only [List.getElem_toArray, List.getElem_cons_succ, List.getElem_cons_zero] at ho2
      subst ho2
      clear ho
      have e3 := D.old 3 (by kernel_rfl)
      exact wk.does_load1 rfl (by rw [e3]; rfl) (wk.cell_row1 hS4.cp) Tryd.underlying37 rfl rfl
    ·
      have ho2 := (Array.getElem?_eq_some_iff.1 ho).2
      simp only [List.getElem_toArray, List.getElem_cons_succ, List.getElem_cons_zero] at ho2
      subst ho2
      clear ho
      have e4 := D.old 4 (by kernel_rfl)
      exact wk.does_load1 rfl (by rw [e4]; rfl) (wk.cell_row1 hS4.cf) Tryd.underlying22 rfl rfl
    · exact absurd rfl hic
    ·
      have ho2 := (Array.getElem?_eq_some_iff.1 ho).2
      simp only [List.getElem_toArray, List.getElem_cons_succ, List.getElem_cons_zero] at ho2
      subst ho2
      clear ho
      have e2 := D.old 2 (by kernel_rfl)
      exact wk.does_load_row rfl (by rw [e2]; rfl) (hS4.es.rows (H + 1 + 1 + 1, wp.bc root) (by simp)) Tryd.underlying31 rfl (dv_sizeA hroot) rfl
    ·
      have ho2 := (Array.getElem?_eq_some_iff.1 ho).2
      simp only [List.getElem_toArray, List.getElem_cons_succ, List.getElem_cons_zero] at ho2
      subst ho2
      clear ho
      have e18 := D.is { on := 4, ground := .data } (by simp) rfl rfl 18 rfl
      have e19 := D.is { on := 5, ground := .data } (by simp) rfl rfl 19 rfl
      exact wk.does_eq_arr rfl e18 e19 (by kernel_rfl) (eq_dv _ _ _ HR16.out hroot) rfl
    ·
      have ho2 := (Array.getElem?_eq_some_iff.1 ho).2
      simp only [List.getElem_toArray, List.getElem_cons_succ, List.getElem_cons_zero] at ho2
      subst ho2
      clear ho
      have e20 := D.is { on := 6, ground := .data } (by simp) rfl rfl 20 rfl
      exact wk.does_assign rfl e20
  case hturn =>
    intro o ho E w4 hS4 D
    have ho2 := (Array.getElem?_eq_some_iff.1 ho).2
    simp only [List.getElem_toArray, List.getElem_cons_succ, List.getElem_cons_zero] at ho2
    subst ho2
    clear ho
    have e14 := D.is { on := 0, ground := .data } (by simp) rfl rfl 14 rfl
    have e15 := D.is { on := 1, ground := .data } (by simp) rfl rfl 15 rfl
    have e16 := D.is { on := 2, ground := .data } (by simp) rfl rfl 16 rfl
    have e17 := D.is { on := 3, ground := .data } (by simp) rfl rfl 17 rfl
    refine wk.does_fn_t (f := 49) (vs := #[.int .i64 0, .int .i64 n, .slice A2 m c2, .slice A3 m c3, .pointer (some ⟨G, 0, none⟩), .pointer (some ⟨G1, 0, none⟩)]) rfl (by rw [e14]; rfl) (by simp [e15, e16, e17, D.con]) (by go_simp) ?_
    refine (HX2.out w4 hn1 (by omega) (by omega) hm40 (HY.out.below HBW.out (hS4.es.keep.below HBW.out)) HAS.out (HI.out.below HBW.out (hS4.es.keep.below HBW.out)) (hS4.es.sub (by simp)).start).mono ?_
    rintro e w5 ⟨rfl, hn5, hk5⟩
    exact ⟨_, rfl, rfl, hS4.turn hB1 hk5 hn5⟩
  case hdone =>
    intro w4 hS4
    simp only [List.drop_succ_cons, List.drop_zero, wpList, wk.setL, List.setIfInBounds_toArray, List.set_cons_zero, List.set_cons_succ, Nat.zero_add, Nat.reduceAdd, List.getD_cons_zero, List.getD_cons_succ]
    go_wp2_with fail
    go_ret
    exact ⟨rfl, hS4.es.nx, hS4.es.keep⟩
end Go.Proofs.YtmjmkkdmphgdnaaDoor.mk
/- CheckMany, whole. -/
namespace Go.Proofs.YtmjmkkdmphgdnaaDoor.mk

open Go.ChangeShapes Go.WideShapes Go.ChangeAt Go.RowKit

set_option linter.unusedVariables false
/-- the whole check -/
noncomputable def chkM (n : Int) (p : List Int) (fd l : List D) (root : D) : Bool := if 0 ≤ n ∧ n ≤ 1099511627776 ∧ places n 0 p = true ∧ fd.length = p.length then (if n = 0 then (root == emptyD) && l.isEmpty else ((mwD n.toNat 0 p fd (l, false)).1 == root) && !(mwD n.toNat 0 p fd (l, false)).2.2 && (mwD n.toNat 0 p fd (l, false)).2.1.isEmpty) else false
set_option maxRecDepth 100000 in
set_option maxHeartbeats 4000000 in
theorem chkM_calls (root : D) (hroot : root.length = 16) (n : Int) (A2 : Option Addr) (m c2 : Nat) (p : List Int) (A3 : Option Addr) (m3 c3 : Nat) (fd : List D) (A : Option Addr) (np c : Nat) (l : List D) (w : World) (h : IsD w A np c l) (hY : IsZ w A2 m c2 p) (hF : IsD w A3 m3 c3 fd) (hT : Tab w) (hm40 : m ≤ 1000000) :
    Calls Tryd.prog 23 #[.int .i64 n, .slice A2 m c2, .slice A3 m3 c3, .slice A np c, dv root] w fun e w' => e = .returned (.bool (chkM n p fd l root)) ∧ Below w.heap.size w w' := by
  have HI := Lib.hid h
  have HT := Lib.hid hT
  have HY := Lib.hid hY
  have HF := Lib.hid hF
  have hplen := hY.len
  have hflen := hF.len
  have hmf := fun (fn : Fn) (first cap : Array Value) (w : World) => hmf (P := Tryd.prog) fn first cap w
  have hzb := dv_size hroot
  have hob := wk.ones_bc root
  have HRT := Lib.hid hroot
  unfold dv
  clear h hT hroot hY hF
  go_enter Tryd.func23, Tryd.ntmps23
  go_upto_region 1 with fail
  change Code.wp _ _ _ _ ((((w.alloc (.cells #[.int .i64 n] 3)).alloc (.cells #[.slice A2 m c2] 37)).alloc (.cells #[.slice A3 m3 c3] 22)).alloc (.cells (wp.bc root).toArray 31))
  have b1 : Below w.heap.size w (w.alloc (.cells #[.int .i64 n] 3)) := (Below.refl _ _).alloc (Nat.le_refl _) _
  have q1 : (w.alloc (.cells #[.int .i64 n] 3)).heap[w.heap.size]? = some (.cells #[.int .i64 n] 3 (0, 0)) := heap_alloc_new _ _
  have s1 : (w.alloc (.cells #[.int .i64 n] 3)).heap.size = w.heap.size + 1 := Array.size_push ..
  generalize w.alloc (.cells #[.int .i64 n] 3) = w1 at *
  have b2 : Below w1.heap.size w1 (w1.alloc (.cells #[.slice A2 m c2] 37)) := (Below.refl _ _).alloc (Nat.le_refl _) _
  have q2 : (w1.alloc (.cells #[.slice A2 m c2] 37)).heap[w1.heap.size]? = some (.cells #[.slice A2 m c2] 37 (0, 0)) := heap_alloc_new _ _
  have s2 : (w1.alloc (.cells #[.slice A2 m c2] 37)).heap.size = w1.heap.size + 1 := Array.size_push ..
  generalize w1.alloc (.cells #[.slice A2 m c2] 37) = w2 at *
  have b3 : Below w2.heap.size w2 (w2.alloc (.cells #[.slice A3 m3 c3] 22)) := (Below.refl _ _).alloc (Nat.le_refl _) _
  have q3 : (w2.alloc (.cells #[.slice A3 m3 c3] 22)).heap[w2.heap.size]? = some (.cells #[.slice A3 m3 c3] 22 (0, 0)) := heap_alloc_new _ _
  have s3 : (w2.alloc (.cells #[.slice A3 m3 c3] 22)).heap.size = w2.heap.size + 1 := Array.size_push ..
  generalize w2.alloc (.cells #[.slice A3 m3 c3] 22) = w3 at *
  have b4 : Below w3.heap.size w3 (w3.alloc (.cells (wp.bc root).toArray 31)) := (Below.refl _ _).alloc (Nat.le_refl _) _
  have q4 : (w3.alloc (.cells (wp.bc root).toArray 31)).heap[w3.heap.size]? = some (.cells (wp.bc root).toArray 31 (0, 0)) := heap_alloc_new _ _
  have s4 : (w3.alloc (.cells (wp.bc root).toArray 31)).heap.size = w3.heap.size + 1 := Array.size_push ..
  generalize w3.alloc (.cells (wp.bc root).toArray 31) = w4 at *
  have q1' := wk.row_below (wk.row_below (wk.row_below q1 b2) b3) b4
  have q2' := wk.row_below (wk.row_below q2 b3) b4
  have q3' := wk.row_below q3 b4
  have b := ((b1.trans (b2.mono (by omega))).trans (b3.mono (by omega))).trans (b4.mono (by omega))
  rw [s3, s2, s1] at q4
  rw [s2, s1] at q3'
  rw [s1] at q2'
  have hsz : w4.heap.size = w.heap.size + 1 + 1 + 1 + 1 := by omega
  clear q1 q2 q3 b1 b2 b3 b4 s1 s2 s3 s4
  have HB4 := Lib.hid b
  have Q1 := Lib.hid q1'
  have Q2 := Lib.hid q2'
  have Q3 := Lib.hid q3'
  have Q4 := Lib.hid q4
  have HSZ := Lib.hid hsz
  have HI4 := Lib.hid (HI.out.below b)
  have HY4 := Lib.hid (HY.out.below b)
  have HF4 := Lib.hid (HF.out.below b)
  have HT4 := Lib.hid (HT.out.next b)
  have h1H := HT.out.1.1
  generalize hH : w.heap.size = H at *
  have HH := Lib.hid hH
  have hc1 := wk.cell_row1 Q1.out
  have hc2 := wk.cell_row1 Q2.out
  have hc3 := wk.cell_row1 Q3.out
  clear b q1' q2' q3' q4 hsz hH HI HT HY HF hzb hob
  by_cases hn0 : n < 0
  · have HE : Hid (chkM n p fd l root = false) := by show _ = _; unfold chkM; rw [if_neg (by omega)]
    go_wp2_with fail
    go_ret
    exact ⟨by rw [HE.out]; rfl, by rw [HH.out]; exact HB4.out⟩
  by_cases hn40 : 1099511627776 < n
  · have HE : Hid (chkM n p fd l root = false) := by show _ = _; unfold chkM; rw [if_neg (by omega)]
    go_wp2_with fail
    go_ret
    exact ⟨by rw [HE.out]; rfl, by rw [HH.out]; exact HB4.out⟩
  have HPL := Lib.hid (places_calls A2 m c2 p n w4 HY4.out (by omega) (by omega))
  cases hpl : places n 0 p
  · have HE : Hid (chkM n p fd l root = false) := by show _ = _; unfold chkM; rw [if_neg (by rw [hpl]; simp)]
    rw [hpl] at HPL
    clear hpl
    go_wp2_with (go_at_call 42; refine HPL.out.mono ?_; rintro e w' ⟨rfl, hw'⟩; rw [hw']; clear hw')
    go_ret
    exact ⟨by rw [HE.out]; rfl, by rw [HH.out]; exact HB4.out⟩
  by_cases hml : m3 = m
  · subst hml
    obtain ⟨hasc, _⟩ := places_asc p n 0 hpl
    obtain ⟨nN, rfl⟩ : ∃ k : Nat, n = k := ⟨n.toNat, by omega⟩
    by_cases hz : nN = 0
    · subst hz
      have HE : Hid (chkM (0 : Nat) p fd l root = ((root == emptyD) && l.isEmpty)) := by show _ = _; unfold chkM; rw [if_pos ⟨by omega, by omega, hpl, by omega⟩]; exact if_pos rfl
      rw [hpl] at HPL
      clear hpl
      have HLD : Hid (∀ w5, Nx w4.heap.size w5 l false → Below w4.heap.size w4 w5 → Calls Tryd.prog 48 (#[nextV w4.heap.size] ++ #[.pointer (some ⟨H, 0, none⟩), .pointer (some ⟨H + 1 + 1 + 1, 0, none⟩), .pointer (some ⟨H + 1, 0, none⟩), .pointer (some ⟨H + 1 + 1, 0, none⟩)]) w5 fun e w6 => e = .returned (.bool (root == emptyD)) ∧ Nx w4.heap.size w6 l false ∧ Keep w4.heap.size w5 w6) :=
        fun w5 hn5 hb5 => leadM0_calls w4.heap.size H (by have := HSZ.out; omega) root HRT.out l w5 (by have := HSZ.out; omega) hn5 (HT4.out.next hb5) (wk.row_below Q1.out hb5) (wk.row_below Q4.out hb5)
      go_wp2_with (first | (go_at_call 42; refine HPL.out.mono ?_; rintro e w' ⟨rfl, hw'⟩; rw [hw']; clear hw') | (go_at_call 47; refine (through_calls A np c l 48 #[.pointer (some ⟨H, 0, none⟩), .pointer (some ⟨H + 1 + 1 + 1, 0, none⟩), .pointer (some ⟨H + 1, 0, none⟩), .pointer (some ⟨H + 1 + 1, 0, none⟩)] w4 HI4.out _ _ _ (fun vs w => by go_simp) HLD.out).mono ?_; rintro e w6 ⟨rfl, hb6⟩; have HB6 := Lib.hid hb6; clear hb6))
      go_ret
      refine ⟨by rw [HE.out]; rfl, ?_⟩
      rw [HH.out]
      exact HB4.out.trans (HB6.out.mono (by have := HSZ.out; omega))
    · have HE : Hid (chkM nN p fd l root = (((mwD nN 0 p fd (l, false)).1 == root) && !(mwD nN 0 p fd (l, false)).2.2 && (mwD nN 0 p fd (l, false)).2.1.isEmpty)) := by show _ = _; unfold chkM; rw [if_pos ⟨by omega, by omega, hpl, by omega⟩, if_neg (by omega), Int.toNat_natCast]
      rw [hpl] at HPL
      clear hpl
      have HLD : Hid (∀ w5, Nx w4.heap.size w5 l false → Below w4.heap.size w4 w5 → Calls Tryd.prog 48 (#[nextV w4.heap.size] ++ #[.pointer (some ⟨H, 0, none⟩), .pointer (some ⟨H + 1 + 1 + 1, 0, none⟩), .pointer (some ⟨H + 1, 0, none⟩), .pointer (some ⟨H + 1 + 1, 0, none⟩)]) w5 fun e w6 => e = .returned (.bool ((mwD nN 0 p fd (l, false)).1 == root)) ∧ Nx w4.heap.size w6 (mwD nN 0 p fd (l, false)).2.1 (mwD nN 0 p fd (l, false)).2.2 ∧ Keep w4.heap.size w5 w6) :=
        fun w5 hn5 hb5 => leadM1_calls w4.heap.size H (by have := HSZ.out; omega) root HRT.out nN (by omega) (by omega) A2 m3 c2 p A3 c3 fd (by omega) hasc l w5 (by have := HSZ.out; omega) hn5 (HT4.out.next hb5) ((IsY.of HY4.out).next hb5) ((IsL.of HF4.out).next hb5) (wk.row_below Q1.out hb5) (wk.row_below Q2.out hb5) (wk.row_below Q3.out hb5) (wk.row_below Q4.out hb5)
      go_wp2_with (first | (go_at_call 42; refine HPL.out.mono ?_; rintro e w' ⟨rfl, hw'⟩; rw [hw']; clear hw') | (go_at_call 47; refine (through_calls A np c l 48 #[.pointer (some ⟨H, 0, none⟩), .pointer (some ⟨H + 1 + 1 + 1, 0, none⟩), .pointer (some ⟨H + 1, 0, none⟩), .pointer (some ⟨H + 1 + 1, 0, none⟩)] w4 HI4.out _ _ _ (fun vs w => by go_simp) HLD.out).mono ?_; rintro e w6 ⟨rfl, hb6⟩; have HB6 := Lib.hid hb6; clear hb6))
      go_ret
      refine ⟨by rw [HE.out]; rfl, ?_⟩
      rw [HH.out]
      exact HB4.out.trans (HB6.out.mono (by have := HSZ.out; omega))
  · have HE : Hid (chkM n p fd l root = false) := by show _ = _; unfold chkM; rw [if_neg (by omega)]
    rw [hpl] at HPL
    clear hpl
    have hml' : ¬ (m3 : Int) = (m : Int) := by omega
    go_wp2_with (go_at_call 42; refine HPL.out.mono ?_; rintro e w' ⟨rfl, hw'⟩; rw [hw']; clear hw')
    go_ret
    exact ⟨by rw [HE.out]; rfl, by rw [HH.out]; exact HB4.out⟩
end Go.Proofs.YtmjmkkdmphgdnaaDoor.mk
/- How many binary digits are 1, of small numbers; peaks that are well-formed. -/
namespace Go.Proofs.YtmjmkkdmphgdnaaDoor.mk

open Go.ChangeShapes Go.WideShapes Go.ChangeAt Go.RowKit

set_option linter.unusedVariables false
/-- the number of binary digits 1 -/
def pop : Nat → Nat → Nat
  | 0, _ => 0
  | f + 1, n => n % 2 + pop f (n / 2)
def sw1 (x : Int) : Int := IntKind.u64.wrap (bits .and .u64 (x / 2) 6148914691236517205 + bits .and .u64 x 6148914691236517205)
def sw2 (x : Int) : Int := IntKind.u64.wrap (bits .and .u64 (x / 4) 3689348814741910323 + bits .and .u64 x 3689348814741910323)
def sw3 (x : Int) : Int := bits .and .u64 (IntKind.u64.wrap (x / 16 + x)) 1085102592571150095
def sw4 (x : Int) : Int := IntKind.u64.wrap (x + x / 256)
def sw5 (x : Int) : Int := IntKind.u64.wrap (x + x / 65536)
def sw6 (x : Int) : Int := IntKind.u64.wrap (x + x / 4294967296)
def swar (x : Int) : Int := bits .and .i64 (wrap64 (sw6 (sw5 (sw4 (sw3 (sw2 (sw1 x))))))) 127
theorem swar_small : ∀ n : Fin 41, swar (n.val : Int) = (pop 64 n.val : Int) := by decide +kernel
set_option maxRecDepth 100000 in
set_option maxHeartbeats 16000000 in
theorem ones64_calls (x : Int) (w : World) (h0 : 0 ≤ x) (h1 : x ≤ 18446744073709551615) :
    Calls Tryd.prog 82 #[.int .u64 x] w fun e w' => e = .returned (.int .i64 (swar x)) ∧ w' = w := by
  go_enter Tryd.func82, Tryd.ntmps82
  go_wp2_with fail
  go_ret
  exact ⟨rfl, rfl⟩
set_option maxRecDepth 100000 in
set_option maxHeartbeats 16000000 in
theorem ones_calls (x : Int) (w : World) (h0 : 0 ≤ x) (h1 : x ≤ 18446744073709551615) :
    Calls Tryd.prog 71 #[.int .u64 x] w fun e w' => e = .returned (.int .i64 (swar x)) ∧ w' = w := by
  have H := Lib.hid (ones64_calls x w h0 h1)
  go_enter Tryd.func71, Tryd.ntmps71
  go_wp2_with fail
  refine H.out.mono ?_
  rintro e w' ⟨rfl, rfl⟩
  go_wp2_with fail
  go_ret
  exact ⟨rfl, rfl⟩
theorem cell2_0 {w : World} {g : Nat} {a b : Value} {t : TypeId} (h : w.heap[g]? = some (.cells #[a, b] t (0, 0))) : w.cell? ⟨g, 0, none⟩ = some a := by
  rw [cell_of_row _ _ _ _ _ _ h]; rfl
theorem cell2_1 {w : World} {g : Nat} {a b : Value} {t : TypeId} (h : w.heap[g]? = some (.cells #[a, b] t (0, 0))) : w.cell? ⟨g, 1, none⟩ = some b := by
  rw [cell_of_row _ _ _ _ _ _ h]; rfl
def pk (size : Int) (v : Value) : Value := .agg #[.int .i64 size, v]
theorem infoP : (Tryd.prog.info? 43).map (·.size) = some 2 := by kernel_rfl
/-- well-formed -/
def formed (size : Int) (n : Nat) : Bool := decide (0 ≤ size) && decide (size ≤ 1099511627776) && decide ((n : Int) = swar size)
set_option maxRecDepth 100000 in
set_option maxHeartbeats 4000000 in
theorem formed_calls (size : Int) (A : Option Addr) (n c : Nat) (w : World) (h0 : 0 ≤ size) (h1 : size ≤ 1099511627776) :
    Calls Tryd.prog 52 #[pk size (.slice A n c)] w fun e w' => e = .returned (.bool (formed size n)) ∧ Below w.heap.size w w' := by
  have hF : formed size n = decide ((n : Int) = swar size) := by unfold formed; simp [h0, h1]
  have HF := Lib.hid hF
  clear hF
  unfold pk
  go_enter Tryd.func52, Tryd.ntmps52
  go_upto_region 1 with fail
  have b1 : Below w.heap.size w (w.alloc (.cells #[.int .i64 size, .slice A n c] 43)) := (Below.refl _ _).alloc (Nat.le_refl _) _
  have q1 : (w.alloc (.cells #[.int .i64 size, .slice A n c] 43)).heap[w.heap.size]? = some (.cells #[.int .i64 size, .slice A n c] 43 (0, 0)) := heap_alloc_new _ _
  change Code.wp _ _ _ _ (w.alloc (.cells #[.int .i64 size, .slice A n c] 43))
  generalize w.alloc (.cells #[.int .i64 size, .slice A n c] 43) = w1 at *
  have Q := Lib.hid (wk.row_below q1 (Below.refl w1.heap.size w1).drew)
  have HB1 := Lib.hid b1
  generalize hG : w.heap.size = G at *
  have HG := Lib.hid hG
  clear b1 q1 hG
  have f1 : decide (0 ≤ size) = true := decide_eq_true h0
  have f2 : decide (size ≤ 1099511627776) = true := decide_eq_true h1
  refine wk.region_tail 19 [.is (.pointer (some ⟨G, 0, none⟩)), .is (.int .i64 size), .is (.bool true), .is (.bool true), .is (.pointer (some ⟨G, 0, none⟩)), .is (.int .i64 size), .is (.bool true), .is (.bool true), .is (.bool true), .is (.pointer (some ⟨G, 1, none⟩)), .is (.slice A n c), .is (.int .i64 n), .is (.pointer (some ⟨G, 0, none⟩)), .is (.int .i64 size), .is (.int .u64 size), .is (.int .i64 (swar size)), .is (.bool (decide ((n : Int) = swar size))), .is (.bool (decide ((n : Int) = swar size))), .is (.bool (decide ((n : Int) = swar size)))] [some 3, some 4, some 5, some 6, some 7, some 8, some 9, some 10, some 11, some 12, some 13, some 14, some 15, some 16, some 17, some 18, some 19, some 20, some 2] (by kernel_rfl) (by kernel_rfl) (by kernel_rfl) (by kernel_rfl) (by kernel_rfl) (by kernel_rfl) ?hstep ?hdone
  case hstep =>
    intro i o ho hi E w4 hb4 D
    have hi2 : i = 0 ∨ i = 1 ∨ i = 2 ∨ i = 3 ∨ i = 4 ∨ i = 5 ∨ i = 6 ∨ i = 7 ∨ i = 8 ∨ i = 9 ∨ i = 10 ∨ i = 11 ∨ i = 12 ∨ i = 13 ∨ i = 14 ∨ i = 15 ∨ i = 16 ∨ i = 17 ∨ i = 18 := by omega
    clear hi
    rcases hi2 with rfl | rfl | rfl | rfl | rfl | rfl | rfl | rfl | rfl | rfl | rfl | rfl | rfl | rfl | rfl | rfl | rfl | rfl | rfl
    ·
      have ho2 := (Array.getElem?_eq_some_iff.1 ho).2
      simp only [List.getElem_toArray, List.getElem_cons_zero] at ho2
      subst ho2
      clear ho
      have e1 := D.old 1 (by kernel_rfl)
      exact wk.does_run (by simp only [execOp]; rw [show E (.tmp 1) = .pointer (some ⟨G, 0, none⟩) by rw [e1]; rfl]; go_simp) rfl
    ·
      have ho2 := (Array.getElem?_eq_some_iff.1 ho).2
      simp only [List.getElem_toArray, List.getElem_cons_succ, List.getElem_cons_zero] at ho2
      subst ho2
      clear ho
      have e3 := D.is { on := 0, ground := .data } (by simp) rfl rfl 3 rfl
      exact wk.does_load1 rfl e3 (cell2_0 (wk.row_below Q.out hb4)) Tryd.underlying3 rfl rfl
    ·
      have ho2 := (Array.getElem?_eq_some_iff.1 ho).2
      simp only [List.getElem_toArray, List.getElem_cons_succ, List.getElem_cons_zero] at ho2
      subst ho2
      clear ho
      have e4 := D.is { on := 1, ground := .data } (by simp) rfl rfl 4 rfl
      exact wk.does_bin rfl (by rw [e4, D.con]; go_simp) rfl
    ·
      have ho2 := (Array.getElem?_eq_some_iff.1 ho).2
      simp only [List.getElem_toArray, List.getElem_cons_succ, List.getElem_cons_zero] at ho2
      subst ho2
      clear ho
      have e5 := D.is { on := 2, ground := .data } (by simp) rfl rfl 5 rfl
      exact wk.does_move rfl e5
    ·
      have ho2 := (Array.getElem?_eq_some_iff.1 ho).2
      simp only [List.getElem_toArray, List.getElem_cons_succ, List.getElem_cons_zero] at ho2
      subst ho2
      clear ho
      have e1 := D.old 1 (by kernel_rfl)
      exact wk.does_run (by simp only [execOp]; rw [show E (.tmp 1) = .pointer (some ⟨G, 0, none⟩) by rw [e1]; rfl]; go_simp) rfl
    ·
      have ho2 := (Array.getElem?_eq_some_iff.1 ho).2
      simp only [List.getElem_toArray, List.getElem_cons_succ, List.getElem_cons_zero] at ho2
      subst ho2
      clear ho
      have e7 := D.is { on := 4, ground := .data } (by simp) rfl rfl 7 rfl
      exact wk.does_load1 rfl e7 (cell2_0 (wk.row_below Q.out hb4)) Tryd.underlying3 rfl rfl
    ·
      have ho2 := (Array.getElem?_eq_some_iff.1 ho).2
      simp only [List.getElem_toArray, List.getElem_cons_succ, List.getElem_cons_zero] at ho2
      subst ho2
      clear ho
      have e8 := D.is { on := 5, ground := .data } (by simp) rfl rfl 8 rfl
      exact wk.does_bin rfl (by rw [e8, D.con]; go_simp) rfl
    ·
      have ho2 := (Array.getElem?_eq_some_iff.1 ho).2
      simp only [List.getElem_toArray, List.getElem_cons_succ, List.getElem_cons_zero] at ho2
      subst ho2
      clear ho
      have e6 := D.is { on := 3, ground := .data } (by simp) rfl rfl 6 rfl
      have e9 := D.is { on := 6, ground := .data } (by simp) rfl rfl 9 rfl
      exact wk.does_pick rfl e6 e9
    ·
      have ho2 := (Array.getElem?_eq_some_iff.1 ho).2
      simp only [List.getElem_toArray, List.getElem_cons_succ, List.getElem_cons_zero] at ho2
      subst ho2
      clear ho
      have e10 := D.is { on := 7, ground := .data } (by simp) rfl rfl 10 rfl
      exact wk.does_move rfl e10
    ·
      have ho2 := (Array.getElem?_eq_some_iff.1 ho).2
      simp only [List.getElem_toArray, List.getElem_cons_succ, List.getElem_cons_zero] at ho2
      subst ho2
      clear ho
      have e1 := D.old 1 (by kernel_rfl)
      exact wk.does_run (by simp only [execOp]; rw [show E (.tmp 1) = .pointer (some ⟨G, 0, none⟩) by rw [e1]; rfl]; go_simp) rfl
    ·
      have ho2 := (Array.getElem?_eq_some_iff.1 ho).2
      simp only [List.getElem_toArray, List.getElem_cons_succ, List.getElem_cons_zero] at ho2
      subst ho2
      clear ho
      have e12 := D.is { on := 9, ground := .data } (by simp) rfl rfl 12 rfl
      exact wk.does_load1 rfl e12 (cell2_1 (wk.row_below Q.out hb4)) Tryd.underlying22 rfl rfl
    ·
      have ho2 := (Array.getElem?_eq_some_iff.1 ho).2
      simp only [List.getElem_toArray, List.getElem_cons_succ, List.getElem_cons_zero] at ho2
      subst ho2
      clear ho
      have e13 := D.is { on := 10, ground := .data } (by simp) rfl rfl 13 rfl
      exact wk.does_run (by simp only [execOp, resolve, invoke, List.map_toArray, List.map_cons, List.map_nil, e13]; go_simp) rfl
    ·
      have ho2 := (Array.getElem?_eq_some_iff.1 ho).2
      simp only [List.getElem_toArray, List.getElem_cons_succ, List.getElem_cons_zero] at ho2
      subst ho2
      clear ho
      have e1 := D.old 1 (by kernel_rfl)
      exact wk.does_run (by simp only [execOp]; rw [show E (.tmp 1) = .pointer (some ⟨G, 0, none⟩) by rw [e1]; rfl]; go_simp) rfl
    ·
      have ho2 := (Array.getElem?_eq_some_iff.1 ho).2
      simp only [List.getElem_toArray, List.getElem_cons_succ, List.getElem_cons_zero] at ho2
      subst ho2
      clear ho
      have e15 := D.is { on := 12, ground := .data } (by simp) rfl rfl 15 rfl
      exact wk.does_load1 rfl e15 (cell2_0 (wk.row_below Q.out hb4)) Tryd.underlying3 rfl rfl
    ·
      have ho2 := (Array.getElem?_eq_some_iff.1 ho).2
      simp only [List.getElem_toArray, List.getElem_cons_succ, List.getElem_cons_zero] at ho2
      subst ho2
      clear ho
      have e16 := D.is { on := 13, ground := .data } (by simp) rfl rfl 16 rfl
      exact wk.does_run (by simp only [execOp, e16]; go_simp; rw [IntKind.wrap_u64]; omega) rfl
    ·
      have ho2 := (Array.getElem?_eq_some_iff.1 ho).2
      simp only [List.getElem_toArray, List.getElem_cons_succ, List.getElem_cons_zero] at ho2
      subst ho2
      clear ho
      have e17 := D.is { on := 14, ground := .data } (by simp) rfl rfl 17 rfl
      refine wk.does_fn (f := 71) (vs := #[.int .u64 size]) rfl (D.fn _) (by simp [e17]) (by go_simp) ?_
      refine (ones_calls size w4 h0 (by omega)).mono ?_
      rintro e w5 ⟨rfl, rfl⟩
      exact ⟨_, rfl, Below.refl _ _, rfl⟩
    ·
      have ho2 := (Array.getElem?_eq_some_iff.1 ho).2
      simp only [List.getElem_toArray, List.getElem_cons_succ, List.getElem_cons_zero] at ho2
      subst ho2
      clear ho
      have e14 := D.is { on := 11, ground := .data } (by simp) rfl rfl 14 rfl
      have e18 := D.is { on := 15, ground := .data } (by simp) rfl rfl 18 rfl
      exact wk.does_bin rfl (by rw [e14, e18]; go_simp; rw [Bool.eq_iff_iff]; simp) rfl
    ·
      have ho2 := (Array.getElem?_eq_some_iff.1 ho).2
      simp only [List.getElem_toArray, List.getElem_cons_succ, List.getElem_cons_zero] at ho2
      subst ho2
      clear ho
      have e11 := D.is { on := 8, ground := .data } (by simp) rfl rfl 11 rfl
      have e19 := D.is { on := 16, ground := .data } (by simp) rfl rfl 19 rfl
      exact wk.does_pick rfl e11 e19
    ·
      have ho2 := (Array.getElem?_eq_some_iff.1 ho).2
      simp only [List.getElem_toArray, List.getElem_cons_succ, List.getElem_cons_zero] at ho2
      subst ho2
      clear ho
      have e20 := D.is { on := 17, ground := .data } (by simp) rfl rfl 20 rfl
      exact wk.does_assign rfl e20
  case hdone =>
    intro vals w4 hb4 hv
    have h18 := hv 18 (by omega)
    clear hv
    replace h18 : vals 18 = (.bool (decide ((n : Int) = swar size))) := h18
    simp only [List.drop_succ_cons, List.drop_zero, wpList, Act.put, wk.setL, List.setIfInBounds_toArray, List.set_cons_zero, List.set_cons_succ, Nat.zero_add, Nat.reduceAdd, h18]
    generalize vals 0 = x0
    generalize vals 1 = x1
    generalize vals 2 = x2
    generalize vals 3 = x3
    generalize vals 4 = x4
    generalize vals 5 = x5
    generalize vals 6 = x6
    generalize vals 7 = x7
    generalize vals 8 = x8
    generalize vals 9 = x9
    generalize vals 10 = x10
    generalize vals 11 = x11
    generalize vals 12 = x12
    generalize vals 13 = x13
    generalize vals 14 = x14
    generalize vals 15 = x15
    generalize vals 16 = x16
    generalize vals 17 = x17
    have HB4 := Lib.hid (HB1.out.drew.trans (hb4.mono (by have := HB1.out.size; have := HG.out; show G ≤ w1.heap.size; omega)))
    clear hb4
    go_wp2_with fail
    go_ret
    exact ⟨by rw [HF.out]; rfl, by rw [HG.out]; exact HB4.out⟩
end Go.Proofs.YtmjmkkdmphgdnaaDoor.mk
/- Growing trees: Clone and Append. -/
namespace Go.Proofs.YtmjmkkdmphgdnaaDoor.mk

open Go.ChangeShapes Go.WideShapes Go.ChangeAt Go.RowKit

set_option linter.unusedVariables false
set_option maxRecDepth 100000 in
set_option maxHeartbeats 4000000 in
theorem clone_calls (A : Option Addr) (n c : Nat) (l : List D) (w : World) (h : IsD w A n c l) (hn : n ≤ 1000000) :
    Calls Tryd.prog 53 #[.slice A n c] w fun e w' => ∃ v, e = .returned v ∧ w'.ownsRow w.heap.size 31 16 v n (l.flatMap wp.bc) ∧ Below w.heap.size w w' := by
  have hlen := h.len
  cases A with
  | none =>
    have hl : l = [] := by
      rcases Nat.eq_zero_or_pos (l.flatMap wp.bc).length with h0 | h0
      · have := wp.flat_bc_length h.dl
        exact List.eq_nil_of_length_eq_zero (by omega)
      · obtain ⟨_, _, hx, _⟩ := h.mem h0; cases hx
    subst hl
    have hn0 : n = 0 := by simpa using hlen.symm
    subst hn0
    clear h
    have hnil : ∀ w : World, (binOp .eql 22 (.slice none 0 c) (.slice none 0 0)).run Tryd.prog w = .ok (.bool true) w := fun _ => rfl
    go_enter Tryd.func53, Tryd.ntmps53
    go_wp2_with fail
    go_ret
    exact ⟨_, rfl, World.ownsRow_nil _ _ _ _, Below.refl _ _⟩
  | some ad =>
    obtain ⟨i0, hi, hz0, hz1, hz2⟩ := info_parts infoDz
    have HI := Lib.hid h
    have hnil : ∀ w : World, (binOp .eql 22 (.slice (some ad) n c) (.slice none 0 0)).run Tryd.prog w = .ok (.bool false) w := fun _ => rfl
    clear h
    go_enter Tryd.func53, Tryd.ntmps53
    have hown : (w.alloc (.cells #[] 31)).ownsRow w.heap.size 31 16 (.slice (some ⟨w.heap.size, 0, none⟩) 0 0) 0 [] := World.ownsRow_made w #[] 0 (Nat.le_refl _) (by unfold maxLen; omega) rfl
    have hnews : ∀ j u, (l.flatMap wp.bc)[j]? = some u → (w.alloc (.cells #[] 31)).cell? (ad.add j) = some u := fun j u hu => by
      obtain ⟨b, o, hA, hb, hc⟩ := HI.out.mem (by
        rcases Nat.lt_or_ge j (l.flatMap wp.bc).length with h' | h'
        · omega
        · rw [List.getElem?_eq_none h'] at hu; cases hu)
      cases hA
      rw [wk.add_at]
      exact (((Below.refl w.heap.size w).alloc (Nat.le_refl _) (.cells #[] 31)).cell (p := ⟨b, o + j, none⟩) hb).trans (hc j u hu)
    have hfl := wp.flat_bc_length HI.out.dl
    have hones : ∀ u ∈ l.flatMap wp.bc, u.oneCell' = true := fun u hu => by
      obtain ⟨d, _, hd⟩ := List.mem_flatMap.1 hu
      exact wp.bc_one u hd
    go_wp2_with (at_builtin; refine wpList_append_own _ rfl _ _ 22 rfl w.heap.size 31 i0 zeroD 16 16 Tryd.underlying22 hi hz0 hz1 hz2 rfl (by decide) _ _ _ rfl hown ad n c (l.flatMap wp.bc) rfl ?c1 hnews hones ?c3 ?c4 ?c5 ?_)
    case c1 => rw [hfl, hlen, Nat.mul_comm]
    case c3 => unfold maxLen; omega
    case c4 => omega
    case c5 => simp
    intro v' w3 hown3 hgrow _
    go_wp2_with fail
    go_ret
    refine ⟨v', rfl, by simpa using hown3, ?_⟩
    exact ((Below.refl _ _).alloc (Nat.le_refl _) _).grown hgrow (by simp) (fun k hk => by cases hk; exact Nat.le_refl _)
end Go.Proofs.YtmjmkkdmphgdnaaDoor.mk
/- Lists that are the same. -/
namespace Go.Proofs.YtmjmkkdmphgdnaaDoor.mk

open Go.ChangeShapes Go.WideShapes Go.ChangeAt Go.RowKit

set_option linter.unusedVariables false
set_option maxRecDepth 100000 in
set_option maxHeartbeats 4000000 in
theorem same_true (A A' : Option Addr) (n c c' : Nat) (l : List D) (w : World) (h : IsD w A n c l) (h' : IsD w A' n c' l) (hn40 : n ≤ 1099511627776) :
    Calls Tryd.prog 17 #[.slice A n c, .slice A' n c'] w fun e w' => e = .returned (.bool true) ∧ ∃ q, w' = w.drewN q := by
  have hlen := h.len
  have H := Lib.hid h
  have H' := Lib.hid h'
  clear h h'
  go_enter Tryd.func17, Tryd.ntmps17
  go_wp2_with fail
  go_loopg [5] n (fun g x wr => ∃ (k q : Nat), k + g = n ∧ x = .int .i64 (k : Int) ∧ wr = w.drewN q)
  case atStart => exact ⟨0, 0, by omega, rfl, rfl⟩
  case round =>
    obtain ⟨k, q, hk, rfl, rfl⟩ := hrel
    have HK := Lib.hid hk
    have hkn : k ≤ n := by omega
    clear hk
    by_cases hlt : k < n
    · have hlk : l[k]? = some (l[k]'(by omega)) := List.getElem?_eq_getElem (by omega)
      have hx16 : (l[k]'(by omega)).length = 16 := H.out.dl _ (List.getElem_mem _)
      generalize l[k]'(by omega) = x at *
      obtain ⟨ad, hix, hld⟩ := H.out.load (i := (k : Int)) (by omega) (d := x) (by rw [Int.toNat_natCast]; exact hlk)
      obtain ⟨ad', hix', hld'⟩ := H'.out.load (i := (k : Int)) (by omega) (d := x) (by rw [Int.toNat_natCast]; exact hlk)
      have HLD := Lib.hid hld
      have HLD' := Lib.hid hld'
      have HI16 := Lib.hid (dv_size hx16)
      have hne : ∀ w', (binOp .neq 31 (.agg (wp.bc x).toArray) (.agg (wp.bc x).toArray)).run Tryd.prog w' = .ok (.bool false) w' := fun w' =>
        wk.run_ne_arr_same 31 5 16 Tryd.underlying31 Tryd.underlying5 hi.size_u8 x hx16 w'
      clear hld hld' hlk hx16
      go_wp2_with fail
      refine wp_region_quiet_lit (by kernel_rfl) (by kernel_rfl) ?_
      repeat (first | refine wk.quiet_load_agg rfl 31 (.tmp 19) rfl ad rfl (wp.bc x) _ (by rintro w' ⟨n, rfl⟩; exact HLD.out _ (wk.below_drewN (wk.below_drewN (Below.refl _ _) q) n)) Tryd.underlying31 rfl HI16.out ?_ | refine wk.quiet_load_agg rfl 31 (.tmp 23) rfl ad' rfl (wp.bc x) _ (by rintro w' ⟨n, rfl⟩; exact HLD'.out _ (wk.below_drewN (wk.below_drewN (Below.refl _ _) q) n)) Tryd.underlying31 rfl HI16.out ?_ | quiet_step (fail))
      refine wpQuiet_nil ?_
      intro _ hw'
      obtain ⟨nq, hw''⟩ := hw'
      subst hw''
      go_wp2_with fail
      go_roundg (gk - 1)
      case measure => have := HK.out; omega
      case rel => exact ⟨k + 1, _, by have := HK.out; omega, by go_num, rfl⟩
    · go_wp2_with fail
      go_ret
      exact ⟨rfl, q, rfl⟩
end Go.Proofs.YtmjmkkdmphgdnaaDoor.mk
/- Append. -/
namespace Go.Proofs.YtmjmkkdmphgdnaaDoor.mk

open Go.ChangeShapes Go.WideShapes Go.ChangeAt Go.RowKit

set_option linter.unusedVariables false
/-- the digits 1 at the end are carried -/
noncomputable def car : Nat → Nat → List D → D → List D × D
  | 0, _, kept, last => (kept, last)
  | f + 1, full, kept, last => if full % 2 = 1 then car f (full / 2) (kept.take (kept.length - 1)) (nodeD (kept.getLastD []) last) else (kept, last)
theorem pop_le : ∀ (f n : Nat), pop f n ≤ f
  | 0, _ => Nat.le_refl _
  | f + 1, n => by
    have := pop_le f (n / 2)
    unfold pop; omega
theorem pop_fuel : ∀ (f n : Nat), n < 2 ^ f → pop (f + 1) n = pop f n
  | 0, n, h => by
    have : n = 0 := by simpa using h
    subst this; rfl
  | f + 1, n, h => by
    have := pop_fuel f (n / 2) (by rw [Nat.pow_succ] at h; omega)
    show n % 2 + pop (f + 1) (n / 2) = n % 2 + pop f (n / 2)
    rw [this]
theorem car_len : ∀ (f full : Nat) (kept : List D) (last : D), (car f full kept last).1.length ≤ kept.length
  | 0, _, _, _ => Nat.le_refl _
  | f + 1, full, kept, last => by
    rw [car]
    split
    · have := car_len f (full / 2) (kept.take (kept.length - 1)) (nodeD (kept.getLastD []) last)
      rw [List.length_take] at this; omega
    · exact Nat.le_refl _
def ARel (size k c' : Nat) (A' : Option Addr) (kept : List D) (last : D) (B BS : Nat) (L : Nat → Bool) : Nat → World → Value → Prop
  | 0, _, v => v = .pointer (some ⟨B, 0, none⟩)
  | 1, _, v => v = .int .i64 size
  | 2, _, v => v = .int .i64 (size + 1 : Nat)
  | 3, _, v => v = .slice A' k c'
  | 4, w, v => L 7 = false → w.ownsRow BS 31 16 v k (kept.flatMap wp.bc)
  | 5, _, v => v = dv last
  | 6, w, v => L 7 = false → ∃ G, v = .slice (some ⟨G, 0, none⟩) 1 1 ∧ wp.RC w (some ⟨G, 0, none⟩) (wp.bc last)
  | 7, w, v => w.ownsRow BS 31 16 v (k + 1) ((kept ++ [last]).flatMap wp.bc)
  | 8, w, v => ∃ v7, v = pk (size + 1 : Nat) v7 ∧ w.ownsRow BS 31 16 v7 (k + 1) ((kept ++ [last]).flatMap wp.bc)
  | _, _, _ => True
theorem ARel.next {size k c' : Nat} {A' : Option Addr} {kept : List D} {last : D} {B BS : Nat} {L L' : Nat → Bool} {w w' : World} (hL : L' 7 = L 7) (hb : Below w.heap.size w w') : ∀ j u, ARel size k c' A' kept last B BS L j w u → ARel size k c' A' kept last B BS L' j w' u
  | 0, _, h => h
  | 1, _, h => h
  | 2, _, h => h
  | 3, _, h => h
  | 4, u, h => fun h7 => wk.ownsRow_below (h (hL ▸ h7)) hb
  | 5, _, h => h
  | 6, u, h => fun h7 => by
    obtain ⟨G, h1, h2⟩ := h (hL ▸ h7)
    exact ⟨G, h1, h2.below hb⟩
  | 7, u, h => wk.ownsRow_below h hb
  | 8, u, ⟨v7, h1, h2⟩ => ⟨v7, h1, wk.ownsRow_below h2 hb⟩
  | _ + 9, _, _ => trivial
theorem run_pk {o : Oper} {E : Operand → Value} {w : World} {x y : Tmp} {n : Int} {base : Nat} {m : Nat} {xs : List Value} (ho : o.op = .build 43 #[(0, .tmp x), (1, .tmp y)]) (hx : E (.tmp x) = .int .i64 n) (hy : w.ownsRow base 31 16 (E (.tmp y)) m xs) :
    (execOp E o).run Tryd.prog w = .ok (.value (pk n (E (.tmp y)))) w := by
  obtain ⟨A, c, he, _⟩ : ∃ A c, E (.tmp y) = .slice A m c ∧ True := by
    rcases hy.2 with ⟨h1, rfl⟩ | ⟨g, cap, cur, h1, _⟩
    · exact ⟨none, 0, h1, trivial⟩
    · exact ⟨_, _, h1, trivial⟩
  unfold execOp pk
  simp only [ho, List.map_toArray, List.map_cons, List.map_nil, hx, he]
  go_simp
theorem results_cell_tmp {fn : Func} {p u : Tmp} (h : fn.results = #[.cell p 43, .tmp u]) (tmps : Array Value) (w : World) (g : Nat) (cs : Array Value) (hp : tmps.getD p undef = .pointer (some ⟨g, 0, none⟩)) (hg : w.heap[g]? = some (.cells cs 43 (0, 0))) (hc : cs.size = 2 := by rfl) :
    (results fn tmps).run Tryd.prog w = .ok (.tuple #[.agg cs, tmps.getD u undef]) w := by
  have hp' : tmps[p]?.getD undef = .pointer (some ⟨g, 0, none⟩) := by simpa using hp
  simp [results, h, hp', asAddr, run_loadVar_row w g _ _ cs (0, 0) _ hg Tryd.underlying43 rfl (by rw [hc]; exact infoP)]
theorem and1 (n : Nat) : bits .and .i64 (n : Int) 1 = ((n % 2 : Nat) : Int) := by
  have e : (BitVec.ofInt 64 1).toNat = 2 ^ 1 - 1 := by decide
  have h : (BitVec.ofInt IntKind.i64.bits (n : Int) &&& BitVec.ofInt IntKind.i64.bits 1).toNat = n % 2 := by
    rw [BitVec.toNat_and, show IntKind.i64.bits = 64 from rfl, e, Nat.and_two_pow_sub_one_eq_mod, BitVec.toNat_ofInt]
    omega
  show IntKind.i64.wrap _ = _
  rw [h, IntKind.wrap_i64]
  omega
set_option maxRecDepth 100000 in
set_option maxHeartbeats 4000000 in
theorem append_calls (size : Nat) (A : Option Addr) (n c : Nat) (l : List D) (leaf : D) (w : World) (h : IsD w A n c l) (hleaf : leaf.length = 16) (hT : Tab w) (hsz : size ≤ 40) (hn : n = pop 64 size) :
    Calls Tryd.prog 25 #[pk size (.slice A n c), dv leaf] w fun e w' => ∃ v, e = .returned (.tuple #[pk (size + 1 : Nat) v, .int .i64 0]) ∧ w'.ownsRow w.heap.size 31 16 v ((car 64 size l leaf).1.length + 1) (((car 64 size l leaf).1 ++ [(car 64 size l leaf).2]).flatMap wp.bc) ∧ Below w.heap.size w w' := by
  have hlen := h.len
  have HI := Lib.hid h
  have HT := Lib.hid hT
  have HLF := Lib.hid hleaf
  have hsw : swar (size : Int) = (n : Int) := by rw [hn]; exact swar_small ⟨size, by omega⟩
  have hfm : formed size n = true := by
    unfold formed
    rw [hsw]
    simp
    omega
  have HFM := Lib.hid (fun w => formed_calls size A n c w (by omega) (by omega))
  rw [hfm] at HFM
  have HN := Lib.hid hn
  have hza := dv_size hleaf
  have hoa := wk.ones_bc leaf
  clear h hT hfm hsw hn
  unfold dv
  unfold pk at HFM ⊢
  go_enter Tryd.func25, Tryd.ntmps25
  go_upto_region 1 with fail
  change Code.wp _ _ _ _ (((w.alloc (.cells #[.int .i64 size, .slice A n c] 43)).alloc (.cells (wp.bc leaf).toArray 31)).alloc (.cells #[.int .i64 0, .slice none 0 0] 43))
  have b1 : Below w.heap.size w (w.alloc (.cells #[.int .i64 size, .slice A n c] 43)) := (Below.refl _ _).alloc (Nat.le_refl _) _
  have q1 : (w.alloc (.cells #[.int .i64 size, .slice A n c] 43)).heap[w.heap.size]? = some (.cells #[.int .i64 size, .slice A n c] 43 (0, 0)) := heap_alloc_new _ _
  have s1 : (w.alloc (.cells #[.int .i64 size, .slice A n c] 43)).heap.size = w.heap.size + 1 := Array.size_push ..
  generalize w.alloc (.cells #[.int .i64 size, .slice A n c] 43) = w1 at *
  have b2 : Below w1.heap.size w1 (w1.alloc (.cells (wp.bc leaf).toArray 31)) := (Below.refl _ _).alloc (Nat.le_refl _) _
  have q2 : (w1.alloc (.cells (wp.bc leaf).toArray 31)).heap[w1.heap.size]? = some (.cells (wp.bc leaf).toArray 31 (0, 0)) := heap_alloc_new _ _
  have s2 : (w1.alloc (.cells (wp.bc leaf).toArray 31)).heap.size = w1.heap.size + 1 := Array.size_push ..
  generalize w1.alloc (.cells (wp.bc leaf).toArray 31) = w2 at *
  have b3 : Below w2.heap.size w2 (w2.alloc (.cells #[.int .i64 0, .slice none 0 0] 43)) := (Below.refl _ _).alloc (Nat.le_refl _) _
  have q3 : (w2.alloc (.cells #[.int .i64 0, .slice none 0 0] 43)).heap[w2.heap.size]? = some (.cells #[.int .i64 0, .slice none 0 0] 43 (0, 0)) := heap_alloc_new _ _
  generalize w2.alloc (.cells #[.int .i64 0, .slice none 0 0] 43) = w3 at *
  have q1' := wk.row_below (wk.row_below q1 b2) b3
  have q2' := wk.row_below q2 b3
  have b := (b1.trans (b2.mono (by omega))).trans (b3.mono (by omega))
  rw [s1] at q2'
  rw [s2, s1] at q3
  generalize hB : w.heap.size = B at *
  have HB := Lib.hid hB
  have HB3 := Lib.hid b
  have Q1 := Lib.hid q1'
  have Q2 := Lib.hid q2'
  have Q3 := Lib.hid q3
  clear q1 q2 q3 q1' q2' b1 b2 b3 s1 s2 b hB hza hoa
  have hzp : (Tryd.prog.info? 43).map (·.size) = some (#[Value.int .i64 size, .slice A n c] : Array Value).size := infoP
  have hq1 := Q1.out
  go_upto_region 3 with (first | (refine wpList_load_row rfl 43 (.tmp 2) rfl B rfl 43 #[.int .i64 size, .slice A n c] (0, 0) _ hq1 Tryd.underlying43 rfl hzp ?_) | (go_at_call 52; refine (HFM.out _).mono ?_; rintro e w4 ⟨rfl, hb4⟩; have HB4 := Lib.hid hb4; clear hb4))
  replace Q1 := Lib.hid (wk.row_below Q1.out HB4.out)
  replace Q2 := Lib.hid (wk.row_below Q2.out HB4.out)
  replace Q3 := Lib.hid (wk.row_below Q3.out HB4.out)
  have hc0 := cell2_0 Q1.out
  have hnm : ¬ (size : Int) = 1099511627776 := by omega
  have HBW : Hid (Below B w w4) := HB3.out.trans (HB4.out.mono (by have := HB3.out.size; have := HB.out; have := wk.row_lt hq1; omega))
  have hs4 : B + 1 + 1 < w4.heap.size := wk.row_lt Q3.out
  have HS4 := Lib.hid hs4
  clear hq1 hs4 hzp HB3 HB4
  go_upto_region 5 with fail
  have hd4 := (Below.refl w4.heap.size w4).drew
  replace Q1 := Lib.hid (wk.row_below Q1.out hd4)
  replace Q2 := Lib.hid (wk.row_below Q2.out hd4)
  replace Q3 := Lib.hid (wk.row_below Q3.out hd4)
  clear hd4 hc0
  refine wk.region_tailB 5 [.is (.pointer (some ⟨B, 1, none⟩)), .is (.slice A n c), .is (dv leaf), .st (fun w v => ∃ g, v = .pointer (some ⟨g, 0, none⟩) ∧ w.heap[g]? = some (.cells hi.z16 31 (0, 0)) ∧ B + 1 + 1 < g) (fun w w' v ⟨g, h1, h2, h3⟩ hb => ⟨g, h1, wk.row_below h2 hb, h3⟩), .is (.slice A n c)] [some 18, some 19, some 20, some 7, some 6] (by kernel_rfl) (by kernel_rfl) (by kernel_rfl) (by kernel_rfl) (by kernel_rfl) (by kernel_rfl) ?hstep ?hdone
  case hstep =>
    intro i o ho hi E w5 hb4 D
    have hi2 : i = 0 ∨ i = 1 ∨ i = 2 ∨ i = 3 ∨ i = 4 := by omega
    clear hi
    rcases hi2 with rfl | rfl | rfl | rfl | rfl
    ·
      have ho2 := (Array.getElem?_eq_some_iff.1 ho).2
      simp only [List.getElem_toArray, List.getElem_cons_zero] at ho2
      subst ho2
      clear ho
      have e2 := D.old 2 (by kernel_rfl)
      exact wk.does_run (by simp only [execOp]; rw [show E (.tmp 2) = .pointer (some ⟨B, 0, none⟩) by rw [e2]; rfl]; go_simp) rfl
    ·
      have ho2 := (Array.getElem?_eq_some_iff.1 ho).2
      simp only [List.getElem_toArray, List.getElem_cons_succ, List.getElem_cons_zero] at ho2
      subst ho2
      clear ho
      have e18 := D.is { on := 0, ground := .data } (by simp) rfl rfl 18 rfl
      exact wk.does_load1 rfl e18 (cell2_1 (wk.row_below Q1.out hb4)) Tryd.underlying22 rfl rfl
    ·
      have ho2 := (Array.getElem?_eq_some_iff.1 ho).2
      simp only [List.getElem_toArray, List.getElem_cons_succ, List.getElem_cons_zero] at ho2
      subst ho2
      clear ho
      have e3 := D.old 3 (by kernel_rfl)
      exact wk.does_load_row rfl (by rw [e3]; rfl) (wk.row_below Q2.out hb4) Tryd.underlying31 rfl (dv_sizeA HLF.out) rfl
    ·
      have ho2 := (Array.getElem?_eq_some_iff.1 ho).2
      simp only [List.getElem_toArray, List.getElem_cons_succ, List.getElem_cons_zero] at ho2
      subst ho2
      clear ho
      exact wk.does_new (run_allocD rfl) ((Below.refl _ _).alloc (Nat.le_refl _) _) ⟨_, rfl, heap_alloc_new _ _, by have := HS4.out; have : w4.drew.heap.size ≤ w5.heap.size := hb4.size; have h5 : w4.drew.heap.size = w4.heap.size := rfl; omega⟩
    ·
      have ho2 := (Array.getElem?_eq_some_iff.1 ho).2
      simp only [List.getElem_toArray, List.getElem_cons_succ, List.getElem_cons_zero] at ho2
      subst ho2
      clear ho
      have e19 := D.is { on := 1, ground := .data } (by simp) rfl rfl 19 rfl
      exact wk.does_assign rfl e19
  case hdone =>
    intro vals w5 hb4 hv
    have h1 := hv 1 (by omega)
    have h2 := hv 2 (by omega)
    have h3 := hv 3 (by omega)
    have h4 := hv 4 (by omega)
    clear hv
    replace h1 : vals 1 = (.slice A n c) := h1
    replace h2 : vals 2 = (dv leaf) := h2
    replace h4 : vals 4 = (.slice A n c) := h4
    simp only [List.drop_succ_cons, List.drop_zero, Act.put, wk.setL, List.setIfInBounds_toArray, List.set_cons_zero, List.set_cons_succ, Nat.zero_add, Nat.reduceAdd, h1, h2, h4]
    generalize vals 0 = x0
    generalize vals 3 = x3 at *
    obtain ⟨g, rfl, hqg, hgB⟩ := h3
    have HB5 := Lib.hid (HBW.out.drew.trans (hb4.mono (by have := HS4.out; show B ≤ w4.heap.size; omega)))
    replace Q1 := Lib.hid (wk.row_below Q1.out hb4)
    replace Q3 := Lib.hid (wk.row_below Q3.out hb4)
    have hz := dv_size HLF.out
    have hz3 : hi.z16.size = (wp.bc leaf).length := by rw [bc_len HLF.out]; rfl
    clear hb4 Q2 HBW
    go_upto_region 6 with (refine wk.store_row rfl 31 (.tmp 7) (.tmp 20) rfl g (wp.bc leaf) rfl rfl 31 hi.z16 hqg hz hz3 (wk.ones_bc _) ?_)
    have Q1' : (w5.setRow g (wp.bc leaf).toArray).heap[B]? = some (.cells #[.int .i64 size, .slice A n c] 43 (0, 0)) := by rw [heap_setRow_ne (by omega)]; exact Q1.out
    have Q3' : (w5.setRow g (wp.bc leaf).toArray).heap[B + 1 + 1]? = some (.cells #[.int .i64 0, .slice none 0 0] 43 (0, 0)) := by rw [heap_setRow_ne (by omega)]; exact Q3.out
    have Qg : (w5.setRow g (wp.bc leaf).toArray).heap[g]? = some (.cells (wp.bc leaf).toArray 31 (0, 0)) := setRow_heap _ _ _ _ _ _ hqg
    have hB6 : Below B w (w5.setRow g (wp.bc leaf).toArray) := wk.below_setRow HB5.out (by omega) _
    generalize w5.setRow g (wp.bc leaf).toArray = w6 at *
    have hc0 := cell2_0 Q1'
    clear hqg hz hz3 HB5 Q1 Q3
    have HIL := Lib.hid (IsL.of HI.out)
    rw [HB.out] at HIL
    have hrel0 : IsL B w6 A n c l := HIL.out.below (by have := HB.out; omega) hB6
    have hT6 : Tab w6 := HT.out.below HT.out.1.1 (by rw [HB.out]; exact hB6)
    obtain ⟨RES, hRES⟩ : ∃ r, r = car 64 size l leaf := ⟨_, rfl⟩
    have HRES := Lib.hid hRES
    have h1B : Hid (1 < B) := by have := HT.out.1.1; have := HB.out; show _ < _; omega
    have HLOOP : Hid (∃ f : Nat, size < 2 ^ f ∧ n = pop f size ∧ car f size l leaf = RES) := ⟨64, by omega, HN.out, hRES.symm⟩
    have HR0 := Lib.hid hrel0
    have HT6 := Lib.hid hT6
    have HQ1 := Lib.hid Q1'
    have HQ3 := Lib.hid Q3'
    have HQG := Lib.hid Qg
    have HB6 := Lib.hid hB6
    clear hrel0 hT6 hRES Q1' Q3' Qg hB6 HIL
    go_wp2_with fail
    go_loopg [6, 8] size (fun q u v wr => ∃ (f : Nat) (kept : List D) (last : D) (A' : Option Addr) (k c' : Nat), u = .slice A' k c' ∧ v = .int .i64 q ∧ q < 2 ^ f ∧ q ≤ 40 ∧ k ≤ 64 ∧ k = pop f q ∧ car f q kept last = RES ∧ last.length = 16 ∧ IsL B wr A' k c' kept ∧ Tab wr ∧ wr.heap[B]? = some (.cells #[.int .i64 size, .slice A n c] 43 (0, 0)) ∧ wr.heap[B + 1 + 1]? = some (.cells #[.int .i64 0, .slice none 0 0] 43 (0, 0)) ∧ wr.heap[g]? = some (.cells (wp.bc last).toArray 31 (0, 0)) ∧ Below B w wr)
    case atStart =>
      obtain ⟨f, h1, h2, h3⟩ := HLOOP.out
      exact ⟨f, l, leaf, A, n, c, rfl, rfl, h1, hsz, by rw [HN.out]; exact pop_le _ _, h2, h3, HLF.out, HR0.out, HT6.out, HQ1.out, HQ3.out, HQG.out, HB6.out⟩
    case round =>
      obtain ⟨f, kept, last, A', k, c', rfl, rfl, hqf, hq40, hk64, hk, hcar, hlast, hIr, hTr, hr1, hr3, hrg, hbr⟩ := hrel
      have hand : bits .and .i64 (gk : Int) 1 = ((gk % 2 : Nat) : Int) := and1 gk
      have HI2 := Lib.hid hIr
      have HT2 := Lib.hid hTr
      have HR1 := Lib.hid hr1
      have HR3 := Lib.hid hr3
      have HRG := Lib.hid hrg
      have HBR := Lib.hid hbr
      have HLS := Lib.hid hlast
      have HCAR := Lib.hid hcar
      have HK := Lib.hid hk
      clear hIr hTr hr1 hr3 hrg hbr hlast hcar hk HR0 HT6 HQ1 HQ3 HQG HB6 HLOOP hc0
      by_cases hodd : gk % 2 = 1
      · rw [hodd] at hand
        obtain ⟨f2, rfl⟩ : ∃ f2, f = f2 + 1 := ⟨f - 1, by
          rcases Nat.eq_zero_or_pos f with h0 | h0
          · subst h0; simp at hqf; omega
          · omega⟩
        have hk1 : k = 1 + pop f2 (gk / 2) := by have := HK.out; rw [pop, hodd] at this; exact this
        have hcar2 : car f2 (gk / 2) (kept.take (kept.length - 1)) (nodeD (kept.getLastD []) last) = RES := by have := HCAR.out; rw [car, if_pos hodd] at this; exact this
        have hklen := HI2.out.is.len
        have hkc := HI2.out.is.le
        have hkmax : k ≤ 9223372036854775807 := by have := HI2.out.is.cap; unfold maxLen at this; omega
        obtain ⟨x, hxe⟩ : ∃ x, kept[k - 1]? = some x := ⟨_, List.getElem?_eq_getElem (by omega)⟩
        have hxl : kept.getLastD [] = x := by
          rw [List.getLastD_eq_getLast?, List.getLast?_eq_getElem?, hklen, hxe]; rfl
        rw [hxl, hklen] at hcar2
        have hx16 : x.length = 16 := HI2.out.is.dl _ (List.mem_of_getElem? hxe)
        obtain ⟨ad, hix, hld⟩ := HI2.out.is.load (i := ((k - 1 : Nat) : Int)) (by omega) (d := x) (by rw [Int.toNat_natCast]; exact hxe)
        have hci : ((k : Int) - 1) = ((k - 1 : Nat) : Int) := by omega
        have hcut := HI2.out.cut (lo := 0) (hi := k - 1) (m := c') (by omega) (by omega) (by omega) (Nat.le_refl _)
        have hrun := fun w => run_cut_h w A' k c' (k - 1) (by omega)
        have htk : (kept.drop 0).take (k - 1 - 0) = kept.take (k - 1) := by simp
        rw [htk] at hcut
        simp only [Nat.sub_zero] at hcut hrun
        generalize (if c' = 0 then A' else A'.map (·.add (0 * 16))) = A3 at *
        have HIX := Lib.hid hix
        have HLD := Lib.hid hld
        have HCUT := Lib.hid hcut
        have HRUN := Lib.hid hrun
        have HX16 := Lib.hid hx16
        have HCAR2 := Lib.hid hcar2
        have HK1 := Lib.hid hk1
        clear hxe hxl hx16 hcar2 hk1 hix hld hcut hrun htk
        go_upto_region 10 with fail
        refine wk.region_tail 6 [.is (.slice A' k c'), .is (.int .i64 ((k - 1 : Nat) : Int)), .is (.pointer (some ad)), .is (dv x), .is (dv last), .is (dv (nodeD x last))] [some 31, some 32, some 33, some 34, some 35, some 36] (by kernel_rfl) (by kernel_rfl) (by kernel_rfl) (by kernel_rfl) (by kernel_rfl) (by kernel_rfl) ?hstep ?hdone
        case hstep =>
          intro i o ho hi E w7 hb4 D
          have hi2 : i = 0 ∨ i = 1 ∨ i = 2 ∨ i = 3 ∨ i = 4 ∨ i = 5 := by omega
          clear hi
          rcases hi2 with rfl | rfl | rfl | rfl | rfl | rfl
          ·
            have ho2 := (Array.getElem?_eq_some_iff.1 ho).2
            simp only [List.getElem_toArray, List.getElem_cons_zero] at ho2
            subst ho2
            clear ho
            have e6 := D.old 6 (by kernel_rfl)
            exact wk.does_move rfl (by rw [e6]; rfl)
          ·
            have ho2 := (Array.getElem?_eq_some_iff.1 ho).2
            simp only [List.getElem_toArray, List.getElem_cons_succ, List.getElem_cons_zero] at ho2
            subst ho2
            clear ho
            have e9 := D.old 9 (by kernel_rfl)
            exact wk.does_move rfl (by rw [e9]; rfl)
          ·
            have ho2 := (Array.getElem?_eq_some_iff.1 ho).2
            simp only [List.getElem_toArray, List.getElem_cons_succ, List.getElem_cons_zero] at ho2
            subst ho2
            clear ho
            have e31 := D.is { on := 0, ground := .data } (by simp) rfl rfl 31 rfl
            have e32 := D.is { on := 1, ground := .data } (by simp) rfl rfl 32 rfl
            exact wk.does_run (by simp only [execOp, e31, e32]; rw [Sem.run_bind, HIX.out]; rfl) rfl
          ·
            have ho2 := (Array.getElem?_eq_some_iff.1 ho).2
            simp only [List.getElem_toArray, List.getElem_cons_succ, List.getElem_cons_zero] at ho2
            subst ho2
            clear ho
            have e33 := D.is { on := 2, ground := .data } (by simp) rfl rfl 33 rfl
            exact wk.does_load_agg rfl e33 (HLD.out _ ((Below.refl _ _).drew.trans hb4)) Tryd.underlying31 rfl (dv_size HX16.out) rfl
          ·
            have ho2 := (Array.getElem?_eq_some_iff.1 ho).2
            simp only [List.getElem_toArray, List.getElem_cons_succ, List.getElem_cons_zero] at ho2
            subst ho2
            clear ho
            have e7 := D.old 7 (by kernel_rfl)
            exact wk.does_load_row rfl (by rw [e7]; rfl) (wk.row_below HRG.out ((Below.refl _ _).drew.trans hb4)) Tryd.underlying31 rfl (dv_sizeA HLS.out) rfl
          ·
            have ho2 := (Array.getElem?_eq_some_iff.1 ho).2
            simp only [List.getElem_toArray, List.getElem_cons_succ, List.getElem_cons_zero] at ho2
            subst ho2
            clear ho
            have e34 := D.is { on := 3, ground := .data } (by simp) rfl rfl 34 rfl
            have e35 := D.is { on := 4, ground := .data } (by simp) rfl rfl 35 rfl
            refine wk.does_fn (f := 19) (vs := #[dv x, dv last]) rfl (D.fn _) (by simp [e34, e35]) (by go_simp) ?_
            refine (node_calls _ _ HX16.out HLS.out w7 (HT2.out.next ((Below.refl _ _).drew.trans hb4))).mono ?_
            rintro e w8 ⟨rfl, hb8⟩
            exact ⟨_, rfl, hb8, rfl⟩
        case hdone =>
          intro vals w7 hb4 hv
          have h5 := hv 5 (by omega)
          clear hv
          replace h5 : vals 5 = (dv (nodeD x last)) := h5
          simp only [List.drop_succ_cons, List.drop_zero, wk.setL, List.setIfInBounds_toArray, List.set_cons_zero, List.set_cons_succ, Nat.zero_add, Nat.reduceAdd, h5]
          generalize vals 0 = x0
          generalize vals 1 = x1
          generalize vals 2 = x2
          generalize vals 3 = x3
          generalize vals 4 = x4
          have hbb : Below wr.heap.size wr w7 := (Below.refl _ _).drew.trans hb4
          have HBB := Lib.hid hbb
          have q7 := wk.row_below HRG.out hbb
          have hn16 : (nodeD x last).length = 16 := dig_length _ _
          have hz := dv_size hn16
          have hz3 : (wp.bc last).toArray.size = (wp.bc (nodeD x last)).length := by rw [List.size_toArray, bc_len HLS.out, bc_len hn16]
          have hrun7 := HRUN.out (w7.setRow g (wp.bc (nodeD x last)).toArray)
          have HN16 := Lib.hid hn16
          clear hb4 hbb hn16
          unfold dv
          go_wp2_with (first | (refine wk.store_row rfl 31 (.tmp 7) (.tmp 36) rfl g (wp.bc (nodeD x last)) rfl rfl 31 _ q7 hz hz3 (wk.ones_bc _) ?_) | (refine wk.list_run rfl (some 39) rfl (.slice A3 (k - 1) c') (wk.op_slice rfl rfl rfl rfl rfl hrun7) ?_; simp only [Act.put, List.setIfInBounds_toArray, List.set_cons_zero, List.set_cons_succ]))
          go_roundg (gk / 2)
          case measure => omega
          case rel =>
            have hbs : B ≤ wr.heap.size := by have := HBR.out.size; have := HB.out; omega
            have hb7 : Below B wr (w7.setRow g (wp.bc (nodeD x last)).toArray) := wk.below_setRow (HBB.out.mono hbs) (by omega) _
            refine ⟨f2, kept.take (k - 1), nodeD x last, A3, k - 1, c', rfl, by go_num, by rw [Nat.pow_succ] at hqf; omega, by omega, by omega, by have := HK1.out; omega, HCAR2.out, HN16.out, HCUT.out.below hbs hb7, HT2.out.below h1B.out hb7, ?_, ?_, setRow_heap _ _ _ _ _ _ q7, HBR.out.trans hb7⟩
            · rw [heap_setRow_ne (by omega)]; exact wk.row_below HR1.out HBB.out
            · rw [heap_setRow_ne (by omega)]; exact wk.row_below HR3.out HBB.out
      · have hev : ((gk % 2 : Nat) : Int) = 0 := by omega
        rw [hev] at hand
        have hce : (kept, last) = RES := by
          have := HCAR.out
          cases f with
          | zero => exact this
          | succ f => rw [car, if_neg hodd] at this; exact this
        have HCE := Lib.hid hce
        have hc0 := cell2_0 HR1.out
        clear hce
        go_upto_region 12 with fail
        refine wk.region_lev 9 (ARel size k c' A' kept last B wr.heap.size) [some 40, some 41, some 42, some 43, some 44, some 45, some 46, some 47, some 48] (fun L u => (L 8 = true → L 7 = true) ∧ Below wr.heap.size wr.drew u) ⟨(fun h => by cases h), Below.refl _ _⟩ (by kernel_rfl) (by kernel_rfl) (by kernel_rfl) (by kernel_rfl) (by kernel_rfl) (by kernel_rfl) ?hstep ?hdone
        case hstep =>
          intro i o ho hi E L w7 hS7 hL hdeps D
          obtain ⟨hcl, hbw⟩ := hS7
          have hi2 : i = 0 ∨ i = 1 ∨ i = 2 ∨ i = 3 ∨ i = 4 ∨ i = 5 ∨ i = 6 ∨ i = 7 ∨ i = 8 := by omega
          clear hi
          rcases hi2 with rfl | rfl | rfl | rfl | rfl | rfl | rfl | rfl | rfl
          ·
            have ho2 := (Array.getElem?_eq_some_iff.1 ho).2
            simp only [List.getElem_toArray, List.getElem_cons_zero] at ho2
            subst ho2
            clear ho
            have e2 := D.old 2 (by kernel_rfl)
            refine wk.Does.weak (R := fun w' v => ARel size k c' A' kept last B wr.heap.size L 0 w' v) ?_ fun w' v hb hr => ⟨hr, fun j u _ => ARel.next rfl hb j u, hcl, hbw.trans (hb.mono hbw.size)⟩
            exact wk.does_run (by simp only [execOp]; rw [show E (.tmp 2) = .pointer (some ⟨B, 0, none⟩) by rw [e2]; rfl]; go_simp) rfl
          ·
            have ho2 := (Array.getElem?_eq_some_iff.1 ho).2
            simp only [List.getElem_toArray, List.getElem_cons_succ, List.getElem_cons_zero] at ho2
            subst ho2
            clear ho
            have e40 : E (.tmp 40) = .pointer (some ⟨B, 0, none⟩) := D.is { on := 0, ground := .data } (by simp) rfl 40 rfl
            refine wk.Does.weak (R := fun w' v => ARel size k c' A' kept last B wr.heap.size L 1 w' v) ?_ fun w' v hb hr => ⟨hr, fun j u _ => ARel.next rfl hb j u, hcl, hbw.trans (hb.mono hbw.size)⟩
            exact wk.does_load1 rfl e40 (cell2_0 (wk.row_below HR1.out ((Below.refl _ _).drew.trans hbw))) Tryd.underlying3 rfl rfl
          ·
            have ho2 := (Array.getElem?_eq_some_iff.1 ho).2
            simp only [List.getElem_toArray, List.getElem_cons_succ, List.getElem_cons_zero] at ho2
            subst ho2
            clear ho
            have e41 : E (.tmp 41) = .int .i64 size := D.is { on := 1, ground := .data } (by simp) rfl 41 rfl
            refine wk.Does.weak (R := fun w' v => ARel size k c' A' kept last B wr.heap.size L 2 w' v) ?_ fun w' v hb hr => ⟨hr, fun j u _ => ARel.next rfl hb j u, hcl, hbw.trans (hb.mono hbw.size)⟩
            exact wk.does_bin rfl (by rw [e41, D.con]; go_simp; rw [IntKind.wrap_i64]; omega) rfl
          ·
            have ho2 := (Array.getElem?_eq_some_iff.1 ho).2
            simp only [List.getElem_toArray, List.getElem_cons_succ, List.getElem_cons_zero] at ho2
            subst ho2
            clear ho
            have e6 := D.old 6 (by kernel_rfl)
            refine wk.Does.weak (R := fun w' v => ARel size k c' A' kept last B wr.heap.size L 3 w' v) ?_ fun w' v hb hr => ⟨hr, fun j u _ => ARel.next rfl hb j u, hcl, hbw.trans (hb.mono hbw.size)⟩
            exact wk.does_move rfl (by rw [e6]; rfl)
          ·
            have ho2 := (Array.getElem?_eq_some_iff.1 ho).2
            simp only [List.getElem_toArray, List.getElem_cons_succ, List.getElem_cons_zero] at ho2
            subst ho2
            clear ho
            have e43 : E (.tmp 43) = .slice A' k c' := D.is { on := 3, ground := .data } (by simp) rfl 43 rfl
            refine wk.Does.weak (R := fun w' v => ARel size k c' A' kept last B wr.heap.size L 4 w' v) ?_ fun w' v hb hr => ⟨hr, fun j u _ => ARel.next rfl hb j u, hcl, hbw.trans (hb.mono hbw.size)⟩
            refine wk.does_fn (f := 53) (vs := #[.slice A' k c']) rfl (D.fn _) (by simp [e43]) (by go_simp) ?_
            refine (clone_calls A' k c' kept w7 (HI2.out.is.below ((Below.refl _ _).drew.trans hbw)) (by omega)).mono ?_
            rintro e w8 ⟨v, rfl, hown, hb8⟩
            exact ⟨v, rfl, hb8, fun _ => ownsRow_weak hown hbw.size⟩
          ·
            have ho2 := (Array.getElem?_eq_some_iff.1 ho).2
            simp only [List.getElem_toArray, List.getElem_cons_succ, List.getElem_cons_zero] at ho2
            subst ho2
            clear ho
            have e7 := D.old 7 (by kernel_rfl)
            refine wk.Does.weak (R := fun w' v => ARel size k c' A' kept last B wr.heap.size L 5 w' v) ?_ fun w' v hb hr => ⟨hr, fun j u _ => ARel.next rfl hb j u, hcl, hbw.trans (hb.mono hbw.size)⟩
            exact wk.does_load_row rfl (by rw [e7]; rfl) (wk.row_below HRG.out ((Below.refl _ _).drew.trans hbw)) Tryd.underlying31 rfl (dv_sizeA HLS.out) rfl
          ·
            have ho2 := (Array.getElem?_eq_some_iff.1 ho).2
            simp only [List.getElem_toArray, List.getElem_cons_succ, List.getElem_cons_zero] at ho2
            subst ho2
            clear ho
            have e45 : E (.tmp 45) = dv last := D.is { on := 5, ground := .data } (by simp) rfl 45 rfl
            refine wk.Does.weak (R := fun w' v => ARel size k c' A' kept last B wr.heap.size L 6 w' v) ?_ fun w' v hb hr => ⟨hr, fun j u _ => ARel.next rfl hb j u, hcl, hbw.trans (hb.mono hbw.size)⟩
            exact wk.does_new (v := .slice (some ⟨w7.heap.size, 0, none⟩) 1 1) (w' := w7.alloc (.cells (wp.bc last).toArray 31)) (run_build1 (o := _) (x := .tmp 45) rfl e45 HLS.out) ((Below.refl _ _).alloc (Nat.le_refl _) _) (fun _ => ⟨_, rfl, wi.RC_new rfl _ _ rfl⟩)
          ·
            have ho2 := (Array.getElem?_eq_some_iff.1 ho).2
            simp only [List.getElem_toArray, List.getElem_cons_succ, List.getElem_cons_zero] at ho2
            subst ho2
            clear ho
            have s44 : ARel size k c' A' kept last B wr.heap.size L 4 w7 (E (.tmp 44)) := D.is { on := 4, ground := .data } (by simp) rfl 44 rfl
            have s46 : ARel size k c' A' kept last B wr.heap.size L 6 w7 (E (.tmp 46)) := D.is { on := 6, ground := .data } (by simp) rfl 46 rfl
            have hown := s44 hL
            obtain ⟨G, h46, hG⟩ := s46 hL
            obtain ⟨i0, hi0, hz0, hz1, hz2⟩ := info_parts infoDz
            have hdl : (wp.bc last).length = 16 := bc_len HLS.out
            obtain ⟨b0, o0, hA2, hb0, hc0'⟩ := hG (by omega)
            simp only [Option.some.injEq, Addr.mk.injEq, and_true] at hA2
            obtain ⟨rfl, rfl⟩ := hA2
            intro a K hE hK
            refine wp_append_own w7 (.tmp 44) (.tmp 46) 22 rfl wr.heap.size 31 i0 zeroD 16 16 Tryd.underlying22 hi0 hz0 hz1 hz2 rfl (by decide) (E (.tmp 44)) _ _ (by rw [hE]) hown ⟨G, 0, none⟩ 1 1 (wp.bc last) (by rw [hE]; exact h46) (by rw [hdl]) (fun j u hu => by rw [wk.add_at]; exact hc0' j u hu) wp.bc_one (by unfold maxLen; omega) (by omega) hbw.size ?_
            intro v' w8 hown' hgrow _
            have hb8 : Below wr.heap.size wr.drew w8 := hbw.grown hgrow hbw.size (fun q hq => (hown.lt q hq).1)
            refine hK v' w8 ⟨by show w8.ownsRow _ _ _ _ _ _; simpa using hown', fun j u hj hr => ?_, fun _ => rfl, hb8⟩
            match j, hr with
            | 0, hr => exact hr
            | 1, hr => exact hr
            | 2, hr => exact hr
            | 3, hr => exact hr
            | 4, hr => exact fun h7 => by cases h7
            | 5, hr => exact hr
            | 6, hr => exact fun h7 => by cases h7
            | 7, hr => exact absurd hj (by rw [hL]; simp)
            | 8, hr => exact absurd (hcl hj) (by rw [hL]; simp)
            | _ + 9, _ => trivial
          ·
            have ho2 := (Array.getElem?_eq_some_iff.1 ho).2
            simp only [List.getElem_toArray, List.getElem_cons_succ, List.getElem_cons_zero] at ho2
            subst ho2
            clear ho
            have e42 : E (.tmp 42) = .int .i64 (size + 1 : Nat) := D.is { on := 2, ground := .data } (by simp) rfl 42 rfl
            have s47 : ARel size k c' A' kept last B wr.heap.size L 7 w7 (E (.tmp 47)) := D.is { on := 7, ground := .data } (by simp) rfl 47 rfl
            have hL7 : L 7 = true := hdeps { on := 7, ground := .data } (by simp) rfl
            refine wk.Does.weak (R := fun w' v => ARel size k c' A' kept last B wr.heap.size L 8 w' v) ?_ fun w' v hb hr => ⟨hr, fun j u _ => ARel.next rfl hb j u, fun _ => hL7, hbw.trans (hb.mono hbw.size)⟩
            exact wk.does_run (v := pk (size + 1 : Nat) (E (.tmp 47))) (run_pk rfl e42 s47) ⟨_, rfl, s47⟩
        case hdone =>
          intro vals L w7 hall hS7 hv
          obtain ⟨_, hbw⟩ := hS7
          obtain ⟨v7, h8, hown⟩ := hv 8 (by omega)
          clear hv hall
          simp only [List.drop_succ_cons, List.drop_zero, Act.put, wk.setL, List.setIfInBounds_toArray, List.set_cons_zero, List.set_cons_succ, Nat.zero_add, Nat.reduceAdd, h8]
          have hq3 := wk.row_below HR3.out ((Below.refl _ _).drew.trans hbw)
          have hv1 : v7.oneCell' = true := by
            rcases hown.2 with ⟨rfl, _⟩ | ⟨g, cap, cur, rfl, _⟩ <;> rfl
          have hones : wk.Ones [Value.int .i64 (size + 1 : Nat), v7] := fun u hu => by
            rcases List.mem_cons.1 hu with rfl | hu
            · rfl
            · rcases List.mem_cons.1 hu with rfl | hu
              · exact hv1
              · cases hu
          have hBs : B ≤ wr.heap.size := by have := HBR.out.size; have := HB.out; omega
          have hbB : Below B w w7 := HBR.out.trans (((Below.refl wr.heap.size wr).drew.trans hbw).mono hBs)
          have hg3 : B + 1 + 1 < wr.heap.size := wk.row_lt HR3.out
          have HBB := Lib.hid hbB
          have HOW := Lib.hid hown
          have HG3 := Lib.hid hg3
          clear hbw hbB hown hv1 h8 hg3
          generalize vals 0 = y0
          generalize vals 1 = y1
          generalize vals 2 = y2
          generalize vals 3 = y3
          generalize vals 4 = y4
          generalize vals 5 = y5
          generalize vals 6 = y6
          generalize vals 7 = y7
          unfold pk
          go_wp2_with (refine wk.store_row rfl 43 (.tmp 4) (.tmp 48) rfl (B + 1 + 1) [.int .i64 (size + 1 : Nat), v7] rfl rfl 43 #[.int .i64 0, .slice none 0 0] hq3 infoP rfl hones ?_)
          refine bodyPost_ret (results_cell_tmp (fn := Tryd.f25) rfl _ _ (B + 1 + 1) #[.int .i64 (size + 1 : Nat), v7] rfl (setRow_heap _ _ _ _ _ _ hq3)) rfl ⟨v7, rfl, ?_, ?_⟩
          · have h1 := ownsRow_setRow (ownsRow_weak HOW.out (Nat.le_refl _)) (B := B + 1 + 1) HG3.out #[.int .i64 (size + 1 : Nat), v7]
            have h2 := ownsRow_weak h1 (base' := B) hBs
            have hk2 := HI2.out.is.len
            rw [HB.out, ← HRES.out, ← HCE.out]
            simp only [hk2]
            exact h2
          · rw [HB.out]
            exact wk.below_setRow HBB.out (by omega) _
end Go.Proofs.YtmjmkkdmphgdnaaDoor.mk
/- The examples of the document, which every statement computes first. -/
namespace Go.Proofs.YtmjmkkdmphgdnaaDoor.mk

open Go.ChangeShapes Go.WideShapes Go.ChangeAt Go.RowKit

set_option linter.unusedVariables false
/-- rows of digests and slices of digests that are there -/
structure RS (w0 : World) (rows : List (Nat × D)) (sls : List (Option Addr × Nat × Nat × List D)) (w : World) : Prop where
  rows : ∀ p ∈ rows, w.heap[p.1]? = some (.cells (wp.bc p.2).toArray 31 (0, 0)) ∧ p.2.length = 16
  sls : ∀ s ∈ sls, IsD w s.1 s.2.1 s.2.2.1 s.2.2.2
  tab : Tab w
  below : Below w0.heap.size w0 w
theorem RS.next {w0 w w' : World} {rows : List (Nat × D)} {sls : List (Option Addr × Nat × Nat × List D)} (h : RS w0 rows sls w) (hb : Below w.heap.size w w') : RS w0 rows sls w' :=
  ⟨fun p hp => ⟨wk.row_below (h.rows p hp).1 hb, (h.rows p hp).2⟩, fun s hs => (h.sls s hs).below hb, h.tab.next hb, h.below.trans (hb.mono h.below.size)⟩
theorem RS.row {w0 w : World} {rows : List (Nat × D)} {sls : List (Option Addr × Nat × Nat × List D)} (h : RS w0 rows sls w) {g : Nat} {d : D} (hg : w.heap[g]? = some (.cells (wp.bc d).toArray 31 (0, 0))) (hd : d.length = 16) : RS w0 ((g, d) :: rows) sls w :=
  ⟨fun p hp => by
    rcases List.mem_cons.1 hp with rfl | hp
    · exact ⟨hg, hd⟩
    · exact h.rows p hp, h.sls, h.tab, h.below⟩
theorem RS.sl {w0 w : World} {rows : List (Nat × D)} {sls : List (Option Addr × Nat × Nat × List D)} (h : RS w0 rows sls w) {A : Option Addr} {n c : Nat} {l : List D} (hs : IsD w A n c l) : RS w0 rows ((A, n, c, l) :: sls) w :=
  ⟨h.rows, fun s hm => by
    rcases List.mem_cons.1 hm with rfl | hm
    · exact hs
    · exact h.sls s hm, h.tab, h.below⟩
theorem isD_own {w : World} {base : Nat} {v : Value} {n : Nat} {l : List D} (h : w.ownsRow base 31 16 v n (l.flatMap wp.bc)) (hl : l.length = n) (hd : ∀ d ∈ l, d.length = 16) : ∃ A c, v = .slice A n c ∧ IsD w A n c l := by
  obtain ⟨A, c, h1, h2, h3, h4⟩ := wp.RC.of_own h
  exact ⟨A, c, h1, hl, h2, h3, h4, hd⟩
noncomputable def sA : D := leafD [97]
noncomputable def sB : D := leafD [98]
noncomputable def sC : D := leafD [99]
theorem sA16 : sA.length = 16 := dig_length _ _
theorem sB16 : sB.length = 16 := dig_length _ _
theorem sC16 : sC.length = 16 := dig_length _ _
theorem nd16 (a b : D) : (nodeD a b).length = 16 := dig_length _ _
theorem rootD_3 (a b c : D) : rootD [a, b, c] = nodeD (nodeD a b) c := by
  have hs : split 3 = 2 := by decide
  have hs2 : split 2 = 1 := by decide
  rw [rootD_two (by simp), show ([a, b, c] : List D).length = 3 from rfl, hs, show ([a, b, c] : List D).take 2 = [a, b] from rfl, show ([a, b, c] : List D).drop 2 = [c] from rfl, rootD_two (l := [a, b]) (by simp), show ([a, b] : List D).length = 2 from rfl, hs2]
  rw [show ([a, b] : List D).take 1 = [a] from rfl, show ([a, b] : List D).drop 1 = [b] from rfl, rootD_one (l := [a]) rfl, rootD_one (l := [b]) rfl, rootD_one (l := [c]) rfl]
  rfl
theorem rootD_2 (a b : D) : rootD [a, b] = nodeD a b := by
  have hs2 : split 2 = 1 := by decide
  rw [rootD_two (l := [a, b]) (by simp), show ([a, b] : List D).length = 2 from rfl, hs2]
  rw [show ([a, b] : List D).take 1 = [a] from rfl, show ([a, b] : List D).drop 1 = [b] from rfl, rootD_one (l := [a]) rfl, rootD_one (l := [b]) rfl]
  rfl
theorem rootD_1 (a : D) : rootD [a] = a := rootD_one (l := [a]) rfl
theorem inclP_0 (a b c : D) : inclP [a, b, c] 0 = [b, c] := by
  have hs : split 3 = 2 := by decide
  have hs2 : split 2 = 1 := by decide
  unfold inclP
  rw [if_pos (by simp), show (0 : Int).toNat = 0 from rfl, inclD_two 0 (l := [a, b, c]) (by simp), show ([a, b, c] : List D).length = 3 from rfl, hs, if_pos (by decide), show ([a, b, c] : List D).take 2 = [a, b] from rfl, show ([a, b, c] : List D).drop 2 = [c] from rfl, inclD_two 0 (l := [a, b]) (by simp), show ([a, b] : List D).length = 2 from rfl, hs2, if_pos (by decide), show ([a, b] : List D).take 1 = [a] from rfl, show ([a, b] : List D).drop 1 = [b] from rfl, inclD_one 0 (l := [a]) (by simp), rootD_1, rootD_1]
  rfl
theorem inclP_2 (a b c : D) : inclP [a, b, c] 2 = [nodeD a b] := by
  have hs : split 3 = 2 := by decide
  unfold inclP
  rw [if_pos (by simp), show (2 : Int).toNat = 2 from rfl, inclD_two 2 (l := [a, b, c]) (by simp), show ([a, b, c] : List D).length = 3 from rfl, hs, if_neg (by decide), show ([a, b, c] : List D).take 2 = [a, b] from rfl, show ([a, b, c] : List D).drop 2 = [c] from rfl, inclD_one 0 (l := [c]) (by simp), rootD_2]
  rfl
theorem consP_1 (a b c : D) : consP [a, b, c] 1 = [b, c] := by
  have hs : split 3 = 2 := by decide
  have hs2 : split 2 = 1 := by decide
  unfold consP
  rw [if_pos (by simp), show (1 : Int).toNat = 1 from rfl, consD_two true (l := [a, b, c]) (m := 1) (by simp) (by omega), show ([a, b, c] : List D).length = 3 from rfl, hs, if_pos (by decide), show ([a, b, c] : List D).take 2 = [a, b] from rfl, show ([a, b, c] : List D).drop 2 = [c] from rfl, consD_two true (l := [a, b]) (m := 1) (by simp) (by omega), show ([a, b] : List D).length = 2 from rfl, hs2, if_pos (by decide), show ([a, b] : List D).take 1 = [a] from rfl, show ([a, b] : List D).drop 1 = [b] from rfl, consD_all true (l := [a]) (m := 1) rfl (by omega), rootD_1, rootD_1]
  rfl
theorem consP_2 (a b c : D) : consP [a, b, c] 2 = [c] := by
  have hs : split 3 = 2 := by decide
  unfold consP
  rw [if_pos (by simp), show (2 : Int).toNat = 2 from rfl, consD_two true (l := [a, b, c]) (m := 2) (by simp) (by omega), show ([a, b, c] : List D).length = 3 from rfl, hs, if_pos (by decide), show ([a, b, c] : List D).take 2 = [a, b] from rfl, show ([a, b, c] : List D).drop 2 = [c] from rfl, consD_all true (l := [a, b]) (m := 2) rfl (by omega), rootD_1]
  rfl
theorem manyP_02 (a b c : D) : manyP [a, b, c] [0, 2] = [b] := by
  have hs : split 3 = 2 := by decide
  have hs2 : split 2 = 1 := by decide
  have hc1 : cnt [0, 2] (0 + (2 : Nat)) = 1 := by decide
  have hc2 : cnt [0] (0 + (1 : Nat)) = 1 := by decide
  unfold manyP
  rw [if_pos ⟨by show places 3 0 [0, 2] = true; decide, by simp⟩, mnyD_two 0 (l := [a, b, c]) (by simp) (by simp), show ([a, b, c] : List D).length = 3 from rfl, hs, hc1, show ([a, b, c] : List D).take 2 = [a, b] from rfl, show ([a, b, c] : List D).drop 2 = [c] from rfl, show ([0, 2] : List Int).take 1 = [0] from rfl, show ([0, 2] : List Int).drop 1 = [2] from rfl,
    mnyD_two 0 (l := [a, b]) (by simp) (by simp), show ([a, b] : List D).length = 2 from rfl, hs2, hc2, show ([a, b] : List D).take 1 = [a] from rfl, show ([a, b] : List D).drop 1 = [b] from rfl, show ([0] : List Int).take 1 = [0] from rfl, show ([0] : List Int).drop 1 = [] from rfl, mnyD_one _ (l := [a]) (by simp) rfl, mnyD_nil _ (l := [b]) rfl (by simp), mnyD_one _ (l := [c]) (by simp) rfl, rootD_1]
  rfl
theorem ckD_30 (a : D) (s : St) : ckD a 3 0 s = (nodeD (nodeD a (hdS s)) (hdS (nxS s)), nxS (nxS s)) := by
  have hs : split 3 = 2 := by decide
  have hs2 : split 2 = 1 := by decide
  rw [ckD_two a 0 s (n := 3) (by omega), hs, if_pos (by decide), ckD_two a 0 s (n := 2) (by omega), hs2, if_pos (by decide), ckD_one]
theorem chkI_ok (a b c : D) : chkI a 0 3 [b, c] (nodeD (nodeD a b) c) = true := by
  unfold chkI
  rw [if_pos (by omega), show (3 : Int).toNat = 3 from rfl, show (0 : Int).toNat = 0 from rfl, ckD_30]
  simp [hdS, nxS]
theorem chkI_no (a b c : D) : chkI a 0 3 [b] c = false := by
  unfold chkI
  rw [if_pos (by omega), show (3 : Int).toNat = 3 from rfl, show (0 : Int).toNat = 0 from rfl, ckD_30]
  simp [hdS, nxS]
theorem chkC_ok (a b c : D) : chkC 1 3 a (nodeD (nodeD a b) c) [b, c] = true := by
  have hs : split 3 = 2 := by decide
  have hs2 : split 2 = 1 := by decide
  unfold chkC
  rw [if_pos (by omega), if_neg (by omega), show (3 : Int).toNat = 3 from rfl, show (1 : Int).toNat = 1 from rfl, kcD_two a true _ (n := 3) (m := 1) (by omega) (by omega), hs, if_pos (by decide), kcD_two a true _ (n := 2) (m := 1) (by omega) (by omega), hs2, if_pos (by decide), kcD_all a (n := 1) true _ (by omega)]
  simp [hdS, nxS]
theorem chkM_ok (a b c : D) : chkM 3 [0, 2] [a, c] [b] (nodeD (nodeD a b) c) = true := by
  have hs : split 3 = 2 := by decide
  have hs2 : split 2 = 1 := by decide
  have hc1 : cnt [0, 2] (0 + (2 : Nat)) = 1 := by decide
  have hc2 : cnt [0] (0 + (1 : Nat)) = 1 := by decide
  unfold chkM
  rw [if_pos ⟨by omega, by omega, by decide, rfl⟩, if_neg (by omega), show (3 : Int).toNat = 3 from rfl, mwD_two 0 _ _ (n := 3) (by simp) (by omega), hs, hc1, show ([0, 2] : List Int).take 1 = [0] from rfl, show ([0, 2] : List Int).drop 1 = [2] from rfl, show ([a, c] : List D).take 1 = [a] from rfl, show ([a, c] : List D).drop 1 = [c] from rfl,
    mwD_two 0 _ _ (n := 2) (by simp) (by omega), hs2, hc2, show ([0] : List Int).take 1 = [0] from rfl, show ([0] : List Int).drop 1 = [] from rfl, show ([a] : List D).take 1 = [a] from rfl, show ([a] : List D).drop 1 = [] from rfl, mwD_one 0 _ _ (by simp), show 2 - 1 = 1 from rfl, mwD_nil _ _ _ rfl (by omega), mwD_one _ _ _ (by simp)]
  simp [hdS, nxS]
theorem car_0 (a : D) : car 64 0 [] a = ([], a) := rfl
theorem car_1 (a b : D) : car 64 1 [a] b = ([], nodeD a b) := rfl
theorem car_2 (a c : D) : car 64 2 [a] c = ([a], c) := rfl
end Go.Proofs.YtmjmkkdmphgdnaaDoor.mk
/- Slices of digests, built. -/
namespace Go.Proofs.YtmjmkkdmphgdnaaDoor.mk

open Go.ChangeShapes Go.WideShapes Go.ChangeAt Go.RowKit

set_option linter.unusedVariables false
theorem set_at : ∀ (pre l z post : List Value) (k : Nat), pre.length = k → z.length = l.length → l.zipIdx.foldl (fun (cs : Array Value) (x : Value × Nat) => cs.setIfInBounds (k + x.2) x.1) (pre ++ z ++ post).toArray = (pre ++ l ++ post).toArray := by
  intro pre l
  have H : ∀ (l z mid pre post : List Value) (j : Nat), pre.length + mid.length = pre.length + j → z.length = l.length → (l.zipIdx j).foldl (fun (cs : Array Value) (x : Value × Nat) => cs.setIfInBounds (pre.length + x.2) x.1) (pre ++ mid ++ z ++ post).toArray = (pre ++ mid ++ l ++ post).toArray := by
    intro l
    induction l with
    | nil => intro z mid pre post j _ hz; rw [List.eq_nil_of_length_eq_zero hz]; rfl
    | cons x r ih =>
      intro z mid pre post j hj hz
      cases z with
      | nil => cases hz
      | cons y z =>
        rw [List.zipIdx_cons, List.foldl_cons]
        have e : (pre ++ mid ++ (y :: z) ++ post).toArray.setIfInBounds (pre.length + j) x = (pre ++ (mid ++ [x]) ++ z ++ post).toArray := by
          rw [List.setIfInBounds_toArray, ← hj]
          congr 1
          simp [List.set_append_right]
        show List.foldl _ ((pre ++ mid ++ (y :: z) ++ post).toArray.setIfInBounds (pre.length + j) x) _ = _
        rw [e, ih z (mid ++ [x]) pre post (j + 1) (by simp; omega) (by simpa using hz)]
        simp
  intro z post k hk hz
  subst hk
  simpa using H l z [] pre post 0 (by simp) hz
set_option maxRecDepth 100000 in
theorem run_build2 {o : Oper} {E : Operand → Value} {w : World} {x y : Operand} {a b : D} (ho : o.op = .buildSlice 22 2 #[(0, x), (1, y)]) (hx : E x = dv a) (hy : E y = dv b) (ha : a.length = 16) (hb : b.length = 16) :
    (execOp E o).run Tryd.prog w = .ok (.value (.slice (some ⟨w.heap.size, 0, none⟩) 2 2)) (w.alloc (.cells (([a, b] : List D).flatMap wp.bc).toArray 31)) := by
  have la : (wp.bc a).length = 16 := by rw [wp.bc_length]; exact ha
  have lb : (wp.bc b).length = 16 := by rw [wp.bc_length]; exact hb
  have ht : ([a, b] : List D).flatMap wp.bc = wp.bc a ++ wp.bc b := by simp
  rw [ht]
  clear ht
  unfold dv at hx hy
  generalize wp.bc a = ma at *
  generalize wp.bc b = mb at *
  have f0 : List.foldl (fun (cs : Array Value) (x : Value × Nat) => cs.setIfInBounds (x.2) x.1) #[.int .u8 0, .int .u8 0, .int .u8 0, .int .u8 0, .int .u8 0, .int .u8 0, .int .u8 0, .int .u8 0, .int .u8 0, .int .u8 0, .int .u8 0, .int .u8 0, .int .u8 0, .int .u8 0, .int .u8 0, .int .u8 0, .int .u8 0, .int .u8 0, .int .u8 0, .int .u8 0, .int .u8 0, .int .u8 0, .int .u8 0, .int .u8 0, .int .u8 0, .int .u8 0, .int .u8 0, .int .u8 0, .int .u8 0, .int .u8 0, .int .u8 0, .int .u8 0] ma.zipIdx = (ma ++ List.replicate 16 (Value.int .u8 0)).toArray :=
    (by simpa using set_at [] ma (List.replicate 16 (Value.int .u8 0)) (List.replicate 16 (Value.int .u8 0)) 0 rfl (by rw [la]; rfl))
  generalize hW0 : (ma ++ List.replicate 16 (Value.int .u8 0)).toArray = W0 at f0
  have s0 : W0.size = 32 := by rw [← hW0]; simp [la, lb]
  have f1 : List.foldl (fun (cs : Array Value) (x : Value × Nat) => cs.setIfInBounds (16 + x.2) x.1) W0 mb.zipIdx = (ma ++ mb ++ List.replicate 0 (Value.int .u8 0)).toArray :=
    (by rw [← hW0]; simpa [List.append_assoc] using set_at (ma) mb (List.replicate 16 (Value.int .u8 0)) (List.replicate 0 (Value.int .u8 0)) 16 (by simp [la, lb]) (by rw [lb]; rfl))
  generalize hW1 : (ma ++ mb ++ List.replicate 0 (Value.int .u8 0)).toArray = W1 at f1
  have s1 : W1.size = 32 := by rw [← hW1]; simp [la, lb]
  have ht : (ma ++ mb).toArray = W1 := by rw [← hW1]; simp
  rw [ht]
  clear ht hW0 hW1
  unfold execOp
  simp only [ho, List.map_toArray, List.map_cons, List.map_nil, hx, hy]
  go_simp
set_option maxRecDepth 100000 in
theorem run_build3 {o : Oper} {E : Operand → Value} {w : World} {x y z : Operand} {a b c : D} (ho : o.op = .buildSlice 22 3 #[(0, x), (1, y), (2, z)]) (hx : E x = dv a) (hy : E y = dv b) (hz : E z = dv c) (ha : a.length = 16) (hb : b.length = 16) (hc : c.length = 16) :
    (execOp E o).run Tryd.prog w = .ok (.value (.slice (some ⟨w.heap.size, 0, none⟩) 3 3)) (w.alloc (.cells (([a, b, c] : List D).flatMap wp.bc).toArray 31)) := by
  have la : (wp.bc a).length = 16 := by rw [wp.bc_length]; exact ha
  have lb : (wp.bc b).length = 16 := by rw [wp.bc_length]; exact hb
  have lc : (wp.bc c).length = 16 := by rw [wp.bc_length]; exact hc
  have ht : ([a, b, c] : List D).flatMap wp.bc = wp.bc a ++ wp.bc b ++ wp.bc c := by simp
  rw [ht]
  clear ht
  unfold dv at hx hy hz
  generalize wp.bc a = ma at *
  generalize wp.bc b = mb at *
  generalize wp.bc c = mc at *
  have f0 : List.foldl (fun (cs : Array Value) (x : Value × Nat) => cs.setIfInBounds (x.2) x.1) #[.int .u8 0, .int .u8 0, .int .u8 0, .int .u8 0, .int .u8 0, .int .u8 0, .int .u8 0, .int .u8 0, .int .u8 0, .int .u8 0, .int .u8 0, .int .u8 0, .int .u8 0, .int .u8 0, .int .u8 0, .int .u8 0, .int .u8 0, .int .u8 0, .int .u8 0, .int .u8 0, .int .u8 0, .int .u8 0, .int .u8 0, .int .u8 0, .int .u8 0, .int .u8 0, .int .u8 0, .int .u8 0, .int .u8 0, .int .u8 0, .int .u8 0, .int .u8 0, .int .u8 0, .int .u8 0, .int .u8 0, .int .u8 0, .int .u8 0, .int .u8 0, .int .u8 0, .int .u8 0, .int .u8 0, .int .u8 0, .int .u8 0, .int .u8 0, .int .u8 0, .int .u8 0, .int .u8 0, .int .u8 0] ma.zipIdx = (ma ++ List.replicate 32 (Value.int .u8 0)).toArray :=
    (by simpa using set_at [] ma (List.replicate 16 (Value.int .u8 0)) (List.replicate 32 (Value.int .u8 0)) 0 rfl (by rw [la]; rfl))
  generalize hW0 : (ma ++ List.replicate 32 (Value.int .u8 0)).toArray = W0 at f0
  have s0 : W0.size = 48 := by rw [← hW0]; simp [la, lb, lc]
  have f1 : List.foldl (fun (cs : Array Value) (x : Value × Nat) => cs.setIfInBounds (16 + x.2) x.1) W0 mb.zipIdx = (ma ++ mb ++ List.replicate 16 (Value.int .u8 0)).toArray :=
    (by rw [← hW0]; simpa [List.append_assoc] using set_at (ma) mb (List.replicate 16 (Value.int .u8 0)) (List.replicate 16 (Value.int .u8 0)) 16 (by simp [la, lb, lc]) (by rw [lb]; rfl))
  generalize hW1 : (ma ++ mb ++ List.replicate 16 (Value.int .u8 0)).toArray = W1 at f1
  have s1 : W1.size = 48 := by rw [← hW1]; simp [la, lb, lc]
  have f2 : List.foldl (fun (cs : Array Value) (x : Value × Nat) => cs.setIfInBounds (32 + x.2) x.1) W1 mc.zipIdx = (ma ++ mb ++ mc ++ List.replicate 0 (Value.int .u8 0)).toArray :=
    (by rw [← hW1]; simpa [List.append_assoc] using set_at (ma ++ mb) mc (List.replicate 16 (Value.int .u8 0)) (List.replicate 0 (Value.int .u8 0)) 32 (by simp [la, lb, lc]) (by rw [lc]; rfl))
  generalize hW2 : (ma ++ mb ++ mc ++ List.replicate 0 (Value.int .u8 0)).toArray = W2 at f2
  have s2 : W2.size = 48 := by rw [← hW2]; simp [la, lb, lc]
  have ht : (ma ++ mb ++ mc).toArray = W2 := by rw [← hW2]; simp
  rw [ht]
  clear ht hW0 hW1 hW2
  unfold execOp
  simp only [ho, List.map_toArray, List.map_cons, List.map_nil, hx, hy, hz]
  go_simp
/-- in a plain list: an operation that makes memory -/
theorem list_new {P : Program} {Q : Exit → Act → World → Prop} {o : Oper} {w w' : World} {ops : Array Oper} {rest : List Oper} {a : Act} (hg : o.guard = none) (d : Option Tmp) (hd : o.dst = d) (v : Value) (hrun : (execOp a.eval o).run P w = .ok (.value v) w') (h : wpList P ops Q rest (a.put d v) w') : wpList P ops Q (o :: rest) a w := by
  subst hd
  refine wpList_plain hg fun K hK => ?_
  unfold Oper.wp
  rw [hrun, Oper.upon_value]
  exact hK _ _ h
/-- a built slice of digests is one -/
theorem isD_new {w : World} {g n : Nat} {l : List D} (hg : w.heap.size = g) (hl : l.length = n) (hd : ∀ d ∈ l, d.length = 16) (hn : n ≤ 1000) : IsD (w.alloc (.cells (l.flatMap wp.bc).toArray 31)) (some ⟨g, 0, none⟩) n n l :=
  ⟨hl, Nat.le_refl _, by unfold maxLen; omega, wi.RC_new hg _ _ rfl, hd⟩
theorem run_ints {o : Oper} {E : Operand → Value} {w : World} {a b : Int} (ho : o.op = .buildSlice 37 2 #[(0, .const (.int .i64 a)), (1, .const (.int .i64 b))]) (ha : E (.const (.int .i64 a)) = .int .i64 a) (hb : E (.const (.int .i64 b)) = .int .i64 b) :
    (execOp E o).run Tryd.prog w = .ok (.value (.slice (some ⟨w.heap.size, 0, none⟩) 2 2)) (w.alloc (.cells #[.int .i64 a, .int .i64 b] 3)) := by
  unfold execOp
  simp only [ho, List.map_toArray, List.map_cons, List.map_nil, ha, hb]
  go_simp
theorem isZ_new {w : World} {g : Nat} (hg : w.heap.size = g) : IsZ (w.alloc (.cells #[.int .i64 0, .int .i64 2] 3)) (some ⟨g, 0, none⟩) 2 2 [0, 2] :=
  ⟨rfl, Nat.le_refl _, by unfold maxLen; omega, wi.RC_new hg _ _ rfl, fun x hx => by
    simp only [List.mem_cons, List.not_mem_nil, or_false] at hx
    rcases hx with rfl | rfl <;> omega⟩
end Go.Proofs.YtmjmkkdmphgdnaaDoor.mk
