
import Derived.Test.YtlmbacacjcbdjaaDoorRof

import Derived.Test.YtlmbacacjcbdjaaDoorVal

import Derived.Test.YtlmbacacjcbdjaaDoorSn

namespace Go.Proofs.YtlmbacacjcbdjaaDoor.hashOfMatchesSpec

open Go.ChangeShapes Go.WideShapes Go.ChangeAt Go.RowKit

set_option linter.unusedVariables false
set_option maxRecDepth 100000 in
set_option maxHeartbeats 4000000 in
theorem walk (w : World) (hTT : hi.TabK w ∧ hi.TabC w) {tag : Int} (wt : (Lit.int .i64 tag).wf = true) {A : Option Addr} {n c : Nat} {l : List ByteArray} (w0 : wo.IsS w A n c l) :
    Calls Tryd.prog 9 #[.int .i64 tag, .slice A n c] w fun e w' => e = .returned (.bool true) ∧ Below w.heap.size w w' := by
  obtain ⟨hl, hnc, hc, hr, hsz⟩ := w0
  obtain ⟨hT, hTC⟩ := hTT
  have htag : -9223372036854775808 ≤ tag ∧ tag ≤ 9223372036854775807 := by simpa [Lit.wf, IntKind.min, IntKind.max, IntKind.signed, IntKind.bits] using wt
  have hszz : ∀ s ∈ l, s.size ≤ 9223372036854775807 := fun s hs => by have := hsz s hs; unfold maxLen at this; omega
  have HS := Lib.hid (hi.sanity_true w hT)
  have HTK := Lib.hid hT
  have HTC := Lib.hid hTC
  have HR := Lib.hid hr
  have HL := Lib.hid hl
  have HTG := Lib.hid htag
  have HSZ := Lib.hid hszz
  clear hT hTC hr hl hsz wt htag hszz
  have HFC : Hid (∀ w', Below w.heap.size w w' → Calls Tryd.prog 34 #[.slice A n c] w' fun e w2 => e = .returned (.bool (hi.fewB l)) ∧ w' = w2) := fun w' hb => hi.few_calls A n c l w' HL.out hnc hc (wp.RC.below HR.out hb) HSZ.out
  cases hf : hi.fewB l
  · rw [hf] at HFC
    clear hf
    go_enter Tryd.func9, Tryd.ntmps9
    go_wp2_with fail
    refine HS.out.mono ?_
    rintro e w1 ⟨rfl, hb⟩
    go_wp2_with fail
    refine (HFC.out w1 hb).mono ?_
    rintro e w' ⟨rfl, rfl⟩
    go_wp2_with fail
    go_ret
    exact ⟨rfl, hb⟩
  · have hfl := few_flat hf
    rw [hf] at HFC
    have e255 := and255 tag
    have h0 : 0 ≤ tag % 256 := by omega
    have h1 : tag % 256 ≤ 255 := by omega
    have hO1 := fun w' hb => hi.of_calls tag A n c l w' HL.out hnc hc (wp.RC.below HR.out hb) HTG.out (by show 1 + (flat l).length ≤ _; omega) (HTK.out.below HTK.out.1 hb)
    have hO2 := fun w' hb => hi.of_calls (tag % 256) A n c l w' HL.out hnc hc (wp.RC.below HR.out hb) (by omega) (by show 1 + (flat l).length ≤ _; omega) (HTK.out.below HTK.out.1 hb)
    have hO3 := fun w' hb => rof_calls tag A n c l w' HL.out hnc hc (wp.RC.below HR.out hb) HTG.out (by omega) (HTC.out.below HTC.out.1 hb)
    rw [tag255] at hO2
    have hE : ((hs.sha (hi.tagB tag :: flat l)).take 16).length = 16 := rfl
    have hfe : (l.flatMap fun s => wp.encB s.data.toList) = flat l := rfl
    rw [hfe] at hO1 hO2
    generalize (hs.sha (hi.tagB tag :: flat l)).take 16 = D at *
    have HE := Lib.hid hE
    have H1 := Lib.hid hO1
    have H2 := Lib.hid hO2
    have H3 := Lib.hid hO3
    obtain ⟨t2, ht2⟩ : ∃ t2, t2 = tag % 256 := ⟨_, rfl⟩
    rw [← ht2] at H2 e255
    clear hO1 hO2 hO3 hE hfe hf hfl h0 h1 ht2
    go_enter Tryd.func9, Tryd.ntmps9
    go_wp2_with fail
    refine HS.out.mono ?_
    rintro e w1 ⟨rfl, hb⟩
    have HB1 := Lib.hid hb
    go_wp2_with fail
    refine (HFC.out w1 hb).mono ?_
    rintro e w' ⟨rfl, rfl⟩
    have HX := Lib.hid (H1.out w1 hb)
    clear hb HFC HS
    go_wp2_with fail
    refine HX.out.mono ?_
    rintro e w2 ⟨rfl, hb2⟩
    have HB2 := Lib.hid (HB1.out.trans (hb2.mono HB1.out.size))
    have hlo : (wp.bc D).length = 16 := by rw [wp.bc_length]; exact HE.out
    have hz := hi.size_to hi.info55x hlo
    have hz' : hi.z16.size = (wp.bc D).length := by rw [hlo]; rfl
    unfold hi.z16 at hz'
    have ho := wk.ones_bc D
    clear hb2 HX
    go_upto_region 5 with (refine wk.store_new rfl 31 (.tmp 6) (.tmp 14) rfl 31 _ (wp.bc D) rfl rfl hz hz' ho ?_)
    have q : (w2.alloc (.cells (wp.bc D).toArray 31)).heap[w2.heap.size]? = some (.cells (wp.bc D).toArray 31 (0, 0)) := heap_alloc_new _ _
    have hB3 := HB2.out.alloc HB2.out.size (.cells (wp.bc D).toArray 31)
    generalize w2.alloc (.cells (wp.bc D).toArray 31) = w3 at *
    generalize w2.heap.size = G at *
    have Q : Hid (w3.drew.heap[G]? = some (.cells (wp.bc D).toArray 31 (0, 0))) := q
    have HB3 : Hid (Below w.heap.size w w3.drew) := hB3.drew
    clear q hB3 hz hz' ho hlo
    have heq := fun w' => wk.run_eq_arr w' 9998 31 5 16 Tryd.underlying31 Tryd.underlying5 hi.size_u8 D D HE.out HE.out
    have hbs : (D == D) = true := by simp
    rw [hbs] at heq
    clear hbs
    have hsz : (Tryd.prog.info? 31).map (·.size) = some (wp.bc D).toArray.size := hi.size_toA hi.info55x (by rw [wp.bc_length]; exact HE.out : (wp.bc D).length = _)
    obtain ⟨DA, hDA⟩ : ∃ DA, DA = Value.agg (wp.bc D).toArray := ⟨_, rfl⟩
    refine wk.region_val [.is (.bool true), .is (.bool true), .is DA, .is (.int .i64 tag), .is (.slice A n c), .is DA, .is (.bool true), .is (.bool true), .is (.bool true), .is DA, .is (.int .i64 tag), .is (.int .i64 t2), .is (.slice A n c), .is DA, .is (.bool true), .is (.bool true), .is (.bool true)] [some 15, some 16, some 17, some 18, some 19, some 20, some 21, some 22, some 23, some 24, some 25, some 26, some 27, some 28, some 29, some 30, some 4] (by kernel_rfl) (by kernel_rfl) (by kernel_rfl) (by kernel_rfl) (by kernel_rfl) ?hstep ?hdone
    case hstep =>
      intro i o ho E w4 hb4 D
      have hi : i < 17 := (Array.getElem?_eq_some_iff.1 ho).1
      have hi2 : i = 0 ∨ i = 1 ∨ i = 2 ∨ i = 3 ∨ i = 4 ∨ i = 5 ∨ i = 6 ∨ i = 7 ∨ i = 8 ∨ i = 9 ∨ i = 10 ∨ i = 11 ∨ i = 12 ∨ i = 13 ∨ i = 14 ∨ i = 15 ∨ i = 16 := by omega
      clear hi
      rcases hi2 with rfl | rfl | rfl | rfl | rfl | rfl | rfl | rfl | rfl | rfl | rfl | rfl | rfl | rfl | rfl | rfl | rfl
      ·
        have ho2 := (Array.getElem?_eq_some_iff.1 ho).2
        simp only [List.getElem_toArray, List.getElem_cons_zero] at ho2
        subst ho2
        clear ho
        have e5 := D.old 5 (by kernel_rfl)
        exact wk.does_move rfl (by rw [e5]; rfl)
      ·
        have ho2 := (Array.getElem?_eq_some_iff.1 ho).2
        simp only [List.getElem_toArray, List.getElem_cons_succ, List.getElem_cons_zero] at ho2
        subst ho2
        clear ho
        have e15 := D.is { on := 0, ground := .data } (by simp) rfl rfl 15 rfl
        exact wk.does_move rfl e15
      ·
        have ho2 := (Array.getElem?_eq_some_iff.1 ho).2
        simp only [List.getElem_toArray, List.getElem_cons_succ, List.getElem_cons_zero] at ho2
        subst ho2
        clear ho
        have e6 := D.old 6 (by kernel_rfl)
        exact wk.does_load_row rfl (by rw [e6]; rfl) (wk.row_below Q.out hb4) Tryd.underlying31 rfl hsz hDA.symm
      ·
        have ho2 := (Array.getElem?_eq_some_iff.1 ho).2
        simp only [List.getElem_toArray, List.getElem_cons_succ, List.getElem_cons_zero] at ho2
        subst ho2
        clear ho
        have e0 := D.old 0 (by kernel_rfl)
        exact wk.does_move rfl (by rw [e0]; rfl)
      ·
        have ho2 := (Array.getElem?_eq_some_iff.1 ho).2
        simp only [List.getElem_toArray, List.getElem_cons_succ, List.getElem_cons_zero] at ho2
        subst ho2
        clear ho
        have e1 := D.old 1 (by kernel_rfl)
        exact wk.does_move rfl (by rw [e1]; rfl)
      ·
        have ho2 := (Array.getElem?_eq_some_iff.1 ho).2
        simp only [List.getElem_toArray, List.getElem_cons_succ, List.getElem_cons_zero] at ho2
        subst ho2
        clear ho
        have e18 := D.is { on := 3, ground := .data } (by simp) rfl rfl 18 rfl
        have e19 := D.is { on := 4, ground := .data } (by simp) rfl rfl 19 rfl
        refine wk.does_fn (f := 36) (vs := #[.int .i64 tag, .slice A n c]) rfl (D.fn _) (by simp [e18, e19]) (by go_simp) ?_
        · refine (H3.out _ (HB3.out.trans (hb4.mono HB3.out.size))).mono ?_
          rintro e w5 ⟨rfl, hb5⟩
          exact ⟨_, rfl, hb5, hDA.symm⟩
      ·
        have ho2 := (Array.getElem?_eq_some_iff.1 ho).2
        simp only [List.getElem_toArray, List.getElem_cons_succ, List.getElem_cons_zero] at ho2
        subst ho2
        clear ho
        have e17 := D.is { on := 2, ground := .data } (by simp) rfl rfl 17 rfl
        have e20 := D.is { on := 5, ground := .data } (by simp) rfl rfl 20 rfl
        subst hDA
        exact wk.does_eq_arr rfl e17 e20 (by kernel_rfl) (heq _) rfl
      ·
        have ho2 := (Array.getElem?_eq_some_iff.1 ho).2
        simp only [List.getElem_toArray, List.getElem_cons_succ, List.getElem_cons_zero] at ho2
        subst ho2
        clear ho
        have e21 := D.is { on := 6, ground := .data } (by simp) rfl rfl 21 rfl
        have e16 := D.is { on := 1, ground := .data } (by simp) rfl rfl 16 rfl
        exact wk.does_pick rfl e16 e21
      ·
        have ho2 := (Array.getElem?_eq_some_iff.1 ho).2
        simp only [List.getElem_toArray, List.getElem_cons_succ, List.getElem_cons_zero] at ho2
        subst ho2
        clear ho
        have e22 := D.is { on := 7, ground := .data } (by simp) rfl rfl 22 rfl
        exact wk.does_move rfl e22
      ·
        have ho2 := (Array.getElem?_eq_some_iff.1 ho).2
        simp only [List.getElem_toArray, List.getElem_cons_succ, List.getElem_cons_zero] at ho2
        subst ho2
        clear ho
        have e6 := D.old 6 (by kernel_rfl)
        exact wk.does_load_row rfl (by rw [e6]; rfl) (wk.row_below Q.out hb4) Tryd.underlying31 rfl hsz hDA.symm
      ·
        have ho2 := (Array.getElem?_eq_some_iff.1 ho).2
        simp only [List.getElem_toArray, List.getElem_cons_succ, List.getElem_cons_zero] at ho2
        subst ho2
        clear ho
        have e0 := D.old 0 (by kernel_rfl)
        exact wk.does_move rfl (by rw [e0]; rfl)
      ·
        have ho2 := (Array.getElem?_eq_some_iff.1 ho).2
        simp only [List.getElem_toArray, List.getElem_cons_succ, List.getElem_cons_zero] at ho2
        subst ho2
        clear ho
        have e25 := D.is { on := 10, ground := .data } (by simp) rfl rfl 25 rfl
        exact wk.does_bin (v := .int .i64 t2) rfl (by rw [e25, D.con]; go_simp) rfl
      ·
        have ho2 := (Array.getElem?_eq_some_iff.1 ho).2
        simp only [List.getElem_toArray, List.getElem_cons_succ, List.getElem_cons_zero] at ho2
        subst ho2
        clear ho
        have e1 := D.old 1 (by kernel_rfl)
        exact wk.does_move rfl (by rw [e1]; rfl)
      ·
        have ho2 := (Array.getElem?_eq_some_iff.1 ho).2
        simp only [List.getElem_toArray, List.getElem_cons_succ, List.getElem_cons_zero] at ho2
        subst ho2
        clear ho
        have e26 := D.is { on := 11, ground := .data } (by simp) rfl rfl 26 rfl
        have e27 := D.is { on := 12, ground := .data } (by simp) rfl rfl 27 rfl
        refine wk.does_fn (f := 35) (vs := #[.int .i64 t2, .slice A n c]) rfl (D.fn _) (by simp [e26, e27]) (by go_simp) ?_
        · refine (H2.out _ (HB3.out.trans (hb4.mono HB3.out.size))).mono ?_
          rintro e w5 ⟨rfl, hb5⟩
          exact ⟨_, rfl, hb5, hDA.symm⟩
      ·
        have ho2 := (Array.getElem?_eq_some_iff.1 ho).2
        simp only [List.getElem_toArray, List.getElem_cons_succ, List.getElem_cons_zero] at ho2
        subst ho2
        clear ho
        have e24 := D.is { on := 9, ground := .data } (by simp) rfl rfl 24 rfl
        have e28 := D.is { on := 13, ground := .data } (by simp) rfl rfl 28 rfl
        subst hDA
        exact wk.does_eq_arr rfl e24 e28 (by kernel_rfl) (heq _) rfl
      ·
        have ho2 := (Array.getElem?_eq_some_iff.1 ho).2
        simp only [List.getElem_toArray, List.getElem_cons_succ, List.getElem_cons_zero] at ho2
        subst ho2
        clear ho
        have e23 := D.is { on := 8, ground := .data } (by simp) rfl rfl 23 rfl
        have e29 := D.is { on := 14, ground := .data } (by simp) rfl rfl 29 rfl
        exact wk.does_pick rfl e23 e29
      ·
        have ho2 := (Array.getElem?_eq_some_iff.1 ho).2
        simp only [List.getElem_toArray, List.getElem_cons_succ, List.getElem_cons_zero] at ho2
        subst ho2
        clear ho
        have e30 := D.is { on := 15, ground := .data } (by simp) rfl rfl 30 rfl
        exact wk.does_assign rfl e30
    case hdone =>
      intro vals w4 hb4 hv
      have h16 : vals 16 = .bool true := hv 16 (by simp)
      have hB4 := HB3.out.trans (hb4.mono HB3.out.size)
      clear hv
      simp only [wk.setL, Act.put, List.setIfInBounds_toArray, List.set_cons_zero, List.set_cons_succ, Nat.zero_add, Nat.reduceAdd, h16]
      generalize vals 0 = x0
      generalize vals 1 = x1
      generalize vals 2 = x2
      generalize vals 3 = x3
      generalize vals 4 = x4
      generalize vals 5 = x5
      generalize vals 6 = x6
      generalize vals 7 = x7
      generalize vals 8 = x8
      generalize vals 9 = x9
      generalize vals 10 = x10
      generalize vals 11 = x11
      generalize vals 12 = x12
      generalize vals 13 = x13
      generalize vals 14 = x14
      generalize vals 15 = x15
      go_wp2_with fail
      go_ret
      exact ⟨rfl, hB4⟩
end Go.Proofs.YtlmbacacjcbdjaaDoor.hashOfMatchesSpec
