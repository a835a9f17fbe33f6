/- MerklePeaksGrow: its walk. -/
import Derived.Test.YtmjmkkdmphgdnaaDoorNe

import Derived.Test.YtmjmkkdmphgdnaaDoorMz

namespace Go.Proofs.YtmjmkkdmphgdnaaDoor.merklePeaksGrow

open Go.ChangeShapes Go.WideShapes Go.ChangeAt Go.RowKit

open Go.Proofs.YtmjmkkdmphgdnaaDoor.mk

set_option linter.unusedVariables false
set_option maxRecDepth 100000 in
set_option maxHeartbeats 16000000 in
theorem walk (w : World) (hT : Tab w) {A : Option Addr} {n c : Nat} {l : List D} (h : IsD w A n c l) :
    Calls Tryd.prog 7 #[.slice A n c] w fun e w' => e = .returned (.bool true) ∧ Below w.heap.size w w' := by
  have hlen := h.len
  have hcap := h.cap
  have hle := h.le
  unfold maxLen at hcap
  by_cases h40 : 40 < n
  · have HT := Lib.hid hT
    clear hT h hlen
    go_enter Tryd.func7, Tryd.ntmps7
    go_wp2_with fail
    refine (sanity_calls _ HT.out).mono ?_
    rintro e w1 ⟨rfl, hb1⟩
    go_wp2_with fail
    go_ret
    exact ⟨rfl, hb1⟩
  have HI := Lib.hid h
  have HT := Lib.hid hT
  have HLEN := Lib.hid hlen
  clear h hT hlen
  go_enter Tryd.func7, Tryd.ntmps7
  go_upto_region 4 with fail
  change Code.wp _ _ _ _ (w.alloc (.cells #[.int .i64 0, .slice none 0 0] 43))
  have hq := heap_alloc_new w (.cells #[.int .i64 0, .slice none 0 0] 43)
  have hb12 : Below w.heap.size w (w.alloc (.cells #[.int .i64 0, .slice none 0 0] 43)) := (Below.refl _ _).alloc (Nat.le_refl _) _
  generalize w.alloc (.cells #[.int .i64 0, .slice none 0 0] 43) = v12 at *
  generalize hB : w.heap.size = B at *
  have HB := Lib.hid hB
  have HP0 : Hid (PRel B w l 0 v12) := Lib.hid ⟨.slice none 0 0, hq, (by rw [List.take_zero, pkD_nil]; exact World.ownsRow_nil _ _ _ _), hb12⟩
  clear hq hb12 hB
  go_wp2_with fail
  go_loopg [4] n (fun g x wr => ∃ k : Nat, k + g = n ∧ x = .int .i64 (k : Int) ∧ PRel B w l k wr)
  case atStart => exact ⟨0, by omega, rfl, HP0.out⟩
  case round =>
    obtain ⟨k, hk, rfl, hP⟩ := hrel
    obtain ⟨v, hrow, hown, hbel⟩ := hP
    have hkl : k ≤ l.length := by have := HLEN.out; omega
    have htl : (l.take k).length = k := by rw [List.length_take]; exact Nat.min_eq_left hkl
    obtain ⟨At, ct, rfl, hIt⟩ := isD_own hown rfl (pkD_16 fun d hd => HI.out.dl d (List.mem_of_mem_take hd))
    have hbW : Below w.heap.size w wr := by rw [HB.out]; exact hbel
    have HTr := Lib.hid (HT.out.next hbW)
    have HIr := Lib.hid (HI.out.below hbW)
    have hTOP := topk_calls (l.take k) At ct wr (by omega) hIt (HT.out.next hbW)
    rw [htl] at hTOP
    have HTOP := Lib.hid hTOP
    have HROW := Lib.hid hrow
    have HOWN := Lib.hid hown
    have HBEL := Lib.hid hbel
    have HIT := Lib.hid hIt
    have HTL := Lib.hid htl
    have HK := Lib.hid hk
    have hkn : k ≤ n := by omega
    have hBr : B < wr.heap.size := wk.row_lt hrow
    have h16 : (rootD (l.take k)).length = 16 := rootD_length fun d hd => HI.out.dl d (List.mem_of_mem_take hd)
    have H16 := Lib.hid h16
    clear hrow hown hbel hIt htl hk hbW hTOP h16 HP0
    have hq1 := HROW.out
    go_wp2_with (refine wpList_load_row rfl 43 (.tmp 3) rfl B rfl 43 #[.int .i64 (k : Int), .slice At (pkD (l.take k)).length ct] (0, 0) _ hq1 Tryd.underlying43 rfl infoP ?_)
    refine HTOP.out.mono ?_
    rintro e w4 ⟨rfl, hb4⟩
    clear hq1 HTOP
    have HB4 := Lib.hid hb4
    clear hb4
    have hz := dv_size H16.out
    have hz3 : hi.z16.size = (wp.bc (rootD (l.take k))).length := by rw [bc_len H16.out]; rfl
    have ho := wk.ones_bc (rootD (l.take k))
    unfold hi.z16 at hz3
    unfold dv
    go_upto_region 8 with (refine wk.store_new rfl 31 (.tmp 5) (.tmp 23) rfl 31 _ (wp.bc (rootD (l.take k))) rfl rfl hz hz3 ho ?_)
    have hbn : Below w4.heap.size w4 (w4.alloc (.cells (wp.bc (rootD (l.take k))).toArray 31)) := (Below.refl _ _).alloc (Nat.le_refl _) _
    have HQ5 := Lib.hid (heap_alloc_new w4 (.cells (wp.bc (rootD (l.take k))).toArray 31))
    have HB5 := Lib.hid (show Below wr.heap.size wr (w4.alloc (.cells (wp.bc (rootD (l.take k))).toArray 31)) from HB4.out.trans (hbn.mono HB4.out.size))
    generalize w4.alloc (.cells (wp.bc (rootD (l.take k))).toArray 31) = w5 at *
    generalize w4.heap.size = G5 at *
    clear hbn HB4 hz hz3 ho
    have hcut := (HIr.out.below HB5.out).cut (lo := 0) (hi := k) (m := c) (by omega) (by omega) (by omega) (Nat.le_refl _)
    have hrun := fun w => run_cut_h w A n c k (by omega)
    rw [show (l.drop 0).take (k - 0) = l.take k by simp] at hcut
    simp only [Nat.sub_zero] at hcut hrun
    generalize (if c = 0 then A else A.map (·.add (0 * 16))) = A2 at *
    have HCUT := Lib.hid hcut
    have HRUN := Lib.hid hrun
    clear hcut hrun
    refine wk.region_tailB 16 [.is (.int .i64 0), .is (.bool false), .is (.bool false), .is (dv (rootD (l.take k))), .is (.slice A n c), .is (.int .i64 (k : Int)), .is (.slice A2 k c), .is (dv (rootD (l.take k))), .is (.bool false), .is (.bool false), .is (.bool false), .is (.pointer (some ⟨B, 0, none⟩)), .is (.int .i64 (k : Int)), .is (.int .i64 (k : Int)), .is (.bool false), .is (.bool false)] [some 25, some 26, some 27, some 28, some 29, some 30, some 31, some 32, some 33, some 34, some 35, some 36, some 37, some 38, some 39, some 40] (by kernel_rfl) (by kernel_rfl) (by kernel_rfl) (by kernel_rfl) (by kernel_rfl) (by kernel_rfl) ?hstep ?hdone
    case hstep =>
      intro i o ho hi E w4 hb4 D
      have hi2 : i = 0 ∨ i = 1 ∨ i = 2 ∨ i = 3 ∨ i = 4 ∨ i = 5 ∨ i = 6 ∨ i = 7 ∨ i = 8 ∨ i = 9 ∨ i = 10 ∨ i = 11 ∨ i = 12 ∨ i = 13 ∨ i = 14 ∨ i = 15 := by omega
      clear hi
      rcases hi2 with rfl | rfl | rfl | rfl | rfl | rfl | rfl | rfl | rfl | rfl | rfl | rfl | rfl | rfl | rfl | rfl
      ·
        have ho2 := (Array.getElem?_eq_some_iff.1 ho).2
        simp only [List.getElem_toArray, List.getElem_cons_zero] at ho2
        subst ho2
        clear ho
        have e6 := D.old 6 (by kernel_rfl)
        exact wk.does_move rfl (by rw [e6]; rfl)
      ·
        have ho2 := (Array.getElem?_eq_some_iff.1 ho).2
        simp only [List.getElem_toArray, List.getElem_cons_succ, List.getElem_cons_zero] at ho2
        subst ho2
        clear ho
        have e25 := D.is { on := 0, ground := .data } (by simp) rfl rfl 25 rfl
        exact wk.does_bin rfl (by rw [e25, D.con]; go_simp) rfl
      ·
        have ho2 := (Array.getElem?_eq_some_iff.1 ho).2
        simp only [List.getElem_toArray, List.getElem_cons_succ, List.getElem_cons_zero] at ho2
        subst ho2
        clear ho
        have e26 := D.is { on := 1, ground := .data } (by simp) rfl rfl 26 rfl
        exact wk.does_move rfl e26
      ·
        have ho2 := (Array.getElem?_eq_some_iff.1 ho).2
        simp only [List.getElem_toArray, List.getElem_cons_succ, List.getElem_cons_zero] at ho2
        subst ho2
        clear ho
        have e5 := D.old 5 (by kernel_rfl)
        exact wk.does_load_row rfl (by rw [e5]; rfl) (wk.row_below HQ5.out ((Below.refl _ _).drew.trans hb4)) Tryd.underlying31 rfl (dv_sizeA H16.out) rfl
      ·
        have ho2 := (Array.getElem?_eq_some_iff.1 ho).2
        simp only [List.getElem_toArray, List.getElem_cons_succ, List.getElem_cons_zero] at ho2
        subst ho2
        clear ho
        have e0 := D.old 0 (by kernel_rfl)
        exact wk.does_move rfl (by rw [e0]; rfl)
      ·
        have ho2 := (Array.getElem?_eq_some_iff.1 ho).2
        simp only [List.getElem_toArray, List.getElem_cons_succ, List.getElem_cons_zero] at ho2
        subst ho2
        clear ho
        have e4 := D.old 4 (by kernel_rfl)
        exact wk.does_move rfl (by rw [e4]; rfl)
      ·
        have ho2 := (Array.getElem?_eq_some_iff.1 ho).2
        simp only [List.getElem_toArray, List.getElem_cons_succ, List.getElem_cons_zero] at ho2
        subst ho2
        clear ho
        have e29 := D.is { on := 4, ground := .data } (by simp) rfl rfl 29 rfl
        have e30 := D.is { on := 5, ground := .data } (by simp) rfl rfl 30 rfl
        exact wk.does_run (wk.op_slice rfl e29 rfl (by rw [Option.map_some, e30]) rfl (HRUN.out _)) rfl
      ·
        have ho2 := (Array.getElem?_eq_some_iff.1 ho).2
        simp only [List.getElem_toArray, List.getElem_cons_succ, List.getElem_cons_zero] at ho2
        subst ho2
        clear ho
        have e31 := D.is { on := 6, ground := .data } (by simp) rfl rfl 31 rfl
        refine wk.does_fn (f := 15) (vs := #[.slice A2 k c]) rfl (D.fn _) (by simp [e31]) (by go_simp) ?_
        refine (root_calls k A2 c (l.take k) w4 (HCUT.out.below ((Below.refl _ _).drew.trans hb4)) ((HTr.out.next HB5.out).next ((Below.refl _ _).drew.trans hb4))).mono ?_
        rintro e w6 ⟨rfl, hb6⟩
        exact ⟨_, rfl, hb6, rfl⟩
      ·
        have ho2 := (Array.getElem?_eq_some_iff.1 ho).2
        simp only [List.getElem_toArray, List.getElem_cons_succ, List.getElem_cons_zero] at ho2
        subst ho2
        clear ho
        have e28 := D.is { on := 3, ground := .data } (by simp) rfl rfl 28 rfl
        have e32 := D.is { on := 7, ground := .data } (by simp) rfl rfl 32 rfl
        exact does_neq_arr rfl e28 e32 (by kernel_rfl) (b := true) (by have h := eq_dv w4 _ _ H16.out H16.out; rw [beq_self_eq_true] at h; exact h) rfl
      ·
        have ho2 := (Array.getElem?_eq_some_iff.1 ho).2
        simp only [List.getElem_toArray, List.getElem_cons_succ, List.getElem_cons_zero] at ho2
        subst ho2
        clear ho
        have e27 := D.is { on := 2, ground := .data } (by simp) rfl rfl 27 rfl
        have e33 := D.is { on := 8, ground := .data } (by simp) rfl rfl 33 rfl
        exact wk.does_pick rfl e27 e33
      ·
        have ho2 := (Array.getElem?_eq_some_iff.1 ho).2
        simp only [List.getElem_toArray, List.getElem_cons_succ, List.getElem_cons_zero] at ho2
        subst ho2
        clear ho
        have e34 := D.is { on := 9, ground := .data } (by simp) rfl rfl 34 rfl
        exact wk.does_move rfl e34
      ·
        have ho2 := (Array.getElem?_eq_some_iff.1 ho).2
        simp only [List.getElem_toArray, List.getElem_cons_succ, List.getElem_cons_zero] at ho2
        subst ho2
        clear ho
        have e3 := D.old 3 (by kernel_rfl)
        exact wk.does_run (by simp only [execOp]; rw [show E (.tmp 3) = .pointer (some ⟨B, 0, none⟩) by rw [e3]; rfl]; go_simp) rfl
      ·
        have ho2 := (Array.getElem?_eq_some_iff.1 ho).2
        simp only [List.getElem_toArray, List.getElem_cons_succ, List.getElem_cons_zero] at ho2
        subst ho2
        clear ho
        have e36 := D.is { on := 11, ground := .data } (by simp) rfl rfl 36 rfl
        exact wk.does_load1 rfl e36 (cell2_0 (wk.row_below (wk.row_below HROW.out HB5.out) ((Below.refl _ _).drew.trans hb4))) Tryd.underlying3 rfl rfl
      ·
        have ho2 := (Array.getElem?_eq_some_iff.1 ho).2
        simp only [List.getElem_toArray, List.getElem_cons_succ, List.getElem_cons_zero] at ho2
        subst ho2
        clear ho
        have e4 := D.old 4 (by kernel_rfl)
        exact wk.does_move rfl (by rw [e4]; rfl)
      ·
        have ho2 := (Array.getElem?_eq_some_iff.1 ho).2
        simp only [List.getElem_toArray, List.getElem_cons_succ, List.getElem_cons_zero] at ho2
        subst ho2
        clear ho
        have e37 := D.is { on := 12, ground := .data } (by simp) rfl rfl 37 rfl
        have e38 := D.is { on := 13, ground := .data } (by simp) rfl rfl 38 rfl
        exact wk.does_bin rfl (by rw [e37, e38]; go_simp) rfl
      ·
        have ho2 := (Array.getElem?_eq_some_iff.1 ho).2
        simp only [List.getElem_toArray, List.getElem_cons_succ, List.getElem_cons_zero] at ho2
        subst ho2
        clear ho
        have e35 := D.is { on := 10, ground := .data } (by simp) rfl rfl 35 rfl
        have e39 := D.is { on := 14, ground := .data } (by simp) rfl rfl 39 rfl
        exact wk.does_pick rfl e35 e39
    case hdone =>
      intro vals w4 hb4 hv
      have h15 := hv 15 (by omega)
      clear hv
      replace h15 : vals 15 = (.bool false) := h15
      simp only [List.drop_succ_cons, List.drop_zero, wpList, Act.put, wk.setL, List.setIfInBounds_toArray, List.set_cons_zero, List.set_cons_succ, Nat.zero_add, Nat.reduceAdd, h15]
      generalize vals 0 = x0
      generalize vals 1 = x1
      generalize vals 2 = x2
      generalize vals 3 = x3
      generalize vals 4 = x4
      generalize vals 5 = x5
      generalize vals 6 = x6
      generalize vals 7 = x7
      generalize vals 8 = x8
      generalize vals 9 = x9
      generalize vals 10 = x10
      generalize vals 11 = x11
      generalize vals 12 = x12
      generalize vals 13 = x13
      generalize vals 14 = x14
      have HB6 := Lib.hid (show Below wr.heap.size wr w4 from HB5.out.trans (((Below.refl _ _).drew.trans hb4).mono HB5.out.size))
      clear hb4 HB5 HCUT HRUN HQ5
      obtain ⟨wa, rfl⟩ : ∃ x : World, x = w4 := ⟨_, rfl⟩
      by_cases hkn2 : k = n
      · subst hkn2
        go_wp2_with fail
        refine (sanity_calls _ (HTr.out.next HB6.out)).mono ?_
        rintro e w9 ⟨rfl, hb9⟩
        have HB9 := Lib.hid (HB6.out.trans (hb9.mono HB6.out.size))
        clear hb9
        go_wp2_with fail
        go_ret
        exact ⟨rfl, by rw [HB.out]; exact HBEL.out.trans (HB9.out.mono (by omega))⟩
      · have hlt : k < n := by omega
        have hne : ((k : Int) == (n : Int)) = false := by simp; omega
        have hrowa := wk.row_below HROW.out HB6.out
        have hc1 := cell2_1 (wk.row_below hrowa ((Below.refl wa.heap.size wa).alloc (Nat.le_refl _) (.cells #[] 31)))
        have hown0 : (wa.alloc (.cells #[] 31)).ownsRow wa.heap.size 31 16 (.slice (some ⟨wa.heap.size, 0, none⟩) 0 0) 0 [] := World.ownsRow_made wa #[] 0 (Nat.le_refl _) (by unfold maxLen; omega) rfl
        have hownT := wk.ownsRow_below (wk.ownsRow_below HOWN.out HB6.out) ((Below.refl wa.heap.size wa).alloc (Nat.le_refl _) (.cells #[] 31))
        have hones : wk.Ones ((pkD (l.take k)).flatMap wp.bc) := fun u hu => by
          obtain ⟨d, _, hd⟩ := List.mem_flatMap.1 hu
          exact wp.bc_one u hd
        have hplen : (pkD (l.take k)).length ≤ 64 := by rw [pkD_len]; exact pop_le _ _
        have hbase : wa.heap.size ≤ (wa.alloc (.cells #[] 31)).heap.size := by simp
        go_wp2_with (at_builtin; refine list_appendO rfl (.tmp 45) (.tmp 47) rfl wa.heap.size (.slice (some ⟨wa.heap.size, 0, none⟩) 0 0) 0 [] rfl hown0 (B + 1) (.slice At (pkD (l.take k)).length ct) (pkD (l.take k)).length ((pkD (l.take k)).flatMap wp.bc) rfl hownT hones (by omega) hbase ?_; intro v7 w7 hown7 hgrow; rw [Nat.zero_add, List.nil_append] at hown7; have HOWN7 := Lib.hid hown7; have HGR := Lib.hid hgrow; clear hown7 hgrow)
        have hb7 : Below wa.heap.size wa w7 := ((Below.refl _ _).alloc (Nat.le_refl _) _).grown HGR.out (by simp) (fun q hq => by cases hq; exact Nat.le_refl _)
        have hb7r : Below wr.heap.size wr w7 := HB6.out.trans (hb7.mono HB6.out.size)
        obtain ⟨A7, c7, rfl, hI7⟩ := isD_own HOWN7.out rfl (pkD_16 fun d hd => HI.out.dl d (List.mem_of_mem_take hd))
        have HI7 := Lib.hid hI7
        have HB7 := Lib.hid hb7r
        have HROW7 := Lib.hid (wk.row_below HROW.out hb7r)
        clear hc1 hown0 hownT hones hbase HOWN7 HGR hb7 hb7r hI7 hrowa
        have hleaf : l[k]? = some (l[k]'(by have := HLEN.out; omega)) := List.getElem?_eq_getElem _
        have hl16 := HI.out.dl _ (List.getElem_mem (show k < l.length by have := HLEN.out; omega))
        have hgrow := pkD_grow (l := l.take k) (x := l[k]'(by have := HLEN.out; omega)) (by rw [HTL.out]; omega)
        rw [HTL.out, List.take_append_getElem (by have := HLEN.out; omega)] at hgrow
        obtain ⟨ad, hidx, hld⟩ := (HIr.out.below HB7.out).load (i := (k : Int)) (by omega) (d := l[k]'(by have := HLEN.out; omega)) (by rw [Int.toNat_natCast]; exact hleaf)
        have hpl : (pkD (l.take k)).length = pop 64 k := by rw [pkD_len, HTL.out]
        generalize l[k]'(by have := HLEN.out; omega) = leaf at *
        have HGROW := Lib.hid hgrow
        have HIDX := Lib.hid hidx
        have HLD := Lib.hid hld
        have HL16 := Lib.hid hl16
        have HPL := Lib.hid hpl
        clear hleaf hgrow hidx hld hl16 hpl
        go_upto_region 12 with fail
        refine wk.region_lev2 12 (GRel (w7.heap.size) (fun i => ([(pk (k : Int) (.slice At (pkD (l.take k)).length ct)), (.slice A n c), (.int .i64 (k : Int)), (.pointer (some ad)), (dv leaf), undef, undef, undef, (.int .i64 0), undef, undef, (.int .i64 0)] : List Value).getD i undef) ((k + 1 : Nat)) ((car 64 k (pkD (l.take k)) leaf).1.length + 1) (((car 64 k (pkD (l.take k)) leaf).1 ++ [(car 64 k (pkD (l.take k)) leaf).2]).flatMap wp.bc)) [some 50, some 51, some 52, some 53, some 54, some 55, some 49, some 56, some 57, some 8, none, some 9] (fun L u => (L 10 = true → L 9 = true) ∧ Below w7.drew.heap.size w7.drew u) ⟨fun h => (by cases h), Below.refl _ _⟩ (by kernel_rfl) (by kernel_rfl) (by kernel_rfl) (by kernel_rfl) (by kernel_rfl) (by kernel_rfl) ?hstep ?hdone
        case hstep =>
          intro i o ho hi E L w4 hS4 hL hdeps DG
          obtain ⟨hcl, hb4⟩ := hS4
          have hi2 : i = 0 ∨ i = 1 ∨ i = 2 ∨ i = 3 ∨ i = 4 ∨ i = 5 ∨ i = 6 ∨ i = 7 ∨ i = 8 ∨ i = 9 ∨ i = 10 ∨ i = 11 := by omega
          clear hi
          rcases hi2 with rfl | rfl | rfl | rfl | rfl | rfl | rfl | rfl | rfl | rfl | rfl | rfl
          ·
            have ho2 := (Array.getElem?_eq_some_iff.1 ho).2
            simp only [List.getElem_toArray, List.getElem_cons_zero] at ho2
            subst ho2
            clear ho
            have e3 := DG.old 3 (by kernel_rfl)
            refine wk.Does.weak (R := fun _ v => v = pk (k : Int) (.slice At (pkD (l.take k)).length ct)) ?_ fun w' v hb hr => ⟨hr, fun j u _ _ => GRel.next rfl hb j u, hcl, hb4.trans (hb.mono hb4.size)⟩
            exact wk.does_load_row rfl (by rw [e3]; rfl) (wk.row_below HROW7.out ((Below.refl _ _).drew.trans hb4)) Tryd.underlying43 rfl infoP rfl
          ·
            have ho2 := (Array.getElem?_eq_some_iff.1 ho).2
            simp only [List.getElem_toArray, List.getElem_cons_succ, List.getElem_cons_zero] at ho2
            subst ho2
            clear ho
            have e0 := DG.old 0 (by kernel_rfl)
            refine wk.Does.weak (R := fun _ v => v = .slice A n c) ?_ fun w' v hb hr => ⟨hr, fun j u _ _ => GRel.next rfl hb j u, hcl, hb4.trans (hb.mono hb4.size)⟩
            exact wk.does_move rfl (by rw [e0]; rfl)
          ·
            have ho2 := (Array.getElem?_eq_some_iff.1 ho).2
            simp only [List.getElem_toArray, List.getElem_cons_succ, List.getElem_cons_zero] at ho2
            subst ho2
            clear ho
            have e4 := DG.old 4 (by kernel_rfl)
            refine wk.Does.weak (R := fun _ v => v = .int .i64 (k : Int)) ?_ fun w' v hb hr => ⟨hr, fun j u _ _ => GRel.next rfl hb j u, hcl, hb4.trans (hb.mono hb4.size)⟩
            exact wk.does_move rfl (by rw [e4]; rfl)
          ·
            have ho2 := (Array.getElem?_eq_some_iff.1 ho).2
            simp only [List.getElem_toArray, List.getElem_cons_succ, List.getElem_cons_zero] at ho2
            subst ho2
            clear ho
            have e51 : E (.tmp 51) = .slice A n c := DG.is { on := 1, ground := .data } (by simp) rfl 51 rfl
            have e52 : E (.tmp 52) = .int .i64 (k : Int) := DG.is { on := 2, ground := .data } (by simp) rfl 52 rfl
            refine wk.Does.weak (R := fun _ v => v = .pointer (some ad)) ?_ fun w' v hb hr => ⟨hr, fun j u _ _ => GRel.next rfl hb j u, hcl, hb4.trans (hb.mono hb4.size)⟩
            exact wk.does_run (op_index rfl e51 e52 (HIDX.out _)) rfl
          ·
            have ho2 := (Array.getElem?_eq_some_iff.1 ho).2
            simp only [List.getElem_toArray, List.getElem_cons_succ, List.getElem_cons_zero] at ho2
            subst ho2
            clear ho
            have e53 : E (.tmp 53) = .pointer (some ad) := DG.is { on := 3, ground := .data } (by simp) rfl 53 rfl
            refine wk.Does.weak (R := fun _ v => v = dv leaf) ?_ fun w' v hb hr => ⟨hr, fun j u _ _ => GRel.next rfl hb j u, hcl, hb4.trans (hb.mono hb4.size)⟩
            exact wk.does_load_agg rfl e53 (HLD.out _ ((Below.refl _ _).drew.trans hb4)) Tryd.underlying31 rfl (dv_size HL16.out) rfl
          ·
            have ho2 := (Array.getElem?_eq_some_iff.1 ho).2
            simp only [List.getElem_toArray, List.getElem_cons_succ, List.getElem_cons_zero] at ho2
            subst ho2
            clear ho
            have e50 : E (.tmp 50) = pk (k : Int) (.slice At (pkD (l.take k)).length ct) := DG.is { on := 0, ground := .data } (by simp) rfl 50 rfl
            have e54 : E (.tmp 54) = dv leaf := DG.is { on := 4, ground := .data } (by simp) rfl 54 rfl
            refine wk.Does.weak (R := fun w' v => ∃ v2, v = .tuple #[pk ((k + 1 : Nat)) v2, .int .i64 0] ∧ w'.ownsRow (w7.heap.size) 31 16 v2 ((car 64 k (pkD (l.take k)) leaf).1.length + 1) (((car 64 k (pkD (l.take k)) leaf).1 ++ [(car 64 k (pkD (l.take k)) leaf).2]).flatMap wp.bc)) ?_ fun w' v hb hr => ⟨hr, fun j u _ _ => GRel.next rfl hb j u, hcl, hb4.trans (hb.mono hb4.size)⟩
            refine wk.does_fn (f := 25) (vs := #[pk (k : Int) (.slice At (pkD (l.take k)).length ct), dv leaf]) rfl (DG.fn _) (by simp [e50, e54]) (by go_simp) ?_
            refine (append_calls k At _ ct _ leaf _ ((HIT.out.below HB7.out).below ((Below.refl _ _).drew.trans hb4)) HL16.out ((HTr.out.next HB7.out).next ((Below.refl _ _).drew.trans hb4)) (by omega) HPL.out).mono ?_
            rintro e w5 ⟨v2, rfl, ho5, hb5⟩
            exact ⟨_, rfl, hb5, v2, rfl, ownsRow_weak ho5 ((Below.refl _ _).drew.trans hb4).size⟩
          ·
            have ho2 := (Array.getElem?_eq_some_iff.1 ho).2
            simp only [List.getElem_toArray, List.getElem_cons_succ, List.getElem_cons_zero] at ho2
            subst ho2
            clear ho
            have s55 : GRel (w7.heap.size) (fun i => ([(pk (k : Int) (.slice At (pkD (l.take k)).length ct)), (.slice A n c), (.int .i64 (k : Int)), (.pointer (some ad)), (dv leaf), undef, undef, undef, (.int .i64 0), undef, undef, (.int .i64 0)] : List Value).getD i undef) ((k + 1 : Nat)) ((car 64 k (pkD (l.take k)) leaf).1.length + 1) (((car 64 k (pkD (l.take k)) leaf).1 ++ [(car 64 k (pkD (l.take k)) leaf).2]).flatMap wp.bc) L 5 w4 (E (.tmp 55)) := DG.is { on := 5, ground := .data } (by simp) rfl 55 rfl
            refine wk.Does.weak (R := fun w' v => ∃ v2, v = .tuple #[pk ((k + 1 : Nat)) v2, .int .i64 0] ∧ w'.ownsRow (w7.heap.size) 31 16 v2 ((car 64 k (pkD (l.take k)) leaf).1.length + 1) (((car 64 k (pkD (l.take k)) leaf).1 ++ [(car 64 k (pkD (l.take k)) leaf).2]).flatMap wp.bc)) ?_ fun w' v hb hr => ⟨hr, fun j u _ _ => GRel.next rfl hb j u, hcl, hb4.trans (hb.mono hb4.size)⟩
            exact wk.does_move rfl s55
          ·
            have ho2 := (Array.getElem?_eq_some_iff.1 ho).2
            simp only [List.getElem_toArray, List.getElem_cons_succ, List.getElem_cons_zero] at ho2
            subst ho2
            clear ho
            have s49 : GRel (w7.heap.size) (fun i => ([(pk (k : Int) (.slice At (pkD (l.take k)).length ct)), (.slice A n c), (.int .i64 (k : Int)), (.pointer (some ad)), (dv leaf), undef, undef, undef, (.int .i64 0), undef, undef, (.int .i64 0)] : List Value).getD i undef) ((k + 1 : Nat)) ((car 64 k (pkD (l.take k)) leaf).1.length + 1) (((car 64 k (pkD (l.take k)) leaf).1 ++ [(car 64 k (pkD (l.take k)) leaf).2]).flatMap wp.bc) L 6 w4 (E (.tmp 49)) := DG.is { on := 6, ground := .data } (by simp) rfl 49 rfl
            refine wk.Does.weak (R := fun w' v => ∃ v2, v = pk ((k + 1 : Nat)) v2 ∧ w'.ownsRow (w7.heap.size) 31 16 v2 ((car 64 k (pkD (l.take k)) leaf).1.length + 1) (((car 64 k (pkD (l.take k)) leaf).1 ++ [(car 64 k (pkD (l.take k)) leaf).2]).flatMap wp.bc)) ?_ fun w' v hb hr => ⟨hr, fun j u _ _ => GRel.next rfl hb j u, hcl, hb4.trans (hb.mono hb4.size)⟩
            obtain ⟨v2, hv2, ho2⟩ := s49
            exact wk.does_extract rfl hv2 rfl ⟨v2, rfl, ho2⟩
          ·
            have ho2 := (Array.getElem?_eq_some_iff.1 ho).2
            simp only [List.getElem_toArray, List.getElem_cons_succ, List.getElem_cons_zero] at ho2
            subst ho2
            clear ho
            have s49 : GRel (w7.heap.size) (fun i => ([(pk (k : Int) (.slice At (pkD (l.take k)).length ct)), (.slice A n c), (.int .i64 (k : Int)), (.pointer (some ad)), (dv leaf), undef, undef, undef, (.int .i64 0), undef, undef, (.int .i64 0)] : List Value).getD i undef) ((k + 1 : Nat)) ((car 64 k (pkD (l.take k)) leaf).1.length + 1) (((car 64 k (pkD (l.take k)) leaf).1 ++ [(car 64 k (pkD (l.take k)) leaf).2]).flatMap wp.bc) L 6 w4 (E (.tmp 49)) := DG.is { on := 6, ground := .data } (by simp) rfl 49 rfl
            refine wk.Does.weak (R := fun _ v => v = .int .i64 0) ?_ fun w' v hb hr => ⟨hr, fun j u _ _ => GRel.next rfl hb j u, hcl, hb4.trans (hb.mono hb4.size)⟩
            obtain ⟨v2, hv2, ho2⟩ := s49
            exact wk.does_extract rfl hv2 rfl rfl
          ·
            have ho2 := (Array.getElem?_eq_some_iff.1 ho).2
            simp only [List.getElem_toArray, List.getElem_cons_succ, List.getElem_cons_zero] at ho2
            subst ho2
            clear ho
            have hL10 : L 10 = false := by cases h : L 10; rfl; rw [hcl h] at hL; cases hL
            refine wk.Does.weak (R := fun w' v => ∃ g, v = .pointer (some ⟨g, 0, none⟩) ∧ w7.heap.size ≤ g ∧ w'.heap[g]? = some (.cells #[.int .i64 0, .slice none 0 0] 43 (0, 0))) ?_ fun w' v hb hr => ⟨?_, fun j u _ _ => GRel.next rfl hb j u, fun _ => rfl, hb4.trans (hb.mono hb4.size)⟩
            · exact wk.does_new (v := .pointer (some ⟨w4.heap.size, 0, none⟩)) (w' := w4.alloc (.cells #[.int .i64 0, .slice none 0 0] 43)) (by unfold execOp; go_simp) ((Below.refl _ _).alloc (Nat.le_refl _) _) ⟨_, rfl, hb4.size, heap_alloc_new _ _⟩
            · obtain ⟨g, h1, h2, h3⟩ := hr
              exact ⟨g, h1, h2, fun _ => h3, fun h => by have h' : L 10 = true := h; rw [hL10] at h'; cases h'⟩
          ·
            have ho2 := (Array.getElem?_eq_some_iff.1 ho).2
            simp only [List.getElem_toArray, List.getElem_cons_succ, List.getElem_cons_zero] at ho2
            subst ho2
            clear ho
            have s8 : GRel (w7.heap.size) (fun i => ([(pk (k : Int) (.slice At (pkD (l.take k)).length ct)), (.slice A n c), (.int .i64 (k : Int)), (.pointer (some ad)), (dv leaf), undef, undef, undef, (.int .i64 0), undef, undef, (.int .i64 0)] : List Value).getD i undef) ((k + 1 : Nat)) ((car 64 k (pkD (l.take k)) leaf).1.length + 1) (((car 64 k (pkD (l.take k)) leaf).1 ++ [(car 64 k (pkD (l.take k)) leaf).2]).flatMap wp.bc) L 9 w4 (E (.tmp 8)) := DG.is { on := 9, ground := .data } (by simp) rfl 8 rfl
            have s56 : GRel (w7.heap.size) (fun i => ([(pk (k : Int) (.slice At (pkD (l.take k)).length ct)), (.slice A n c), (.int .i64 (k : Int)), (.pointer (some ad)), (dv leaf), undef, undef, undef, (.int .i64 0), undef, undef, (.int .i64 0)] : List Value).getD i undef) ((k + 1 : Nat)) ((car 64 k (pkD (l.take k)) leaf).1.length + 1) (((car 64 k (pkD (l.take k)) leaf).1 ++ [(car 64 k (pkD (l.take k)) leaf).2]).flatMap wp.bc) L 7 w4 (E (.tmp 56)) := DG.is { on := 7, ground := .data } (by simp) rfl 56 rfl
            have hL9 : L 9 = true := hdeps { on := 9, ground := .data } (by simp) rfl
            obtain ⟨g, h19, hlo, hz, _⟩ := s8
            obtain ⟨v2, h74, hown⟩ := s56
            exact wk.does_store_t rfl (cs := [.int .i64 ((k + 1 : Nat)), v2]) h19 h74 (hz hL) infoP rfl (ones_pk _ hown) ⟨trivial, fun j u hj hu hr => GRel.store (hz hL) hown hL h19 j u (fun e => by subst e; exact hu 8 rfl) hr, fun _ => hL9, wk.below_setRow hb4 hlo _⟩
          ·
            have ho2 := (Array.getElem?_eq_some_iff.1 ho).2
            simp only [List.getElem_toArray, List.getElem_cons_succ, List.getElem_cons_zero] at ho2
            subst ho2
            clear ho
            have e57 : E (.tmp 57) = .int .i64 0 := DG.is { on := 8, ground := .data } (by simp) rfl 57 rfl
            refine wk.Does.weak (R := fun _ v => v = .int .i64 0) ?_ fun w' v hb hr => ⟨hr, fun j u _ _ => GRel.next rfl hb j u, hcl, hb4.trans (hb.mono hb4.size)⟩
            exact wk.does_assign rfl e57
        case hdone =>
          intro vals L w4 hall hS4 hv
          obtain ⟨_, hb4⟩ := hS4
          have h10 := hall 10 (by omega)
          obtain ⟨g, h9, hglo, _, hfin⟩ := hv 9 (by omega)
          obtain ⟨v2, hrow4, hown4⟩ := hfin h10
          have h11 : vals 11 = .int .i64 0 := hv 11 (by omega)
          clear hv hfin h10 hall
          simp only [List.drop_succ_cons, List.drop_zero, List.drop_nil, wpList, wk.setL, List.setIfInBounds_toArray, List.set_cons_zero, List.set_cons_succ, Nat.zero_add, Nat.reduceAdd, h9, h11]
          generalize vals 0 = x0
          generalize vals 1 = x1
          generalize vals 2 = x2
          generalize vals 3 = x3
          generalize vals 4 = x4
          generalize vals 5 = x5
          generalize vals 6 = x6
          generalize vals 7 = x7
          generalize vals 8 = x8
          have HROW4 := Lib.hid hrow4
          have HOWN4 := Lib.hid hown4
          have HB48 := Lib.hid (show Below w7.heap.size w7 w4 from ((Below.refl _ _).drew.trans hb4))
          have HB8 := Lib.hid (HB7.out.trans (HB48.out.mono HB7.out.size))
          have HGLO := Lib.hid hglo
          clear hrow4 hown4 hb4 hglo
          have hrowb := wk.row_below HROW.out HB8.out
          have hc0 := cell2_0 hrowb
          have hc1 := cell2_1 hrowb
          go_wp2_with fail
          refine (same_true At A7 _ ct c7 _ _ (HIT.out.below HB8.out) (HI7.out.below HB48.out) (by omega)).mono ?_
          rintro e w9 ⟨rfl, q, hq⟩
          have hbq : Below w4.heap.size w4 w9 := by rw [hq]; exact wk.below_drewN (Below.refl _ _) q
          clear hq
          have hq17 := wk.row_below hrowb hbq
          have hc0' := cell2_0 hq17
          have hq19 := wk.row_below HROW4.out hbq
          have hown9 := wk.ownsRow_below HOWN4.out hbq
          have hB9 := HB8.out.trans (hbq.mono HB8.out.size)
          have hones := ones_pk ((k + 1 : Nat) : Int) hown9
          have hsz7 : B + 1 ≤ w7.heap.size := wk.row_lt HROW7.out
          have hown5 := ownsRow_setRow (ownsRow_weak hown9 hsz7) (B := B) (by omega) #[.int .i64 ((k + 1 : Nat) : Int), v2]
          rw [HGROW.out, show (car 64 k (pkD (l.take k)) leaf).1.length + 1 = (pkD (l.take (k + 1))).length by rw [← HGROW.out]; simp] at hown5
          have HOWN5 := Lib.hid hown5
          have HB5 := Lib.hid (show Below B w (w9.setRow B #[.int .i64 ((k + 1 : Nat) : Int), v2]) from wk.below_setRow (HBEL.out.trans (hB9.mono (by omega))) (Nat.le_refl _) _)
          clear hown5 hB9 hown9 hbq hrowb hc0 hc1
          go_wp2_with (first | (refine wpList_load_row rfl 43 (.tmp 8) rfl g rfl 43 #[.int .i64 ((k + 1 : Nat) : Int), v2] (0, 0) _ hq19 Tryd.underlying43 rfl infoP ?_) | (refine wk.store_row rfl 43 (.tmp 3) (.tmp 73) rfl B [.int .i64 ((k + 1 : Nat) : Int), v2] rfl rfl 43 _ hq17 infoP rfl hones ?_))
          go_roundg (gk - 1)
          case measure => have := HK.out; omega
          case rel => exact ⟨k + 1, by have := HK.out; omega, by go_num, v2, setRow_heap _ _ _ _ _ _ hq17, HOWN5.out, HB5.out⟩
      
end Go.Proofs.YtmjmkkdmphgdnaaDoor.merklePeaksGrow
