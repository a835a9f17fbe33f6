/- MerkleProofsMatchSpec: its walk. -/
import Derived.Test.YtmjmkkdmphgdnaaDoorNm

import Derived.Test.YtmjmkkdmphgdnaaDoorNh

import Derived.Test.YtmjmkkdmphgdnaaDoorMz

namespace Go.Proofs.YtmjmkkdmphgdnaaDoor.merkleProofsMatchSpec

open Go.ChangeShapes Go.WideShapes Go.ChangeAt Go.RowKit

open Go.Proofs.YtmjmkkdmphgdnaaDoor.mk

set_option linter.unusedVariables false
def pathRow (w : World) (g : Nat) (a b : Value) : Prop := w.heap[g]? = some (.cells #[a, b] 28 (0, 0))
theorem cell2_0 {w : World} {g : Nat} {a b : Value} {t : TypeId} (h : w.heap[g]? = some (.cells #[a, b] t (0, 0))) : w.cell? ⟨g, 0, none⟩ = some a := by
  rw [cell_of_row _ _ _ _ _ _ h]; rfl
theorem cell2_1 {w : World} {g : Nat} {a b : Value} {t : TypeId} (h : w.heap[g]? = some (.cells #[a, b] t (0, 0))) : w.cell? ⟨g, 1, none⟩ = some b := by
  rw [cell_of_row _ _ _ _ _ _ h]; rfl
set_option maxRecDepth 100000 in
set_option maxHeartbeats 16000000 in
theorem walk (w : World) (hT : Tab w) {A : Option Addr} {n c : Nat} {l : List D} (h : IsD w A n c l) {i m : Int} (w1 : (Lit.int .i64 i).wf = true) (w2 : (Lit.int .i64 m).wf = true) {s : ByteArray} (w3 : s.size ≤ maxLen) :
    Calls Tryd.prog 3 #[.slice A n c, .int .i64 i, .int .i64 m, .string s] w fun e w' => e = .returned (.bool true) ∧ Below w.heap.size w w' := by
  have hlen := h.len
  have hcap := h.cap
  have hle := h.le
  unfold maxLen at hcap
  have HS : Hid (RS w [] [(A, n, c, l)] w) := ⟨fun p hp => (by cases hp), fun s hs => (by rw [List.mem_singleton.1 hs]; exact h), hT, Below.refl _ _⟩
  have HL16 := Lib.hid h.dl
  clear hT h w1 w2 w3
  by_cases h0 : 40 < n
  · go_enter Tryd.func3, Tryd.ntmps3
    go_wp2_with fail
    refine (sanity_calls _ HS.out.tab).mono ?_
    rintro e w5 ⟨rfl, hb5⟩
    have HB5 := Lib.hid hb5
    clear hb5
    go_wp2_with fail
    go_ret
    exact ⟨rfl, HB5.out⟩
  by_cases h1 : 200 < s.size
  · have h00 : n ≤ 40 := by omega
    go_enter Tryd.func3, Tryd.ntmps3
    go_wp2_with fail
    refine (sanity_calls _ HS.out.tab).mono ?_
    rintro e w5 ⟨rfl, hb5⟩
    have HB5 := Lib.hid hb5
    clear hb5
    go_wp2_with fail
    go_ret
    exact ⟨rfl, HB5.out⟩
  have h00 : n ≤ 40 := by omega
  have h11 : s.size ≤ 200 := by omega
  clear h0 h1
  go_enter Tryd.func3, Tryd.ntmps3
  go_wp2_with fail
  refine (incl_calls A n c l i _ (HS.out.sls (A, n, c, l) (by simp)) HS.out.tab (by omega)).mono ?_
  rintro e w1 ⟨v, rfl, ho, hb⟩
  obtain ⟨A1, c1, rfl, hI⟩ := isD_own ho rfl (inclP_16 HL16.out _)
  replace HS := Lib.hid ((HS.out.next hb).sl hI)
  clear ho hI hb
  go_wp2_with fail
  refine (cons_calls A n c l m _ (HS.out.sls (A, n, c, l) (by simp)) HS.out.tab (by omega)).mono ?_
  rintro e w2 ⟨v, rfl, ho, hb⟩
  obtain ⟨A2, c2, rfl, hI⟩ := isD_own ho rfl (consP_16 HL16.out _)
  replace HS := Lib.hid ((HS.out.next hb).sl hI)
  clear ho hI hb
  go_wp2_with fail
  refine (rinclP_calls n A c l i _ (HS.out.sls (A, n, c, l) (by simp)) (by omega) HS.out.tab).mono ?_
  rintro e w3 ⟨v, rfl, ho, hb⟩
  obtain ⟨A3, c3, rfl, hI⟩ := isD_own ho rfl (inclP_16 HL16.out _)
  have hones := own_one ho (inclE n i)
  replace HS := Lib.hid ((HS.out.next hb).sl hI)
  clear ho hI hb
  go_upto_region 6 with (refine wk.store_new rfl 28 (.tmp 13) (.tmp 40) rfl 28 _ [.slice A3 _ c3, .int .i64 (inclE n i)] rfl rfl infoPath rfl hones ?_)
  have hq := heap_alloc_new w3 (.cells #[.slice A3 (inclP l i).length c3, .int .i64 (inclE n i)] 28)
  have hb := (Below.refl w3.heap.size w3).alloc (Nat.le_refl _) (.cells #[.slice A3 (inclP l i).length c3, .int .i64 (inclE n i)] 28)
  change Code.wp _ _ _ _ (w3.alloc (.cells #[.slice A3 (inclP l i).length c3, .int .i64 (inclE n i)] 28))
  replace HS := Lib.hid (HS.out.next hb)
  generalize w3.alloc (.cells #[.slice A3 (inclP l i).length c3, .int .i64 (inclE n i)] 28) = w4 at *
  generalize w3.heap.size = g13 at *
  have Q13 := Lib.hid hq
  clear hq hb hones
  go_wp2_with fail
  refine (rconsP_calls n A c l m _ (HS.out.sls (A, n, c, l) (by simp)) (by omega) HS.out.tab).mono ?_
  rintro e w5 ⟨v, rfl, ho, hb⟩
  obtain ⟨A4, c4, rfl, hI⟩ := isD_own ho rfl (consP_16 HL16.out _)
  have hones := own_one ho (consE n m)
  replace HS := Lib.hid ((HS.out.next hb).sl hI)
  replace Q13 := Lib.hid (wk.row_below Q13.out hb)
  clear ho hI hb
  go_upto_region 7 with (refine wk.store_new rfl 28 (.tmp 14) (.tmp 43) rfl 28 _ [.slice A4 _ c4, .int .i64 (consE n m)] rfl rfl infoPath rfl hones ?_)
  have hq := heap_alloc_new w5 (.cells #[.slice A4 (consP l m).length c4, .int .i64 (consE n m)] 28)
  have hb := (Below.refl w5.heap.size w5).alloc (Nat.le_refl _) (.cells #[.slice A4 (consP l m).length c4, .int .i64 (consE n m)] 28)
  change Code.wp _ _ _ _ (w5.alloc (.cells #[.slice A4 (consP l m).length c4, .int .i64 (consE n m)] 28))
  replace HS := Lib.hid (HS.out.next hb)
  replace Q13 := Lib.hid (wk.row_below Q13.out hb)
  generalize w5.alloc (.cells #[.slice A4 (consP l m).length c4, .int .i64 (consE n m)] 28) = w6 at *
  generalize w5.heap.size = g14 at *
  have Q14 := Lib.hid hq
  clear hq hb hones
  go_wp2_with fail
  refine (leaf_calls s (by omega) _ HS.out.tab).mono ?_
  rintro e w7 ⟨rfl, hb⟩
  replace HS := Lib.hid (HS.out.next hb)
  replace Q13 := Lib.hid (wk.row_below Q13.out hb)
  replace Q14 := Lib.hid (wk.row_below Q14.out hb)
  clear hb
  have d15 : (leafD s.data.toList).length = 16 := dig_length _ _
  have D15 := Lib.hid d15
  have hz := dv_size d15
  have hz3 : hi.z16.size = (wp.bc (leafD s.data.toList)).length := by rw [bc_len d15]; rfl
  have ho := wk.ones_bc (leafD s.data.toList)
  unfold hi.z16 at hz3
  unfold dv
  go_upto_region 8 with (refine wk.store_new rfl 31 (.tmp 15) (.tmp 45) rfl 31 _ (wp.bc (leafD s.data.toList)) rfl rfl hz hz3 ho ?_)
  have hb := (Below.refl w7.heap.size w7).alloc (Nat.le_refl _) (.cells (wp.bc (leafD s.data.toList)).toArray 31)
  replace HS := Lib.hid ((HS.out.next hb).row (heap_alloc_new w7 _) d15)
  replace Q13 := Lib.hid (wk.row_below Q13.out hb)
  replace Q14 := Lib.hid (wk.row_below Q14.out hb)
  generalize w7.alloc (.cells (wp.bc (leafD s.data.toList)).toArray 31) = w8 at *
  generalize w7.heap.size = g15 at *
  clear hz hz3 ho hb d15
  go_wp2_with fail
  refine (root_calls n A c l _ (HS.out.sls (A, n, c, l) (by simp)) HS.out.tab).mono ?_
  rintro e w9 ⟨rfl, hb⟩
  replace HS := Lib.hid (HS.out.next hb)
  replace Q13 := Lib.hid (wk.row_below Q13.out hb)
  replace Q14 := Lib.hid (wk.row_below Q14.out hb)
  clear hb
  have d16 : (rootD l).length = 16 := rootD_length HL16.out
  have D16 := Lib.hid d16
  have hz := dv_size d16
  have hz3 : hi.z16.size = (wp.bc (rootD l)).length := by rw [bc_len d16]; rfl
  have ho := wk.ones_bc (rootD l)
  unfold hi.z16 at hz3
  unfold dv
  go_upto_region 9 with (refine wk.store_new rfl 31 (.tmp 16) (.tmp 47) rfl 31 _ (wp.bc (rootD l)) rfl rfl hz hz3 ho ?_)
  have hb := (Below.refl w9.heap.size w9).alloc (Nat.le_refl _) (.cells (wp.bc (rootD l)).toArray 31)
  replace HS := Lib.hid ((HS.out.next hb).row (heap_alloc_new w9 _) d16)
  replace Q13 := Lib.hid (wk.row_below Q13.out hb)
  replace Q14 := Lib.hid (wk.row_below Q14.out hb)
  generalize w9.alloc (.cells (wp.bc (rootD l)).toArray 31) = w10 at *
  generalize w9.heap.size = g16 at *
  clear hz hz3 ho hb d16
  have HLI : Hid ((inclP l i).length ≤ n) := by
    show _ ≤ _; unfold inclP; split
    · unfold inclD; rw [hlen]; have := incl_length n l i.toNat; omega
    · simp
  have HLC : Hid ((consP l m).length ≤ n + 1) := by
    show _ ≤ _; unfold consP; split
    · unfold consD; rw [hlen]; have := cons_length n l m.toNat true; omega
    · simp
  refine wk.region_tailB 47 [.is (.bool true), .is (.bool true), .is (dv (rootD l)), .is (.slice A n c), .is (dv (rootD l)), .is (.bool true), .is (.bool true), .is (.bool true), .is (.slice A1 (inclP l i).length c1), .is (.pointer (some ⟨g13, 0, none⟩)), .is (.slice A3 (inclP l i).length c3), .is (.bool true), .is (.bool true), .is (.bool true), .is (.int .i64 (inclE n i)), .is (.pointer (some ⟨g13, 1, none⟩)), .is (.int .i64 (inclE n i)), .is (.bool true), .is (.bool true), .is (.bool true), .is (.slice A2 (consP l m).length c2), .is (.pointer (some ⟨g14, 0, none⟩)), .is (.slice A4 (consP l m).length c4), .is (.bool true), .is (.bool true), .is (.bool true), .is (.int .i64 (consE n m)), .is (.pointer (some ⟨g14, 1, none⟩)), .is (.int .i64 (consE n m)), .is (.bool true), .is (.bool true), .is (.bool true), .is (dv (leafD s.data.toList)), .is (.string s), .is (dv (leafD s.data.toList)), .is (.bool true), .is (.bool true), .is (.bool true), .is (dv (leafD s.data.toList)), .is (dv (rootD l)), .is (dv (nodeD (leafD s.data.toList) (rootD l))), .is (dv (leafD s.data.toList)), .is (dv (rootD l)), .is (dv (nodeD (leafD s.data.toList) (rootD l))), .is (.bool true), .is (.bool true), .is (.bool true)] [some 48, some 49, some 50, some 51, some 52, some 53, some 54, some 55, some 56, some 57, some 58, some 59, some 60, some 61, some 62, some 63, some 64, some 65, some 66, some 67, some 68, some 69, some 70, some 71, some 72, some 73, some 74, some 75, some 76, some 77, some 78, some 79, some 80, some 81, some 82, some 83, some 84, some 85, some 86, some 87, some 88, some 89, some 90, some 91, some 92, some 93, some 8] (by kernel_rfl) (by kernel_rfl) (by kernel_rfl) (by kernel_rfl) (by kernel_rfl) (by kernel_rfl) ?hstep ?hdone
  case hstep =>
    intro i o ho hi E u4 hb4 D
    have hi2 : i = 0 ∨ i = 1 ∨ i = 2 ∨ i = 3 ∨ i = 4 ∨ i = 5 ∨ i = 6 ∨ i = 7 ∨ i = 8 ∨ i = 9 ∨ i = 10 ∨ i = 11 ∨ i = 12 ∨ i = 13 ∨ i = 14 ∨ i = 15 ∨ i = 16 ∨ i = 17 ∨ i = 18 ∨ i = 19 ∨ i = 20 ∨ i = 21 ∨ i = 22 ∨ i = 23 ∨ i = 24 ∨ i = 25 ∨ i = 26 ∨ i = 27 ∨ i = 28 ∨ i = 29 ∨ i = 30 ∨ i = 31 ∨ i = 32 ∨ i = 33 ∨ i = 34 ∨ i = 35 ∨ i = 36 ∨ i = 37 ∨ i = 38 ∨ i = 39 ∨ i = 40 ∨ i = 41 ∨ i = 42 ∨ i = 43 ∨ i = 44 ∨ i = 45 ∨ i = 46 := by omega
    clear hi
    rcases hi2 with rfl | rfl | rfl | rfl | rfl | rfl | rfl | rfl | rfl | rfl | rfl | rfl | rfl | rfl | rfl | rfl | rfl | rfl | rfl | rfl | rfl | rfl | rfl | rfl | rfl | rfl | rfl | rfl | rfl | rfl | rfl | rfl | rfl | rfl | rfl | rfl | rfl | rfl | rfl | rfl | rfl | rfl | rfl | rfl | rfl | rfl | rfl
    ·
      have ho2 := (Array.getElem?_eq_some_iff.1 ho).2
      simp only [List.getElem_toArray, List.getElem_cons_zero] at ho2
      subst ho2
      clear ho
      refine wk.does_fn (f := 9) (vs := #[]) rfl (D.fn _) (by simp) (by go_simp) ?_
      refine (sanity_calls u4 (HS.out.next ((Below.refl _ _).drew.trans hb4)).tab).mono ?_
      rintro e w5 ⟨rfl, hb5⟩
      exact ⟨_, rfl, hb5, rfl⟩
    ·
      have ho2 := (Array.getElem?_eq_some_iff.1 ho).2
      simp only [List.getElem_toArray, List.getElem_cons_succ, List.getElem_cons_zero] at ho2
      subst ho2
      clear ho
      have e48 := D.is { on := 0, ground := .data } (by simp) rfl rfl 48 rfl
      exact wk.does_move rfl e48
    ·
      have ho2 := (Array.getElem?_eq_some_iff.1 ho).2
      simp only [List.getElem_toArray, List.getElem_cons_succ, List.getElem_cons_zero] at ho2
      subst ho2
      clear ho
      have e16 := D.old 16 (by kernel_rfl)
      exact wk.does_load_row rfl (by rw [e16]; rfl) ((HS.out.next ((Below.refl _ _).drew.trans hb4)).rows (g16, rootD l) (by simp)).1 Tryd.underlying31 rfl (dv_sizeA D16.out) rfl
    ·
      have ho2 := (Array.getElem?_eq_some_iff.1 ho).2
      simp only [List.getElem_toArray, List.getElem_cons_succ, List.getElem_cons_zero] at ho2
      subst ho2
      clear ho
      have e0 := D.old 0 (by kernel_rfl)
      exact wk.does_move rfl (by rw [e0]; rfl)
    ·
      have ho2 := (Array.getElem?_eq_some_iff.1 ho).2
      simp only [List.getElem_toArray, List.getElem_cons_succ, List.getElem_cons_zero] at ho2
      subst ho2
      clear ho
      have e51 := D.is { on := 3, ground := .data } (by simp) rfl rfl 51 rfl
      refine wk.does_fn (f := 16) (vs := #[.slice A n c]) rfl (D.fn _) (by simp [e51]) (by go_simp) ?_
      refine (rroot_calls n A c l u4 ((HS.out.next ((Below.refl _ _).drew.trans hb4)).sls (A, n, c, l) (by simp)) (by omega) (HS.out.next ((Below.refl _ _).drew.trans hb4)).tab).mono ?_
      rintro e w5 ⟨rfl, hb5⟩
      exact ⟨_, rfl, hb5, rfl⟩
    ·
      have ho2 := (Array.getElem?_eq_some_iff.1 ho).2
      simp only [List.getElem_toArray, List.getElem_cons_succ, List.getElem_cons_zero] at ho2
      subst ho2
      clear ho
      have e50 := D.is { on := 2, ground := .data } (by simp) rfl rfl 50 rfl
      have e52 := D.is { on := 4, ground := .data } (by simp) rfl rfl 52 rfl
      exact wk.does_eq_arr rfl e50 e52 (by kernel_rfl) (b := true) (by have h := eq_dv u4 _ _ D16.out D16.out; rw [beq_self_eq_true] at h; exact h) rfl
    ·
      have ho2 := (Array.getElem?_eq_some_iff.1 ho).2
      simp only [List.getElem_toArray, List.getElem_cons_succ, List.getElem_cons_zero] at ho2
      subst ho2
      clear ho
      have e49 := D.is { on := 1, ground := .data } (by simp) rfl rfl 49 rfl
      have e53 := D.is { on := 5, ground := .data } (by simp) rfl rfl 53 rfl
      exact wk.does_pick rfl e49 e53
    ·
      have ho2 := (Array.getElem?_eq_some_iff.1 ho).2
      simp only [List.getElem_toArray, List.getElem_cons_succ, List.getElem_cons_zero] at ho2
      subst ho2
      clear ho
      have e54 := D.is { on := 6, ground := .data } (by simp) rfl rfl 54 rfl
      exact wk.does_move rfl e54
    ·
      have ho2 := (Array.getElem?_eq_some_iff.1 ho).2
      simp only [List.getElem_toArray, List.getElem_cons_succ, List.getElem_cons_zero] at ho2
      subst ho2
      clear ho
      have e9 := D.old 9 (by kernel_rfl)
      exact wk.does_move rfl (by rw [e9]; rfl)
    ·
      have ho2 := (Array.getElem?_eq_some_iff.1 ho).2
      simp only [List.getElem_toArray, List.getElem_cons_succ, List.getElem_cons_zero] at ho2
      subst ho2
      clear ho
      have e13 := D.old 13 (by kernel_rfl)
      exact wk.does_run (by simp only [execOp]; rw [show E (.tmp 13) = .pointer (some ⟨g13, 0, none⟩) by rw [e13]; rfl]; go_simp) rfl
    ·
      have ho2 := (Array.getElem?_eq_some_iff.1 ho).2
      simp only [List.getElem_toArray, List.getElem_cons_succ, List.getElem_cons_zero] at ho2
      subst ho2
      clear ho
      have e57 := D.is { on := 9, ground := .data } (by simp) rfl rfl 57 rfl
      exact wk.does_load1 rfl e57 (cell2_0 (wk.row_below Q13.out ((Below.refl _ _).drew.trans hb4))) Tryd.underlying22 rfl rfl
    ·
      have ho2 := (Array.getElem?_eq_some_iff.1 ho).2
      simp only [List.getElem_toArray, List.getElem_cons_succ, List.getElem_cons_zero] at ho2
      subst ho2
      clear ho
      have e56 := D.is { on := 8, ground := .data } (by simp) rfl rfl 56 rfl
      have e58 := D.is { on := 10, ground := .data } (by simp) rfl rfl 58 rfl
      refine wk.does_fn (f := 17) (vs := #[.slice A1 (inclP l i).length c1, .slice A3 (inclP l i).length c3]) rfl (D.fn _) (by simp [e56, e58]) (by go_simp) ?_
      refine (same_true _ _ _ _ _ _ u4 ((HS.out.next ((Below.refl _ _).drew.trans hb4)).sls (A1, (inclP l i).length, c1, inclP l i) (by simp)) ((HS.out.next ((Below.refl _ _).drew.trans hb4)).sls (A3, (inclP l i).length, c3, inclP l i) (by simp)) (by show (inclP l i).length ≤ _; have := HLI.out; omega)).mono ?_
      rintro e w5 ⟨rfl, q, hq⟩
      exact ⟨_, rfl, by rw [hq]; exact wk.below_drewN (Below.refl _ _) q, rfl⟩
    ·
      have ho2 := (Array.getElem?_eq_some_iff.1 ho).2
      simp only [List.getElem_toArray, List.getElem_cons_succ, List.getElem_cons_zero] at ho2
      subst ho2
      clear ho
      have e55 := D.is { on := 7, ground := .data } (by simp) rfl rfl 55 rfl
      have e59 := D.is { on := 11, ground := .data } (by simp) rfl rfl 59 rfl
      exact wk.does_pick rfl e55 e59
    ·
      have ho2 := (Array.getElem?_eq_some_iff.1 ho).2
      simp only [List.getElem_toArray, List.getElem_cons_succ, List.getElem_cons_zero] at ho2
      subst ho2
      clear ho
      have e60 := D.is { on := 12, ground := .data } (by simp) rfl rfl 60 rfl
      exact wk.does_move rfl e60
    ·
      have ho2 := (Array.getElem?_eq_some_iff.1 ho).2
      simp only [List.getElem_toArray, List.getElem_cons_succ, List.getElem_cons_zero] at ho2
      subst ho2
      clear ho
      have e10 := D.old 10 (by kernel_rfl)
      exact wk.does_move rfl (by rw [e10]; rfl)
    ·
      have ho2 := (Array.getElem?_eq_some_iff.1 ho).2
      simp only [List.getElem_toArray, List.getElem_cons_succ, List.getElem_cons_zero] at ho2
      subst ho2
      clear ho
      have e13 := D.old 13 (by kernel_rfl)
      exact wk.does_run (by simp only [execOp]; rw [show E (.tmp 13) = .pointer (some ⟨g13, 0, none⟩) by rw [e13]; rfl]; go_simp) rfl
    ·
      have ho2 := (Array.getElem?_eq_some_iff.1 ho).2
      simp only [List.getElem_toArray, List.getElem_cons_succ, List.getElem_cons_zero] at ho2
      subst ho2
      clear ho
      have e63 := D.is { on := 15, ground := .data } (by simp) rfl rfl 63 rfl
      exact wk.does_load1 rfl e63 (cell2_1 (wk.row_below Q13.out ((Below.refl _ _).drew.trans hb4))) Tryd.underlying24 rfl rfl
    ·
      have ho2 := (Array.getElem?_eq_some_iff.1 ho).2
      simp only [List.getElem_toArray, List.getElem_cons_succ, List.getElem_cons_zero] at ho2
      subst ho2
      clear ho
      have e62 := D.is { on := 14, ground := .data } (by simp) rfl rfl 62 rfl
      have e64 := D.is { on := 16, ground := .data } (by simp) rfl rfl 64 rfl
      exact wk.does_bin rfl (by rw [e62, e64]; go_simp) rfl
    ·
      have ho2 := (Array.getElem?_eq_some_iff.1 ho).2
      simp only [List.getElem_toArray, List.getElem_cons_succ, List.getElem_cons_zero] at ho2
      subst ho2
      clear ho
      have e61 := D.is { on := 13, ground := .data } (by simp) rfl rfl 61 rfl
      have e65 := D.is { on := 17, ground := .data } (by simp) rfl rfl 65 rfl
      exact wk.does_pick rfl e61 e65
    ·
      have ho2 := (Array.getElem?_eq_some_iff.1 ho).2
      simp only [List.getElem_toArray, List.getElem_cons_succ, List.getElem_cons_zero] at ho2
      subst ho2
      clear ho
      have e66 := D.is { on := 18, ground := .data } (by simp) rfl rfl 66 rfl
      exact wk.does_move rfl e66
    ·
      have ho2 := (Array.getElem?_eq_some_iff.1 ho).2
      simp only [List.getElem_toArray, List.getElem_cons_succ, List.getElem_cons_zero] at ho2
      subst ho2
      clear ho
      have e11 := D.old 11 (by kernel_rfl)
      exact wk.does_move rfl (by rw [e11]; rfl)
    ·
      have ho2 := (Array.getElem?_eq_some_iff.1 ho).2
      simp only [List.getElem_toArray, List.getElem_cons_succ, List.getElem_cons_zero] at ho2
      subst ho2
      clear ho
      have e14 := D.old 14 (by kernel_rfl)
      exact wk.does_run (by simp only [execOp]; rw [show E (.tmp 14) = .pointer (some ⟨g14, 0, none⟩) by rw [e14]; rfl]; go_simp) rfl
    ·
      have ho2 := (Array.getElem?_eq_some_iff.1 ho).2
      simp only [List.getElem_toArray, List.getElem_cons_succ, List.getElem_cons_zero] at ho2
      subst ho2
      clear ho
      have e69 := D.is { on := 21, ground := .data } (by simp) rfl rfl 69 rfl
      exact wk.does_load1 rfl e69 (cell2_0 (wk.row_below Q14.out ((Below.refl _ _).drew.trans hb4))) Tryd.underlying22 rfl rfl
    ·
      have ho2 := (Array.getElem?_eq_some_iff.1 ho).2
      simp only [List.getElem_toArray, List.getElem_cons_succ, List.getElem_cons_zero] at ho2
      subst ho2
      clear ho
      have e68 := D.is { on := 20, ground := .data } (by simp) rfl rfl 68 rfl
      have e70 := D.is { on := 22, ground := .data } (by simp) rfl rfl 70 rfl
      refine wk.does_fn (f := 17) (vs := #[.slice A2 (consP l m).length c2, .slice A4 (consP l m).length c4]) rfl (D.fn _) (by simp [e68, e70]) (by go_simp) ?_
      refine (same_true _ _ _ _ _ _ u4 ((HS.out.next ((Below.refl _ _).drew.trans hb4)).sls (A2, (consP l m).length, c2, consP l m) (by simp)) ((HS.out.next ((Below.refl _ _).drew.trans hb4)).sls (A4, (consP l m).length, c4, consP l m) (by simp)) (by show (consP l m).length ≤ _; have := HLC.out; omega)).mono ?_
      rintro e w5 ⟨rfl, q, hq⟩
      exact ⟨_, rfl, by rw [hq]; exact wk.below_drewN (Below.refl _ _) q, rfl⟩
    ·
      have ho2 := (Array.getElem?_eq_some_iff.1 ho).2
      simp only [List.getElem_toArray, List.getElem_cons_succ, List.getElem_cons_zero] at ho2
      subst ho2
      clear ho
      have e67 := D.is { on := 19, ground := .data } (by simp) rfl rfl 67 rfl
      have e71 := D.is { on := 23, ground := .data } (by simp) rfl rfl 71 rfl
      exact wk.does_pick rfl e67 e71
    ·
      have ho2 := (Array.getElem?_eq_some_iff.1 ho).2
      simp only [List.getElem_toArray, List.getElem_cons_succ, List.getElem_cons_zero] at ho2
      subst ho2
      clear ho
      have e72 := D.is { on := 24, ground := .data } (by simp) rfl rfl 72 rfl
      exact wk.does_move rfl e72
    ·
      have ho2 := (Array.getElem?_eq_some_iff.1 ho).2
      simp only [List.getElem_toArray, List.getElem_cons_succ, List.getElem_cons_zero] at ho2
      subst ho2
      clear ho
      have e12 := D.old 12 (by kernel_rfl)
      exact wk.does_move rfl (by rw [e12]; rfl)
    ·
      have ho2 := (Array.getElem?_eq_some_iff.1 ho).2
      simp only [List.getElem_toArray, List.getElem_cons_succ, List.getElem_cons_zero] at ho2
      subst ho2
      clear ho
      have e14 := D.old 14 (by kernel_rfl)
      exact wk.does_run (by simp only [execOp]; rw [show E (.tmp 14) = .pointer (some ⟨g14, 0, none⟩) by rw [e14]; rfl]; go_simp) rfl
    ·
      have ho2 := (Array.getElem?_eq_some_iff.1 ho).2
      simp only [List.getElem_toArray, List.getElem_cons_succ, List.getElem_cons_zero] at ho2
      subst ho2
      clear ho
      have e75 := D.is { on := 27, ground := .data } (by simp) rfl rfl 75 rfl
      exact wk.does_load1 rfl e75 (cell2_1 (wk.row_below Q14.out ((Below.refl _ _).drew.trans hb4))) Tryd.underlying24 rfl rfl
    ·
      have ho2 := (Array.getElem?_eq_some_iff.1 ho).2
      simp only [List.getElem_toArray, List.getElem_cons_succ, List.getElem_cons_zero] at ho2
      subst ho2
      clear ho
      have e74 := D.is { on := 26, ground := .data } (by simp) rfl rfl 74 rfl
      have e76 := D.is { on := 28, ground := .data } (by simp) rfl rfl 76 rfl
      exact wk.does_bin rfl (by rw [e74, e76]; go_simp) rfl
    ·
      have ho2 := (Array.getElem?_eq_some_iff.1 ho).2
      simp only [List.getElem_toArray, List.getElem_cons_succ, List.getElem_cons_zero] at ho2
      subst ho2
      clear ho
      have e73 := D.is { on := 25, ground := .data } (by simp) rfl rfl 73 rfl
      have e77 := D.is { on := 29, ground := .data } (by simp) rfl rfl 77 rfl
      exact wk.does_pick rfl e73 e77
    ·
      have ho2 := (Array.getElem?_eq_some_iff.1 ho).2
      simp only [List.getElem_toArray, List.getElem_cons_succ, List.getElem_cons_zero] at ho2
      subst ho2
      clear ho
      have e78 := D.is { on := 30, ground := .data } (by simp) rfl rfl 78 rfl
      exact wk.does_move rfl e78
    ·
      have ho2 := (Array.getElem?_eq_some_iff.1 ho).2
      simp only [List.getElem_toArray, List.getElem_cons_succ, List.getElem_cons_zero] at ho2
      subst ho2
      clear ho
      have e15 := D.old 15 (by kernel_rfl)
      exact wk.does_load_row rfl (by rw [e15]; rfl) ((HS.out.next ((Below.refl _ _).drew.trans hb4)).rows (g15, leafD s.data.toList) (by simp)).1 Tryd.underlying31 rfl (dv_sizeA D15.out) rfl
    ·
      have ho2 := (Array.getElem?_eq_some_iff.1 ho).2
      simp only [List.getElem_toArray, List.getElem_cons_succ, List.getElem_cons_zero] at ho2
      subst ho2
      clear ho
      have e3 := D.old 3 (by kernel_rfl)
      exact wk.does_move rfl (by rw [e3]; rfl)
    ·
      have ho2 := (Array.getElem?_eq_some_iff.1 ho).2
      simp only [List.getElem_toArray, List.getElem_cons_succ, List.getElem_cons_zero] at ho2
      subst ho2
      clear ho
      have e81 := D.is { on := 33, ground := .data } (by simp) rfl rfl 81 rfl
      refine wk.does_fn (f := 18) (vs := #[.string s]) rfl (D.fn _) (by simp [e81]) (by go_simp) ?_
      refine (rleaf_calls s (by omega) u4 (HS.out.next ((Below.refl _ _).drew.trans hb4)).tab).mono ?_
      rintro e w5 ⟨rfl, hb5⟩
      exact ⟨_, rfl, hb5, rfl⟩
    ·
      have ho2 := (Array.getElem?_eq_some_iff.1 ho).2
      simp only [List.getElem_toArray, List.getElem_cons_succ, List.getElem_cons_zero] at ho2
      subst ho2
      clear ho
      have e80 := D.is { on := 32, ground := .data } (by simp) rfl rfl 80 rfl
      have e82 := D.is { on := 34, ground := .data } (by simp) rfl rfl 82 rfl
      exact wk.does_eq_arr rfl e80 e82 (by kernel_rfl) (b := true) (by have h := eq_dv u4 _ _ D15.out D15.out; rw [beq_self_eq_true] at h; exact h) rfl
    ·
      have ho2 := (Array.getElem?_eq_some_iff.1 ho).2
      simp only [List.getElem_toArray, List.getElem_cons_succ, List.getElem_cons_zero] at ho2
      subst ho2
      clear ho
      have e79 := D.is { on := 31, ground := .data } (by simp) rfl rfl 79 rfl
      have e83 := D.is { on := 35, ground := .data } (by simp) rfl rfl 83 rfl
      exact wk.does_pick rfl e79 e83
    ·
      have ho2 := (Array.getElem?_eq_some_iff.1 ho).2
      simp only [List.getElem_toArray, List.getElem_cons_succ, List.getElem_cons_zero] at ho2
      subst ho2
      clear ho
      have e84 := D.is { on := 36, ground := .data } (by simp) rfl rfl 84 rfl
      exact wk.does_move rfl e84
    ·
      have ho2 := (Array.getElem?_eq_some_iff.1 ho).2
      simp only [List.getElem_toArray, List.getElem_cons_succ, List.getElem_cons_zero] at ho2
      subst ho2
      clear ho
      have e15 := D.old 15 (by kernel_rfl)
      exact wk.does_load_row rfl (by rw [e15]; rfl) ((HS.out.next ((Below.refl _ _).drew.trans hb4)).rows (g15, leafD s.data.toList) (by simp)).1 Tryd.underlying31 rfl (dv_sizeA D15.out) rfl
    ·
      have ho2 := (Array.getElem?_eq_some_iff.1 ho).2
      simp only [List.getElem_toArray, List.getElem_cons_succ, List.getElem_cons_zero] at ho2
      subst ho2
      clear ho
      have e16 := D.old 16 (by kernel_rfl)
      exact wk.does_load_row rfl (by rw [e16]; rfl) ((HS.out.next ((Below.refl _ _).drew.trans hb4)).rows (g16, rootD l) (by simp)).1 Tryd.underlying31 rfl (dv_sizeA D16.out) rfl
    ·
      have ho2 := (Array.getElem?_eq_some_iff.1 ho).2
      simp only [List.getElem_toArray, List.getElem_cons_succ, List.getElem_cons_zero] at ho2
      subst ho2
      clear ho
      have e86 := D.is { on := 38, ground := .data } (by simp) rfl rfl 86 rfl
      have e87 := D.is { on := 39, ground := .data } (by simp) rfl rfl 87 rfl
      refine wk.does_fn (f := 19) (vs := #[dv (leafD s.data.toList), dv (rootD l)]) rfl (D.fn _) (by simp [e86, e87]) (by go_simp) ?_
      refine (node_calls _ _ D15.out D16.out u4 (HS.out.next ((Below.refl _ _).drew.trans hb4)).tab).mono ?_
      rintro e w5 ⟨rfl, hb5⟩
      exact ⟨_, rfl, hb5, rfl⟩
    ·
      have ho2 := (Array.getElem?_eq_some_iff.1 ho).2
      simp only [List.getElem_toArray, List.getElem_cons_succ, List.getElem_cons_zero] at ho2
      subst ho2
      clear ho
      have e15 := D.old 15 (by kernel_rfl)
      exact wk.does_load_row rfl (by rw [e15]; rfl) ((HS.out.next ((Below.refl _ _).drew.trans hb4)).rows (g15, leafD s.data.toList) (by simp)).1 Tryd.underlying31 rfl (dv_sizeA D15.out) rfl
    ·
      have ho2 := (Array.getElem?_eq_some_iff.1 ho).2
      simp only [List.getElem_toArray, List.getElem_cons_succ, List.getElem_cons_zero] at ho2
      subst ho2
      clear ho
      have e16 := D.old 16 (by kernel_rfl)
      exact wk.does_load_row rfl (by rw [e16]; rfl) ((HS.out.next ((Below.refl _ _).drew.trans hb4)).rows (g16, rootD l) (by simp)).1 Tryd.underlying31 rfl (dv_sizeA D16.out) rfl
    ·
      have ho2 := (Array.getElem?_eq_some_iff.1 ho).2
      simp only [List.getElem_toArray, List.getElem_cons_succ, List.getElem_cons_zero] at ho2
      subst ho2
      clear ho
      have e89 := D.is { on := 41, ground := .data } (by simp) rfl rfl 89 rfl
      have e90 := D.is { on := 42, ground := .data } (by simp) rfl rfl 90 rfl
      refine wk.does_fn (f := 20) (vs := #[dv (leafD s.data.toList), dv (rootD l)]) rfl (D.fn _) (by simp [e89, e90]) (by go_simp) ?_
      refine (rnode_calls _ _ D15.out D16.out u4 (HS.out.next ((Below.refl _ _).drew.trans hb4)).tab).mono ?_
      rintro e w5 ⟨rfl, hb5⟩
      exact ⟨_, rfl, hb5, rfl⟩
    ·
      have ho2 := (Array.getElem?_eq_some_iff.1 ho).2
      simp only [List.getElem_toArray, List.getElem_cons_succ, List.getElem_cons_zero] at ho2
      subst ho2
      clear ho
      have e88 := D.is { on := 40, ground := .data } (by simp) rfl rfl 88 rfl
      have e91 := D.is { on := 43, ground := .data } (by simp) rfl rfl 91 rfl
      exact wk.does_eq_arr rfl e88 e91 (by kernel_rfl) (b := true) (by have h := eq_dv u4 (nodeD (leafD s.data.toList) (rootD l)) (nodeD (leafD s.data.toList) (rootD l)) (dig_length _ _) (dig_length _ _); rw [beq_self_eq_true] at h; exact h) rfl
    ·
      have ho2 := (Array.getElem?_eq_some_iff.1 ho).2
      simp only [List.getElem_toArray, List.getElem_cons_succ, List.getElem_cons_zero] at ho2
      subst ho2
      clear ho
      have e85 := D.is { on := 37, ground := .data } (by simp) rfl rfl 85 rfl
      have e92 := D.is { on := 44, ground := .data } (by simp) rfl rfl 92 rfl
      exact wk.does_pick rfl e85 e92
    ·
      have ho2 := (Array.getElem?_eq_some_iff.1 ho).2
      simp only [List.getElem_toArray, List.getElem_cons_succ, List.getElem_cons_zero] at ho2
      subst ho2
      clear ho
      have e93 := D.is { on := 45, ground := .data } (by simp) rfl rfl 93 rfl
      exact wk.does_assign rfl e93
  case hdone =>
    intro vals u4 hb4 hv
    have h46 := hv 46 (by omega)
    clear hv
    replace h46 : vals 46 = (.bool true) := h46
    simp only [List.drop_succ_cons, List.drop_zero, wpList, Act.put, wk.setL, List.setIfInBounds_toArray, List.set_cons_zero, List.set_cons_succ, Nat.zero_add, Nat.reduceAdd, h46]
    generalize vals 0 = x0
    generalize vals 1 = x1
    generalize vals 2 = x2
    generalize vals 3 = x3
    generalize vals 4 = x4
    generalize vals 5 = x5
    generalize vals 6 = x6
    generalize vals 7 = x7
    generalize vals 8 = x8
    generalize vals 9 = x9
    generalize vals 10 = x10
    generalize vals 11 = x11
    generalize vals 12 = x12
    generalize vals 13 = x13
    generalize vals 14 = x14
    generalize vals 15 = x15
    generalize vals 16 = x16
    generalize vals 17 = x17
    generalize vals 18 = x18
    generalize vals 19 = x19
    generalize vals 20 = x20
    generalize vals 21 = x21
    generalize vals 22 = x22
    generalize vals 23 = x23
    generalize vals 24 = x24
    generalize vals 25 = x25
    generalize vals 26 = x26
    generalize vals 27 = x27
    generalize vals 28 = x28
    generalize vals 29 = x29
    generalize vals 30 = x30
    generalize vals 31 = x31
    generalize vals 32 = x32
    generalize vals 33 = x33
    generalize vals 34 = x34
    generalize vals 35 = x35
    generalize vals 36 = x36
    generalize vals 37 = x37
    generalize vals 38 = x38
    generalize vals 39 = x39
    generalize vals 40 = x40
    generalize vals 41 = x41
    generalize vals 42 = x42
    generalize vals 43 = x43
    generalize vals 44 = x44
    generalize vals 45 = x45
    have HF := Lib.hid ((HS.out.next ((Below.refl _ _).drew.trans hb4)).below)
    clear hb4
    go_wp2_with fail
    go_ret
    exact ⟨rfl, HF.out⟩
end Go.Proofs.YtmjmkkdmphgdnaaDoor.merkleProofsMatchSpec
