/- The examples, computed. -/
import Derived.Test.YtmjmkkdmphgdnaaDoorG12

import Derived.Test.YtmjmkkdmphgdnaaDoorNd

import Derived.Deep.LoopGhost

namespace Go.Proofs.YtmjmkkdmphgdnaaDoor.mk

open Go.ChangeShapes Go.WideShapes Go.ChangeAt Go.RowKit

set_option linter.unusedVariables false
theorem flat3 (a b c : D) : ([a, b, c] : List D).flatMap wp.bc = wp.bc a ++ (wp.bc b ++ wp.bc c) := by simp
theorem flat2 (a b : D) : ([a, b] : List D).flatMap wp.bc = wp.bc a ++ wp.bc b := by simp
theorem d16_1 {a : D} (ha : a.length = 16) : ∀ d ∈ ([a] : List D), d.length = 16 := by
  intro d hd
  rw [List.mem_singleton] at hd
  exact hd ▸ ha
theorem d16_2 {a b : D} (ha : a.length = 16) (hb : b.length = 16) : ∀ d ∈ ([a, b] : List D), d.length = 16 := by
  intro d hd
  rcases List.mem_cons.1 hd with rfl | hd
  · exact ha
  · exact d16_1 hb d hd
theorem d16_3 {a b c : D} (ha : a.length = 16) (hb : b.length = 16) (hc : c.length = 16) : ∀ d ∈ ([a, b, c] : List D), d.length = 16 := by
  intro d hd
  rcases List.mem_cons.1 hd with rfl | hd
  · exact ha
  · exact d16_2 hb hc d hd
/-- the peaks of the first k elements lie in block g -/
def PRel (g : Nat) (w0 : World) (l : List D) (k : Nat) (w : World) : Prop := ∃ v, w.heap[g]? = some (.cells #[.int .i64 (k : Int), v] 43 (0, 0)) ∧ w.ownsRow (g + 1) 31 16 v (pkD (l.take k)).length ((pkD (l.take k)).flatMap wp.bc) ∧ Below g w0 w
theorem pkD_3 (a b c : D) : pkD [a, b, c] = [nodeD a b, c] := by
  unfold pkD
  rw [show ([a, b, c] : List D).length = 3 from rfl, pks_odd (by decide), show (3 - 1) * 2 ^ 0 = 2 from rfl, show 3 / 2 = 1 from rfl, show ([a, b, c] : List D).take 2 = [a, b] from rfl, show ([a, b, c] : List D).drop 2 = [c] from rfl, pks_odd (by decide), show (1 - 1) * 2 ^ (0 + 1) = 0 from rfl, show 1 / 2 = 0 from rfl, pks_zero, List.drop_zero, rootD_2, rootD_1]
  rfl
theorem flat1 (a : D) : ([a] : List D).flatMap wp.bc = wp.bc a := by simp
theorem list_new_due {P : Program} {Q : Exit → Act → World → Prop} {o : Oper} {w w' : World} {ops : Array Oper} {rest : List Oper} {a : Act} (hw : Region.wanted o (yielded ops a.tmps) = true) (d : Option Tmp) (hd : o.dst = d) (v : Value) (hrun : (execOp a.eval o).run P w = .ok (.value v) w') (h : wpList P ops Q rest (a.put d v) w') : wpList P ops Q (o :: rest) a w := by
  subst hd
  refine wk.wpList_due hw fun K hK => ?_
  unfold Oper.wp
  rw [hrun, Oper.upon_value]
  exact hK _ _ h
set_option maxRecDepth 100000 in
set_option maxHeartbeats 16000000 in
theorem sanity_calls (w : World) (hT : Tab w) :
    Calls Tryd.prog 9 #[] w fun e w' => e = .returned (.bool true) ∧ Below w.heap.size w w' := by
  have HS : Hid (RS w [] [] w) := ⟨fun p hp => (by cases hp), fun s hs => (by cases hs), hT, Below.refl _ _⟩
  clear hT
  go_enter Tryd.func9, Tryd.ntmps9
  go_wp2_with fail
  refine (leaf_calls ⟨#[97]⟩ (by decide) _ HS.out.tab).mono ?_
  rintro e w1 ⟨rfl, hb1⟩
  replace HS := Lib.hid (HS.out.next hb1)
  rw [show dv (leafD (⟨#[97]⟩ : ByteArray).data.toList) = .agg (wp.bc sA).toArray from rfl]
  clear hb1
  have hz := dv_size sA16
  have hz3 : hi.z16.size = (wp.bc sA).length := by rw [bc_len sA16]; rfl
  have ho := wk.ones_bc sA
  unfold hi.z16 at hz3
  go_upto_region 2 with (refine wk.store_new rfl 31 (.tmp 1) (.tmp 24) rfl 31 _ (wp.bc sA) rfl rfl hz hz3 ho ?_)
  replace HS := Lib.hid ((HS.out.next ((Below.refl w1.heap.size w1).alloc (Nat.le_refl _) (.cells (wp.bc sA).toArray 31))).row (heap_alloc_new w1 _) sA16)
  generalize w1.alloc (.cells (wp.bc sA).toArray 31) = v1 at *
  generalize w1.heap.size = g1 at *
  clear hz hz3 ho
  go_wp2_with fail
  refine (leaf_calls ⟨#[98]⟩ (by decide) _ HS.out.tab).mono ?_
  rintro e w2 ⟨rfl, hb2⟩
  replace HS := Lib.hid (HS.out.next hb2)
  rw [show dv (leafD (⟨#[98]⟩ : ByteArray).data.toList) = .agg (wp.bc sB).toArray from rfl]
  clear hb2
  have hz := dv_size sB16
  have hz3 : hi.z16.size = (wp.bc sB).length := by rw [bc_len sB16]; rfl
  have ho := wk.ones_bc sB
  unfold hi.z16 at hz3
  go_upto_region 3 with (refine wk.store_new rfl 31 (.tmp 2) (.tmp 25) rfl 31 _ (wp.bc sB) rfl rfl hz hz3 ho ?_)
  replace HS := Lib.hid ((HS.out.next ((Below.refl w2.heap.size w2).alloc (Nat.le_refl _) (.cells (wp.bc sB).toArray 31))).row (heap_alloc_new w2 _) sB16)
  generalize w2.alloc (.cells (wp.bc sB).toArray 31) = v2 at *
  generalize w2.heap.size = g2 at *
  clear hz hz3 ho
  go_wp2_with fail
  refine (leaf_calls ⟨#[99]⟩ (by decide) _ HS.out.tab).mono ?_
  rintro e w3 ⟨rfl, hb3⟩
  replace HS := Lib.hid (HS.out.next hb3)
  rw [show dv (leafD (⟨#[99]⟩ : ByteArray).data.toList) = .agg (wp.bc sC).toArray from rfl]
  clear hb3
  have hz := dv_size sC16
  have hz3 : hi.z16.size = (wp.bc sC).length := by rw [bc_len sC16]; rfl
  have ho := wk.ones_bc sC
  unfold hi.z16 at hz3
  go_upto_region 4 with (refine wk.store_new rfl 31 (.tmp 3) (.tmp 26) rfl 31 _ (wp.bc sC) rfl rfl hz hz3 ho ?_)
  replace HS := Lib.hid ((HS.out.next ((Below.refl w3.heap.size w3).alloc (Nat.le_refl _) (.cells (wp.bc sC).toArray 31))).row (heap_alloc_new w3 _) sC16)
  generalize w3.alloc (.cells (wp.bc sC).toArray 31) = v3 at *
  generalize w3.heap.size = g3 at *
  clear hz hz3 ho
  have q1 := (HS.out.rows (g1, sA) (by simp)).1
  have q2 := (HS.out.rows (g2, sB) (by simp)).1
  have q3 := (HS.out.rows (g3, sC) (by simp)).1
  simp only [Act.put, List.setIfInBounds_toArray, List.set_cons_zero, List.set_cons_succ]
  go_upto_region 5 with (first | (refine wpList_load_row rfl 31 (.tmp 1) rfl _ rfl 31 (wp.bc (sA)).toArray (0, 0) _ q1 Tryd.underlying31 rfl (dv_sizeA (sA16)) ?_) | (refine wpList_load_row rfl 31 (.tmp 2) rfl _ rfl 31 (wp.bc (sB)).toArray (0, 0) _ q2 Tryd.underlying31 rfl (dv_sizeA (sB16)) ?_) | (refine wpList_load_row rfl 31 (.tmp 3) rfl _ rfl 31 (wp.bc (sC)).toArray (0, 0) _ q3 Tryd.underlying31 rfl (dv_sizeA (sC16)) ?_) | (refine list_new rfl (some 30) rfl _ (run_build3 (x := .tmp 27) (y := .tmp 28) (z := .tmp 29) (a := sA) (b := sB) (c := sC) rfl rfl rfl rfl sA16 sB16 sC16) ?_))
  have hI := isD_new (w := v3) (n := 3) (l := [sA, sB, sC]) rfl rfl (d16_3 sA16 sB16 sC16) (by omega)
  rw [flat3] at hI
  replace HS := Lib.hid ((HS.out.next ((Below.refl v3.heap.size v3).alloc (Nat.le_refl _) (.cells (wp.bc sA ++ (wp.bc sB ++ wp.bc sC)).toArray 31))).sl hI)
  clear hI q1 q2 q3
  generalize v3.alloc (.cells (wp.bc sA ++ (wp.bc sB ++ wp.bc sC)).toArray 31) = v4 at *
  generalize v3.heap.size = g4 at *
  have q1 := (HS.out.rows (g1, sA) (by simp)).1
  have q2 := (HS.out.rows (g2, sB) (by simp)).1
  go_wp2_with (first | (refine wpList_load_row rfl 31 (.tmp 1) rfl _ rfl 31 (wp.bc (sA)).toArray (0, 0) _ q1 Tryd.underlying31 rfl (dv_sizeA (sA16)) ?_) | (refine wpList_load_row rfl 31 (.tmp 2) rfl _ rfl 31 (wp.bc (sB)).toArray (0, 0) _ q2 Tryd.underlying31 rfl (dv_sizeA (sB16)) ?_))
  refine (node_calls (sA) (sB) (sA16) (sB16) _ HS.out.tab).mono ?_
  rintro e w5 ⟨rfl, hb⟩
  clear q1 q2
  replace HS := Lib.hid (HS.out.next hb)
  clear hb
  have hz := dv_size (nd16 (sA) (sB))
  have hz3 : hi.z16.size = (wp.bc (nodeD (sA) (sB))).length := by rw [bc_len (nd16 _ _)]; rfl
  have ho := wk.ones_bc (nodeD (sA) (sB))
  unfold hi.z16 at hz3
  go_upto_region 6 with (refine wk.store_new rfl 31 (.tmp 5) (.tmp 33) rfl 31 _ (wp.bc (nodeD (sA) (sB))) rfl rfl hz hz3 ho ?_)
  replace HS := Lib.hid ((HS.out.next ((Below.refl w5.heap.size w5).alloc (Nat.le_refl _) (.cells (wp.bc (nodeD (sA) (sB))).toArray 31))).row (heap_alloc_new w5 _) (nd16 (sA) (sB)))
  generalize w5.alloc (.cells (wp.bc (nodeD (sA) (sB))).toArray 31) = v5 at *
  generalize w5.heap.size = g5 at *
  clear hz hz3 ho
  have q5 := (HS.out.rows (g5, nodeD sA sB) (by simp)).1
  have q3 := (HS.out.rows (g3, sC) (by simp)).1
  go_wp2_with (first | (refine wpList_load_row rfl 31 (.tmp 5) rfl _ rfl 31 (wp.bc (nodeD sA sB)).toArray (0, 0) _ q5 Tryd.underlying31 rfl (dv_sizeA (nd16 sA sB)) ?_) | (refine wpList_load_row rfl 31 (.tmp 3) rfl _ rfl 31 (wp.bc (sC)).toArray (0, 0) _ q3 Tryd.underlying31 rfl (dv_sizeA (sC16)) ?_))
  refine (node_calls (nodeD sA sB) (sC) (nd16 sA sB) (sC16) _ HS.out.tab).mono ?_
  rintro e w6 ⟨rfl, hb⟩
  clear q5 q3
  replace HS := Lib.hid (HS.out.next hb)
  clear hb
  have hz := dv_size (nd16 (nodeD sA sB) (sC))
  have hz3 : hi.z16.size = (wp.bc (nodeD (nodeD sA sB) (sC))).length := by rw [bc_len (nd16 _ _)]; rfl
  have ho := wk.ones_bc (nodeD (nodeD sA sB) (sC))
  unfold hi.z16 at hz3
  go_upto_region 7 with (refine wk.store_new rfl 31 (.tmp 6) (.tmp 36) rfl 31 _ (wp.bc (nodeD (nodeD sA sB) (sC))) rfl rfl hz hz3 ho ?_)
  replace HS := Lib.hid ((HS.out.next ((Below.refl w6.heap.size w6).alloc (Nat.le_refl _) (.cells (wp.bc (nodeD (nodeD sA sB) (sC))).toArray 31))).row (heap_alloc_new w6 _) (nd16 (nodeD sA sB) (sC)))
  generalize w6.alloc (.cells (wp.bc (nodeD (nodeD sA sB) (sC))).toArray 31) = v6 at *
  generalize w6.heap.size = g6 at *
  clear hz hz3 ho
  have hI := HS.out.sls (some ⟨g4, 0, none⟩, 3, 3, [sA, sB, sC]) (by simp)
  go_wp2_with fail
  refine (incl_calls _ _ _ _ 0 _ hI HS.out.tab (by omega)).mono ?_
  rintro e w7 ⟨x7, rfl, ho, hb⟩
  clear hI
  replace HS := Lib.hid (HS.out.next hb)
  clear hb
  rw [inclP_0] at ho
  obtain ⟨A7, c7, rfl, hI⟩ := isD_own ho rfl (d16_2 sB16 sC16)
  rw [show ([sB, sC] : List D).length = 2 from rfl] at hI
  replace HS := Lib.hid (HS.out.sl hI)
  clear ho hI
  go_upto_region 8 with fail
  have hI := HS.out.sls (some ⟨g4, 0, none⟩, 3, 3, [sA, sB, sC]) (by simp)
  go_wp2_with fail
  refine (incl_calls _ _ _ _ 2 _ hI HS.out.tab (by omega)).mono ?_
  rintro e w8 ⟨x8, rfl, ho, hb⟩
  clear hI
  replace HS := Lib.hid (HS.out.next hb)
  clear hb
  rw [inclP_2] at ho
  obtain ⟨A8, c8, rfl, hI⟩ := isD_own ho rfl (d16_1 (nd16 sA sB))
  rw [show ([nodeD sA sB] : List D).length = 1 from rfl] at hI
  replace HS := Lib.hid (HS.out.sl hI)
  clear ho hI
  go_upto_region 9 with fail
  have hI := HS.out.sls (some ⟨g4, 0, none⟩, 3, 3, [sA, sB, sC]) (by simp)
  go_wp2_with fail
  refine (cons_calls _ _ _ _ 1 _ hI HS.out.tab (by omega)).mono ?_
  rintro e w9 ⟨x9, rfl, ho, hb⟩
  clear hI
  replace HS := Lib.hid (HS.out.next hb)
  clear hb
  rw [consP_1] at ho
  obtain ⟨A9, c9, rfl, hI⟩ := isD_own ho rfl (d16_2 sB16 sC16)
  rw [show ([sB, sC] : List D).length = 2 from rfl] at hI
  replace HS := Lib.hid (HS.out.sl hI)
  clear ho hI
  go_upto_region 10 with fail
  have hI := HS.out.sls (some ⟨g4, 0, none⟩, 3, 3, [sA, sB, sC]) (by simp)
  go_wp2_with fail
  refine (cons_calls _ _ _ _ 2 _ hI HS.out.tab (by omega)).mono ?_
  rintro e w10 ⟨x10, rfl, ho, hb⟩
  clear hI
  replace HS := Lib.hid (HS.out.next hb)
  clear hb
  rw [consP_2] at ho
  obtain ⟨A10, c10, rfl, hI⟩ := isD_own ho rfl (d16_1 sC16)
  rw [show ([sC] : List D).length = 1 from rfl] at hI
  replace HS := Lib.hid (HS.out.sl hI)
  clear ho hI
  go_upto_region 11 with fail
  have hI := HS.out.sls (some ⟨g4, 0, none⟩, 3, 3, [sA, sB, sC]) (by simp)
  go_wp2_with (refine list_new rfl (some 59) rfl _ (run_ints rfl rfl rfl) ?_)
  have hb := (Below.refl w10.heap.size w10).alloc (Nat.le_refl _) (.cells #[.int .i64 0, .int .i64 2] 3)
  replace HS := Lib.hid (HS.out.next hb)
  have hZ := isZ_new (w := w10) rfl
  refine (many_calls _ _ _ _ _ _ _ [0, 2] _ (hI.below hb) hZ HS.out.tab (by omega) (by omega)).mono ?_
  rintro e w11 ⟨x11, rfl, ho, hb11⟩
  clear hI hZ hb
  replace HS := Lib.hid (HS.out.next hb11)
  clear hb11
  rw [manyP_02] at ho
  obtain ⟨A11, c11, rfl, hI⟩ := isD_own ho rfl (d16_1 sB16)
  rw [show ([sB] : List D).length = 1 from rfl] at hI
  replace HS := Lib.hid (HS.out.sl hI)
  clear ho hI
  go_upto_region 12 with fail
  go_upto_region 13 with fail
  have hq := heap_alloc_new w11 (.cells #[.int .i64 0, .slice none 0 0] 43)
  have hb12 : Below w11.heap.size w11 (w11.alloc (.cells #[.int .i64 0, .slice none 0 0] 43)) := (Below.refl _ _).alloc (Nat.le_refl _) _
  have L16 : ∀ d ∈ ([sA, sB, sC] : List D), d.length = 16 := d16_3 sA16 sB16 sC16
  generalize w11.alloc (.cells #[.int .i64 0, .slice none 0 0] 43) = v12 at *
  have HG : Hid (∀ w', Below w11.heap.size w11 w' → RS w _ _ w') := Lib.hid fun w' hb => HS.out.next hb
  have hT := HS.out.tab
  have h1 : 1 < w11.heap.size := hT.1.1
  have HI := Lib.hid (HS.out.sls (some ⟨g4, 0, none⟩, 3, 3, [sA, sB, sC]) (by simp))
  generalize hg17 : w11.heap.size = g17 at *
  have HG17 := Lib.hid hg17
  have HP0 : Hid (PRel g17 w11 [sA, sB, sC] 0 v12) := Lib.hid ⟨.slice none 0 0, hq, (by rw [List.take_zero, pkD_nil]; exact World.ownsRow_nil _ _ _ _), hb12⟩
  clear hq hb12 hg17 hT HS
  go_wp2_with fail
  go_loopg [18] 3 (fun g x wr => ∃ k : Nat, k + g = 3 ∧ x = .int .i64 (k : Int) ∧ PRel g17 w11 [sA, sB, sC] k wr)
  case atStart => exact ⟨0, rfl, rfl, HP0.out⟩
  case round =>
    obtain ⟨k, hk, rfl, hP⟩ := hrel
    by_cases hlt : k < 3
    · obtain ⟨v, hrow, hown, hbel⟩ := hP
      have hlen : (pkD (([sA, sB, sC] : List D).take k)).length = pop 64 k := by rw [pkD_len, List.length_take, Nat.min_eq_left (by simp; omega)]
      obtain ⟨A, c, rfl, hI⟩ := isD_own hown rfl (pkD_16 fun d hd => L16 d (List.mem_of_mem_take hd))
      have hsz17 := wk.row_lt hrow
      have HT := Lib.hid (HG.out wr hbel).tab
      have hleaf : ([sA, sB, sC] : List D)[k]? = some (([sA, sB, sC] : List D)[k]'(by simp; omega)) := List.getElem?_eq_getElem _
      have hl16 := L16 _ (List.getElem_mem (show k < ([sA, sB, sC] : List D).length by simp; omega))
      have hgrow := pkD_grow (l := ([sA, sB, sC] : List D).take k) (x := ([sA, sB, sC] : List D)[k]'(by simp; omega)) (by rw [List.length_take]; simp; omega)
      rw [List.length_take, Nat.min_eq_left (by simp; omega), List.take_append_getElem (by simp; omega)] at hgrow
      obtain ⟨ad, hidx, hld⟩ := (HI.out.below (by rw [HG17.out]; exact hbel)).load (i := (k : Int)) (by omega) (d := ([sA, sB, sC] : List D)[k]'(by simp; omega)) (by rw [Int.toNat_natCast]; exact hleaf)
      have HGROW := Lib.hid hgrow
      have HIDX := Lib.hid hidx
      have HLD := Lib.hid hld
      have HROW := Lib.hid hrow
      have HIP := Lib.hid hI
      have HL16 := Lib.hid hl16
      have HLEN := Lib.hid hlen
      have HBEL := Lib.hid hbel
      have HK := Lib.hid hk
      clear hleaf hgrow hidx hld hrow hI hl16 hlen hbel hown hk
      generalize ([sA, sB, sC] : List D)[k]'(by simp; omega) = leaf at *
      go_upto_region 16 with fail
      refine wk.region_lev2 12 (GRel (wr.heap.size) (fun i => ([(pk (k : Int) (.slice A (pkD (([sA, sB, sC] : List D).take k)).length c)), (.slice (some ⟨g4, 0, none⟩) 3 3), (.int .i64 (k : Int)), (.pointer (some ad)), (dv leaf), undef, undef, undef, (.int .i64 0), undef, undef, (.int .i64 0)] : List Value).getD i undef) ((k + 1 : Nat)) ((car 64 k (pkD (([sA, sB, sC] : List D).take k)) leaf).1.length + 1) (((car 64 k (pkD (([sA, sB, sC] : List D).take k)) leaf).1 ++ [(car 64 k (pkD (([sA, sB, sC] : List D).take k)) leaf).2]).flatMap wp.bc)) [some 68, some 69, some 70, some 71, some 72, some 73, some 67, some 74, some 75, some 19, none, some 20] (fun L u => (L 10 = true → L 9 = true) ∧ Below wr.drew.heap.size wr.drew u) ⟨fun h => (by cases h), Below.refl _ _⟩ (by kernel_rfl) (by kernel_rfl) (by kernel_rfl) (by kernel_rfl) (by kernel_rfl) (by kernel_rfl) ?hstep ?hdone
      case hstep =>
        intro i o ho hi E L w4 hS4 hL hdeps DG
        obtain ⟨hcl, hb4⟩ := hS4
        have hi2 : i = 0 ∨ i = 1 ∨ i = 2 ∨ i = 3 ∨ i = 4 ∨ i = 5 ∨ i = 6 ∨ i = 7 ∨ i = 8 ∨ i = 9 ∨ i = 10 ∨ i = 11 := by omega
        clear hi
        rcases hi2 with rfl | rfl | rfl | rfl | rfl | rfl | rfl | rfl | rfl | rfl | rfl | rfl
        ·
          have ho2 := (Array.getElem?_eq_some_iff.1 ho).2
          simp only [List.getElem_toArray, List.getElem_cons_zero] at ho2
          subst ho2
          clear ho
          have e17 := DG.old 17 (by kernel_rfl)
          refine wk.Does.weak (R := fun _ v => v = pk (k : Int) (.slice A (pkD (([sA, sB, sC] : List D).take k)).length c)) ?_ fun w' v hb hr => ⟨hr, fun j u _ _ => GRel.next rfl hb j u, hcl, hb4.trans (hb.mono hb4.size)⟩
          exact wk.does_load_row rfl (by rw [e17]; rfl) (wk.row_below HROW.out ((Below.refl _ _).drew.trans hb4)) Tryd.underlying43 rfl infoP rfl
        ·
          have ho2 := (Array.getElem?_eq_some_iff.1 ho).2
          simp only [List.getElem_toArray, List.getElem_cons_succ, List.getElem_cons_zero] at ho2
          subst ho2
          clear ho
          have e4 := DG.old 4 (by kernel_rfl)
          refine wk.Does.weak (R := fun _ v => v = .slice (some ⟨g4, 0, none⟩) 3 3) ?_ fun w' v hb hr => ⟨hr, fun j u _ _ => GRel.next rfl hb j u, hcl, hb4.trans (hb.mono hb4.size)⟩
          exact wk.does_move rfl (by rw [e4]; rfl)
        ·
          have ho2 := (Array.getElem?_eq_some_iff.1 ho).2
          simp only [List.getElem_toArray, List.getElem_cons_succ, List.getElem_cons_zero] at ho2
          subst ho2
          clear ho
          have e18 := DG.old 18 (by kernel_rfl)
          refine wk.Does.weak (R := fun _ v => v = .int .i64 (k : Int)) ?_ fun w' v hb hr => ⟨hr, fun j u _ _ => GRel.next rfl hb j u, hcl, hb4.trans (hb.mono hb4.size)⟩
          exact wk.does_move rfl (by rw [e18]; rfl)
        ·
          have ho2 := (Array.getElem?_eq_some_iff.1 ho).2
          simp only [List.getElem_toArray, List.getElem_cons_succ, List.getElem_cons_zero] at ho2
          subst ho2
          clear ho
          have e69 : E (.tmp 69) = .slice (some ⟨g4, 0, none⟩) 3 3 := DG.is { on := 1, ground := .data } (by simp) rfl 69 rfl
          have e70 : E (.tmp 70) = .int .i64 (k : Int) := DG.is { on := 2, ground := .data } (by simp) rfl 70 rfl
          refine wk.Does.weak (R := fun _ v => v = .pointer (some ad)) ?_ fun w' v hb hr => ⟨hr, fun j u _ _ => GRel.next rfl hb j u, hcl, hb4.trans (hb.mono hb4.size)⟩
          exact wk.does_run (op_index rfl e69 e70 (HIDX.out _)) rfl
        ·
          have ho2 := (Array.getElem?_eq_some_iff.1 ho).2
          simp only [List.getElem_toArray, List.getElem_cons_succ, List.getElem_cons_zero] at ho2
          subst ho2
          clear ho
          have e71 : E (.tmp 71) = .pointer (some ad) := DG.is { on := 3, ground := .data } (by simp) rfl 71 rfl
          refine wk.Does.weak (R := fun _ v => v = dv leaf) ?_ fun w' v hb hr => ⟨hr, fun j u _ _ => GRel.next rfl hb j u, hcl, hb4.trans (hb.mono hb4.size)⟩
          exact wk.does_load_agg rfl e71 (HLD.out _ ((Below.refl _ _).drew.trans hb4)) Tryd.underlying31 rfl (dv_size HL16.out) rfl
        ·
          have ho2 := (Array.getElem?_eq_some_iff.1 ho).2
          simp only [List.getElem_toArray, List.getElem_cons_succ, List.getElem_cons_zero] at ho2
          subst ho2
          clear ho
          have e68 : E (.tmp 68) = pk (k : Int) (.slice A (pkD (([sA, sB, sC] : List D).take k)).length c) := DG.is { on := 0, ground := .data } (by simp) rfl 68 rfl
          have e72 : E (.tmp 72) = dv leaf := DG.is { on := 4, ground := .data } (by simp) rfl 72 rfl
          refine wk.Does.weak (R := fun w' v => ∃ v2, v = .tuple #[pk ((k + 1 : Nat)) v2, .int .i64 0] ∧ w'.ownsRow (wr.heap.size) 31 16 v2 ((car 64 k (pkD (([sA, sB, sC] : List D).take k)) leaf).1.length + 1) (((car 64 k (pkD (([sA, sB, sC] : List D).take k)) leaf).1 ++ [(car 64 k (pkD (([sA, sB, sC] : List D).take k)) leaf).2]).flatMap wp.bc)) ?_ fun w' v hb hr => ⟨hr, fun j u _ _ => GRel.next rfl hb j u, hcl, hb4.trans (hb.mono hb4.size)⟩
          refine wk.does_fn (f := 25) (vs := #[pk (k : Int) (.slice A (pkD (([sA, sB, sC] : List D).take k)).length c), dv leaf]) rfl (DG.fn _) (by simp [e68, e72]) (by go_simp) ?_
          refine (append_calls k A _ c _ leaf _ (HIP.out.below ((Below.refl _ _).drew.trans hb4)) HL16.out (HT.out.next ((Below.refl _ _).drew.trans hb4)) (by omega) HLEN.out).mono ?_
          rintro e w5 ⟨v2, rfl, ho5, hb5⟩
          exact ⟨_, rfl, hb5, v2, rfl, ownsRow_weak ho5 ((Below.refl _ _).drew.trans hb4).size⟩
        ·
          have ho2 := (Array.getElem?_eq_some_iff.1 ho).2
          simp only [List.getElem_toArray, List.getElem_cons_succ, List.getElem_cons_zero] at ho2
          subst ho2
          clear ho
          have s73 : GRel (wr.heap.size) (fun i => ([(pk (k : Int) (.slice A (pkD (([sA, sB, sC] : List D).take k)).length c)), (.slice (some ⟨g4, 0, none⟩) 3 3), (.int .i64 (k : Int)), (.pointer (some ad)), (dv leaf), undef, undef, undef, (.int .i64 0), undef, undef, (.int .i64 0)] : List Value).getD i undef) ((k + 1 : Nat)) ((car 64 k (pkD (([sA, sB, sC] : List D).take k)) leaf).1.length + 1) (((car 64 k (pkD (([sA, sB, sC] : List D).take k)) leaf).1 ++ [(car 64 k (pkD (([sA, sB, sC] : List D).take k)) leaf).2]).flatMap wp.bc) L 5 w4 (E (.tmp 73)) := DG.is { on := 5, ground := .data } (by simp) rfl 73 rfl
          refine wk.Does.weak (R := fun w' v => ∃ v2, v = .tuple #[pk ((k + 1 : Nat)) v2, .int .i64 0] ∧ w'.ownsRow (wr.heap.size) 31 16 v2 ((car 64 k (pkD (([sA, sB, sC] : List D).take k)) leaf).1.length + 1) (((car 64 k (pkD (([sA, sB, sC] : List D).take k)) leaf).1 ++ [(car 64 k (pkD (([sA, sB, sC] : List D).take k)) leaf).2]).flatMap wp.bc)) ?_ fun w' v hb hr => ⟨hr, fun j u _ _ => GRel.next rfl hb j u, hcl, hb4.trans (hb.mono hb4.size)⟩
          exact wk.does_move rfl s73
        ·
          have ho2 := (Array.getElem?_eq_some_iff.1 ho).2
          simp only [List.getElem_toArray, List.getElem_cons_succ, List.getElem_cons_zero] at ho2
          subst ho2
          clear ho
          have s67 : GRel (wr.heap.size) (fun i => ([(pk (k : Int) (.slice A (pkD (([sA, sB, sC] : List D).take k)).length c)), (.slice (some ⟨g4, 0, none⟩) 3 3), (.int .i64 (k : Int)), (.pointer (some ad)), (dv leaf), undef, undef, undef, (.int .i64 0), undef, undef, (.int .i64 0)] : List Value).getD i undef) ((k + 1 : Nat)) ((car 64 k (pkD (([sA, sB, sC] : List D).take k)) leaf).1.length + 1) (((car 64 k (pkD (([sA, sB, sC] : List D).take k)) leaf).1 ++ [(car 64 k (pkD (([sA, sB, sC] : List D).take k)) leaf).2]).flatMap wp.bc) L 6 w4 (E (.tmp 67)) := DG.is { on := 6, ground := .data } (by simp) rfl 67 rfl
          refine wk.Does.weak (R := fun w' v => ∃ v2, v = pk ((k + 1 : Nat)) v2 ∧ w'.ownsRow (wr.heap.size) 31 16 v2 ((car 64 k (pkD (([sA, sB, sC] : List D).take k)) leaf).1.length + 1) (((car 64 k (pkD (([sA, sB, sC] : List D).take k)) leaf).1 ++ [(car 64 k (pkD (([sA, sB, sC] : List D).take k)) leaf).2]).flatMap wp.bc)) ?_ fun w' v hb hr => ⟨hr, fun j u _ _ => GRel.next rfl hb j u, hcl, hb4.trans (hb.mono hb4.size)⟩
          obtain ⟨v2, hv2, ho2⟩ := s67
          exact wk.does_extract rfl hv2 rfl ⟨v2, rfl, ho2⟩
        ·
          have ho2 := (Array.getElem?_eq_some_iff.1 ho).2
          simp only [List.getElem_toArray, List.getElem_cons_succ, List.getElem_cons_zero] at ho2
          subst ho2
          clear ho
          have s67 : GRel (wr.heap.size) (fun i => ([(pk (k : Int) (.slice A (pkD (([sA, sB, sC] : List D).take k)).length c)), (.slice (some ⟨g4, 0, none⟩) 3 3), (.int .i64 (k : Int)), (.pointer (some ad)), (dv leaf), undef, undef, undef, (.int .i64 0), undef, undef, (.int .i64 0)] : List Value).getD i undef) ((k + 1 : Nat)) ((car 64 k (pkD (([sA, sB, sC] : List D).take k)) leaf).1.length + 1) (((car 64 k (pkD (([sA, sB, sC] : List D).take k)) leaf).1 ++ [(car 64 k (pkD (([sA, sB, sC] : List D).take k)) leaf).2]).flatMap wp.bc) L 6 w4 (E (.tmp 67)) := DG.is { on := 6, ground := .data } (by simp) rfl 67 rfl
          refine wk.Does.weak (R := fun _ v => v = .int .i64 0) ?_ fun w' v hb hr => ⟨hr, fun j u _ _ => GRel.next rfl hb j u, hcl, hb4.trans (hb.mono hb4.size)⟩
          obtain ⟨v2, hv2, ho2⟩ := s67
          exact wk.does_extract rfl hv2 rfl rfl
        ·
          have ho2 := (Array.getElem?_eq_some_iff.1 ho).2
          simp only [List.getElem_toArray, List.getElem_cons_succ, List.getElem_cons_zero] at ho2
          subst ho2
          clear ho
          have hL10 : L 10 = false := by cases h : L 10; rfl; rw [hcl h] at hL; cases hL
          refine wk.Does.weak (R := fun w' v => ∃ g, v = .pointer (some ⟨g, 0, none⟩) ∧ wr.heap.size ≤ g ∧ w'.heap[g]? = some (.cells #[.int .i64 0, .slice none 0 0] 43 (0, 0))) ?_ fun w' v hb hr => ⟨?_, fun j u _ _ => GRel.next rfl hb j u, fun _ => rfl, hb4.trans (hb.mono hb4.size)⟩
          · exact wk.does_new (v := .pointer (some ⟨w4.heap.size, 0, none⟩)) (w' := w4.alloc (.cells #[.int .i64 0, .slice none 0 0] 43)) (by unfold execOp; go_simp) ((Below.refl _ _).alloc (Nat.le_refl _) _) ⟨_, rfl, hb4.size, heap_alloc_new _ _⟩
          · obtain ⟨g, h1, h2, h3⟩ := hr
            exact ⟨g, h1, h2, fun _ => h3, fun h => by have h' : L 10 = true := h; rw [hL10] at h'; cases h'⟩
        ·
          have ho2 := (Array.getElem?_eq_some_iff.1 ho).2
          simp only [List.getElem_toArray, List.getElem_cons_succ, List.getElem_cons_zero] at ho2
          subst ho2
          clear ho
          have s19 : GRel (wr.heap.size) (fun i => ([(pk (k : Int) (.slice A (pkD (([sA, sB, sC] : List D).take k)).length c)), (.slice (some ⟨g4, 0, none⟩) 3 3), (.int .i64 (k : Int)), (.pointer (some ad)), (dv leaf), undef, undef, undef, (.int .i64 0), undef, undef, (.int .i64 0)] : List Value).getD i undef) ((k + 1 : Nat)) ((car 64 k (pkD (([sA, sB, sC] : List D).take k)) leaf).1.length + 1) (((car 64 k (pkD (([sA, sB, sC] : List D).take k)) leaf).1 ++ [(car 64 k (pkD (([sA, sB, sC] : List D).take k)) leaf).2]).flatMap wp.bc) L 9 w4 (E (.tmp 19)) := DG.is { on := 9, ground := .data } (by simp) rfl 19 rfl
          have s74 : GRel (wr.heap.size) (fun i => ([(pk (k : Int) (.slice A (pkD (([sA, sB, sC] : List D).take k)).length c)), (.slice (some ⟨g4, 0, none⟩) 3 3), (.int .i64 (k : Int)), (.pointer (some ad)), (dv leaf), undef, undef, undef, (.int .i64 0), undef, undef, (.int .i64 0)] : List Value).getD i undef) ((k + 1 : Nat)) ((car 64 k (pkD (([sA, sB, sC] : List D).take k)) leaf).1.length + 1) (((car 64 k (pkD (([sA, sB, sC] : List D).take k)) leaf).1 ++ [(car 64 k (pkD (([sA, sB, sC] : List D).take k)) leaf).2]).flatMap wp.bc) L 7 w4 (E (.tmp 74)) := DG.is { on := 7, ground := .data } (by simp) rfl 74 rfl
          have hL9 : L 9 = true := hdeps { on := 9, ground := .data } (by simp) rfl
          obtain ⟨g, h19, hlo, hz, _⟩ := s19
          obtain ⟨v2, h74, hown⟩ := s74
          exact wk.does_store_t rfl (cs := [.int .i64 ((k + 1 : Nat)), v2]) h19 h74 (hz hL) infoP rfl (ones_pk _ hown) ⟨trivial, fun j u hj hu hr => GRel.store (hz hL) hown hL h19 j u (fun e => by subst e; exact hu 19 rfl) hr, fun _ => hL9, wk.below_setRow hb4 hlo _⟩
        ·
          have ho2 := (Array.getElem?_eq_some_iff.1 ho).2
          simp only [List.getElem_toArray, List.getElem_cons_succ, List.getElem_cons_zero] at ho2
          subst ho2
          clear ho
          have e75 : E (.tmp 75) = .int .i64 0 := DG.is { on := 8, ground := .data } (by simp) rfl 75 rfl
          refine wk.Does.weak (R := fun _ v => v = .int .i64 0) ?_ fun w' v hb hr => ⟨hr, fun j u _ _ => GRel.next rfl hb j u, hcl, hb4.trans (hb.mono hb4.size)⟩
          exact wk.does_assign rfl e75
      case hdone =>
        intro vals L w4 hall hS4 hv
        obtain ⟨_, hb4⟩ := hS4
        have h10 := hall 10 (by omega)
        obtain ⟨g, h9, hglo, _, hfin⟩ := hv 9 (by omega)
        obtain ⟨v2, hrow4, hown4⟩ := hfin h10
        have h11 : vals 11 = .int .i64 0 := hv 11 (by omega)
        clear hv hfin h10 hall
        simp only [List.drop_succ_cons, List.drop_zero, List.drop_nil, wpList, wk.setL, List.setIfInBounds_toArray, List.set_cons_zero, List.set_cons_succ, Nat.zero_add, Nat.reduceAdd, h9, h11]
        generalize vals 0 = x0
        generalize vals 1 = x1
        generalize vals 2 = x2
        generalize vals 3 = x3
        generalize vals 4 = x4
        generalize vals 5 = x5
        generalize vals 6 = x6
        generalize vals 7 = x7
        generalize vals 8 = x8
        have HROW4 := Lib.hid hrow4
        have HOWN4 := Lib.hid hown4
        have HB4 := Lib.hid (show Below wr.heap.size wr w4 from ((Below.refl _ _).drew.trans hb4))
        have HGLO := Lib.hid hglo
        clear hrow4 hown4 hb4 hglo
        have hs17 : g17 < wr.heap.size := wk.row_lt HROW.out
        have hq17 := wk.row_below HROW.out HB4.out
        have hq19 := HROW4.out
        have hones := ones_pk ((k + 1 : Nat) : Int) HOWN4.out
        have hown5 := ownsRow_setRow (ownsRow_weak HOWN4.out (show g17 + 1 ≤ wr.heap.size by omega)) (B := g17) (by omega) #[.int .i64 ((k + 1 : Nat) : Int), v2]
        rw [HGROW.out, show (car 64 k (pkD (([sA, sB, sC] : List D).take k)) leaf).1.length + 1 = (pkD (([sA, sB, sC] : List D).take (k + 1))).length by rw [← HGROW.out]; simp] at hown5
        have HOWN5 := Lib.hid hown5
        have HB5 := Lib.hid (show Below g17 w11 (w4.setRow g17 #[.int .i64 ((k + 1 : Nat) : Int), v2]) from wk.below_setRow (HBEL.out.trans (HB4.out.mono (by omega))) (Nat.le_refl _) _)
        have HGK := Lib.hid HK.out
        clear hown5 HK
        go_wp2_with (first | (refine wpList_load_row rfl 43 (.tmp 19) rfl g rfl 43 #[.int .i64 ((k + 1 : Nat) : Int), v2] (0, 0) _ hq19 Tryd.underlying43 rfl infoP ?_) | (refine wk.store_row rfl 43 (.tmp 17) (.tmp 78) rfl g17 [.int .i64 ((k + 1 : Nat) : Int), v2] rfl rfl 43 _ hq17 infoP rfl hones ?_))
        go_roundg (gk - 1)
        case measure => have := HGK.out; omega
        case rel => exact ⟨k + 1, by have := HGK.out; omega, by go_num, v2, setRow_heap _ _ _ _ _ _ hq17, HOWN5.out, HB5.out⟩
    · obtain rfl : k = 3 := by omega
      obtain ⟨v, hrow, hown, hbel⟩ := hP
      rw [show ([sA, sB, sC] : List D).take 3 = [sA, sB, sC] from rfl, pkD_3] at hown
      obtain ⟨A17, c17, rfl, hI17⟩ := isD_own hown rfl (d16_2 (nd16 sA sB) sC16)
      rw [show ([nodeD sA sB, sC] : List D).length = 2 from rfl] at hI17
      change wr.heap[g17]? = some (.cells #[.int .i64 3, .slice A17 2 c17] 43 (0, 0)) at hrow
      have HROW := Lib.hid hrow
      have HS := Lib.hid ((HG.out wr hbel).sl hI17)
      clear hrow hown hbel hI17 HP0 HG HI hk hlt
      go_upto_region 20 with fail
      rw [show inclE 3 0 = 0 from rfl, show inclE 3 2 = 0 from rfl, show consE 3 1 = 0 from rfl, show consE 3 2 = 0 from rfl, show manyE 3 [0, 2] = 0 from rfl]
      refine wk.region_tailB 37 [.is (.int .i64 0), .is (.bool true), .is (.bool true), .is (.int .i64 0), .is (.bool true), .is (.bool true), .is (.bool true), .is (.int .i64 0), .is (.bool true), .is (.bool true), .is (.bool true), .is (.int .i64 0), .is (.bool true), .is (.bool true), .is (.bool true), .is (.int .i64 0), .is (.bool true), .is (.bool true), .is (.bool true), .is (.slice (some ⟨g4, 0, none⟩) 3 3), .is (dv (nodeD (nodeD sA sB) sC)), .is (dv (nodeD (nodeD sA sB) sC)), .is (.bool true), .is (.bool true), .is (.bool true), .is (dv sA), .is (dv sA), .is (.bool true), .is (.bool true), .is (.bool true), .is (dv (nodeD sA sB)), .is (dv sA), .is (dv sB), .is (dv (nodeD sA sB)), .is (.bool true), .is (.bool true), .is (.bool true)] [some 79, some 80, some 81, some 82, some 83, some 84, some 85, some 86, some 87, some 88, some 89, some 90, some 91, some 92, some 93, some 94, some 95, some 96, some 97, some 98, some 99, some 100, some 101, some 102, some 103, some 104, some 105, some 106, some 107, some 108, some 109, some 110, some 111, some 112, some 113, some 114, some 21] (by kernel_rfl) (by kernel_rfl) (by kernel_rfl) (by kernel_rfl) (by kernel_rfl) (by kernel_rfl) ?hstep ?hdone
      case hstep =>
        intro i o ho hi E w4 hb4 D
        have hi2 : i = 0 ∨ i = 1 ∨ i = 2 ∨ i = 3 ∨ i = 4 ∨ i = 5 ∨ i = 6 ∨ i = 7 ∨ i = 8 ∨ i = 9 ∨ i = 10 ∨ i = 11 ∨ i = 12 ∨ i = 13 ∨ i = 14 ∨ i = 15 ∨ i = 16 ∨ i = 17 ∨ i = 18 ∨ i = 19 ∨ i = 20 ∨ i = 21 ∨ i = 22 ∨ i = 23 ∨ i = 24 ∨ i = 25 ∨ i = 26 ∨ i = 27 ∨ i = 28 ∨ i = 29 ∨ i = 30 ∨ i = 31 ∨ i = 32 ∨ i = 33 ∨ i = 34 ∨ i = 35 ∨ i = 36 := by omega
        clear hi
        rcases hi2 with rfl | rfl | rfl | rfl | rfl | rfl | rfl | rfl | rfl | rfl | rfl | rfl | rfl | rfl | rfl | rfl | rfl | rfl | rfl | rfl | rfl | rfl | rfl | rfl | rfl | rfl | rfl | rfl | rfl | rfl | rfl | rfl | rfl | rfl | rfl | rfl | rfl
        ·
          have ho2 := (Array.getElem?_eq_some_iff.1 ho).2
          simp only [List.getElem_toArray, List.getElem_cons_zero] at ho2
          subst ho2
          clear ho
          have e8 := D.old 8 (by kernel_rfl)
          exact wk.does_move rfl (by rw [e8]; rfl)
        ·
          have ho2 := (Array.getElem?_eq_some_iff.1 ho).2
          simp only [List.getElem_toArray, List.getElem_cons_succ, List.getElem_cons_zero] at ho2
          subst ho2
          clear ho
          have e79 := D.is { on := 0, ground := .data } (by simp) rfl rfl 79 rfl
          exact wk.does_bin rfl (by rw [e79, D.con]; go_simp) rfl
        ·
          have ho2 := (Array.getElem?_eq_some_iff.1 ho).2
          simp only [List.getElem_toArray, List.getElem_cons_succ, List.getElem_cons_zero] at ho2
          subst ho2
          clear ho
          have e80 := D.is { on := 1, ground := .data } (by simp) rfl rfl 80 rfl
          exact wk.does_move rfl e80
        ·
          have ho2 := (Array.getElem?_eq_some_iff.1 ho).2
          simp only [List.getElem_toArray, List.getElem_cons_succ, List.getElem_cons_zero] at ho2
          subst ho2
          clear ho
          have e10 := D.old 10 (by kernel_rfl)
          exact wk.does_move rfl (by rw [e10]; rfl)
        ·
          have ho2 := (Array.getElem?_eq_some_iff.1 ho).2
          simp only [List.getElem_toArray, List.getElem_cons_succ, List.getElem_cons_zero] at ho2
          subst ho2
          clear ho
          have e82 := D.is { on := 3, ground := .data } (by simp) rfl rfl 82 rfl
          exact wk.does_bin rfl (by rw [e82, D.con]; go_simp) rfl
        ·
          have ho2 := (Array.getElem?_eq_some_iff.1 ho).2
          simp only [List.getElem_toArray, List.getElem_cons_succ, List.getElem_cons_zero] at ho2
          subst ho2
          clear ho
          have e81 := D.is { on := 2, ground := .data } (by simp) rfl rfl 81 rfl
          have e83 := D.is { on := 4, ground := .data } (by simp) rfl rfl 83 rfl
          exact wk.does_pick rfl e81 e83
        ·
          have ho2 := (Array.getElem?_eq_some_iff.1 ho).2
          simp only [List.getElem_toArray, List.getElem_cons_succ, List.getElem_cons_zero] at ho2
          subst ho2
          clear ho
          have e84 := D.is { on := 5, ground := .data } (by simp) rfl rfl 84 rfl
          exact wk.does_move rfl e84
        ·
          have ho2 := (Array.getElem?_eq_some_iff.1 ho).2
          simp only [List.getElem_toArray, List.getElem_cons_succ, List.getElem_cons_zero] at ho2
          subst ho2
          clear ho
          have e12 := D.old 12 (by kernel_rfl)
          exact wk.does_move rfl (by rw [e12]; rfl)
        ·
          have ho2 := (Array.getElem?_eq_some_iff.1 ho).2
          simp only [List.getElem_toArray, List.getElem_cons_succ, List.getElem_cons_zero] at ho2
          subst ho2
          clear ho
          have e86 := D.is { on := 7, ground := .data } (by simp) rfl rfl 86 rfl
          exact wk.does_bin rfl (by rw [e86, D.con]; go_simp) rfl
        ·
          have ho2 := (Array.getElem?_eq_some_iff.1 ho).2
          simp only [List.getElem_toArray, List.getElem_cons_succ, List.getElem_cons_zero] at ho2
          subst ho2
          clear ho
          have e85 := D.is { on := 6, ground := .data } (by simp) rfl rfl 85 rfl
          have e87 := D.is { on := 8, ground := .data } (by simp) rfl rfl 87 rfl
          exact wk.does_pick rfl e85 e87
        ·
          have ho2 := (Array.getElem?_eq_some_iff.1 ho).2
          simp only [List.getElem_toArray, List.getElem_cons_succ, List.getElem_cons_zero] at ho2
          subst ho2
          clear ho
          have e88 := D.is { on := 9, ground := .data } (by simp) rfl rfl 88 rfl
          exact wk.does_move rfl e88
        ·
          have ho2 := (Array.getElem?_eq_some_iff.1 ho).2
          simp only [List.getElem_toArray, List.getElem_cons_succ, List.getElem_cons_zero] at ho2
          subst ho2
          clear ho
          have e14 := D.old 14 (by kernel_rfl)
          exact wk.does_move rfl (by rw [e14]; rfl)
        ·
          have ho2 := (Array.getElem?_eq_some_iff.1 ho).2
          simp only [List.getElem_toArray, List.getElem_cons_succ, List.getElem_cons_zero] at ho2
          subst ho2
          clear ho
          have e90 := D.is { on := 11, ground := .data } (by simp) rfl rfl 90 rfl
          exact wk.does_bin rfl (by rw [e90, D.con]; go_simp) rfl
        ·
          have ho2 := (Array.getElem?_eq_some_iff.1 ho).2
          simp only [List.getElem_toArray, List.getElem_cons_succ, List.getElem_cons_zero] at ho2
          subst ho2
          clear ho
          have e89 := D.is { on := 10, ground := .data } (by simp) rfl rfl 89 rfl
          have e91 := D.is { on := 12, ground := .data } (by simp) rfl rfl 91 rfl
          exact wk.does_pick rfl e89 e91
        ·
          have ho2 := (Array.getElem?_eq_some_iff.1 ho).2
          simp only [List.getElem_toArray, List.getElem_cons_succ, List.getElem_cons_zero] at ho2
          subst ho2
          clear ho
          have e92 := D.is { on := 13, ground := .data } (by simp) rfl rfl 92 rfl
          exact wk.does_move rfl e92
        ·
          have ho2 := (Array.getElem?_eq_some_iff.1 ho).2
          simp only [List.getElem_toArray, List.getElem_cons_succ, List.getElem_cons_zero] at ho2
          subst ho2
          clear ho
          have e16 := D.old 16 (by kernel_rfl)
          exact wk.does_move rfl (by rw [e16]; rfl)
        ·
          have ho2 := (Array.getElem?_eq_some_iff.1 ho).2
          simp only [List.getElem_toArray, List.getElem_cons_succ, List.getElem_cons_zero] at ho2
          subst ho2
          clear ho
          have e94 := D.is { on := 15, ground := .data } (by simp) rfl rfl 94 rfl
          exact wk.does_bin rfl (by rw [e94, D.con]; go_simp) rfl
        ·
          have ho2 := (Array.getElem?_eq_some_iff.1 ho).2
          simp only [List.getElem_toArray, List.getElem_cons_succ, List.getElem_cons_zero] at ho2
          subst ho2
          clear ho
          have e93 := D.is { on := 14, ground := .data } (by simp) rfl rfl 93 rfl
          have e95 := D.is { on := 16, ground := .data } (by simp) rfl rfl 95 rfl
          exact wk.does_pick rfl e93 e95
        ·
          have ho2 := (Array.getElem?_eq_some_iff.1 ho).2
          simp only [List.getElem_toArray, List.getElem_cons_succ, List.getElem_cons_zero] at ho2
          subst ho2
          clear ho
          have e96 := D.is { on := 17, ground := .data } (by simp) rfl rfl 96 rfl
          exact wk.does_move rfl e96
        ·
          have ho2 := (Array.getElem?_eq_some_iff.1 ho).2
          simp only [List.getElem_toArray, List.getElem_cons_succ, List.getElem_cons_zero] at ho2
          subst ho2
          clear ho
          have e4 := D.old 4 (by kernel_rfl)
          exact wk.does_move rfl (by rw [e4]; rfl)
        ·
          have ho2 := (Array.getElem?_eq_some_iff.1 ho).2
          simp only [List.getElem_toArray, List.getElem_cons_succ, List.getElem_cons_zero] at ho2
          subst ho2
          clear ho
          have e98 := D.is { on := 19, ground := .data } (by simp) rfl rfl 98 rfl
          refine wk.does_fn (f := 15) (vs := #[.slice (some ⟨g4, 0, none⟩) 3 3]) rfl (D.fn _) (by simp [e98]) (by go_simp) ?_
          refine (root_calls _ _ _ _ w4 ((HS.out.next ((Below.refl _ _).drew.trans hb4)).sls (some ⟨g4, 0, none⟩, 3, 3, [sA, sB, sC]) (by simp)) (HS.out.next ((Below.refl _ _).drew.trans hb4)).tab).mono ?_
          rintro e w5 ⟨rfl, hb5⟩
          exact ⟨_, rfl, hb5, by rw [rootD_3]; rfl⟩
        ·
          have ho2 := (Array.getElem?_eq_some_iff.1 ho).2
          simp only [List.getElem_toArray, List.getElem_cons_succ, List.getElem_cons_zero] at ho2
          subst ho2
          clear ho
          have e6 := D.old 6 (by kernel_rfl)
          exact wk.does_load_row rfl (by rw [e6]; rfl) ((HS.out.next ((Below.refl _ _).drew.trans hb4)).rows (g6, nodeD (nodeD sA sB) sC) (by simp)).1 Tryd.underlying31 rfl (dv_sizeA (nd16 (nodeD sA sB) sC)) rfl
        ·
          have ho2 := (Array.getElem?_eq_some_iff.1 ho).2
          simp only [List.getElem_toArray, List.getElem_cons_succ, List.getElem_cons_zero] at ho2
          subst ho2
          clear ho
          have e99 := D.is { on := 20, ground := .data } (by simp) rfl rfl 99 rfl
          have e100 := D.is { on := 21, ground := .data } (by simp) rfl rfl 100 rfl
          exact wk.does_eq_arr rfl e99 e100 (by kernel_rfl) (b := true) (by have h := eq_dv w4 _ _ (nd16 (nodeD sA sB) sC) (nd16 (nodeD sA sB) sC); rw [beq_self_eq_true] at h; exact h) rfl
        ·
          have ho2 := (Array.getElem?_eq_some_iff.1 ho).2
          simp only [List.getElem_toArray, List.getElem_cons_succ, List.getElem_cons_zero] at ho2
          subst ho2
          clear ho
          have e97 := D.is { on := 18, ground := .data } (by simp) rfl rfl 97 rfl
          have e101 := D.is { on := 22, ground := .data } (by simp) rfl rfl 101 rfl
          exact wk.does_pick rfl e97 e101
        ·
          have ho2 := (Array.getElem?_eq_some_iff.1 ho).2
          simp only [List.getElem_toArray, List.getElem_cons_succ, List.getElem_cons_zero] at ho2
          subst ho2
          clear ho
          have e102 := D.is { on := 23, ground := .data } (by simp) rfl rfl 102 rfl
          exact wk.does_move rfl e102
        ·
          have ho2 := (Array.getElem?_eq_some_iff.1 ho).2
          simp only [List.getElem_toArray, List.getElem_cons_succ, List.getElem_cons_zero] at ho2
          subst ho2
          clear ho
          have e1 := D.old 1 (by kernel_rfl)
          exact wk.does_load_row rfl (by rw [e1]; rfl) ((HS.out.next ((Below.refl _ _).drew.trans hb4)).rows (g1, sA) (by simp)).1 Tryd.underlying31 rfl (dv_sizeA sA16) rfl
        ·
          have ho2 := (Array.getElem?_eq_some_iff.1 ho).2
          simp only [List.getElem_toArray, List.getElem_cons_succ, List.getElem_cons_zero] at ho2
          subst ho2
          clear ho
          refine wk.does_fn (f := 18) (vs := #[.string ⟨#[97]⟩]) rfl (D.fn _) (by simp [D.con]) (by go_simp) ?_
          refine (rleaf_calls ⟨#[97]⟩ (by decide) w4 (HS.out.next ((Below.refl _ _).drew.trans hb4)).tab).mono ?_
          rintro e w5 ⟨rfl, hb5⟩
          exact ⟨_, rfl, hb5, rfl⟩
        ·
          have ho2 := (Array.getElem?_eq_some_iff.1 ho).2
          simp only [List.getElem_toArray, List.getElem_cons_succ, List.getElem_cons_zero] at ho2
          subst ho2
          clear ho
          have e104 := D.is { on := 25, ground := .data } (by simp) rfl rfl 104 rfl
          have e105 := D.is { on := 26, ground := .data } (by simp) rfl rfl 105 rfl
          exact wk.does_eq_arr rfl e104 e105 (by kernel_rfl) (b := true) (by have h := eq_dv w4 _ _ sA16 sA16; rw [beq_self_eq_true] at h; exact h) rfl
        ·
          have ho2 := (Array.getElem?_eq_some_iff.1 ho).2
          simp only [List.getElem_toArray, List.getElem_cons_succ, List.getElem_cons_zero] at ho2
          subst ho2
          clear ho
          have e103 := D.is { on := 24, ground := .data } (by simp) rfl rfl 103 rfl
          have e106 := D.is { on := 27, ground := .data } (by simp) rfl rfl 106 rfl
          exact wk.does_pick rfl e103 e106
        ·
          have ho2 := (Array.getElem?_eq_some_iff.1 ho).2
          simp only [List.getElem_toArray, List.getElem_cons_succ, List.getElem_cons_zero] at ho2
          subst ho2
          clear ho
          have e107 := D.is { on := 28, ground := .data } (by simp) rfl rfl 107 rfl
          exact wk.does_move rfl e107
        ·
          have ho2 := (Array.getElem?_eq_some_iff.1 ho).2
          simp only [List.getElem_toArray, List.getElem_cons_succ, List.getElem_cons_zero] at ho2
          subst ho2
          clear ho
          have e5 := D.old 5 (by kernel_rfl)
          exact wk.does_load_row rfl (by rw [e5]; rfl) ((HS.out.next ((Below.refl _ _).drew.trans hb4)).rows (g5, nodeD sA sB) (by simp)).1 Tryd.underlying31 rfl (dv_sizeA (nd16 sA sB)) rfl
        ·
          have ho2 := (Array.getElem?_eq_some_iff.1 ho).2
          simp only [List.getElem_toArray, List.getElem_cons_succ, List.getElem_cons_zero] at ho2
          subst ho2
          clear ho
          have e1 := D.old 1 (by kernel_rfl)
          exact wk.does_load_row rfl (by rw [e1]; rfl) ((HS.out.next ((Below.refl _ _).drew.trans hb4)).rows (g1, sA) (by simp)).1 Tryd.underlying31 rfl (dv_sizeA sA16) rfl
        ·
          have ho2 := (Array.getElem?_eq_some_iff.1 ho).2
          simp only [List.getElem_toArray, List.getElem_cons_succ, List.getElem_cons_zero] at ho2
          subst ho2
          clear ho
          have e2 := D.old 2 (by kernel_rfl)
          exact wk.does_load_row rfl (by rw [e2]; rfl) ((HS.out.next ((Below.refl _ _).drew.trans hb4)).rows (g2, sB) (by simp)).1 Tryd.underlying31 rfl (dv_sizeA sB16) rfl
        ·
          have ho2 := (Array.getElem?_eq_some_iff.1 ho).2
          simp only [List.getElem_toArray, List.getElem_cons_succ, List.getElem_cons_zero] at ho2
          subst ho2
          clear ho
          have e110 := D.is { on := 31, ground := .data } (by simp) rfl rfl 110 rfl
          have e111 := D.is { on := 32, ground := .data } (by simp) rfl rfl 111 rfl
          refine wk.does_fn (f := 20) (vs := #[dv sA, dv sB]) rfl (D.fn _) (by simp [e110, e111]) (by go_simp) ?_
          refine (rnode_calls _ _ sA16 sB16 w4 (HS.out.next ((Below.refl _ _).drew.trans hb4)).tab).mono ?_
          rintro e w5 ⟨rfl, hb5⟩
          exact ⟨_, rfl, hb5, rfl⟩
        ·
          have ho2 := (Array.getElem?_eq_some_iff.1 ho).2
          simp only [List.getElem_toArray, List.getElem_cons_succ, List.getElem_cons_zero] at ho2
          subst ho2
          clear ho
          have e109 := D.is { on := 30, ground := .data } (by simp) rfl rfl 109 rfl
          have e112 := D.is { on := 33, ground := .data } (by simp) rfl rfl 112 rfl
          exact wk.does_eq_arr rfl e109 e112 (by kernel_rfl) (b := true) (by have h := eq_dv w4 _ _ (nd16 sA sB) (nd16 sA sB); rw [beq_self_eq_true] at h; exact h) rfl
        ·
          have ho2 := (Array.getElem?_eq_some_iff.1 ho).2
          simp only [List.getElem_toArray, List.getElem_cons_succ, List.getElem_cons_zero] at ho2
          subst ho2
          clear ho
          have e108 := D.is { on := 29, ground := .data } (by simp) rfl rfl 108 rfl
          have e113 := D.is { on := 34, ground := .data } (by simp) rfl rfl 113 rfl
          exact wk.does_pick rfl e108 e113
        ·
          have ho2 := (Array.getElem?_eq_some_iff.1 ho).2
          simp only [List.getElem_toArray, List.getElem_cons_succ, List.getElem_cons_zero] at ho2
          subst ho2
          clear ho
          have e114 := D.is { on := 35, ground := .data } (by simp) rfl rfl 114 rfl
          exact wk.does_assign rfl e114
      case hdone =>
        intro vals w4 hb4 hv
        have h36 := hv 36 (by omega)
        clear hv
        replace h36 : vals 36 = (.bool true) := h36
        simp only [List.drop_succ_cons, List.drop_zero, wpList, Act.put, wk.setL, List.setIfInBounds_toArray, List.set_cons_zero, List.set_cons_succ, Nat.zero_add, Nat.reduceAdd, h36]
        generalize vals 0 = x0
        generalize vals 1 = x1
        generalize vals 2 = x2
        generalize vals 3 = x3
        generalize vals 4 = x4
        generalize vals 5 = x5
        generalize vals 6 = x6
        generalize vals 7 = x7
        generalize vals 8 = x8
        generalize vals 9 = x9
        generalize vals 10 = x10
        generalize vals 11 = x11
        generalize vals 12 = x12
        generalize vals 13 = x13
        generalize vals 14 = x14
        generalize vals 15 = x15
        generalize vals 16 = x16
        generalize vals 17 = x17
        generalize vals 18 = x18
        generalize vals 19 = x19
        generalize vals 20 = x20
        generalize vals 21 = x21
        generalize vals 22 = x22
        generalize vals 23 = x23
        generalize vals 24 = x24
        generalize vals 25 = x25
        generalize vals 26 = x26
        generalize vals 27 = x27
        generalize vals 28 = x28
        generalize vals 29 = x29
        generalize vals 30 = x30
        generalize vals 31 = x31
        generalize vals 32 = x32
        generalize vals 33 = x33
        generalize vals 34 = x34
        generalize vals 35 = x35
        replace HS := Lib.hid (HS.out.next ((Below.refl _ _).drew.trans hb4))
        replace HROW := Lib.hid (wk.row_below HROW.out ((Below.refl _ _).drew.trans hb4))
        clear hb4
        have q2 := (HS.out.rows (g2, sB) (by simp)).1
        have q3 := (HS.out.rows (g3, sC) (by simp)).1
        go_wp2_with (first | (refine wpList_load_row rfl 31 (.tmp 2) rfl g2 rfl 31 (wp.bc (sB)).toArray (0, 0) _ q2 Tryd.underlying31 rfl (dv_sizeA sB16) ?_) | (refine wpList_load_row rfl 31 (.tmp 3) rfl g3 rfl 31 (wp.bc (sC)).toArray (0, 0) _ q3 Tryd.underlying31 rfl (dv_sizeA sC16) ?_) | (refine list_new rfl (some 118) rfl _ (run_build2 (x := .tmp 116) (y := .tmp 117) (a := sB) (b := sC) rfl rfl rfl sB16 sC16) ?_))
        clear q2 q3
        have hI := isD_new (w := w4) (n := 2) (l := [sB, sC]) rfl rfl (d16_2 sB16 sC16) (by omega)
        rw [flat2] at hI
        replace HS := Lib.hid ((HS.out.next ((Below.refl w4.heap.size w4).alloc (Nat.le_refl _) (.cells (wp.bc (sB) ++ wp.bc (sC)).toArray 31))).sl hI)
        replace HROW := Lib.hid (wk.row_below HROW.out ((Below.refl w4.heap.size w4).alloc (Nat.le_refl _) (.cells (wp.bc (sB) ++ wp.bc (sC)).toArray 31)))
        clear hI
        generalize w4.alloc (.cells (wp.bc (sB) ++ wp.bc (sC)).toArray 31) = u1 at *
        generalize w4.heap.size = h1 at *
        refine (same_true A7 (some ⟨h1, 0, none⟩) 2 c7 2 [sB, sC] _ (HS.out.sls (A7, 2, c7, [sB, sC]) (by simp)) (HS.out.sls (some ⟨h1, 0, none⟩, 2, 2, [sB, sC]) (by simp)) (by omega)).mono ?_
        rintro e u2 ⟨rfl, q, hq⟩
        have hbq : Below u1.heap.size u1 u2 := by rw [hq]; exact wk.below_drewN (Below.refl _ _) q
        replace HS := Lib.hid (HS.out.next hbq)
        replace HROW := Lib.hid (wk.row_below HROW.out hbq)
        clear hq hbq
        have q5 := (HS.out.rows (g5, nodeD sA sB) (by simp)).1
        go_wp2_with (first | (refine wk.load_due (by rfl) 31 (.tmp 5) rfl g5 rfl 31 (wp.bc (nodeD sA sB)).toArray (0, 0) _ q5 Tryd.underlying31 rfl (dv_sizeA (nd16 sA sB)) ?_) | (refine list_new_due (by rfl) (some 123) rfl _ (run_build1 (x := .tmp 122) (d := nodeD sA sB) rfl rfl (nd16 sA sB)) ?_))
        clear q5
        have hI := isD_new (w := u2) (n := 1) (l := [nodeD sA sB]) rfl rfl (d16_1 (nd16 sA sB)) (by omega)
        rw [flat1] at hI
        replace HS := Lib.hid ((HS.out.next ((Below.refl u2.heap.size u2).alloc (Nat.le_refl _) (.cells (wp.bc (nodeD sA sB)).toArray 31))).sl hI)
        replace HROW := Lib.hid (wk.row_below HROW.out ((Below.refl u2.heap.size u2).alloc (Nat.le_refl _) (.cells (wp.bc (nodeD sA sB)).toArray 31)))
        clear hI
        generalize u2.alloc (.cells (wp.bc (nodeD sA sB)).toArray 31) = u3 at *
        generalize u2.heap.size = h3 at *
        refine (same_true A8 (some ⟨h3, 0, none⟩) 1 c8 1 [nodeD sA sB] _ (HS.out.sls (A8, 1, c8, [nodeD sA sB]) (by simp)) (HS.out.sls (some ⟨h3, 0, none⟩, 1, 1, [nodeD sA sB]) (by simp)) (by omega)).mono ?_
        rintro e u4 ⟨rfl, q, hq⟩
        have hbq : Below u3.heap.size u3 u4 := by rw [hq]; exact wk.below_drewN (Below.refl _ _) q
        replace HS := Lib.hid (HS.out.next hbq)
        replace HROW := Lib.hid (wk.row_below HROW.out hbq)
        clear hq hbq
        have q2 := (HS.out.rows (g2, sB) (by simp)).1
        have q3 := (HS.out.rows (g3, sC) (by simp)).1
        go_wp2_with (first | (refine wk.load_due (by rfl) 31 (.tmp 2) rfl g2 rfl 31 (wp.bc (sB)).toArray (0, 0) _ q2 Tryd.underlying31 rfl (dv_sizeA sB16) ?_) | (refine wk.load_due (by rfl) 31 (.tmp 3) rfl g3 rfl 31 (wp.bc (sC)).toArray (0, 0) _ q3 Tryd.underlying31 rfl (dv_sizeA sC16) ?_) | (refine list_new_due (by rfl) (some 130) rfl _ (run_build2 (x := .tmp 128) (y := .tmp 129) (a := sB) (b := sC) rfl rfl rfl sB16 sC16) ?_))
        clear q2 q3
        have hI := isD_new (w := u4) (n := 2) (l := [sB, sC]) rfl rfl (d16_2 sB16 sC16) (by omega)
        rw [flat2] at hI
        replace HS := Lib.hid ((HS.out.next ((Below.refl u4.heap.size u4).alloc (Nat.le_refl _) (.cells (wp.bc (sB) ++ wp.bc (sC)).toArray 31))).sl hI)
        replace HROW := Lib.hid (wk.row_below HROW.out ((Below.refl u4.heap.size u4).alloc (Nat.le_refl _) (.cells (wp.bc (sB) ++ wp.bc (sC)).toArray 31)))
        clear hI
        generalize u4.alloc (.cells (wp.bc (sB) ++ wp.bc (sC)).toArray 31) = u5 at *
        generalize u4.heap.size = h5 at *
        refine (same_true A9 (some ⟨h5, 0, none⟩) 2 c9 2 [sB, sC] _ (HS.out.sls (A9, 2, c9, [sB, sC]) (by simp)) (HS.out.sls (some ⟨h5, 0, none⟩, 2, 2, [sB, sC]) (by simp)) (by omega)).mono ?_
        rintro e u6 ⟨rfl, q, hq⟩
        have hbq : Below u5.heap.size u5 u6 := by rw [hq]; exact wk.below_drewN (Below.refl _ _) q
        replace HS := Lib.hid (HS.out.next hbq)
        replace HROW := Lib.hid (wk.row_below HROW.out hbq)
        clear hq hbq
        have q3 := (HS.out.rows (g3, sC) (by simp)).1
        go_wp2_with (first | (refine wk.load_due (by rfl) 31 (.tmp 3) rfl g3 rfl 31 (wp.bc (sC)).toArray (0, 0) _ q3 Tryd.underlying31 rfl (dv_sizeA sC16) ?_) | (refine list_new_due (by rfl) (some 136) rfl _ (run_build1 (x := .tmp 135) (d := sC) rfl rfl sC16) ?_))
        clear q3
        have hI := isD_new (w := u6) (n := 1) (l := [sC]) rfl rfl (d16_1 sC16) (by omega)
        rw [flat1] at hI
        replace HS := Lib.hid ((HS.out.next ((Below.refl u6.heap.size u6).alloc (Nat.le_refl _) (.cells (wp.bc (sC)).toArray 31))).sl hI)
        replace HROW := Lib.hid (wk.row_below HROW.out ((Below.refl u6.heap.size u6).alloc (Nat.le_refl _) (.cells (wp.bc (sC)).toArray 31)))
        clear hI
        generalize u6.alloc (.cells (wp.bc (sC)).toArray 31) = u7 at *
        generalize u6.heap.size = h7 at *
        refine (same_true A10 (some ⟨h7, 0, none⟩) 1 c10 1 [sC] _ (HS.out.sls (A10, 1, c10, [sC]) (by simp)) (HS.out.sls (some ⟨h7, 0, none⟩, 1, 1, [sC]) (by simp)) (by omega)).mono ?_
        rintro e u8 ⟨rfl, q, hq⟩
        have hbq : Below u7.heap.size u7 u8 := by rw [hq]; exact wk.below_drewN (Below.refl _ _) q
        replace HS := Lib.hid (HS.out.next hbq)
        replace HROW := Lib.hid (wk.row_below HROW.out hbq)
        clear hq hbq
        have q2 := (HS.out.rows (g2, sB) (by simp)).1
        go_wp2_with (first | (refine wk.load_due (by rfl) 31 (.tmp 2) rfl g2 rfl 31 (wp.bc (sB)).toArray (0, 0) _ q2 Tryd.underlying31 rfl (dv_sizeA sB16) ?_) | (refine list_new_due (by rfl) (some 142) rfl _ (run_build1 (x := .tmp 141) (d := sB) rfl rfl sB16) ?_))
        clear q2
        have hI := isD_new (w := u8) (n := 1) (l := [sB]) rfl rfl (d16_1 sB16) (by omega)
        rw [flat1] at hI
        replace HS := Lib.hid ((HS.out.next ((Below.refl u8.heap.size u8).alloc (Nat.le_refl _) (.cells (wp.bc (sB)).toArray 31))).sl hI)
        replace HROW := Lib.hid (wk.row_below HROW.out ((Below.refl u8.heap.size u8).alloc (Nat.le_refl _) (.cells (wp.bc (sB)).toArray 31)))
        clear hI
        generalize u8.alloc (.cells (wp.bc (sB)).toArray 31) = u9 at *
        generalize u8.heap.size = h9 at *
        refine (same_true A11 (some ⟨h9, 0, none⟩) 1 c11 1 [sB] _ (HS.out.sls (A11, 1, c11, [sB]) (by simp)) (HS.out.sls (some ⟨h9, 0, none⟩, 1, 1, [sB]) (by simp)) (by omega)).mono ?_
        rintro e u10 ⟨rfl, q, hq⟩
        have hbq : Below u9.heap.size u9 u10 := by rw [hq]; exact wk.below_drewN (Below.refl _ _) q
        replace HS := Lib.hid (HS.out.next hbq)
        replace HROW := Lib.hid (wk.row_below HROW.out hbq)
        clear hq hbq
        have q1 := (HS.out.rows (g1, sA) (by simp)).1
        have q6 := (HS.out.rows (g6, nodeD (nodeD sA sB) sC) (by simp)).1
        go_wp2_with (first | (refine wpList_load_row rfl 31 (.tmp 1) rfl g1 rfl 31 (wp.bc (sA)).toArray (0, 0) _ q1 Tryd.underlying31 rfl (dv_sizeA sA16) ?_) | (refine wpList_load_row rfl 31 (.tmp 6) rfl g6 rfl 31 (wp.bc (nodeD (nodeD sA sB) sC)).toArray (0, 0) _ q6 Tryd.underlying31 rfl (dv_sizeA (nd16 (nodeD sA sB) sC)) ?_))
        clear q1 q6
        have hC := chkI_calls sA (nodeD (nodeD sA sB) sC) sA16 (nd16 (nodeD sA sB) sC) 0 3 A7 2 c7 [sB, sC] _ (HS.out.sls (A7, 2, c7, [sB, sC]) (by simp)) HS.out.tab
        rw [chkI_ok] at hC
        refine hC.mono ?_
        clear hC
        rintro e u11 ⟨rfl, hb⟩
        replace HS := Lib.hid (HS.out.next hb)
        replace HROW := Lib.hid (wk.row_below HROW.out hb)
        clear hb
        have q1 := (HS.out.rows (g1, sA) (by simp)).1
        have q6 := (HS.out.rows (g6, nodeD (nodeD sA sB) sC) (by simp)).1
        go_wp2_with (first | (refine wk.load_due (by rfl) 31 (.tmp 1) rfl g1 rfl 31 (wp.bc (sA)).toArray (0, 0) _ q1 Tryd.underlying31 rfl (dv_sizeA sA16) ?_) | (refine wk.load_due (by rfl) 31 (.tmp 6) rfl g6 rfl 31 (wp.bc (nodeD (nodeD sA sB) sC)).toArray (0, 0) _ q6 Tryd.underlying31 rfl (dv_sizeA (nd16 (nodeD sA sB) sC)) ?_))
        clear q1 q6
        have hC := chkC_calls sA (nodeD (nodeD sA sB) sC) sA16 (nd16 (nodeD sA sB) sC) 1 3 A9 2 c9 [sB, sC] _ (HS.out.sls (A9, 2, c9, [sB, sC]) (by simp)) HS.out.tab
        rw [chkC_ok] at hC
        refine hC.mono ?_
        clear hC
        rintro e u12 ⟨rfl, hb⟩
        replace HS := Lib.hid (HS.out.next hb)
        replace HROW := Lib.hid (wk.row_below HROW.out hb)
        clear hb
        have q1 := (HS.out.rows (g1, sA) (by simp)).1
        have q3 := (HS.out.rows (g3, sC) (by simp)).1
        have q6 := (HS.out.rows (g6, nodeD (nodeD sA sB) sC) (by simp)).1
        have p1 := wk.row_below q1 ((Below.refl u12.heap.size u12).alloc (Nat.le_refl _) (.cells #[.int .i64 0, .int .i64 2] 3))
        have p3 := wk.row_below q3 ((Below.refl u12.heap.size u12).alloc (Nat.le_refl _) (.cells #[.int .i64 0, .int .i64 2] 3))
        have p6 := wk.row_below (wk.row_below q6 ((Below.refl u12.heap.size u12).alloc (Nat.le_refl _) (.cells #[.int .i64 0, .int .i64 2] 3))) ((Below.refl _ (u12.alloc (.cells #[.int .i64 0, .int .i64 2] 3))).alloc (Nat.le_refl _) (.cells (wp.bc sA ++ wp.bc sC).toArray 31))
        go_wp2_with (first | (refine wk.load_due (by rfl) 31 (.tmp 1) rfl g1 rfl 31 (wp.bc (sA)).toArray (0, 0) _ p1 Tryd.underlying31 rfl (dv_sizeA sA16) ?_) | (refine wk.load_due (by rfl) 31 (.tmp 3) rfl g3 rfl 31 (wp.bc (sC)).toArray (0, 0) _ p3 Tryd.underlying31 rfl (dv_sizeA sC16) ?_) | (refine wk.load_due (by rfl) 31 (.tmp 6) rfl g6 rfl 31 (wp.bc (nodeD (nodeD sA sB) sC)).toArray (0, 0) _ p6 Tryd.underlying31 rfl (dv_sizeA (nd16 (nodeD sA sB) sC)) ?_) | (refine list_new_due (by rfl) (some 156) rfl _ (run_ints rfl rfl rfl) ?_) | (refine list_new_due (by rfl) (some 159) rfl _ (run_build2 (x := .tmp 157) (y := .tmp 158) (a := sA) (b := sC) rfl rfl rfl sA16 sC16) ?_))
        clear p1 p3 p6
        clear q1 q3 q6
        have hbz := (Below.refl u12.heap.size u12).alloc (Nat.le_refl _) (.cells #[.int .i64 0, .int .i64 2] 3)
        have hZ := isZ_new (w := u12) rfl
        have hsz : (u12.alloc (.cells #[.int .i64 0, .int .i64 2] 3)).heap.size = u12.heap.size + 1 := Array.size_push ..
        replace HS := Lib.hid (HS.out.next hbz)
        replace HROW := Lib.hid (wk.row_below HROW.out hbz)
        generalize u12.alloc (.cells #[.int .i64 0, .int .i64 2] 3) = uz at *
        generalize u12.heap.size = hz at *
        have hI := isD_new (w := uz) (n := 2) (l := [sA, sC]) hsz rfl (d16_2 sA16 sC16) (by omega)
        rw [flat2] at hI
        have hby := (Below.refl uz.heap.size uz).alloc (Nat.le_refl _) (.cells (wp.bc sA ++ wp.bc sC).toArray 31)
        replace HS := Lib.hid (HS.out.next hby)
        replace HROW := Lib.hid (wk.row_below HROW.out hby)
        replace hZ := hZ.below hby
        have hC := chkM_calls (nodeD (nodeD sA sB) sC) (nd16 (nodeD sA sB) sC) 3 _ 2 2 [0, 2] _ 2 2 [sA, sC] A11 1 c11 [sB] _ (HS.out.sls (A11, 1, c11, [sB]) (by simp)) hZ hI HS.out.tab (by omega)
        rw [chkM_ok] at hC
        clear hZ hI hbz hby hsz
        generalize uz.alloc (.cells (wp.bc sA ++ wp.bc sC).toArray 31) = uy at *
        refine hC.mono ?_
        clear hC
        rintro e ux ⟨rfl, hb⟩
        replace HS := Lib.hid (HS.out.next hb)
        replace HROW := Lib.hid (wk.row_below HROW.out hb)
        clear hb
        have q1 := (HS.out.rows (g1, sA) (by simp)).1
        have q6 := (HS.out.rows (g6, nodeD (nodeD sA sB) sC) (by simp)).1
        go_wp2_with (first | (refine wk.load_due (by rfl) 31 (.tmp 1) rfl g1 rfl 31 (wp.bc (sA)).toArray (0, 0) _ q1 Tryd.underlying31 rfl (dv_sizeA sA16) ?_) | (refine wk.load_due (by rfl) 31 (.tmp 6) rfl g6 rfl 31 (wp.bc (nodeD (nodeD sA sB) sC)).toArray (0, 0) _ q6 Tryd.underlying31 rfl (dv_sizeA (nd16 (nodeD sA sB) sC)) ?_))
        clear q1 q6
        have hC := chkI_calls sA (nodeD (nodeD sA sB) sC) sA16 (nd16 (nodeD sA sB) sC) 0 3 A8 1 c8 [nodeD sA sB] _ (HS.out.sls (A8, 1, c8, [nodeD sA sB]) (by simp)) HS.out.tab
        rw [chkI_no] at hC
        refine hC.mono ?_
        clear hC
        rintro e u13 ⟨rfl, hb⟩
        replace HS := Lib.hid (HS.out.next hb)
        replace HROW := Lib.hid (wk.row_below HROW.out hb)
        clear hb
        have hc0 := cell2_0 HROW.out
        have hc1 := cell2_1 HROW.out
        have q3 := (HS.out.rows (g3, sC) (by simp)).1
        have q5 := (HS.out.rows (g5, nodeD sA sB) (by simp)).1
        go_wp2_with (first | (refine wk.load_due (by rfl) 31 (.tmp 3) rfl g3 rfl 31 (wp.bc (sC)).toArray (0, 0) _ q3 Tryd.underlying31 rfl (dv_sizeA sC16) ?_) | (refine wk.load_due (by rfl) 31 (.tmp 5) rfl g5 rfl 31 (wp.bc (nodeD sA sB)).toArray (0, 0) _ q5 Tryd.underlying31 rfl (dv_sizeA (nd16 sA sB)) ?_) | (refine list_new_due (by rfl) (some 188) rfl _ (run_build2 (x := .tmp 186) (y := .tmp 187) (a := nodeD sA sB) (b := sC) rfl rfl rfl (nd16 sA sB) sC16) ?_))
        clear q3 q5
        have hI := isD_new (w := u13) (n := 2) (l := [nodeD sA sB, sC]) rfl rfl (d16_2 (nd16 sA sB) sC16) (by omega)
        rw [flat2] at hI
        replace HS := Lib.hid ((HS.out.next ((Below.refl u13.heap.size u13).alloc (Nat.le_refl _) (.cells (wp.bc (nodeD sA sB) ++ wp.bc (sC)).toArray 31))).sl hI)
        replace HROW := Lib.hid (wk.row_below HROW.out ((Below.refl u13.heap.size u13).alloc (Nat.le_refl _) (.cells (wp.bc (nodeD sA sB) ++ wp.bc (sC)).toArray 31)))
        clear hI
        generalize u13.alloc (.cells (wp.bc (nodeD sA sB) ++ wp.bc (sC)).toArray 31) = u14 at *
        generalize u13.heap.size = h14 at *
        refine (same_true A17 (some ⟨h14, 0, none⟩) 2 c17 2 [nodeD sA sB, sC] _ (HS.out.sls (A17, 2, c17, [nodeD sA sB, sC]) (by simp)) (HS.out.sls (some ⟨h14, 0, none⟩, 2, 2, [nodeD sA sB, sC]) (by simp)) (by omega)).mono ?_
        rintro e u15 ⟨rfl, q, hq⟩
        have hbq : Below u14.heap.size u14 u15 := by rw [hq]; exact wk.below_drewN (Below.refl _ _) q
        replace HS := Lib.hid (HS.out.next hbq)
        replace HROW := Lib.hid (wk.row_below HROW.out hbq)
        clear hq hbq
        go_wp2_with fail
        go_ret
        exact ⟨rfl, HS.out.below⟩
end Go.Proofs.YtmjmkkdmphgdnaaDoor.mk
