/- The reference's: split and Root. -/
import Derived.Test.YtmjmkkdmphgdnaaDoorNe

namespace Go.Proofs.YtmjmkkdmphgdnaaDoor.mk

open Go.ChangeShapes Go.WideShapes Go.ChangeAt Go.RowKit

set_option linter.unusedVariables false
theorem split_pow {n q : Nat} (h1 : 2 ^ q < n) (h2 : n ≤ 2 * 2 ^ q) : split n = 2 ^ q := by
  unfold split
  congr 1
  have hp := Nat.two_pow_pos q
  exact (Nat.log2_eq_iff (by omega)).2 ⟨by omega, by rw [Nat.pow_succ]; omega⟩
set_option maxRecDepth 100000 in
set_option maxHeartbeats 4000000 in
theorem rsplit_calls (n : Nat) (w : World) (h2 : 2 ≤ n) (hn : n ≤ 1099511627776) : Calls Tryd.prog 40 #[.int .i64 n] w fun e w' => e = .returned (.int .i64 (split n : Nat)) ∧ w' = w := by
  go_enter Tryd.func40, Tryd.ntmps40
  go_wp2_with fail
  go_loopg [3] n (fun g x wz => ∃ q : Nat, x = .int .i64 ((2 ^ q : Nat) : Int) ∧ wz = w ∧ n ≤ 2 ^ q + g ∧ 2 ^ q < n)
  case atStart => exact ⟨0, rfl, rfl, by omega, by omega⟩
  case round =>
    obtain ⟨q, rfl, rfl, hq1, hq2⟩ := hrel
    have hpos := Nat.two_pow_pos q
    by_cases hlt : 2 * 2 ^ q < n
    · obtain ⟨p, hp⟩ : ∃ p, p = 2 ^ q := ⟨_, rfl⟩
      rw [← hp] at hlt hq1 hq2 hpos ⊢
      have HP := Lib.hid hp
      clear hp
      go_wp2_with fail
      go_roundg (gk - 1)
      case measure => omega
      case rel => exact ⟨q + 1, congrArg (Value.int .i64) (by rw [Nat.pow_succ, ← HP.out]; omega), rfl, by rw [Nat.pow_succ, ← HP.out]; omega, by rw [Nat.pow_succ, ← HP.out]; omega⟩
    · have HS := Lib.hid (split_pow hq2 (by omega))
      obtain ⟨p, hp⟩ : ∃ p, p = 2 ^ q := ⟨_, rfl⟩
      rw [← hp] at hlt hq1 hq2 hpos ⊢
      have HP := Lib.hid hp
      clear hp
      go_wp2_with fail
      go_ret
      exact ⟨by rw [HS.out, ← HP.out]; rfl, rfl⟩
-- the reference's root
set_option maxRecDepth 100000 in
set_option maxHeartbeats 4000000 in
theorem rroot_calls : ∀ (n : Nat) (A : Option Addr) (c : Nat) (l : List D) (w : World), IsD w A n c l → n ≤ 1000 → Tab w →
    Calls Tryd.prog 16 #[.slice A n c] w fun e w' => e = .returned (dv (rootD l)) ∧ Below w.heap.size w w' := by
  intro n
  induction n using Nat.strongRecOn with
  | ind n ih =>
  intro A c l w h hn1000 hT
  have HT := Lib.hid hT
  have HI := Lib.hid h
  have IH := Lib.hid ih
  have hlen := h.len
  clear hT h ih
  rcases (by omega : n = 0 ∨ n = 1 ∨ 2 ≤ n) with h0 | h1 | h2
  · subst h0
    go_enter Tryd.func16, Tryd.ntmps16
    go_upto_region 1 with fail
    have q0 := zrow w
    have hb1 := zbelow w
    change Code.wp _ _ _ _ (w.alloc (.cells hi.z16 31))
    generalize w.alloc (.cells hi.z16 31) = w1 at *
    generalize hB : w.heap.size = B at *
    have HB := Lib.hid hB
    have hs1 : B < w1.heap.size := wk.row_lt q0
    have Q0 := Lib.hid q0
    have HB1 := Lib.hid hb1
    have HC := Lib.hid (rempty_calls w1 (HT.out.below HT.out.1.1 (by rw [HB.out]; exact hb1)))
    have HS1 := Lib.hid hs1
    clear hB q0 hb1 hs1
    go_wp2_with fail
    refine HC.out.mono ?_
    rintro e w3 ⟨rfl, hb3⟩
    have q0 := wk.row_below Q0.out hb3
    have HBn := Lib.hid (HB1.out.trans (hb3.mono (Nat.le_of_lt HS1.out)))
    clear hb3 HC
    have hel : emptyD.length = 16 := dig_length _ _
    have hz := dv_size hel
    have hz2 := dv_sizeA hel
    have hz3 : hi.z16.size = (wp.bc (emptyD)).length := by rw [wp.bc_length, hel]; rfl
    have ho := wk.ones_bc (emptyD)
    have hdv : dv (emptyD) = .agg (wp.bc (emptyD)).toArray := rfl
    rw [hdv]
    generalize hcs : wp.bc (emptyD) = cs at *
    go_wp2_with (refine wk.store_row rfl 31 (.tmp 2) (.tmp 7) rfl B cs rfl rfl 31 hi.z16 q0 hz hz3 ho ?_)
    refine bodyPost_ret (v := .agg cs.toArray) (results_cell_row (fn := Tryd.f16) rfl _ _ B 31 cs.toArray (0, 0) _ rfl (setRow_heap _ _ _ _ _ _ q0) Tryd.underlying31 rfl hz2) rfl ⟨by rw [rootD_nil hlen]; unfold dv; rw [hcs], ?_⟩
    rw [HB.out]; exact wk.below_setRow HBn.out (Nat.le_refl _) _
  · subst h1
    obtain ⟨d, rfl⟩ : ∃ d, l = [d] := by
      cases l with
      | nil => simp at hlen
      | cons x r => exact ⟨x, by have : r = [] := List.eq_nil_of_length_eq_zero (by simpa using hlen); rw [this]⟩
    have hd : d.length = 16 := HI.out.dl d (by simp)
    obtain ⟨ad, hix, hld⟩ := HI.out.load (i := 0) (by omega) (d := d) rfl
    have HLD := Lib.hid hld
    clear hld
    go_enter Tryd.func16, Tryd.ntmps16
    go_upto_region 1 with fail
    have q0 := zrow w
    have hb1 := zbelow w
    change Code.wp _ _ _ _ (w.alloc (.cells hi.z16 31))
    have hl1 := HLD.out _ hb1
    generalize w.alloc (.cells hi.z16 31) = w1 at *
    generalize hB : w.heap.size = B at *
    have HB := Lib.hid hB
    have HBn := Lib.hid hb1
    clear hB hb1
    have hz := dv_size hd
    have hz2 := dv_sizeA hd
    have hz3 : hi.z16.size = (wp.bc (d)).length := by rw [wp.bc_length, hd]; rfl
    have ho := wk.ones_bc (d)
    generalize hcs : wp.bc (d) = cs at *
    go_wp2_with (first | (refine wk.load_agg rfl 31 (.tmp 12) rfl ad rfl cs _ hl1 Tryd.underlying31 rfl hz ?_) | refine wk.store_row rfl 31 (.tmp 2) (.tmp 13) rfl B cs rfl rfl 31 hi.z16 q0 hz hz3 ho ?_)
    refine bodyPost_ret (v := .agg cs.toArray) (results_cell_row (fn := Tryd.f16) rfl _ _ B 31 cs.toArray (0, 0) _ rfl (setRow_heap _ _ _ _ _ _ q0) Tryd.underlying31 rfl hz2) rfl ⟨by rw [rootD_one hlen, List.headD_cons]; unfold dv; rw [hcs], ?_⟩
    rw [HB.out]; exact wk.below_setRow HBn.out (Nat.le_refl _) _
  · have hs := split_lt h2
    have hp := split_pos n
    have hr2 := rootD_two (l := l) (by omega)
    rw [hlen] at hr2
    have hl1 : (rootD (l.take (split n))).length = 16 := rootD_length fun d hd => HI.out.dl d (List.mem_of_mem_take hd)
    have hl2 : (rootD (l.drop (split n))).length = 16 := rootD_length fun d hd => HI.out.dl d (List.mem_of_mem_drop hd)
    have HR2 := Lib.hid hr2
    have HL1 := Lib.hid hl1
    have HL2 := Lib.hid hl2
    clear hr2 hl1 hl2
    go_enter Tryd.func16, Tryd.ntmps16
    go_upto_region 1 with fail
    have q0 := zrow w
    have hb1 := zbelow w
    change Code.wp _ _ _ _ (w.alloc (.cells hi.z16 31))
    have HI1 := Lib.hid (HI.out.below hb1)
    have HT1 := Lib.hid (HT.out.next hb1)
    generalize w.alloc (.cells hi.z16 31) = w1 at *
    generalize hB : w.heap.size = B at *
    have HB := Lib.hid hB
    have hs1 : B < w1.heap.size := wk.row_lt q0
    have Q0 := Lib.hid q0
    have HB1 := Lib.hid hb1
    have HS1 := Lib.hid hs1
    clear hB q0 hb1 hs1 HI HT
    have hn2 : ((n : Int) == 0) = false := by simp; omega
    have hn3 : ((n : Int) == 1) = false := by simp; omega
    have hcap := HI1.out.cap
    have hle := HI1.out.le
    unfold maxLen at hcap
    go_wp2_with fail
    refine (rsplit_calls n w1 h2 (by omega)).mono ?_
    rintro e w2 ⟨rfl, hw2⟩
    rw [hw2]
    clear hw2
    have hc1 := HI1.out.cut (lo := 0) (hi := split n) (m := c) (by omega) (by omega) (by omega) (Nat.le_refl _)
    have hc2 := HI1.out.cut (lo := split n) (hi := n) (m := c) (by omega) (by omega) (by omega) (Nat.le_refl _)
    have hr1 := fun w => run_cut_h w A n c (split n) (by omega)
    have hr2 := fun w => run_cut_l w A n c (split n) (by omega)
    rw [show (l.drop 0).take (split n - 0) = l.take (split n) by simp] at hc1
    rw [List.take_of_length_le (show (l.drop (split n)).length ≤ n - split n by rw [List.length_drop]; omega)] at hc2
    simp only [Nat.sub_zero] at hc1 hr1
    generalize (if c = 0 then A else A.map (·.add (0 * 16))) = A1 at *
    generalize (if c = split n then A else A.map (·.add (split n * 16))) = A2 at *
    have HC1 := Lib.hid hc1
    have HC2 := Lib.hid hc2
    have HRC1 := Lib.hid hr1
    have HRC2 := Lib.hid hr2
    clear hc1 hc2 hr1 hr2
    go_upto_region 6 with fail
    refine wk.region_tailB 9 [.is (.slice A n c), .is (.int .i64 (split n : Nat)), .is (.slice A1 (split n) c), .is (dv (rootD (l.take (split n)))), .is (.slice A n c), .is (.int .i64 (split n : Nat)), .is (.slice A2 (n - split n) (c - split n)), .is (dv (rootD (l.drop (split n)))), .is (dv (rootD l))] [some 17, some 18, some 19, some 20, some 21, some 22, some 23, some 24, some 25] (by kernel_rfl) (by kernel_rfl) (by kernel_rfl) (by kernel_rfl) (by kernel_rfl) (by kernel_rfl) ?hstep ?hdone
    case hstep =>
      intro i o ho hi E w4 hb4 D
      have hi2 : i = 0 ∨ i = 1 ∨ i = 2 ∨ i = 3 ∨ i = 4 ∨ i = 5 ∨ i = 6 ∨ i = 7 ∨ i = 8 := by omega
      clear hi
      rcases hi2 with rfl | rfl | rfl | rfl | rfl | rfl | rfl | rfl | rfl
      ·
        have ho2 := (Array.getElem?_eq_some_iff.1 ho).2
        simp only [List.getElem_toArray, List.getElem_cons_zero] at ho2
        subst ho2
        clear ho
        have e0 := D.old 0 (by kernel_rfl)
        exact wk.does_move rfl (by rw [e0]; rfl)
      ·
        have ho2 := (Array.getElem?_eq_some_iff.1 ho).2
        simp only [List.getElem_toArray, List.getElem_cons_succ, List.getElem_cons_zero] at ho2
        subst ho2
        clear ho
        have e3 := D.old 3 (by kernel_rfl)
        exact wk.does_move rfl (by rw [e3]; rfl)
      ·
        have ho2 := (Array.getElem?_eq_some_iff.1 ho).2
        simp only [List.getElem_toArray, List.getElem_cons_succ, List.getElem_cons_zero] at ho2
        subst ho2
        clear ho
        have e17 := D.is { on := 0, ground := .data } (by simp) rfl rfl 17 rfl
        have e18 := D.is { on := 1, ground := .data } (by simp) rfl rfl 18 rfl
        exact wk.does_run (wk.op_slice rfl e17 rfl (by rw [Option.map_some, e18]) rfl (HRC1.out _)) rfl
      ·
        have ho2 := (Array.getElem?_eq_some_iff.1 ho).2
        simp only [List.getElem_toArray, List.getElem_cons_succ, List.getElem_cons_zero] at ho2
        subst ho2
        clear ho
        have e19 := D.is { on := 2, ground := .data } (by simp) rfl rfl 19 rfl
        refine wk.does_fn (f := 16) (vs := #[.slice A1 (split n) (c)]) rfl (D.fn _) (by simp [e19]) (by go_simp) ?_
        refine (IH.out (split n) hs A1 (c) _ w4 (HC1.out.below ((Below.refl _ _).drew.trans hb4)) (by omega) (HT1.out.next ((Below.refl _ _).drew.trans hb4))).mono ?_
        rintro e w5 ⟨rfl, hb5⟩
        exact ⟨_, rfl, hb5, rfl⟩
      ·
        have ho2 := (Array.getElem?_eq_some_iff.1 ho).2
        simp only [List.getElem_toArray, List.getElem_cons_succ, List.getElem_cons_zero] at ho2
        subst ho2
        clear ho
        have e0 := D.old 0 (by kernel_rfl)
        exact wk.does_move rfl (by rw [e0]; rfl)
      ·
        have ho2 := (Array.getElem?_eq_some_iff.1 ho).2
        simp only [List.getElem_toArray, List.getElem_cons_succ, List.getElem_cons_zero] at ho2
        subst ho2
        clear ho
        have e3 := D.old 3 (by kernel_rfl)
        exact wk.does_move rfl (by rw [e3]; rfl)
      ·
        have ho2 := (Array.getElem?_eq_some_iff.1 ho).2
        simp only [List.getElem_toArray, List.getElem_cons_succ, List.getElem_cons_zero] at ho2
        subst ho2
        clear ho
        have e21 := D.is { on := 4, ground := .data } (by simp) rfl rfl 21 rfl
        have e22 := D.is { on := 5, ground := .data } (by simp) rfl rfl 22 rfl
        exact wk.does_run (wk.op_slice rfl e21 (by rw [Option.map_some, e22]) rfl rfl (HRC2.out _)) rfl
      ·
        have ho2 := (Array.getElem?_eq_some_iff.1 ho).2
        simp only [List.getElem_toArray, List.getElem_cons_succ, List.getElem_cons_zero] at ho2
        subst ho2
        clear ho
        have e23 := D.is { on := 6, ground := .data } (by simp) rfl rfl 23 rfl
        refine wk.does_fn (f := 16) (vs := #[.slice A2 (n - split n) (c - split n)]) rfl (D.fn _) (by simp [e23]) (by go_simp) ?_
        refine (IH.out (n - split n) (by omega) A2 (c - split n) _ w4 (HC2.out.below ((Below.refl _ _).drew.trans hb4)) (by omega) (HT1.out.next ((Below.refl _ _).drew.trans hb4))).mono ?_
        rintro e w5 ⟨rfl, hb5⟩
        exact ⟨_, rfl, hb5, rfl⟩
      ·
        have ho2 := (Array.getElem?_eq_some_iff.1 ho).2
        simp only [List.getElem_toArray, List.getElem_cons_succ, List.getElem_cons_zero] at ho2
        subst ho2
        clear ho
        have e20 := D.is { on := 3, ground := .data } (by simp) rfl rfl 20 rfl
        have e24 := D.is { on := 7, ground := .data } (by simp) rfl rfl 24 rfl
        refine wk.does_fn (f := 20) (vs := #[dv (rootD (l.take (split n))), dv (rootD (l.drop (split n)))]) rfl (D.fn _) (by simp [e20, e24]) (by go_simp) ?_
        refine (rnode_calls _ _ HL1.out HL2.out w4 (HT1.out.next ((Below.refl _ _).drew.trans hb4))).mono ?_
        rintro e w5 ⟨rfl, hb5⟩
        exact ⟨_, rfl, hb5, by rw [HR2.out]; rfl⟩
    case hdone =>
      intro vals w4 hb4 hv
      have h8 := hv 8 (by omega)
      clear hv
      replace h8 : vals 8 = (dv (rootD l)) := h8
      simp only [List.drop_succ_cons, List.drop_zero, wk.setL, List.setIfInBounds_toArray, List.set_cons_zero, List.set_cons_succ, Nat.zero_add, Nat.reduceAdd, h8]
      generalize vals 0 = x0
      generalize vals 1 = x1
      generalize vals 2 = x2
      generalize vals 3 = x3
      generalize vals 4 = x4
      generalize vals 5 = x5
      generalize vals 6 = x6
      generalize vals 7 = x7
      have hb6 : Below w1.heap.size w1 w4 := ((Below.refl _ _).drew.trans hb4)
      have q0 := wk.row_below Q0.out hb6
      have HBn := Lib.hid (HB1.out.trans (hb6.mono (Nat.le_of_lt HS1.out)))
      clear hb6 hb4
      have hel : (rootD l).length = 16 := by rw [HR2.out]; exact dig_length _ _
      have hz := dv_size hel
      have hz2 := dv_sizeA hel
      have hz3 : hi.z16.size = (wp.bc (rootD l)).length := by rw [wp.bc_length, hel]; rfl
      have ho := wk.ones_bc (rootD l)
      have hdv : dv (rootD l) = .agg (wp.bc (rootD l)).toArray := rfl
      rw [hdv]
      generalize hcs : wp.bc (rootD l) = cs at *
      go_wp2_with (refine wk.store_row rfl 31 (.tmp 2) (.tmp 25) rfl B cs rfl rfl 31 hi.z16 q0 hz hz3 ho ?_)
      refine bodyPost_ret (v := .agg cs.toArray) (results_cell_row (fn := Tryd.f16) rfl _ _ B 31 cs.toArray (0, 0) _ rfl (setRow_heap _ _ _ _ _ _ q0) Tryd.underlying31 rfl hz2) rfl ⟨by unfold dv; rw [hcs], ?_⟩
      rw [HB.out]; exact wk.below_setRow HBn.out (Nat.le_refl _) _
end Go.Proofs.YtmjmkkdmphgdnaaDoor.mk
