/- The reference's: inclusion. -/
import Derived.Test.YtmjmkkdmphgdnaaDoorNj

namespace Go.Proofs.YtmjmkkdmphgdnaaDoor.mk

open Go.ChangeShapes Go.WideShapes Go.ChangeAt Go.RowKit

set_option linter.unusedVariables false
theorem ones_flat (l : List D) : wk.Ones (l.flatMap wp.bc) := fun u hu => by
  obtain ⟨d, _, h⟩ := List.mem_flatMap.1 hu
  exact wk.ones_bc d u h
theorem cut_facts {w : World} {A : Option Addr} {n c : Nat} {l : List D} (h : IsD w A n c l) (h2 : 2 ≤ n) (hc : n ≤ 1000) : ∃ A1 A2, Hid (IsD w A1 (split n) c (l.take (split n))) ∧ Hid (IsD w A2 (n - split n) (c - split n) (l.drop (split n))) ∧
    Hid (∀ w : World, (Instr.sliceAt 22 (.slice A n c) none (some (.int .i64 (split n : Nat))) none).run Tryd.prog w = .ok (.slice A1 (split n) c) w) ∧
    Hid (∀ w : World, (Instr.sliceAt 22 (.slice A n c) (some (.int .i64 (split n : Nat))) none none).run Tryd.prog w = .ok (.slice A2 (n - split n) (c - split n)) w) := by
  have hs := split_lt h2
  have hle := h.le
  have hlen := h.len
  have hc1 := h.cut (lo := 0) (hi := split n) (m := c) (by omega) (by omega) (by omega) (Nat.le_refl _)
  have hc2 := h.cut (lo := split n) (hi := n) (m := c) (by omega) (by omega) (by omega) (Nat.le_refl _)
  have hr1 := fun w => run_cut_h w A n c (split n) (by omega)
  have hr2 := fun w => run_cut_l w A n c (split n) (by omega)
  rw [show (l.drop 0).take (split n - 0) = l.take (split n) by simp] at hc1
  rw [List.take_of_length_le (show (l.drop (split n)).length ≤ n - split n by rw [List.length_drop]; omega)] at hc2
  simp only [Nat.sub_zero] at hc1 hr1
  exact ⟨_, _, hc1, hc2, hr1, hr2⟩
set_option maxRecDepth 100000 in
set_option maxHeartbeats 4000000 in
theorem rincl_calls : ∀ (n : Nat) (A : Option Addr) (c : Nat) (l : List D) (i : Nat) (w : World), IsD w A n c l → n ≤ 1000 → i < n → Tab w →
    Calls Tryd.prog 35 #[.slice A n c, .int .i64 i] w fun e w' => ∃ v, e = .returned v ∧ w'.ownsRow w.heap.size 31 16 v (inclD l i).length ((inclD l i).flatMap wp.bc) ∧ Below w.heap.size w w' := by
  intro n
  induction n using Nat.strongRecOn with
  | ind n ih =>
  intro A c l i w h hn1000 hi hT
  have hlen := h.len
  rcases (by omega : n = 1 ∨ 2 ≤ n) with h1 | h2
  · subst h1
    have hin := inclD_one i (l := l) (by omega)
    go_enter Tryd.func35, Tryd.ntmps35
    go_wp2_with fail
    go_ret
    refine ⟨_, rfl, ?_, Below.refl _ _⟩
    rw [hin]
    exact ⟨rfl, .inl ⟨rfl, rfl⟩⟩
  · have hs := split_lt h2
    have hp := split_pos n
    have hr2 := inclD_two (l := l) i (by omega)
    rw [hlen] at hr2
    have HIN := Lib.hid hr2
    have HT := Lib.hid hT
    have IH := Lib.hid ih
    obtain ⟨A1, A2, HC1, HC2, HRC1, HRC2⟩ := cut_facts h h2 hn1000
    have hls1 : (l.take (split n)).length = split n := by rw [List.length_take]; omega
    have hls2 : (l.drop (split n)).length = n - split n := by rw [List.length_drop]; omega
    have hi1 := incl_length (split n) (l.take (split n)) i
    have hi2 := incl_length (n - split n) (l.drop (split n)) (i - split n)
    have HIL1 : Hid ((inclD (l.take (split n)) i).length ≤ split n) := by show _ ≤ _; unfold inclD; rw [hls1] at hi1 ⊢; exact hi1
    have HIL2 : Hid ((inclD (l.drop (split n)) (i - split n)).length ≤ n - split n) := by show _ ≤ _; unfold inclD; rw [hls2] at hi2 ⊢; exact hi2
    have HR1 : Hid ((rootD (l.take (split n))).length = 16) := rootD_length fun d hd => h.dl d (List.mem_of_mem_take hd)
    have HR2 : Hid ((rootD (l.drop (split n))).length = 16) := rootD_length fun d hd => h.dl d (List.mem_of_mem_drop hd)
    have hn3 : ((n : Int) == 1) = false := by simp; omega
    clear hr2 hT h ih hls1 hls2 hi1 hi2 hlen
    go_enter Tryd.func35, Tryd.ntmps35
    go_wp2_with fail
    refine (rsplit_calls n _ h2 (by omega)).mono ?_
    rintro e w2 ⟨rfl, hw2⟩
    rw [hw2]
    clear hw2
    by_cases hik : i < split n
    · have hr2 := HIN.out
      rw [if_pos hik] at hr2
      have HIN2 := Lib.hid hr2
      clear HIN hr2
      go_upto_region 5 with fail
      refine wk.region_tailB 11 [.is (.slice A n c), .is (.int .i64 (split n : Nat)), .is (.slice A1 (split n) c), .is (.int .i64 i), .st (fun u v => u.ownsRow w.heap.size 31 16 v ((inclD (l.take (split n)) i).length) ((inclD (l.take (split n)) i).flatMap wp.bc)) (fun u u' v h hb => wk.ownsRow_below h hb), .is (.slice A n c), .is (.int .i64 (split n : Nat)), .is (.slice A2 (n - split n) (c - split n)), .is (dv (rootD (l.drop (split n)))), .st (fun u v => u.ownsRow w.heap.size 31 16 v ((inclD (l.take (split n)) i).length + 1) ((inclD (l.take (split n)) i).flatMap wp.bc ++ wp.bc (rootD (l.drop (split n))))) (fun u u' v h hb => wk.ownsRow_below h hb), .st (fun u v => u.ownsRow w.heap.size 31 16 v ((inclD (l.take (split n)) i).length + 1) ((inclD (l.take (split n)) i).flatMap wp.bc ++ wp.bc (rootD (l.drop (split n))))) (fun u u' v h hb => wk.ownsRow_below h hb)] [some 15, some 16, some 17, some 18, some 19, some 20, some 21, some 22, some 23, some 24, some 4] (by kernel_rfl) (by kernel_rfl) (by kernel_rfl) (by kernel_rfl) (by kernel_rfl) (by kernel_rfl) ?hstep ?hdone
      case hstep =>
        intro i o ho hi E w4 hb4 D
        have hi2 : i = 0 ∨ i = 1 ∨ i = 2 ∨ i = 3 ∨ i = 4 ∨ i = 5 ∨ i = 6 ∨ i = 7 ∨ i = 8 ∨ i = 9 ∨ i = 10 := by omega
        clear hi
        rcases hi2 with rfl | rfl | rfl | rfl | rfl | rfl | rfl | rfl | rfl | rfl | rfl
        ·
          have ho2 := (Array.getElem?_eq_some_iff.1 ho).2
          simp only [List.getElem_toArray, List.getElem_cons_zero] at ho2
          subst ho2
          clear ho
          have e0 := D.old 0 (by kernel_rfl)
          exact wk.does_move rfl (by rw [e0]; rfl)
        ·
          have ho2 := (Array.getElem?_eq_some_iff.1 ho).2
          simp only [List.getElem_toArray, List.getElem_cons_succ, List.getElem_cons_zero] at ho2
          subst ho2
          clear ho
          have e5 := D.old 5 (by kernel_rfl)
          exact wk.does_move rfl (by rw [e5]; rfl)
        ·
          have ho2 := (Array.getElem?_eq_some_iff.1 ho).2
          simp only [List.getElem_toArray, List.getElem_cons_succ, List.getElem_cons_zero] at ho2
          subst ho2
          clear ho
          have e15 := D.is { on := 0, ground := .data } (by simp) rfl rfl 15 rfl
          have e16 := D.is { on := 1, ground := .data } (by simp) rfl rfl 16 rfl
          exact wk.does_run (wk.op_slice rfl e15 rfl (by rw [Option.map_some, e16]) rfl (HRC1.out _)) rfl
        ·
          have ho2 := (Array.getElem?_eq_some_iff.1 ho).2
          simp only [List.getElem_toArray, List.getElem_cons_succ, List.getElem_cons_zero] at ho2
          subst ho2
          clear ho
          have e1 := D.old 1 (by kernel_rfl)
          exact wk.does_move rfl (by rw [e1]; rfl)
        ·
          have ho2 := (Array.getElem?_eq_some_iff.1 ho).2
          simp only [List.getElem_toArray, List.getElem_cons_succ, List.getElem_cons_zero] at ho2
          subst ho2
          clear ho
          have e17 := D.is { on := 2, ground := .data } (by simp) rfl rfl 17 rfl
          have e18 := D.is { on := 3, ground := .data } (by simp) rfl rfl 18 rfl
          refine wk.does_fn (f := 35) (vs := #[.slice A1 (split n) (c), .int .i64 (i : Nat)]) rfl (D.fn _) (by simp [e17, e18]) (by go_simp) ?_
          refine (IH.out (split n) hs A1 (c) _ (i) w4 (HC1.out.below ((Below.refl _ _).drew.trans hb4)) (by omega) hik (HT.out.next ((Below.refl _ _).drew.trans hb4))).mono ?_
          rintro e w5 ⟨v, rfl, ho5, hb5⟩
          exact ⟨v, rfl, hb5, ownsRow_weak ho5 (((Below.refl _ _).drew.trans hb4).size)⟩
        ·
          have ho2 := (Array.getElem?_eq_some_iff.1 ho).2
          simp only [List.getElem_toArray, List.getElem_cons_succ, List.getElem_cons_zero] at ho2
          subst ho2
          clear ho
          have e0 := D.old 0 (by kernel_rfl)
          exact wk.does_move rfl (by rw [e0]; rfl)
        ·
          have ho2 := (Array.getElem?_eq_some_iff.1 ho).2
          simp only [List.getElem_toArray, List.getElem_cons_succ, List.getElem_cons_zero] at ho2
          subst ho2
          clear ho
          have e5 := D.old 5 (by kernel_rfl)
          exact wk.does_move rfl (by rw [e5]; rfl)
        ·
          have ho2 := (Array.getElem?_eq_some_iff.1 ho).2
          simp only [List.getElem_toArray, List.getElem_cons_succ, List.getElem_cons_zero] at ho2
          subst ho2
          clear ho
          have e20 := D.is { on := 5, ground := .data } (by simp) rfl rfl 20 rfl
          have e21 := D.is { on := 6, ground := .data } (by simp) rfl rfl 21 rfl
          exact wk.does_run (wk.op_slice rfl e20 (by rw [Option.map_some, e21]) rfl rfl (HRC2.out _)) rfl
        ·
          have ho2 := (Array.getElem?_eq_some_iff.1 ho).2
          simp only [List.getElem_toArray, List.getElem_cons_succ, List.getElem_cons_zero] at ho2
          subst ho2
          clear ho
          have e22 := D.is { on := 7, ground := .data } (by simp) rfl rfl 22 rfl
          refine wk.does_fn (f := 16) (vs := #[.slice A2 (n - split n) (c - split n)]) rfl (D.fn _) (by simp [e22]) (by go_simp) ?_
          refine (rroot_calls (n - split n) A2 (c - split n) _ w4 (HC2.out.below ((Below.refl _ _).drew.trans hb4)) (by omega) (HT.out.next ((Below.refl _ _).drew.trans hb4))).mono ?_
          rintro e w5 ⟨rfl, hb5⟩
          exact ⟨_, rfl, hb5, rfl⟩
        ·
          have ho2 := (Array.getElem?_eq_some_iff.1 ho).2
          simp only [List.getElem_toArray, List.getElem_cons_succ, List.getElem_cons_zero] at ho2
          subst ho2
          clear ho
          have s19 := D.st { on := 4, ground := .data } (by simp) rfl rfl 19 rfl
          have e23 := D.is { on := 8, ground := .data } (by simp) rfl rfl 23 rfl
          have hso := s19
          generalize hvs : E (.tmp 19) = vs at hso
          refine wk.does_fn (f := 59) (vs := #[vs, dv (rootD (l.drop (split n)))]) rfl (D.fn _) (by simp [hvs, e23]) (by go_simp) ?_
          refine (rwith_calls vs _ _ _ (rootD (l.drop (split n))) w4 hso (ones_flat _) HR2.out (by have := HIL1.out; omega)).mono ?_
          rintro e w5 ⟨v, rfl, ho5, hb5⟩
          exact ⟨v, rfl, hb5, ownsRow_weak ho5 (((Below.refl _ _).drew.trans hb4).size)⟩
        ·
          have ho2 := (Array.getElem?_eq_some_iff.1 ho).2
          simp only [List.getElem_toArray, List.getElem_cons_succ, List.getElem_cons_zero] at ho2
          subst ho2
          clear ho
          have s24 := D.st { on := 9, ground := .data } (by simp) rfl rfl 24 rfl
          exact wk.does_assign rfl s24
      case hdone =>
        intro vals w4 hb4 hv
        have h10 := hv 10 (by omega)
        clear hv
        simp only [List.drop_succ_cons, List.drop_zero, wpList, wk.setL, List.setIfInBounds_toArray, List.set_cons_zero, List.set_cons_succ, Nat.zero_add, Nat.reduceAdd]
        generalize vals 0 = x0
        generalize vals 1 = x1
        generalize vals 2 = x2
        generalize vals 3 = x3
        generalize vals 4 = x4
        generalize vals 5 = x5
        generalize vals 6 = x6
        generalize vals 7 = x7
        generalize vals 8 = x8
        generalize vals 9 = x9
        generalize vals 10 = x10 at *
        have HBF := Lib.hid (((Below.refl _ _).drew.trans hb4) : Below w.heap.size w w4)
        have H := Lib.hid (show w4.ownsRow w.heap.size 31 16 x10 ((inclD (l.take (split n)) i).length + 1) ((inclD (l.take (split n)) i).flatMap wp.bc ++ wp.bc (rootD (l.drop (split n)))) from h10)
        clear h10 hb4
        go_wp2_with fail
        go_ret
        refine ⟨_, rfl, ?_, HBF.out⟩
        rw [HIN2.out, List.length_append, List.flatMap_append]
        simpa using H.out
    · have hr2 := HIN.out
      rw [if_neg hik] at hr2
      have HIN2 := Lib.hid hr2
      clear HIN hr2
      go_upto_region 6 with fail
      refine wk.region_tailB 13 [.is (.slice A n c), .is (.int .i64 (split n : Nat)), .is (.slice A2 (n - split n) (c - split n)), .is (.int .i64 i), .is (.int .i64 (split n : Nat)), .is (.int .i64 (i - split n : Nat)), .st (fun u v => u.ownsRow w.heap.size 31 16 v ((inclD (l.drop (split n)) (i - split n)).length) ((inclD (l.drop (split n)) (i - split n)).flatMap wp.bc)) (fun u u' v h hb => wk.ownsRow_below h hb), .is (.slice A n c), .is (.int .i64 (split n : Nat)), .is (.slice A1 (split n) c), .is (dv (rootD (l.take (split n)))), .st (fun u v => u.ownsRow w.heap.size 31 16 v ((inclD (l.drop (split n)) (i - split n)).length + 1) ((inclD (l.drop (split n)) (i - split n)).flatMap wp.bc ++ wp.bc (rootD (l.take (split n))))) (fun u u' v h hb => wk.ownsRow_below h hb), .st (fun u v => u.ownsRow w.heap.size 31 16 v ((inclD (l.drop (split n)) (i - split n)).length + 1) ((inclD (l.drop (split n)) (i - split n)).flatMap wp.bc ++ wp.bc (rootD (l.take (split n))))) (fun u u' v h hb => wk.ownsRow_below h hb)] [some 25, some 26, some 27, some 28, some 29, some 30, some 31, some 32, some 33, some 34, some 35, some 36, some 4] (by kernel_rfl) (by kernel_rfl) (by kernel_rfl) (by kernel_rfl) (by kernel_rfl) (by kernel_rfl) ?hstep ?hdone
      case hstep =>
        intro i o ho hi E w4 hb4 D
        have hi2 : i = 0 ∨ i = 1 ∨ i = 2 ∨ i = 3 ∨ i = 4 ∨ i = 5 ∨ i = 6 ∨ i = 7 ∨ i = 8 ∨ i = 9 ∨ i = 10 ∨ i = 11 ∨ i = 12 := by omega
        clear hi
        rcases hi2 with rfl | rfl | rfl | rfl | rfl | rfl | rfl | rfl | rfl | rfl | rfl | rfl | rfl
        ·
          have ho2 := (Array.getElem?_eq_some_iff.1 ho).2
          simp only [List.getElem_toArray, List.getElem_cons_zero] at ho2
          subst ho2
          clear ho
          have e0 := D.old 0 (by kernel_rfl)
          exact wk.does_move rfl (by rw [e0]; rfl)
        ·
          have ho2 := (Array.getElem?_eq_some_iff.1 ho).2
          simp only [List.getElem_toArray, List.getElem_cons_succ, List.getElem_cons_zero] at ho2
          subst ho2
          clear ho
          have e5 := D.old 5 (by kernel_rfl)
          exact wk.does_move rfl (by rw [e5]; rfl)
        ·
          have ho2 := (Array.getElem?_eq_some_iff.1 ho).2
          simp only [List.getElem_toArray, List.getElem_cons_succ, List.getElem_cons_zero] at ho2
          subst ho2
          clear ho
          have e25 := D.is { on := 0, ground := .data } (by simp) rfl rfl 25 rfl
          have e26 := D.is { on := 1, ground := .data } (by simp) rfl rfl 26 rfl
          exact wk.does_run (wk.op_slice rfl e25 (by rw [Option.map_some, e26]) rfl rfl (HRC2.out _)) rfl
        ·
          have ho2 := (Array.getElem?_eq_some_iff.1 ho).2
          simp only [List.getElem_toArray, List.getElem_cons_succ, List.getElem_cons_zero] at ho2
          subst ho2
          clear ho
          have e1 := D.old 1 (by kernel_rfl)
          exact wk.does_move rfl (by rw [e1]; rfl)
        ·
          have ho2 := (Array.getElem?_eq_some_iff.1 ho).2
          simp only [List.getElem_toArray, List.getElem_cons_succ, List.getElem_cons_zero] at ho2
          subst ho2
          clear ho
          have e5 := D.old 5 (by kernel_rfl)
          exact wk.does_move rfl (by rw [e5]; rfl)
        ·
          have ho2 := (Array.getElem?_eq_some_iff.1 ho).2
          simp only [List.getElem_toArray, List.getElem_cons_succ, List.getElem_cons_zero] at ho2
          subst ho2
          clear ho
          have e28 := D.is { on := 3, ground := .data } (by simp) rfl rfl 28 rfl
          have e29 := D.is { on := 4, ground := .data } (by simp) rfl rfl 29 rfl
          exact wk.does_bin rfl (by rw [e28, e29]; go_simp; rw [IntKind.wrap_i64] <;> omega) rfl
        ·
          have ho2 := (Array.getElem?_eq_some_iff.1 ho).2
          simp only [List.getElem_toArray, List.getElem_cons_succ, List.getElem_cons_zero] at ho2
          subst ho2
          clear ho
          have e27 := D.is { on := 2, ground := .data } (by simp) rfl rfl 27 rfl
          have e30 := D.is { on := 5, ground := .data } (by simp) rfl rfl 30 rfl
          refine wk.does_fn (f := 35) (vs := #[.slice A2 (n - split n) (c - split n), .int .i64 (i - split n : Nat)]) rfl (D.fn _) (by simp [e27, e30]) (by go_simp) ?_
          refine (IH.out (n - split n) (by omega) A2 (c - split n) _ (i - split n) w4 (HC2.out.below ((Below.refl _ _).drew.trans hb4)) (by omega) (by omega) (HT.out.next ((Below.refl _ _).drew.trans hb4))).mono ?_
          rintro e w5 ⟨v, rfl, ho5, hb5⟩
          exact ⟨v, rfl, hb5, ownsRow_weak ho5 (((Below.refl _ _).drew.trans hb4).size)⟩
        ·
          have ho2 := (Array.getElem?_eq_some_iff.1 ho).2
          simp only [List.getElem_toArray, List.getElem_cons_succ, List.getElem_cons_zero] at ho2
          subst ho2
          clear ho
          have e0 := D.old 0 (by kernel_rfl)
          exact wk.does_move rfl (by rw [e0]; rfl)
        ·
          have ho2 := (Array.getElem?_eq_some_iff.1 ho).2
          simp only [List.getElem_toArray, List.getElem_cons_succ, List.getElem_cons_zero] at ho2
          subst ho2
          clear ho
          have e5 := D.old 5 (by kernel_rfl)
          exact wk.does_move rfl (by rw [e5]; rfl)
        ·
          have ho2 := (Array.getElem?_eq_some_iff.1 ho).2
          simp only [List.getElem_toArray, List.getElem_cons_succ, List.getElem_cons_zero] at ho2
          subst ho2
          clear ho
          have e32 := D.is { on := 7, ground := .data } (by simp) rfl rfl 32 rfl
          have e33 := D.is { on := 8, ground := .data } (by simp) rfl rfl 33 rfl
          exact wk.does_run (wk.op_slice rfl e32 rfl (by rw [Option.map_some, e33]) rfl (HRC1.out _)) rfl
        ·
          have ho2 := (Array.getElem?_eq_some_iff.1 ho).2
          simp only [List.getElem_toArray, List.getElem_cons_succ, List.getElem_cons_zero] at ho2
          subst ho2
          clear ho
          have e34 := D.is { on := 9, ground := .data } (by simp) rfl rfl 34 rfl
          refine wk.does_fn (f := 16) (vs := #[.slice A1 (split n) (c)]) rfl (D.fn _) (by simp [e34]) (by go_simp) ?_
          refine (rroot_calls (split n) A1 (c) _ w4 (HC1.out.below ((Below.refl _ _).drew.trans hb4)) (by omega) (HT.out.next ((Below.refl _ _).drew.trans hb4))).mono ?_
          rintro e w5 ⟨rfl, hb5⟩
          exact ⟨_, rfl, hb5, rfl⟩
        ·
          have ho2 := (Array.getElem?_eq_some_iff.1 ho).2
          simp only [List.getElem_toArray, List.getElem_cons_succ, List.getElem_cons_zero] at ho2
          subst ho2
          clear ho
          have s31 := D.st { on := 6, ground := .data } (by simp) rfl rfl 31 rfl
          have e35 := D.is { on := 10, ground := .data } (by simp) rfl rfl 35 rfl
          have hso := s31
          generalize hvs : E (.tmp 31) = vs at hso
          refine wk.does_fn (f := 59) (vs := #[vs, dv (rootD (l.take (split n)))]) rfl (D.fn _) (by simp [hvs, e35]) (by go_simp) ?_
          refine (rwith_calls vs _ _ _ (rootD (l.take (split n))) w4 hso (ones_flat _) HR1.out (by have := HIL2.out; omega)).mono ?_
          rintro e w5 ⟨v, rfl, ho5, hb5⟩
          exact ⟨v, rfl, hb5, ownsRow_weak ho5 (((Below.refl _ _).drew.trans hb4).size)⟩
        ·
          have ho2 := (Array.getElem?_eq_some_iff.1 ho).2
          simp only [List.getElem_toArray, List.getElem_cons_succ, List.getElem_cons_zero] at ho2
          subst ho2
          clear ho
          have s36 := D.st { on := 11, ground := .data } (by simp) rfl rfl 36 rfl
          exact wk.does_assign rfl s36
      case hdone =>
        intro vals w4 hb4 hv
        have h12 := hv 12 (by omega)
        clear hv
        simp only [List.drop_succ_cons, List.drop_zero, wpList, wk.setL, List.setIfInBounds_toArray, List.set_cons_zero, List.set_cons_succ, Nat.zero_add, Nat.reduceAdd]
        generalize vals 0 = x0
        generalize vals 1 = x1
        generalize vals 2 = x2
        generalize vals 3 = x3
        generalize vals 4 = x4
        generalize vals 5 = x5
        generalize vals 6 = x6
        generalize vals 7 = x7
        generalize vals 8 = x8
        generalize vals 9 = x9
        generalize vals 10 = x10
        generalize vals 11 = x11
        generalize vals 12 = x12 at *
        have HBF := Lib.hid (((Below.refl _ _).drew.trans hb4) : Below w.heap.size w w4)
        have H := Lib.hid (show w4.ownsRow w.heap.size 31 16 x12 ((inclD (l.drop (split n)) (i - split n)).length + 1) ((inclD (l.drop (split n)) (i - split n)).flatMap wp.bc ++ wp.bc (rootD (l.take (split n)))) from h12)
        clear h12 hb4
        go_wp2_with fail
        go_ret
        refine ⟨_, rfl, ?_, HBF.out⟩
        rw [HIN2.out, List.length_append, List.flatMap_append]
        simpa using H.out
end Go.Proofs.YtmjmkkdmphgdnaaDoor.mk
