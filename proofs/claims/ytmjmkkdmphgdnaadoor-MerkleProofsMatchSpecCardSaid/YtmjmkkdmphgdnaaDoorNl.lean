/- The reference's: consistency. -/
import Derived.Test.YtmjmkkdmphgdnaaDoorNk

namespace Go.Proofs.YtmjmkkdmphgdnaaDoor.mk

open Go.ChangeShapes Go.WideShapes Go.ChangeAt Go.RowKit

set_option linter.unusedVariables false
set_option maxRecDepth 100000 in
set_option maxHeartbeats 4000000 in
theorem rcons_calls : ∀ (n : Nat) (A : Option Addr) (c : Nat) (l : List D) (m : Nat) (mark : Bool) (w : World), IsD w A n c l → n ≤ 1000 → 1 ≤ m → m ≤ n → Tab w →
    Calls Tryd.prog 36 #[.slice A n c, .int .i64 m, .bool mark] w fun e w' => ∃ v, e = .returned v ∧ w'.ownsRow w.heap.size 31 16 v (consD l m mark).length ((consD l m mark).flatMap wp.bc) ∧ Below w.heap.size w w' := by
  intro n
  induction n using Nat.strongRecOn with
  | ind n ih =>
  intro A c l m mark w h hn1000 hm1 hmn hT
  have hlen := h.len
  rcases (by omega : m = n ∨ m < n) with h1 | h1
  · subst h1
    have HCA := Lib.hid (consD_all (l := l) mark hlen.symm hm1)
    have HI := Lib.hid h
    have HT := Lib.hid hT
    have HRL : Hid ((rootD l).length = 16) := rootD_length fun d hd => h.dl d hd
    clear ih h hT
    cases mark
    · go_enter Tryd.func36, Tryd.ntmps36
      go_wp2_with fail
      refine (rroot_calls m A c l _ HI.out (by omega) HT.out).mono ?_
      rintro e w2 ⟨rfl, hb2⟩
      have HB2 := Lib.hid hb2
      clear hb2
      have hsz := HB2.out.size
      go_wp2_with (refine list_new rfl (some 15) rfl _ (run_build1 (x := .tmp 14) (d := rootD l) rfl rfl HRL.out) ?_)
      go_ret
      refine ⟨_, rfl, ?_, HB2.out.alloc hsz _⟩
      rw [HCA.out]
      simp only [Bool.false_eq_true, if_false, List.flatMap_cons, List.flatMap_nil, List.append_nil]
      exact ⟨by rw [bc_len HRL.out]; rfl, .inr ⟨w2.heap.size, 1, (wp.bc (rootD l)).toArray, rfl, hsz, heap_alloc_new _ _, Nat.le_refl _, by unfold maxLen; omega, by rw [List.size_toArray, bc_len HRL.out], List.take_of_length_le (by show (wp.bc (rootD l)).length ≤ _; rw [bc_len HRL.out]; simp)⟩⟩
    · go_enter Tryd.func36, Tryd.ntmps36
      go_wp2_with fail
      go_ret
      refine ⟨_, rfl, ?_, Below.refl _ _⟩
      have hc := HCA.out
      simp only [if_true] at hc
      rw [hc]
      exact ⟨rfl, .inl ⟨rfl, rfl⟩⟩
  · have h2 : 2 ≤ n := by omega
    have hs := split_lt h2
    have hp := split_pos n
    have hr2 := consD_two (l := l) (m := m) mark (by omega) hm1
    rw [hlen] at hr2
    have HIN := Lib.hid hr2
    have HT := Lib.hid hT
    have IH := Lib.hid ih
    obtain ⟨A1, A2, HC1, HC2, HRC1, HRC2⟩ := cut_facts h h2 hn1000
    have hls1 : (l.take (split n)).length = split n := by rw [List.length_take]; omega
    have hls2 : (l.drop (split n)).length = n - split n := by rw [List.length_drop]; omega
    have hi1 := cons_length (split n) (l.take (split n)) m mark
    have hi2 := cons_length (n - split n) (l.drop (split n)) (m - split n) false
    have HIL1 : Hid ((consD (l.take (split n)) m mark).length ≤ split n + 1) := by show _ ≤ _; unfold consD; rw [hls1] at hi1 ⊢; exact hi1
    have HIL2 : Hid ((consD (l.drop (split n)) (m - split n) false).length ≤ n - split n + 1) := by show _ ≤ _; unfold consD; rw [hls2] at hi2 ⊢; exact hi2
    have HR1 : Hid ((rootD (l.take (split n))).length = 16) := rootD_length fun d hd => h.dl d (List.mem_of_mem_take hd)
    have HR2 : Hid ((rootD (l.drop (split n))).length = 16) := rootD_length fun d hd => h.dl d (List.mem_of_mem_drop hd)
    have hn3 : ((m : Int) == (n : Int)) = false := by simp; omega
    clear hr2 hT h ih hls1 hls2 hi1 hi2 hlen
    go_enter Tryd.func36, Tryd.ntmps36
    go_wp2_with fail
    refine (rsplit_calls n _ h2 (by omega)).mono ?_
    rintro e w2 ⟨rfl, hw2⟩
    rw [hw2]
    clear hw2
    by_cases hik : m ≤ split n
    · have hr2 := HIN.out
      rw [if_pos hik] at hr2
      have HIN2 := Lib.hid hr2
      clear HIN hr2
      go_upto_region 7 with fail
      refine wk.region_tailB 12 [.is (.slice A n c), .is (.int .i64 (split n : Nat)), .is (.slice A1 (split n) c), .is (.int .i64 m), .is (.bool mark), .st (fun u v => u.ownsRow w.heap.size 31 16 v ((consD (l.take (split n)) m mark).length) ((consD (l.take (split n)) m mark).flatMap wp.bc)) (fun u u' v h hb => wk.ownsRow_below h hb), .is (.slice A n c), .is (.int .i64 (split n : Nat)), .is (.slice A2 (n - split n) (c - split n)), .is (dv (rootD (l.drop (split n)))), .st (fun u v => u.ownsRow w.heap.size 31 16 v ((consD (l.take (split n)) m mark).length + 1) ((consD (l.take (split n)) m mark).flatMap wp.bc ++ wp.bc (rootD (l.drop (split n))))) (fun u u' v h hb => wk.ownsRow_below h hb), .st (fun u v => u.ownsRow w.heap.size 31 16 v ((consD (l.take (split n)) m mark).length + 1) ((consD (l.take (split n)) m mark).flatMap wp.bc ++ wp.bc (rootD (l.drop (split n))))) (fun u u' v h hb => wk.ownsRow_below h hb)] [some 22, some 23, some 24, some 25, some 26, some 27, some 28, some 29, some 30, some 31, some 32, some 6] (by kernel_rfl) (by kernel_rfl) (by kernel_rfl) (by kernel_rfl) (by kernel_rfl) (by kernel_rfl) ?hstep ?hdone
      case hstep =>
        intro i o ho hi E w4 hb4 D
        have hi2 : i = 0 ∨ i = 1 ∨ i = 2 ∨ i = 3 ∨ i = 4 ∨ i = 5 ∨ i = 6 ∨ i = 7 ∨ i = 8 ∨ i = 9 ∨ i = 10 ∨ i = 11 := by omega
        clear hi
        rcases hi2 with rfl | rfl | rfl | rfl | rfl | rfl | rfl | rfl | rfl | rfl | rfl | rfl
        ·
          have ho2 := (Array.getElem?_eq_some_iff.1 ho).2
          simp only [List.getElem_toArray, List.getElem_cons_zero] at ho2
          subst ho2
          clear ho
          have e0 := D.old 0 (by kernel_rfl)
          exact wk.does_move rfl (by rw [e0]; rfl)
        ·
          have ho2 := (Array.getElem?_eq_some_iff.1 ho).2
          simp only [List.getElem_toArray, List.getElem_cons_succ, List.getElem_cons_zero] at ho2
          subst ho2
          clear ho
          have e7 := D.old 7 (by kernel_rfl)
          exact wk.does_move rfl (by rw [e7]; rfl)
        ·
          have ho2 := (Array.getElem?_eq_some_iff.1 ho).2
          simp only [List.getElem_toArray, List.getElem_cons_succ, List.getElem_cons_zero] at ho2
          subst ho2
          clear ho
          have e22 := D.is { on := 0, ground := .data } (by simp) rfl rfl 22 rfl
          have e23 := D.is { on := 1, ground := .data } (by simp) rfl rfl 23 rfl
          exact wk.does_run (wk.op_slice rfl e22 rfl (by rw [Option.map_some, e23]) rfl (HRC1.out _)) rfl
        ·
          have ho2 := (Array.getElem?_eq_some_iff.1 ho).2
          simp only [List.getElem_toArray, List.getElem_cons_succ, List.getElem_cons_zero] at ho2
          subst ho2
          clear ho
          have e1 := D.old 1 (by kernel_rfl)
          exact wk.does_move rfl (by rw [e1]; rfl)
        ·
          have ho2 := (Array.getElem?_eq_some_iff.1 ho).2
          simp only [List.getElem_toArray, List.getElem_cons_succ, List.getElem_cons_zero] at ho2
          subst ho2
          clear ho
          have e2 := D.old 2 (by kernel_rfl)
          exact wk.does_move rfl (by rw [e2]; rfl)
        ·
          have ho2 := (Array.getElem?_eq_some_iff.1 ho).2
          simp only [List.getElem_toArray, List.getElem_cons_succ, List.getElem_cons_zero] at ho2
          subst ho2
          clear ho
          have e24 := D.is { on := 2, ground := .data } (by simp) rfl rfl 24 rfl
          have e25 := D.is { on := 3, ground := .data } (by simp) rfl rfl 25 rfl
          have e26 := D.is { on := 4, ground := .data } (by simp) rfl rfl 26 rfl
          refine wk.does_fn (f := 36) (vs := #[.slice A1 (split n) (c), .int .i64 (m : Nat), .bool mark]) rfl (D.fn _) (by simp [e24, e25, e26]) (by go_simp) ?_
          refine (IH.out (split n) hs A1 (c) _ (m) mark w4 (HC1.out.below ((Below.refl _ _).drew.trans hb4)) (by omega) hm1 hik (HT.out.next ((Below.refl _ _).drew.trans hb4))).mono ?_
          rintro e w5 ⟨v, rfl, ho5, hb5⟩
          exact ⟨v, rfl, hb5, ownsRow_weak ho5 (((Below.refl _ _).drew.trans hb4).size)⟩
        ·
          have ho2 := (Array.getElem?_eq_some_iff.1 ho).2
          simp only [List.getElem_toArray, List.getElem_cons_succ, List.getElem_cons_zero] at ho2
          subst ho2
          clear ho
          have e0 := D.old 0 (by kernel_rfl)
          exact wk.does_move rfl (by rw [e0]; rfl)
        ·
          have ho2 := (Array.getElem?_eq_some_iff.1 ho).2
          simp only [List.getElem_toArray, List.getElem_cons_succ, List.getElem_cons_zero] at ho2
          subst ho2
          clear ho
          have e7 := D.old 7 (by kernel_rfl)
          exact wk.does_move rfl (by rw [e7]; rfl)
        ·
          have ho2 := (Array.getElem?_eq_some_iff.1 ho).2
          simp only [List.getElem_toArray, List.getElem_cons_succ, List.getElem_cons_zero] at ho2
          subst ho2
          clear ho
          have e28 := D.is { on := 6, ground := .data } (by simp) rfl rfl 28 rfl
          have e29 := D.is { on := 7, ground := .data } (by simp) rfl rfl 29 rfl
          exact wk.does_run (wk.op_slice rfl e28 (by rw [Option.map_some, e29]) rfl rfl (HRC2.out _)) rfl
        ·
          have ho2 := (Array.getElem?_eq_some_iff.1 ho).2
          simp only [List.getElem_toArray, List.getElem_cons_succ, List.getElem_cons_zero] at ho2
          subst ho2
          clear ho
          have e30 := D.is { on := 8, ground := .data } (by simp) rfl rfl 30 rfl
          refine wk.does_fn (f := 16) (vs := #[.slice A2 (n - split n) (c - split n)]) rfl (D.fn _) (by simp [e30]) (by go_simp) ?_
          refine (rroot_calls (n - split n) A2 (c - split n) _ w4 (HC2.out.below ((Below.refl _ _).drew.trans hb4)) (by omega) (HT.out.next ((Below.refl _ _).drew.trans hb4))).mono ?_
          rintro e w5 ⟨rfl, hb5⟩
          exact ⟨_, rfl, hb5, rfl⟩
        ·
          have ho2 := (Array.getElem?_eq_some_iff.1 ho).2
          simp only [List.getElem_toArray, List.getElem_cons_succ, List.getElem_cons_zero] at ho2
          subst ho2
          clear ho
          have s27 := D.st { on := 5, ground := .data } (by simp) rfl rfl 27 rfl
          have e31 := D.is { on := 9, ground := .data } (by simp) rfl rfl 31 rfl
          have hso := s27
          generalize hvs : E (.tmp 27) = vs at hso
          refine wk.does_fn (f := 59) (vs := #[vs, dv (rootD (l.drop (split n)))]) rfl (D.fn _) (by simp [hvs, e31]) (by go_simp) ?_
          refine (rwith_calls vs _ _ _ (rootD (l.drop (split n))) w4 hso (ones_flat _) HR2.out (by have := HIL1.out; omega)).mono ?_
          rintro e w5 ⟨v, rfl, ho5, hb5⟩
          exact ⟨v, rfl, hb5, ownsRow_weak ho5 (((Below.refl _ _).drew.trans hb4).size)⟩
        ·
          have ho2 := (Array.getElem?_eq_some_iff.1 ho).2
          simp only [List.getElem_toArray, List.getElem_cons_succ, List.getElem_cons_zero] at ho2
          subst ho2
          clear ho
          have s32 := D.st { on := 10, ground := .data } (by simp) rfl rfl 32 rfl
          exact wk.does_assign rfl s32
      case hdone =>
        intro vals w4 hb4 hv
        have h11 := hv 11 (by omega)
        clear hv
        simp only [List.drop_succ_cons, List.drop_zero, wpList, wk.setL, List.setIfInBounds_toArray, List.set_cons_zero, List.set_cons_succ, Nat.zero_add, Nat.reduceAdd]
        generalize vals 0 = x0
        generalize vals 1 = x1
        generalize vals 2 = x2
        generalize vals 3 = x3
        generalize vals 4 = x4
        generalize vals 5 = x5
        generalize vals 6 = x6
        generalize vals 7 = x7
        generalize vals 8 = x8
        generalize vals 9 = x9
        generalize vals 10 = x10
        generalize vals 11 = x11 at *
        have HBF := Lib.hid (((Below.refl _ _).drew.trans hb4) : Below w.heap.size w w4)
        have H := Lib.hid (show w4.ownsRow w.heap.size 31 16 x11 ((consD (l.take (split n)) m mark).length + 1) ((consD (l.take (split n)) m mark).flatMap wp.bc ++ wp.bc (rootD (l.drop (split n)))) from h11)
        clear h11 hb4
        go_wp2_with fail
        go_ret
        refine ⟨_, rfl, ?_, HBF.out⟩
        rw [HIN2.out, List.length_append, List.flatMap_append]
        simpa using H.out
    · have hr2 := HIN.out
      rw [if_neg hik] at hr2
      have HIN2 := Lib.hid hr2
      clear HIN hr2
      go_upto_region 8 with fail
      refine wk.region_tailB 13 [.is (.slice A n c), .is (.int .i64 (split n : Nat)), .is (.slice A2 (n - split n) (c - split n)), .is (.int .i64 m), .is (.int .i64 (split n : Nat)), .is (.int .i64 (m - split n : Nat)), .st (fun u v => u.ownsRow w.heap.size 31 16 v ((consD (l.drop (split n)) (m - split n) false).length) ((consD (l.drop (split n)) (m - split n) false).flatMap wp.bc)) (fun u u' v h hb => wk.ownsRow_below h hb), .is (.slice A n c), .is (.int .i64 (split n : Nat)), .is (.slice A1 (split n) c), .is (dv (rootD (l.take (split n)))), .st (fun u v => u.ownsRow w.heap.size 31 16 v ((consD (l.drop (split n)) (m - split n) false).length + 1) ((consD (l.drop (split n)) (m - split n) false).flatMap wp.bc ++ wp.bc (rootD (l.take (split n))))) (fun u u' v h hb => wk.ownsRow_below h hb), .st (fun u v => u.ownsRow w.heap.size 31 16 v ((consD (l.drop (split n)) (m - split n) false).length + 1) ((consD (l.drop (split n)) (m - split n) false).flatMap wp.bc ++ wp.bc (rootD (l.take (split n))))) (fun u u' v h hb => wk.ownsRow_below h hb)] [some 33, some 34, some 35, some 36, some 37, some 38, some 39, some 40, some 41, some 42, some 43, some 44, some 6] (by kernel_rfl) (by kernel_rfl) (by kernel_rfl) (by kernel_rfl) (by kernel_rfl) (by kernel_rfl) ?hstep ?hdone
      case hstep =>
        intro i o ho hi E w4 hb4 D
        have hi2 : i = 0 ∨ i = 1 ∨ i = 2 ∨ i = 3 ∨ i = 4 ∨ i = 5 ∨ i = 6 ∨ i = 7 ∨ i = 8 ∨ i = 9 ∨ i = 10 ∨ i = 11 ∨ i = 12 := by omega
        clear hi
        rcases hi2 with rfl | rfl | rfl | rfl | rfl | rfl | rfl | rfl | rfl | rfl | rfl | rfl | rfl
        ·
          have ho2 := (Array.getElem?_eq_some_iff.1 ho).2
          simp only [List.getElem_toArray, List.getElem_cons_zero] at ho2
          subst ho2
          clear ho
          have e0 := D.old 0 (by kernel_rfl)
          exact wk.does_move rfl (by rw [e0]; rfl)
        ·
          have ho2 := (Array.getElem?_eq_some_iff.1 ho).2
          simp only [List.getElem_toArray, List.getElem_cons_succ, List.getElem_cons_zero] at ho2
          subst ho2
          clear ho
          have e7 := D.old 7 (by kernel_rfl)
          exact wk.does_move rfl (by rw [e7]; rfl)
        ·
          have ho2 := (Array.getElem?_eq_some_iff.1 ho).2
          simp only [List.getElem_toArray, List.getElem_cons_succ, List.getElem_cons_zero] at ho2
          subst ho2
          clear ho
          have e33 := D.is { on := 0, ground := .data } (by simp) rfl rfl 33 rfl
          have e34 := D.is { on := 1, ground := .data } (by simp) rfl rfl 34 rfl
          exact wk.does_run (wk.op_slice rfl e33 (by rw [Option.map_some, e34]) rfl rfl (HRC2.out _)) rfl
        ·
          have ho2 := (Array.getElem?_eq_some_iff.1 ho).2
          simp only [List.getElem_toArray, List.getElem_cons_succ, List.getElem_cons_zero] at ho2
          subst ho2
          clear ho
          have e1 := D.old 1 (by kernel_rfl)
          exact wk.does_move rfl (by rw [e1]; rfl)
        ·
          have ho2 := (Array.getElem?_eq_some_iff.1 ho).2
          simp only [List.getElem_toArray, List.getElem_cons_succ, List.getElem_cons_zero] at ho2
          subst ho2
          clear ho
          have e7 := D.old 7 (by kernel_rfl)
          exact wk.does_move rfl (by rw [e7]; rfl)
        ·
          have ho2 := (Array.getElem?_eq_some_iff.1 ho).2
          simp only [List.getElem_toArray, List.getElem_cons_succ, List.getElem_cons_zero] at ho2
          subst ho2
          clear ho
          have e36 := D.is { on := 3, ground := .data } (by simp) rfl rfl 36 rfl
          have e37 := D.is { on := 4, ground := .data } (by simp) rfl rfl 37 rfl
          exact wk.does_bin rfl (by rw [e36, e37]; go_simp; rw [IntKind.wrap_i64] <;> omega) rfl
        ·
          have ho2 := (Array.getElem?_eq_some_iff.1 ho).2
          simp only [List.getElem_toArray, List.getElem_cons_succ, List.getElem_cons_zero] at ho2
          subst ho2
          clear ho
          have e35 := D.is { on := 2, ground := .data } (by simp) rfl rfl 35 rfl
          have e38 := D.is { on := 5, ground := .data } (by simp) rfl rfl 38 rfl
          refine wk.does_fn (f := 36) (vs := #[.slice A2 (n - split n) (c - split n), .int .i64 (m - split n : Nat), .bool false]) rfl (D.fn _) (by simp [e35, e38, D.con]) (by go_simp) ?_
          refine (IH.out (n - split n) (by omega) A2 (c - split n) _ (m - split n) false w4 (HC2.out.below ((Below.refl _ _).drew.trans hb4)) (by omega) (by omega) (by omega) (HT.out.next ((Below.refl _ _).drew.trans hb4))).mono ?_
          rintro e w5 ⟨v, rfl, ho5, hb5⟩
          exact ⟨v, rfl, hb5, ownsRow_weak ho5 (((Below.refl _ _).drew.trans hb4).size)⟩
        ·
          have ho2 := (Array.getElem?_eq_some_iff.1 ho).2
          simp only [List.getElem_toArray, List.getElem_cons_succ, List.getElem_cons_zero] at ho2
          subst ho2
          clear ho
          have e0 := D.old 0 (by kernel_rfl)
          exact wk.does_move rfl (by rw [e0]; rfl)
        ·
          have ho2 := (Array.getElem?_eq_some_iff.1 ho).2
          simp only [List.getElem_toArray, List.getElem_cons_succ, List.getElem_cons_zero] at ho2
          subst ho2
          clear ho
          have e7 := D.old 7 (by kernel_rfl)
          exact wk.does_move rfl (by rw [e7]; rfl)
        ·
          have ho2 := (Array.getElem?_eq_some_iff.1 ho).2
          simp only [List.getElem_toArray, List.getElem_cons_succ, List.getElem_cons_zero] at ho2
          subst ho2
          clear ho
          have e40 := D.is { on := 7, ground := .data } (by simp) rfl rfl 40 rfl
          have e41 := D.is { on := 8, ground := .data } (by simp) rfl rfl 41 rfl
          exact wk.does_run (wk.op_slice rfl e40 rfl (by rw [Option.map_some, e41]) rfl (HRC1.out _)) rfl
        ·
          have ho2 := (Array.getElem?_eq_some_iff.1 ho).2
          simp only [List.getElem_toArray, List.getElem_cons_succ, List.getElem_cons_zero] at ho2
          subst ho2
          clear ho
          have e42 := D.is { on := 9, ground := .data } (by simp) rfl rfl 42 rfl
          refine wk.does_fn (f := 16) (vs := #[.slice A1 (split n) (c)]) rfl (D.fn _) (by simp [e42]) (by go_simp) ?_
          refine (rroot_calls (split n) A1 (c) _ w4 (HC1.out.below ((Below.refl _ _).drew.trans hb4)) (by omega) (HT.out.next ((Below.refl _ _).drew.trans hb4))).mono ?_
          rintro e w5 ⟨rfl, hb5⟩
          exact ⟨_, rfl, hb5, rfl⟩
        ·
          have ho2 := (Array.getElem?_eq_some_iff.1 ho).2
          simp only [List.getElem_toArray, List.getElem_cons_succ, List.getElem_cons_zero] at ho2
          subst ho2
          clear ho
          have s39 := D.st { on := 6, ground := .data } (by simp) rfl rfl 39 rfl
          have e43 := D.is { on := 10, ground := .data } (by simp) rfl rfl 43 rfl
          have hso := s39
          generalize hvs : E (.tmp 39) = vs at hso
          refine wk.does_fn (f := 59) (vs := #[vs, dv (rootD (l.take (split n)))]) rfl (D.fn _) (by simp [hvs, e43]) (by go_simp) ?_
          refine (rwith_calls vs _ _ _ (rootD (l.take (split n))) w4 hso (ones_flat _) HR1.out (by have := HIL2.out; omega)).mono ?_
          rintro e w5 ⟨v, rfl, ho5, hb5⟩
          exact ⟨v, rfl, hb5, ownsRow_weak ho5 (((Below.refl _ _).drew.trans hb4).size)⟩
        ·
          have ho2 := (Array.getElem?_eq_some_iff.1 ho).2
          simp only [List.getElem_toArray, List.getElem_cons_succ, List.getElem_cons_zero] at ho2
          subst ho2
          clear ho
          have s44 := D.st { on := 11, ground := .data } (by simp) rfl rfl 44 rfl
          exact wk.does_assign rfl s44
      case hdone =>
        intro vals w4 hb4 hv
        have h12 := hv 12 (by omega)
        clear hv
        simp only [List.drop_succ_cons, List.drop_zero, wpList, wk.setL, List.setIfInBounds_toArray, List.set_cons_zero, List.set_cons_succ, Nat.zero_add, Nat.reduceAdd]
        generalize vals 0 = x0
        generalize vals 1 = x1
        generalize vals 2 = x2
        generalize vals 3 = x3
        generalize vals 4 = x4
        generalize vals 5 = x5
        generalize vals 6 = x6
        generalize vals 7 = x7
        generalize vals 8 = x8
        generalize vals 9 = x9
        generalize vals 10 = x10
        generalize vals 11 = x11
        generalize vals 12 = x12 at *
        have HBF := Lib.hid (((Below.refl _ _).drew.trans hb4) : Below w.heap.size w w4)
        have H := Lib.hid (show w4.ownsRow w.heap.size 31 16 x12 ((consD (l.drop (split n)) (m - split n) false).length + 1) ((consD (l.drop (split n)) (m - split n) false).flatMap wp.bc ++ wp.bc (rootD (l.take (split n)))) from h12)
        clear h12 hb4
        go_wp2_with fail
        go_ret
        refine ⟨_, rfl, ?_, HBF.out⟩
        rw [HIN2.out, List.length_append, List.flatMap_append]
        simpa using H.out
end Go.Proofs.YtmjmkkdmphgdnaaDoor.mk
