/- Joined: Pd Ur Pe Pf. -/
import Derived.Test.YteeianandjokaaaG7

import Derived.Deep.Cut
/- What fits; the nearest of pivots; what finds keys to each of them. -/
namespace Go.Proofs.Yteeianandjokaaa.pk

open Go.ChangeShapes Go.WideShapes Go.ChangeAt Go.RowKit

open Go.Proofs.Yteeianandjokaaa.pq Go.Proofs.Yteeianandjokaaa.cq Go.Proofs.Yteeianandjokaaa.vk Go.Proofs.Yteeianandjokaaa.bk Go.Proofs.Yteeianandjokaaa.wk Go.Proofs.Yteeianandjokaaa.uk

set_option linter.unusedVariables false
set_option maxRecDepth 100000 in
set_option maxHeartbeats 2000000 in
theorem idx_fit {L : VV} {A : Option Addr} {n c g : Nat} (bad : List Int → Bool) (w : World) (h : IsVV w A n c L)
    (hcall : ∀ w', Below w.heap.size w w' → ∀ A' n' c' l, wo.IsI w' A' n' c' l → l ∈ L → Calls Try.prog 78 #[.slice A' n' c', .pointer (some ⟨g, 0, none⟩)] w' fun e w'' => e = .returned (.bool (bad l)) ∧ Below w'.heap.size w' w'') :
    Calls Try.prog 104 #[.slice A n c, .func (.func 78) #[] #[.pointer (some ⟨g, 0, none⟩)]] w fun e w' => (∃ r : Int, e = .returned (.int .i64 r) ∧ decide (0 ≤ r) = L.any bad) ∧ Below w.heap.size w w' := by
  have hl := h.1
  have hm := h.2.2.1
  have hnc := h.2.1
  have H := Lib.hid h
  have HL := Lib.hid hl
  have HCA := Lib.hid hcall
  clear h hl hcall
  go_enter Try.func104, Try.ntmps104
  go_wp2_with fail
  go_loopg [8] n (fun g x wr => ∃ k : Nat, k + g = n ∧ x = .int .i64 (k : Int) ∧ Below w.heap.size w wr ∧ (L.take k).any bad = false)
  case atStart => exact ⟨0, by omega, rfl, Below.refl _ _, by simp⟩
  case round =>
    obtain ⟨k, hk, rfl, hbel, hr⟩ := hrel
    have HK := Lib.hid hk
    have HR := Lib.hid hr
    have HB := Lib.hid hbel
    have hkn : k ≤ n := by omega
    clear hk hr
    by_cases hlt : k < n
    · obtain ⟨b, o, A', n', c', l, rfl, hb, hc, hI, hX⟩ := isVV_get (isVV_below H.out hbel) hlt
      have hlt0 : (k : Int) < (n : Int) := by omega
      have HC := Lib.hid (HCA.out wr hbel A' n' c' l hI (List.mem_of_getElem? hX))
      have HX : Hid ((L.take (k + 1)).any bad = ((L.take k).any bad || bad l)) := by
        show _ = _
        rw [List.take_add_one, hX, List.any_append]; simp
      have HM := Lib.hid (List.mem_of_getElem? hX)
      clear hI hX hbel
      cases hx : bad l
      · rw [hx] at HC HX
        go_wp2_with fail
        refine HC.out.mono ?_
        rintro e w' ⟨rfl, hb2⟩
        have HB2 := Lib.hid (HB.out.trans (hb2.mono HB.out.size))
        clear hb2
        go_wp2_with fail
        go_roundg (gk - 1)
        case measure => have := HK.out; omega
        case rel =>
          refine ⟨k + 1, by have := HK.out; omega, by go_num, HB2.out, ?_⟩
          rw [HX.out, HR.out]; rfl
      · rw [hx] at HC
        go_wp2_with fail
        refine HC.out.mono ?_
        rintro e w' ⟨rfl, hb2⟩
        have HB2 := Lib.hid (HB.out.trans (hb2.mono HB.out.size))
        clear hb2
        go_wp2_with fail
        go_ret
        refine ⟨⟨k, rfl, ?_⟩, HB2.out⟩
        have h1 : L.any bad = true := by
          rw [List.any_eq_true]
          exact ⟨l, HM.out, hx⟩
        rw [h1]; simp
    · obtain rfl : k = n := by omega
      have hall : L.any bad = false := by
        have := HR.out
        rw [List.take_of_length_le (by have := HL.out; omega)] at this
        exact this
      have HALL := Lib.hid hall
      clear hall hbel
      go_wp2_with fail
      go_ret
      exact ⟨⟨-1, rfl, by rw [HALL.out]; rfl⟩, HB.out⟩
set_option maxRecDepth 100000 in
theorem con_fit {L : VV} {A : Option Addr} {n c g : Nat} (bad : List Int → Bool) (w : World) (h : IsVV w A n c L)
    (hcall : ∀ w', Below w.heap.size w w' → ∀ A' n' c' l, wo.IsI w' A' n' c' l → l ∈ L → Calls Try.prog 78 #[.slice A' n' c', .pointer (some ⟨g, 0, none⟩)] w' fun e w'' => e = .returned (.bool (bad l)) ∧ Below w'.heap.size w' w'') :
    Calls Try.prog 77 #[.slice A n c, .func (.func 78) #[] #[.pointer (some ⟨g, 0, none⟩)]] w fun e w' => e = .returned (.bool (L.any bad)) ∧ Below w.heap.size w w' := by
  have HI := Lib.hid (idx_fit (g := g) bad w h hcall)
  clear h hcall
  generalize L.any bad = al at *
  go_enter Try.func77, Try.ntmps77
  go_wp2_with fail
  refine HI.out.mono ?_
  rintro e w' ⟨⟨r, rfl, hr⟩, hb⟩
  have HB := Lib.hid hb
  clear hb
  subst hr
  go_wp2_with fail
  go_ret
  exact ⟨rfl, HB.out⟩
set_option maxRecDepth 100000 in
theorem isMetric_calls (m : Int) (w : World) : Calls Try.prog 41 #[.int .i64 m] w fun e w' => e = .returned (.bool (isM m)) ∧ Below w.heap.size w w' := by
  have HV := Lib.hid (me.valid_calls m 0 w)
  have HE : Hid (me.okk m 0 = isM m) := by show _ = _; simp [me.okk, isM]
  rw [← HE.out]
  generalize me.okk m 0 = y at *
  go_enter Try.func41, Try.ntmps41
  go_wp2_with fail
  refine HV.out.mono ?_
  rintro e w' ⟨rfl, rfl⟩
  go_wp2_with fail
  go_ret
  exact ⟨rfl, Below.refl _ _⟩
def notFit (a : List Int) (l : List Int) : Bool := !vq.alike l a
set_option maxRecDepth 100000 in
theorem fit1_calls (g : Nat) (A AL : Option Addr) (n c nL cL : Nat) (l : List Int) (L : VV) (w : World) (h : wo.IsI w A n c l) (hg : Box w g (.slice AL nL cL)) (hL : IsVV w AL nL cL L) (hn : 1 ≤ nL) :
    Calls Try.prog 78 #[.slice A n c, .pointer (some ⟨g, 0, none⟩)] w fun e w' => e = .returned (.bool (notFit (L.headD []) l)) ∧ Below w.heap.size w w' := by
  obtain ⟨b, o, A0, n0, c0, l0, rfl, hb, hc, hI, hX⟩ := isVV_get hL (k := 0) (by omega)
  rw [Nat.add_zero] at hc
  have hh : L.headD [] = l0 := by
    cases L with
    | nil => simp at hX
    | cons y l => simpa using hX
  rw [hh]
  have HV := Lib.hid (alike_calls A A0 n n0 c c0 l l0 w h hI)
  have hm := hL.2.2.1
  have hnc := hL.2.1
  have hcb := hg.cell
  have hn' : (0 : Int) < (nL : Int) := by omega
  unfold notFit
  clear h hg hL hI hX
  generalize vq.alike l l0 = al at *
  go_enter Try.func78, Try.ntmps78
  go_wp2_with fail
  refine HV.out.mono ?_
  rintro e w' ⟨rfl, hb⟩
  have HB := Lib.hid hb
  clear hb
  go_wp2_with fail
  go_ret
  exact ⟨rfl, HB.out⟩
theorem fit_any (most : Nat) (L : VV) : fit most L = (decide (1 ≤ L.length) && (decide (L.length ≤ most) && !L.any (notFit (L.headD [])))) := by
  unfold fit
  congr 2
  generalize L.headD [] = a
  induction L with
  | nil => rfl
  | cons x l ih => simp only [List.all_cons, List.any_cons, ih, notFit]; cases vq.alike x a <;> simp
set_option maxRecDepth 100000 in
theorem fit_calls (q : Int) (most : Nat) (hq : q = most) (hmost : most ≤ 4096) (A : Option Addr) (n c : Nat) (L : VV) (w : World) (h : IsVV w A n c L) :
    Calls Try.prog 42 #[.slice A n c, .int .i64 q] w fun e w' => e = .returned (.bool (fit most L)) ∧ Below w.heap.size w w' := by
  subst hq
  have hm := h.2.2.1
  have hnc := h.2.1
  have hb0 := below_new w (.cells #[.slice A n c] 22)
  have hx0 := Box.new w (.slice A n c) 22
  have HB0 := Lib.hid hb0
  rw [fit_any, h.1]
  by_cases h1 : 1 ≤ n
  · have HC := Lib.hid (con_fit (g := w.heap.size) (notFit (L.headD [])) (w.alloc (.cells #[.slice A n c] 22)) (isVV_below h hb0) (fun w' hb A' n' c' l hI _ => fit1_calls _ A' A n' c' n c l L w' hI (hx0.below hb) (isVV_below (isVV_below h hb0) hb) h1))
    have hcb := hx0.cell
    clear h hb0 hx0
    generalize L.any (notFit (L.headD [])) = al at *
    by_cases h2 : n ≤ most
    · go_enter Try.func42, Try.ntmps42
      go_wp2_with fail
      refine HC.out.mono ?_
      rintro e w' ⟨rfl, hb⟩
      have HB := Lib.hid (Below.andThen HB0.out hb)
      clear hb
      go_wp2_with fail
      go_ret
      exact ⟨by simp [h1, h2], HB.out⟩
    · go_enter Try.func42, Try.ntmps42
      go_wp2_with fail
      go_ret
      exact ⟨by simp [h1, h2], HB0.out⟩
  · have hcb := hx0.cell
    clear h hb0 hx0
    generalize L.any (notFit (L.headD [])) = al at *
    go_enter Try.func42, Try.ntmps42
    go_wp2_with fail
    go_ret
    exact ⟨by simp, HB0.out⟩
set_option maxRecDepth 100000 in
set_option maxHeartbeats 4000000 in
theorem have_calls {m : Int} {A A' : Option Addr} {n c n' c' : Nat} {P L : VV} (w : World) (h : IsVV w A n c P) (h' : IsVV w A' n' c' L) :
    Calls Try.prog 47 #[.int .i64 m, .slice A n c, .slice A' n' c'] w fun e w' => e = .returned (.bool (haveK m P L)) ∧ Below w.heap.size w w' := by
  have HM := Lib.hid (fun w' => isMetric_calls m w')
  have HP := Lib.hid (fun w' (hb : Below w.heap.size w w') => fit_calls 8 8 rfl (by omega) A n c P w' (isVV_below h hb))
  have HL := Lib.hid (fun w' (hb : Below w.heap.size w w') => fit_calls 4096 4096 rfl (by omega) A' n' c' L w' (isVV_below h' hb))
  have hmm := h.2.2.1
  have hnc := h.2.1
  have hmm' := h'.2.2.1
  have hnc' := h'.2.1
  have HPF : Hid (fit 8 P = true → 1 ≤ n) := fun hh => by have := (fit_of hh).n1; have := h.1; omega
  have HLF : Hid (fit 4096 L = true → 1 ≤ n') := fun hh => by have := (fit_of hh).n1; have := h'.1; omega
  unfold haveK
  have HH := Lib.hid h
  have HH' := Lib.hid h'
  clear h h'
  cases h1 : isM m
  · rw [h1] at HM
    rw [Bool.false_and]
    go_enter Try.func47, Try.ntmps47
    go_wp2_with fail
    refine wk.region_tailS 20 [.is (.int .i64 m), .is (.bool false), .is (.bool false), .is undef, .is undef, .is (Value.bool false), .is (.bool false), .is undef, .is undef, .is (Value.bool false), .is (.bool false), .is undef, .is undef, .is undef, .is undef, .is undef, .is undef, .is undef, .is (Value.bool false), .is (.bool false)] [some 7, some 8, some 9, some 10, some 11, some 12, some 13, some 14, some 15, some 16, some 17, some 18, some 19, some 20, some 21, some 22, some 23, some 24, some 25, some 6] (by kernel_rfl) (by kernel_rfl) (by kernel_rfl) (by kernel_rfl) [3, 4, 7, 8, 11, 12, 13, 14, 15, 16, 17] (by kernel_rfl) (by intro p hp; simp only [List.mem_cons, List.not_mem_nil, or_false] at hp; rcases hp with rfl | rfl | rfl | rfl | rfl | rfl | rfl | rfl | rfl | rfl | rfl <;> rfl) (by kernel_rfl) (by kernel_rfl) ?hstep ?hdone
    case hstep =>
      intro i o ho hi hns E w4 hb4 D
      have hi2 : i = 0 ∨ i = 1 ∨ i = 2 ∨ i = 3 ∨ i = 4 ∨ i = 5 ∨ i = 6 ∨ i = 7 ∨ i = 8 ∨ i = 9 ∨ i = 10 ∨ i = 11 ∨ i = 12 ∨ i = 13 ∨ i = 14 ∨ i = 15 ∨ i = 16 ∨ i = 17 ∨ i = 18 ∨ i = 19 := by omega
      clear hi
      rcases hi2 with rfl | rfl | rfl | rfl | rfl | rfl | rfl | rfl | rfl | rfl | rfl | rfl | rfl | rfl | rfl | rfl | rfl | rfl | rfl | rfl
      ·
        have ho2 := (Array.getElem?_eq_some_iff.1 ho).2
        simp only [List.getElem_toArray, List.getElem_cons_zero] at ho2
        subst ho2
        clear ho
        have e0 := D.old 0 (by kernel_rfl)
        exact wk.does_move rfl (by rw [e0]; rfl)
      ·
        have ho2 := (Array.getElem?_eq_some_iff.1 ho).2
        simp only [List.getElem_toArray, List.getElem_cons_succ, List.getElem_cons_zero] at ho2
        subst ho2
        clear ho
        have e7 := D.is { on := 0, ground := .data } (by simp) rfl rfl 7 rfl
        refine wk.does_fn (f := 41) (vs := #[.int .i64 m]) rfl (D.fn _) (by simp [e7]) (by go_simp) ?_
        refine (HM.out w4).mono ?_
        rintro e w7 ⟨rfl, hb7⟩
        exact ⟨_, rfl, hb7, rfl⟩
      ·
        have ho2 := (Array.getElem?_eq_some_iff.1 ho).2
        simp only [List.getElem_toArray, List.getElem_cons_succ, List.getElem_cons_zero] at ho2
        subst ho2
        clear ho
        have e8 := D.is { on := 1, ground := .data } (by simp) rfl rfl 8 rfl
        exact wk.does_move rfl e8
      · cases (show false = true from hns.symm.trans (by kernel_rfl))
      · cases (show false = true from hns.symm.trans (by kernel_rfl))
      ·
        have ho2 := (Array.getElem?_eq_some_iff.1 ho).2
        simp only [List.getElem_toArray, List.getElem_cons_succ, List.getElem_cons_zero] at ho2
        subst ho2
        clear ho
        have e9 := D.is { on := 2, ground := .data } (by simp) rfl rfl 9 rfl
        have e11 := D.is { on := 4, ground := .data } (by simp) rfl rfl 11 rfl
        exact wk.does_pick rfl e9 (D.con _)
      ·
        have ho2 := (Array.getElem?_eq_some_iff.1 ho).2
        simp only [List.getElem_toArray, List.getElem_cons_succ, List.getElem_cons_zero] at ho2
        subst ho2
        clear ho
        have e12 := D.is { on := 5, ground := .data } (by simp) rfl rfl 12 rfl
        exact wk.does_move rfl e12
      · cases (show false = true from hns.symm.trans (by kernel_rfl))
      · cases (show false = true from hns.symm.trans (by kernel_rfl))
      ·
        have ho2 := (Array.getElem?_eq_some_iff.1 ho).2
        simp only [List.getElem_toArray, List.getElem_cons_succ, List.getElem_cons_zero] at ho2
        subst ho2
        clear ho
        have e13 := D.is { on := 6, ground := .data } (by simp) rfl rfl 13 rfl
        have e15 := D.is { on := 8, ground := .data } (by simp) rfl rfl 15 rfl
        exact wk.does_pick rfl e13 (D.con _)
      ·
        have ho2 := (Array.getElem?_eq_some_iff.1 ho).2
        simp only [List.getElem_toArray, List.getElem_cons_succ, List.getElem_cons_zero] at ho2
        subst ho2
        clear ho
        have e16 := D.is { on := 9, ground := .data } (by simp) rfl rfl 16 rfl
        exact wk.does_move rfl e16
      · cases (show false = true from hns.symm.trans (by kernel_rfl))
      · cases (show false = true from hns.symm.trans (by kernel_rfl))
      · cases (show false = true from hns.symm.trans (by kernel_rfl))
      · cases (show false = true from hns.symm.trans (by kernel_rfl))
      · cases (show false = true from hns.symm.trans (by kernel_rfl))
      · cases (show false = true from hns.symm.trans (by kernel_rfl))
      · cases (show false = true from hns.symm.trans (by kernel_rfl))
      ·
        have ho2 := (Array.getElem?_eq_some_iff.1 ho).2
        simp only [List.getElem_toArray, List.getElem_cons_succ, List.getElem_cons_zero] at ho2
        subst ho2
        clear ho
        have e17 := D.is { on := 10, ground := .data } (by simp) rfl rfl 17 rfl
        have e24 := D.is { on := 17, ground := .data } (by simp) rfl rfl 24 rfl
        exact wk.does_pick rfl e17 (D.con _)
      ·
        have ho2 := (Array.getElem?_eq_some_iff.1 ho).2
        simp only [List.getElem_toArray, List.getElem_cons_succ, List.getElem_cons_zero] at ho2
        subst ho2
        clear ho
        have e25 := D.is { on := 18, ground := .data } (by simp) rfl rfl 25 rfl
        exact wk.does_assign rfl e25
    case hdone =>
      intro vals w4 hb4 hv
      have h19 := hv 19 (by omega)
      clear hv
      replace h19 : vals 19 = (.bool false) := h19
      simp only [List.drop_succ_cons, List.drop_zero, wpList, wk.setL, List.setIfInBounds_toArray, List.set_cons_zero, List.set_cons_succ, Nat.zero_add, Nat.reduceAdd, h19]
      generalize vals 0 = x0
      generalize vals 1 = x1
      generalize vals 2 = x2
      generalize vals 3 = x3
      generalize vals 4 = x4
      generalize vals 5 = x5
      generalize vals 6 = x6
      generalize vals 7 = x7
      generalize vals 8 = x8
      generalize vals 9 = x9
      generalize vals 10 = x10
      generalize vals 11 = x11
      generalize vals 12 = x12
      generalize vals 13 = x13
      generalize vals 14 = x14
      generalize vals 15 = x15
      generalize vals 16 = x16
      generalize vals 17 = x17
      generalize vals 18 = x18
      have hb : Below w.heap.size w w4 := (Below.refl _ _).drew.trans hb4
      clear hb4
      go_wp2_with fail
      go_ret
      exact ⟨rfl, hb⟩
  · rw [h1] at HM
    rw [Bool.true_and]
    cases h2 : fit 8 P
    · rw [h2] at HP
      rw [Bool.false_and]
      go_enter Try.func47, Try.ntmps47
      go_wp2_with fail
      refine wk.region_tailS 20 [.is (.int .i64 m), .is (.bool true), .is (.bool true), .is (.slice A n c), .is (.bool false), .is (.bool false), .is (.bool false), .is undef, .is undef, .is (Value.bool false), .is (.bool false), .is undef, .is undef, .is undef, .is undef, .is undef, .is undef, .is undef, .is (Value.bool false), .is (.bool false)] [some 7, some 8, some 9, some 10, some 11, some 12, some 13, some 14, some 15, some 16, some 17, some 18, some 19, some 20, some 21, some 22, some 23, some 24, some 25, some 6] (by kernel_rfl) (by kernel_rfl) (by kernel_rfl) (by kernel_rfl) [7, 8, 11, 12, 13, 14, 15, 16, 17] (by kernel_rfl) (by intro p hp; simp only [List.mem_cons, List.not_mem_nil, or_false] at hp; rcases hp with rfl | rfl | rfl | rfl | rfl | rfl | rfl | rfl | rfl <;> rfl) (by kernel_rfl) (by kernel_rfl) ?hstep ?hdone
      case hstep =>
        intro i o ho hi hns E w4 hb4 D
        have hi2 : i = 0 ∨ i = 1 ∨ i = 2 ∨ i = 3 ∨ i = 4 ∨ i = 5 ∨ i = 6 ∨ i = 7 ∨ i = 8 ∨ i = 9 ∨ i = 10 ∨ i = 11 ∨ i = 12 ∨ i = 13 ∨ i = 14 ∨ i = 15 ∨ i = 16 ∨ i = 17 ∨ i = 18 ∨ i = 19 := by omega
        clear hi
        rcases hi2 with rfl | rfl | rfl | rfl | rfl | rfl | rfl | rfl | rfl | rfl | rfl | rfl | rfl | rfl | rfl | rfl | rfl | rfl | rfl | rfl
        ·
          have ho2 := (Array.getElem?_eq_some_iff.1 ho).2
          simp only [List.getElem_toArray, List.getElem_cons_zero] at ho2
          subst ho2
          clear ho
          have e0 := D.old 0 (by kernel_rfl)
          exact wk.does_move rfl (by rw [e0]; rfl)
        ·
          have ho2 := (Array.getElem?_eq_some_iff.1 ho).2
          simp only [List.getElem_toArray, List.getElem_cons_succ, List.getElem_cons_zero] at ho2
          subst ho2
          clear ho
          have e7 := D.is { on := 0, ground := .data } (by simp) rfl rfl 7 rfl
          refine wk.does_fn (f := 41) (vs := #[.int .i64 m]) rfl (D.fn _) (by simp [e7]) (by go_simp) ?_
          refine (HM.out w4).mono ?_
          rintro e w7 ⟨rfl, hb7⟩
          exact ⟨_, rfl, hb7, rfl⟩
        ·
          have ho2 := (Array.getElem?_eq_some_iff.1 ho).2
          simp only [List.getElem_toArray, List.getElem_cons_succ, List.getElem_cons_zero] at ho2
          subst ho2
          clear ho
          have e8 := D.is { on := 1, ground := .data } (by simp) rfl rfl 8 rfl
          exact wk.does_move rfl e8
        ·
          have ho2 := (Array.getElem?_eq_some_iff.1 ho).2
          simp only [List.getElem_toArray, List.getElem_cons_succ, List.getElem_cons_zero] at ho2
          subst ho2
          clear ho
          have e1 := D.old 1 (by kernel_rfl)
          exact wk.does_move rfl (by rw [e1]; rfl)
        ·
          have ho2 := (Array.getElem?_eq_some_iff.1 ho).2
          simp only [List.getElem_toArray, List.getElem_cons_succ, List.getElem_cons_zero] at ho2
          subst ho2
          clear ho
          have e10 := D.is { on := 3, ground := .data } (by simp) rfl rfl 10 rfl
          refine wk.does_fn (f := 42) (vs := #[.slice A n c, .int .i64 8]) rfl (D.fn _) (by simp [e10, D.con]) (by go_simp) ?_
          refine (HP.out w4 ((Below.refl _ _).drew.trans hb4)).mono ?_
          rintro e w7 ⟨rfl, hb7⟩
          exact ⟨_, rfl, hb7, rfl⟩
        ·
          have ho2 := (Array.getElem?_eq_some_iff.1 ho).2
          simp only [List.getElem_toArray, List.getElem_cons_succ, List.getElem_cons_zero] at ho2
          subst ho2
          clear ho
          have e9 := D.is { on := 2, ground := .data } (by simp) rfl rfl 9 rfl
          have e11 := D.is { on := 4, ground := .data } (by simp) rfl rfl 11 rfl
          exact wk.does_pick rfl e9 e11
        ·
          have ho2 := (Array.getElem?_eq_some_iff.1 ho).2
          simp only [List.getElem_toArray, List.getElem_cons_succ, List.getElem_cons_zero] at ho2
          subst ho2
          clear ho
          have e12 := D.is { on := 5, ground := .data } (by simp) rfl rfl 12 rfl
          exact wk.does_move rfl e12
        · cases (show false = true from hns.symm.trans (by kernel_rfl))
        · cases (show false = true from hns.symm.trans (by kernel_rfl))
        ·
          have ho2 := (Array.getElem?_eq_some_iff.1 ho).2
          simp only [List.getElem_toArray, List.getElem_cons_succ, List.getElem_cons_zero] at ho2
          subst ho2
          clear ho
          have e13 := D.is { on := 6, ground := .data } (by simp) rfl rfl 13 rfl
          have e15 := D.is { on := 8, ground := .data } (by simp) rfl rfl 15 rfl
          exact wk.does_pick rfl e13 (D.con _)
        ·
          have ho2 := (Array.getElem?_eq_some_iff.1 ho).2
          simp only [List.getElem_toArray, List.getElem_cons_succ, List.getElem_cons_zero] at ho2
          subst ho2
          clear ho
          have e16 := D.is { on := 9, ground := .data } (by simp) rfl rfl 16 rfl
          exact wk.does_move rfl e16
        · cases (show false = true from hns.symm.trans (by kernel_rfl))
        · cases (show false = true from hns.symm.trans (by kernel_rfl))
        · cases (show false = true from hns.symm.trans (by kernel_rfl))
        · cases (show false = true from hns.symm.trans (by kernel_rfl))
        · cases (show false = true from hns.symm.trans (by kernel_rfl))
        · cases (show false = true from hns.symm.trans (by kernel_rfl))
        · cases (show false = true from hns.symm.trans (by kernel_rfl))
        ·
          have ho2 := (Array.getElem?_eq_some_iff.1 ho).2
          simp only [List.getElem_toArray, List.getElem_cons_succ, List.getElem_cons_zero] at ho2
          subst ho2
          clear ho
          have e17 := D.is { on := 10, ground := .data } (by simp) rfl rfl 17 rfl
          have e24 := D.is { on := 17, ground := .data } (by simp) rfl rfl 24 rfl
          exact wk.does_pick rfl e17 (D.con _)
        ·
          have ho2 := (Array.getElem?_eq_some_iff.1 ho).2
          simp only [List.getElem_toArray, List.getElem_cons_succ, List.getElem_cons_zero] at ho2
          subst ho2
          clear ho
          have e25 := D.is { on := 18, ground := .data } (by simp) rfl rfl 25 rfl
          exact wk.does_assign rfl e25
      case hdone =>
        intro vals w4 hb4 hv
        have h19 := hv 19 (by omega)
        clear hv
        replace h19 : vals 19 = (.bool false) := h19
        simp only [List.drop_succ_cons, List.drop_zero, wpList, wk.setL, List.setIfInBounds_toArray, List.set_cons_zero, List.set_cons_succ, Nat.zero_add, Nat.reduceAdd, h19]
        generalize vals 0 = x0
        generalize vals 1 = x1
        generalize vals 2 = x2
        generalize vals 3 = x3
        generalize vals 4 = x4
        generalize vals 5 = x5
        generalize vals 6 = x6
        generalize vals 7 = x7
        generalize vals 8 = x8
        generalize vals 9 = x9
        generalize vals 10 = x10
        generalize vals 11 = x11
        generalize vals 12 = x12
        generalize vals 13 = x13
        generalize vals 14 = x14
        generalize vals 15 = x15
        generalize vals 16 = x16
        generalize vals 17 = x17
        generalize vals 18 = x18
        have hb : Below w.heap.size w w4 := (Below.refl _ _).drew.trans hb4
        clear hb4
        go_wp2_with fail
        go_ret
        exact ⟨rfl, hb⟩
    · have hn1 := HPF.out h2
      rw [h2] at HP
      rw [Bool.true_and]
      cases h3 : fit 4096 L
      · rw [h3] at HL
        rw [Bool.false_and]
        go_enter Try.func47, Try.ntmps47
        go_wp2_with fail
        refine wk.region_tailS 20 [.is (.int .i64 m), .is (.bool true), .is (.bool true), .is (.slice A n c), .is (.bool true), .is (.bool true), .is (.bool true), .is (.slice A' n' c'), .is (.bool false), .is (.bool false), .is (.bool false), .is undef, .is undef, .is undef, .is undef, .is undef, .is undef, .is undef, .is (Value.bool false), .is (.bool false)] [some 7, some 8, some 9, some 10, some 11, some 12, some 13, some 14, some 15, some 16, some 17, some 18, some 19, some 20, some 21, some 22, some 23, some 24, some 25, some 6] (by kernel_rfl) (by kernel_rfl) (by kernel_rfl) (by kernel_rfl) [11, 12, 13, 14, 15, 16, 17] (by kernel_rfl) (by intro p hp; simp only [List.mem_cons, List.not_mem_nil, or_false] at hp; rcases hp with rfl | rfl | rfl | rfl | rfl | rfl | rfl <;> rfl) (by kernel_rfl) (by kernel_rfl) ?hstep ?hdone
        case hstep =>
          intro i o ho hi hns E w4 hb4 D
          have hi2 : i = 0 ∨ i = 1 ∨ i = 2 ∨ i = 3 ∨ i = 4 ∨ i = 5 ∨ i = 6 ∨ i = 7 ∨ i = 8 ∨ i = 9 ∨ i = 10 ∨ i = 11 ∨ i = 12 ∨ i = 13 ∨ i = 14 ∨ i = 15 ∨ i = 16 ∨ i = 17 ∨ i = 18 ∨ i = 19 := by omega
          clear hi
          rcases hi2 with rfl | rfl | rfl | rfl | rfl | rfl | rfl | rfl | rfl | rfl | rfl | rfl | rfl | rfl | rfl | rfl | rfl | rfl | rfl | rfl
          ·
            have ho2 := (Array.getElem?_eq_some_iff.1 ho).2
            simp only [List.getElem_toArray, List.getElem_cons_zero] at ho2
            subst ho2
            clear ho
            have e0 := D.old 0 (by kernel_rfl)
            exact wk.does_move rfl (by rw [e0]; rfl)
          ·
            have ho2 := (Array.getElem?_eq_some_iff.1 ho).2
            simp only [List.getElem_toArray, List.getElem_cons_succ, List.getElem_cons_zero] at ho2
            subst ho2
            clear ho
            have e7 := D.is { on := 0, ground := .data } (by simp) rfl rfl 7 rfl
            refine wk.does_fn (f := 41) (vs := #[.int .i64 m]) rfl (D.fn _) (by simp [e7]) (by go_simp) ?_
            refine (HM.out w4).mono ?_
            rintro e w7 ⟨rfl, hb7⟩
            exact ⟨_, rfl, hb7, rfl⟩
          ·
            have ho2 := (Array.getElem?_eq_some_iff.1 ho).2
            simp only [List.getElem_toArray, List.getElem_cons_succ, List.getElem_cons_zero] at ho2
            subst ho2
            clear ho
            have e8 := D.is { on := 1, ground := .data } (by simp) rfl rfl 8 rfl
            exact wk.does_move rfl e8
          ·
            have ho2 := (Array.getElem?_eq_some_iff.1 ho).2
            simp only [List.getElem_toArray, List.getElem_cons_succ, List.getElem_cons_zero] at ho2
            subst ho2
            clear ho
            have e1 := D.old 1 (by kernel_rfl)
            exact wk.does_move rfl (by rw [e1]; rfl)
          ·
            have ho2 := (Array.getElem?_eq_some_iff.1 ho).2
            simp only [List.getElem_toArray, List.getElem_cons_succ, List.getElem_cons_zero] at ho2
            subst ho2
            clear ho
            have e10 := D.is { on := 3, ground := .data } (by simp) rfl rfl 10 rfl
            refine wk.does_fn (f := 42) (vs := #[.slice A n c, .int .i64 8]) rfl (D.fn _) (by simp [e10, D.con]) (by go_simp) ?_
            refine (HP.out w4 ((Below.refl _ _).drew.trans hb4)).mono ?_
            rintro e w7 ⟨rfl, hb7⟩
            exact ⟨_, rfl, hb7, rfl⟩
          ·
            have ho2 := (Array.getElem?_eq_some_iff.1 ho).2
            simp only [List.getElem_toArray, List.getElem_cons_succ, List.getElem_cons_zero] at ho2
            subst ho2
            clear ho
            have e9 := D.is { on := 2, ground := .data } (by simp) rfl rfl 9 rfl
            have e11 := D.is { on := 4, ground := .data } (by simp) rfl rfl 11 rfl
            exact wk.does_pick rfl e9 e11
          ·
            have ho2 := (Array.getElem?_eq_some_iff.1 ho).2
            simp only [List.getElem_toArray, List.getElem_cons_succ, List.getElem_cons_zero] at ho2
            subst ho2
            clear ho
            have e12 := D.is { on := 5, ground := .data } (by simp) rfl rfl 12 rfl
            exact wk.does_move rfl e12
          ·
            have ho2 := (Array.getElem?_eq_some_iff.1 ho).2
            simp only [List.getElem_toArray, List.getElem_cons_succ, List.getElem_cons_zero] at ho2
            subst ho2
            clear ho
            have e2 := D.old 2 (by kernel_rfl)
            exact wk.does_move rfl (by rw [e2]; rfl)
          ·
            have ho2 := (Array.getElem?_eq_some_iff.1 ho).2
            simp only [List.getElem_toArray, List.getElem_cons_succ, List.getElem_cons_zero] at ho2
            subst ho2
            clear ho
            have e14 := D.is { on := 7, ground := .data } (by simp) rfl rfl 14 rfl
            refine wk.does_fn (f := 42) (vs := #[.slice A' n' c', .int .i64 4096]) rfl (D.fn _) (by simp [e14, D.con]) (by go_simp) ?_
            refine (HL.out w4 ((Below.refl _ _).drew.trans hb4)).mono ?_
            rintro e w7 ⟨rfl, hb7⟩
            exact ⟨_, rfl, hb7, rfl⟩
          ·
            have ho2 := (Array.getElem?_eq_some_iff.1 ho).2
            simp only [List.getElem_toArray, List.getElem_cons_succ, List.getElem_cons_zero] at ho2
            subst ho2
            clear ho
            have e13 := D.is { on := 6, ground := .data } (by simp) rfl rfl 13 rfl
            have e15 := D.is { on := 8, ground := .data } (by simp) rfl rfl 15 rfl
            exact wk.does_pick rfl e13 e15
          ·
            have ho2 := (Array.getElem?_eq_some_iff.1 ho).2
            simp only [List.getElem_toArray, List.getElem_cons_succ, List.getElem_cons_zero] at ho2
            subst ho2
            clear ho
            have e16 := D.is { on := 9, ground := .data } (by simp) rfl rfl 16 rfl
            exact wk.does_move rfl e16
          · cases (show false = true from hns.symm.trans (by kernel_rfl))
          · cases (show false = true from hns.symm.trans (by kernel_rfl))
          · cases (show false = true from hns.symm.trans (by kernel_rfl))
          · cases (show false = true from hns.symm.trans (by kernel_rfl))
          · cases (show false = true from hns.symm.trans (by kernel_rfl))
          · cases (show false = true from hns.symm.trans (by kernel_rfl))
          · cases (show false = true from hns.symm.trans (by kernel_rfl))
          ·
            have ho2 := (Array.getElem?_eq_some_iff.1 ho).2
            simp only [List.getElem_toArray, List.getElem_cons_succ, List.getElem_cons_zero] at ho2
            subst ho2
            clear ho
            have e17 := D.is { on := 10, ground := .data } (by simp) rfl rfl 17 rfl
            have e24 := D.is { on := 17, ground := .data } (by simp) rfl rfl 24 rfl
            exact wk.does_pick rfl e17 (D.con _)
          ·
            have ho2 := (Array.getElem?_eq_some_iff.1 ho).2
            simp only [List.getElem_toArray, List.getElem_cons_succ, List.getElem_cons_zero] at ho2
            subst ho2
            clear ho
            have e25 := D.is { on := 18, ground := .data } (by simp) rfl rfl 25 rfl
            exact wk.does_assign rfl e25
        case hdone =>
          intro vals w4 hb4 hv
          have h19 := hv 19 (by omega)
          clear hv
          replace h19 : vals 19 = (.bool false) := h19
          simp only [List.drop_succ_cons, List.drop_zero, wpList, wk.setL, List.setIfInBounds_toArray, List.set_cons_zero, List.set_cons_succ, Nat.zero_add, Nat.reduceAdd, h19]
          generalize vals 0 = x0
          generalize vals 1 = x1
          generalize vals 2 = x2
          generalize vals 3 = x3
          generalize vals 4 = x4
          generalize vals 5 = x5
          generalize vals 6 = x6
          generalize vals 7 = x7
          generalize vals 8 = x8
          generalize vals 9 = x9
          generalize vals 10 = x10
          generalize vals 11 = x11
          generalize vals 12 = x12
          generalize vals 13 = x13
          generalize vals 14 = x14
          generalize vals 15 = x15
          generalize vals 16 = x16
          generalize vals 17 = x17
          generalize vals 18 = x18
          have hb : Below w.heap.size w w4 := (Below.refl _ _).drew.trans hb4
          clear hb4
          go_wp2_with fail
          go_ret
          exact ⟨rfl, hb⟩
      · have hn1' := HLF.out h3
        rw [h3] at HL
        rw [Bool.true_and]
        obtain ⟨b, o, A1, n1, c1, l1, rfl, hbl, hc, hI1, hX1⟩ := isVV_get HH.out (k := 0) (by omega)
        obtain ⟨b2, o2, A2, n2, c2, l2, rfl, hbl2, hc2, hI2, hX2⟩ := isVV_get HH'.out (k := 0) (by omega)
        rw [Nat.add_zero] at hc hc2
        have e1 : P.headD [] = l1 := by cases P with
          | nil => simp at hX1
          | cons y l => simpa using hX1
        have e2 : L.headD [] = l2 := by cases L with
          | nil => simp at hX2
          | cons y l => simpa using hX2
        rw [e1, e2]
        have HA := Lib.hid (fun w' (hb : Below w.heap.size w w') => alike_calls A1 A2 n1 n2 c1 c2 l1 l2 w' (isI_below hI1 hb) (isI_below hI2 hb))
        have hlt1 : (0 : Int) < (n : Int) := by omega
        have hlt2 : (0 : Int) < (n' : Int) := by omega
        clear hI1 hI2 hX1 hX2 e1 e2 h1 h2 h3 HPF HLF HH HH'
        generalize vq.alike l1 l2 = al at *
        go_enter Try.func47, Try.ntmps47
        go_wp2_with fail
        refine wk.region_tailS 20 [.is (.int .i64 m), .is (.bool true), .is (.bool true), .is (.slice (some ⟨b, o, none⟩) n c), .is (.bool true), .is (.bool true), .is (.bool true), .is (.slice (some ⟨b2, o2, none⟩) n' c'), .is (.bool true), .is (.bool true), .is (.bool true), .is (.slice (some ⟨b, o, none⟩) n c), .is (.pointer (some ⟨b, o, none⟩)), .is (.slice A1 n1 c1), .is (.slice (some ⟨b2, o2, none⟩) n' c'), .is (.pointer (some ⟨b2, o2, none⟩)), .is (.slice A2 n2 c2), .is (.bool al), .is (.bool al), .is (.bool al)] [some 7, some 8, some 9, some 10, some 11, some 12, some 13, some 14, some 15, some 16, some 17, some 18, some 19, some 20, some 21, some 22, some 23, some 24, some 25, some 6] (by kernel_rfl) (by kernel_rfl) (by kernel_rfl) (by kernel_rfl) [] (by kernel_rfl) (by intro p hp; cases hp) (by kernel_rfl) (by kernel_rfl) ?hstep ?hdone
        case hstep =>
          intro i o ho hi hns E w4 hb4 D
          have hi2 : i = 0 ∨ i = 1 ∨ i = 2 ∨ i = 3 ∨ i = 4 ∨ i = 5 ∨ i = 6 ∨ i = 7 ∨ i = 8 ∨ i = 9 ∨ i = 10 ∨ i = 11 ∨ i = 12 ∨ i = 13 ∨ i = 14 ∨ i = 15 ∨ i = 16 ∨ i = 17 ∨ i = 18 ∨ i = 19 := by omega
          clear hi
          rcases hi2 with rfl | rfl | rfl | rfl | rfl | rfl | rfl | rfl | rfl | rfl | rfl | rfl | rfl | rfl | rfl | rfl | rfl | rfl | rfl | rfl
          ·
            have ho2 := (Array.getElem?_eq_some_iff.1 ho).2
            simp only [List.getElem_toArray, List.getElem_cons_zero] at ho2
            subst ho2
            clear ho
            have e0 := D.old 0 (by kernel_rfl)
            exact wk.does_move rfl (by rw [e0]; rfl)
          ·
            have ho2 := (Array.getElem?_eq_some_iff.1 ho).2
            simp only [List.getElem_toArray, List.getElem_cons_succ, List.getElem_cons_zero] at ho2
            subst ho2
            clear ho
            have e7 := D.is { on := 0, ground := .data } (by simp) rfl rfl 7 rfl
            refine wk.does_fn (f := 41) (vs := #[.int .i64 m]) rfl (D.fn _) (by simp [e7]) (by go_simp) ?_
            refine (HM.out w4).mono ?_
            rintro e w7 ⟨rfl, hb7⟩
            exact ⟨_, rfl, hb7, rfl⟩
          ·
            have ho2 := (Array.getElem?_eq_some_iff.1 ho).2
            simp only [List.getElem_toArray, List.getElem_cons_succ, List.getElem_cons_zero] at ho2
            subst ho2
            clear ho
            have e8 := D.is { on := 1, ground := .data } (by simp) rfl rfl 8 rfl
            exact wk.does_move rfl e8
          ·
            have ho2 := (Array.getElem?_eq_some_iff.1 ho).2
            simp only [List.getElem_toArray, List.getElem_cons_succ, List.getElem_cons_zero] at ho2
            subst ho2
            clear ho
            have e1 := D.old 1 (by kernel_rfl)
            exact wk.does_move rfl (by rw [e1]; rfl)
          ·
            have ho2 := (Array.getElem?_eq_some_iff.1 ho).2
            simp only [List.getElem_toArray, List.getElem_cons_succ, List.getElem_cons_zero] at ho2
            subst ho2
            clear ho
            have e10 := D.is { on := 3, ground := .data } (by simp) rfl rfl 10 rfl
            refine wk.does_fn (f := 42) (vs := #[.slice (some ⟨b, o, none⟩) n c, .int .i64 8]) rfl (D.fn _) (by simp [e10, D.con]) (by go_simp) ?_
            refine (HP.out w4 ((Below.refl _ _).drew.trans hb4)).mono ?_
            rintro e w7 ⟨rfl, hb7⟩
            exact ⟨_, rfl, hb7, rfl⟩
          ·
            have ho2 := (Array.getElem?_eq_some_iff.1 ho).2
            simp only [List.getElem_toArray, List.getElem_cons_succ, List.getElem_cons_zero] at ho2
            subst ho2
            clear ho
            have e9 := D.is { on := 2, ground := .data } (by simp) rfl rfl 9 rfl
            have e11 := D.is { on := 4, ground := .data } (by simp) rfl rfl 11 rfl
            exact wk.does_pick rfl e9 e11
          ·
            have ho2 := (Array.getElem?_eq_some_iff.1 ho).2
            simp only [List.getElem_toArray, List.getElem_cons_succ, List.getElem_cons_zero] at ho2
            subst ho2
            clear ho
            have e12 := D.is { on := 5, ground := .data } (by simp) rfl rfl 12 rfl
            exact wk.does_move rfl e12
          ·
            have ho2 := (Array.getElem?_eq_some_iff.1 ho).2
            simp only [List.getElem_toArray, List.getElem_cons_succ, List.getElem_cons_zero] at ho2
            subst ho2
            clear ho
            have e2 := D.old 2 (by kernel_rfl)
            exact wk.does_move rfl (by rw [e2]; rfl)
          ·
            have ho2 := (Array.getElem?_eq_some_iff.1 ho).2
            simp only [List.getElem_toArray, List.getElem_cons_succ, List.getElem_cons_zero] at ho2
            subst ho2
            clear ho
            have e14 := D.is { on := 7, ground := .data } (by simp) rfl rfl 14 rfl
            refine wk.does_fn (f := 42) (vs := #[.slice (some ⟨b2, o2, none⟩) n' c', .int .i64 4096]) rfl (D.fn _) (by simp [e14, D.con]) (by go_simp) ?_
            refine (HL.out w4 ((Below.refl _ _).drew.trans hb4)).mono ?_
            rintro e w7 ⟨rfl, hb7⟩
            exact ⟨_, rfl, hb7, rfl⟩
          ·
            have ho2 := (Array.getElem?_eq_some_iff.1 ho).2
            simp only [List.getElem_toArray, List.getElem_cons_succ, List.getElem_cons_zero] at ho2
            subst ho2
            clear ho
            have e13 := D.is { on := 6, ground := .data } (by simp) rfl rfl 13 rfl
            have e15 := D.is { on := 8, ground := .data } (by simp) rfl rfl 15 rfl
            exact wk.does_pick rfl e13 e15
          ·
            have ho2 := (Array.getElem?_eq_some_iff.1 ho).2
            simp only [List.getElem_toArray, List.getElem_cons_succ, List.getElem_cons_zero] at ho2
            subst ho2
            clear ho
            have e16 := D.is { on := 9, ground := .data } (by simp) rfl rfl 16 rfl
            exact wk.does_move rfl e16
          ·
            have ho2 := (Array.getElem?_eq_some_iff.1 ho).2
            simp only [List.getElem_toArray, List.getElem_cons_succ, List.getElem_cons_zero] at ho2
            subst ho2
            clear ho
            have e1 := D.old 1 (by kernel_rfl)
            exact wk.does_move rfl (by rw [e1]; rfl)
          ·
            have ho2 := (Array.getElem?_eq_some_iff.1 ho).2
            simp only [List.getElem_toArray, List.getElem_cons_succ, List.getElem_cons_zero] at ho2
            subst ho2
            clear ho
            have e18 := D.is { on := 11, ground := .data } (by simp) rfl rfl 18 rfl
            exact wk.does_run (by simp only [execOp]; rw [show E (.tmp 18) = _ from e18, show E (.const (.int .i64 0)) = .int .i64 0 from D.con _]; go_simp; try (intro h0; omega)) rfl
          ·
            have ho2 := (Array.getElem?_eq_some_iff.1 ho).2
            simp only [List.getElem_toArray, List.getElem_cons_succ, List.getElem_cons_zero] at ho2
            subst ho2
            clear ho
            have e19 := D.is { on := 12, ground := .data } (by simp) rfl rfl 19 rfl
            exact wk.does_load1 rfl e19 ((((Below.refl _ _).drew.trans hb4).cell (p := ⟨b, o, none⟩) hbl).trans hc) Try.underlying23 rfl rfl
          ·
            have ho2 := (Array.getElem?_eq_some_iff.1 ho).2
            simp only [List.getElem_toArray, List.getElem_cons_succ, List.getElem_cons_zero] at ho2
            subst ho2
            clear ho
            have e2 := D.old 2 (by kernel_rfl)
            exact wk.does_move rfl (by rw [e2]; rfl)
          ·
            have ho2 := (Array.getElem?_eq_some_iff.1 ho).2
            simp only [List.getElem_toArray, List.getElem_cons_succ, List.getElem_cons_zero] at ho2
            subst ho2
            clear ho
            have e21 := D.is { on := 14, ground := .data } (by simp) rfl rfl 21 rfl
            exact wk.does_run (by simp only [execOp]; rw [show E (.tmp 21) = _ from e21, show E (.const (.int .i64 0)) = .int .i64 0 from D.con _]; go_simp; try (intro h0; omega)) rfl
          ·
            have ho2 := (Array.getElem?_eq_some_iff.1 ho).2
            simp only [List.getElem_toArray, List.getElem_cons_succ, List.getElem_cons_zero] at ho2
            subst ho2
            clear ho
            have e22 := D.is { on := 15, ground := .data } (by simp) rfl rfl 22 rfl
            exact wk.does_load1 rfl e22 ((((Below.refl _ _).drew.trans hb4).cell (p := ⟨b2, o2, none⟩) hbl2).trans hc2) Try.underlying23 rfl rfl
          ·
            have ho2 := (Array.getElem?_eq_some_iff.1 ho).2
            simp only [List.getElem_toArray, List.getElem_cons_succ, List.getElem_cons_zero] at ho2
            subst ho2
            clear ho
            have e20 := D.is { on := 13, ground := .data } (by simp) rfl rfl 20 rfl
            have e23 := D.is { on := 16, ground := .data } (by simp) rfl rfl 23 rfl
            refine wk.does_fn (f := 35) (vs := #[.slice A1 n1 c1, .slice A2 n2 c2]) rfl (D.fn _) (by simp [e20, e23]) (by go_simp) ?_
            refine (HA.out w4 ((Below.refl _ _).drew.trans hb4)).mono ?_
            rintro e w7 ⟨rfl, hb7⟩
            exact ⟨_, rfl, hb7, rfl⟩
          ·
            have ho2 := (Array.getElem?_eq_some_iff.1 ho).2
            simp only [List.getElem_toArray, List.getElem_cons_succ, List.getElem_cons_zero] at ho2
            subst ho2
            clear ho
            have e17 := D.is { on := 10, ground := .data } (by simp) rfl rfl 17 rfl
            have e24 := D.is { on := 17, ground := .data } (by simp) rfl rfl 24 rfl
            exact wk.does_pick rfl e17 e24
          ·
            have ho2 := (Array.getElem?_eq_some_iff.1 ho).2
            simp only [List.getElem_toArray, List.getElem_cons_succ, List.getElem_cons_zero] at ho2
            subst ho2
            clear ho
            have e25 := D.is { on := 18, ground := .data } (by simp) rfl rfl 25 rfl
            exact wk.does_assign rfl e25
        case hdone =>
          intro vals w4 hb4 hv
          have h19 := hv 19 (by omega)
          clear hv
          replace h19 : vals 19 = (.bool al) := h19
          simp only [List.drop_succ_cons, List.drop_zero, wpList, wk.setL, List.setIfInBounds_toArray, List.set_cons_zero, List.set_cons_succ, Nat.zero_add, Nat.reduceAdd, h19]
          generalize vals 0 = x0
          generalize vals 1 = x1
          generalize vals 2 = x2
          generalize vals 3 = x3
          generalize vals 4 = x4
          generalize vals 5 = x5
          generalize vals 6 = x6
          generalize vals 7 = x7
          generalize vals 8 = x8
          generalize vals 9 = x9
          generalize vals 10 = x10
          generalize vals 11 = x11
          generalize vals 12 = x12
          generalize vals 13 = x13
          generalize vals 14 = x14
          generalize vals 15 = x15
          generalize vals 16 = x16
          generalize vals 17 = x17
          generalize vals 18 = x18
          have hb : Below w.heap.size w w4 := (Below.refl _ _).drew.trans hb4
          clear hb4
          go_wp2_with fail
          go_ret
          exact ⟨rfl, hb⟩
set_option maxRecDepth 100000 in
theorem near_calls {m : Int} {A A' : Option Addr} {n c n' c' d most : Nat} {P : List (List Int)} {v : List Int} (w : World) (h1 : 1 ≤ m) (h3 : m ≤ 3) (h : IsK w A n c m P) (h' : wo.IsI w A' n' c' v) (hP : Fit most d P) (hmost : most ≤ 4096) (hv : v.length = d ∧ vq.Vec v) :
    Calls Try.prog 48 #[.slice A n c, .slice A' n' c'] w fun e w' => e = .returned (.tuple #[.int .i64 ((nearest m P v).1 : Int), .int .i64 (nearest m P v).2]) ∧ Below w.heap.size w w' := by
  obtain ⟨hx1, hx2, hb⟩ := box2 w (.slice A n c) (.slice A' n' c') 83 23
  have hPn : P.length = n := h.1
  have hm := h.2.2.1
  have hnc := h.2.1
  have hn := hP.n2
  have HL := Lib.hid (least_calls 80 #[.pointer (some ⟨w.heap.size, 0, none⟩), .pointer (some ⟨w.heap.size + 1, 0, none⟩)] (fun _ _ => by kernel_rfl) n (by omega) (kf m P v) ((w.alloc (.cells #[.slice A n c] 83)).alloc (.cells #[.slice A' n' c'] 23))
    (fun k hk => kf_bd hP hv (by omega))
    (fun k w' hk hb' => near1_calls w' h1 h3 ((h.below hb).below hb') (isI_below (isI_below h' hb) hb') hP hv hk (hx1.below hb') (hx2.below hb')))
  have HB := Lib.hid hb
  have hcb := hx1.cell
  have HE : Hid (nearest m P v = le (kf m P v) n) := by show _ = _; unfold nearest; rw [hPn]
  rw [HE.out]
  generalize le (kf m P v) n = p at *
  obtain ⟨p1, p2⟩ := p
  dsimp only at HL ⊢
  clear h h' hP hv hx1 hx2 hb HE hPn
  go_enter Try.func48, Try.ntmps48
  go_wp2_with fail
  refine HL.out.mono ?_
  rintro e w' ⟨rfl, hb⟩
  have HB2 := Lib.hid (Below.andThen HB.out hb)
  clear hb
  go_wp2_with fail
  go_ret2
  exact ⟨rfl, HB2.out⟩
theorem infoF : (Try.prog.info? 76).map (fun i => (i.zero, i.size, i.bytes)) = some (some .nilFunc, 1, 8) := by kernel_rfl
/-- values that find keys to vectors of given memory -/
def KV (w : World) (m : Int) (P : VV) (vals : List Value) : Prop := ∀ (j : Nat) (p : List Int), P[j]? = some p → ∃ A n c, vals[j]? = some (kfun m A n c) ∧ wo.IsI w A n c p
theorem isK_own {w0 w : World} {B n c : Nat} {A : Option Addr} {m : Int} {P : VV} {vals : List Value} (h : w.ownsRow B 76 1 (.slice A n c) n vals) (hv : KV w0 m P vals) (hb : Below w0.heap.size w0 w) (hl : P.length = n) : IsK w A n c m P := by
  rcases h.2 with ⟨hs, hn0⟩ | ⟨g, cap, cur, hs, hb2, hh, h3, h4, h5, h6⟩
  · cases hs
    exact ⟨hl, Nat.le_refl _, by omega, fun k p hk => by have := (List.getElem?_eq_some_iff.1 hk).1; omega⟩
  · cases hs
    refine ⟨hl, h3, by unfold maxLen at h4; omega, fun k p hk => ?_⟩
    obtain ⟨A', n', c', hu, hI⟩ := hv k p hk
    have hc := h.cells rfl k _ hu
    rw [wk.add_at] at hc
    exact ⟨g, 0, A', n', c', rfl, (Array.getElem?_eq_some_iff.1 hh).1, hc, isI_below hI hb⟩
set_option maxRecDepth 100000 in
set_option maxHeartbeats 2000000 in
theorem keysTo_own {m : Int} {A : Option Addr} {n c : Nat} {P : VV} (w0 w : World) (h : IsVV w0 A n c P) (hw : Below w0.heap.size w0 w) (hn : n ≤ 4096) :
    Calls Try.prog 49 #[.int .i64 m, .slice A n c] w fun e w' => ∃ A' c' vals, e = .returned (.slice A' n c') ∧ w'.ownsRow w.heap.size 76 1 (.slice A' n c') n vals ∧ KV w0 m P vals ∧ Below w.heap.size w w' := by
  obtain ⟨i0, hi9, hz0, hz1, hz2⟩ := info_parts infoF
  have hm := h.2.2.1
  have hnc := h.2.1
  have hnI : (i0.bytes : Nat) * n ≤ 281474976710656 := by rw [hz2]; omega
  obtain ⟨w1, hmk, hown, hgr⟩ := run_make_own (P := Try.prog) w w.heap.size 83 76 i0 .nilFunc 1 Try.underlying83 hi9 hz0 hz1 .i64 .i64 n hnI (by unfold maxLen; omega) (Nat.le_refl _)
  have HB1 : Hid (Below w.heap.size w w1) := (Below.refl _ _).grown hgr (Nat.le_refl _) (fun k hk => by cases hk)
  have HOWN := Lib.hid hown
  have H := Lib.hid h
  have HW := Lib.hid hw
  clear hown hgr h hw
  generalize hG : w.heap.size = G at *
  have HG := Lib.hid hG
  clear hG
  go_enter Try.func49, Try.ntmps49
  go_wp2_with fail
  go_loopg [5, 13] n (fun g u x wr => ∃ (k : Nat) (v0 : Value) (vals : List Value), k + g = n ∧ v0 = u ∧ x = .int .i64 (k : Int) ∧ wr.ownsRow G 76 1 v0 k vals ∧ KV w0 m (P.take k) vals ∧ Below G w wr)
  case atStart => exact ⟨0, _, [], by omega, rfl, rfl, HOWN.out, fun j p hj => by simp at hj, HB1.out⟩
  case round =>
    obtain ⟨k, v0, vals, hk, rfl, rfl, hrow, hkv, hbel⟩ := hrel
    have HK := Lib.hid hk
    have HROW := Lib.hid hrow
    have HKV := Lib.hid hkv
    have HBEL := Lib.hid hbel
    have hkn : k ≤ n := by omega
    clear hk hrow hkv
    by_cases hlt : k < n
    · have hbw : Below w0.heap.size w0 wr := HW.out.trans (hbel.mono (by rw [← HG.out]; exact HW.out.size))
      obtain ⟨b, o, A', n', c', l, rfl, hb, hc, hI, hX⟩ := isVV_get H.out hlt
      have hc' := (hbw.cell (p := ⟨b, o + k, none⟩) hb).trans hc
      have hlt0 : (k : Int) < (n : Int) := by omega
      have HBW : Hid (G ≤ wr.heap.size) := by show _ ≤ _; have := hbel.size; have := HG.out; omega
      have hvl : vals.length = k := by have := HROW.out.1; omega
      have HKV2 : Hid (KV w0 m (P.take (k + 1)) (vals ++ [kfun m A' n' c'])) := fun j p hj => by
        rcases Nat.lt_or_ge j k with hjk | hjk
        · rw [List.getElem?_take_of_lt (by omega)] at hj
          obtain ⟨A9, n9, c9, h1, h2⟩ := HKV.out j p (by rw [List.getElem?_take_of_lt hjk]; exact hj)
          exact ⟨A9, n9, c9, by rw [List.getElem?_append_left (by omega)]; exact h1, h2⟩
        · have hj1 := (List.getElem?_eq_some_iff.1 hj).1
          rw [List.length_take] at hj1
          obtain rfl : j = k := by omega
          rw [List.getElem?_take_of_lt (by omega), hX] at hj
          cases hj
          exact ⟨A', n', c', by rw [List.getElem?_append_right (by omega), hvl, Nat.sub_self]; rfl, hI⟩
      clear hX hI hbel hbw hc hvl
      go_wp2_with (at_builtin; refine wpList_append_own _ rfl _ _ 83 rfl G 76 i0 .nilFunc 1 8 Try.underlying83 hi9 hz0 hz1 hz2 rfl (by decide) _ _ _ rfl (HROW.out.alloc _) ⟨wr.heap.size, 0, none⟩ 1 1 [kfun m A' n' c'] rfl rfl ?c1 ?c2 ?c3 ?c4 ?c5 ?_)
      case c1 =>
        intro j u hj
        cases j with
        | zero =>
          simp only [List.getElem?_cons_zero, Option.some.injEq] at hj
          subst hj
          rw [wk.add_at, Nat.zero_add, cell_of_row _ _ _ _ _ _ (heap_alloc_new _ _)]
          rfl
        | succ j => simp at hj
      case c2 => simp [kfun, Value.oneCell']
      case c3 => unfold maxLen; omega
      case c4 => omega
      case c5 => have := HBW.out; simp; omega
      intro v' w5 hown2 hgrow _
      have hB5 : Below G w w5 := (HBEL.out.alloc HBW.out _).grown hgrow (by have := HBW.out; simp; omega) (fun q hq => (HROW.out.lt q hq).1)
      have HB5 := Lib.hid hB5
      have HR5 := Lib.hid hown2
      clear hown2 hgrow hB5
      go_wp2_with fail
      go_roundg (gk - 1)
      case measure => have := HK.out; omega
      case rel => exact ⟨k + 1, _, _, by have := HK.out; omega, rfl, by go_num, HR5.out, HKV2.out, HB5.out⟩
    · obtain rfl : k = n := by omega
      have hkv := HKV.out
      rw [List.take_of_length_le (by have := H.out.1; omega)] at hkv
      obtain ⟨A9, c9, rfl⟩ := own_slice HROW.out
      have HKV9 := Lib.hid hkv
      clear hkv hbel
      go_wp2_with fail
      go_ret
      exact ⟨_, _, _, rfl, HROW.out, HKV9.out, HBEL.out⟩
theorem keysTo_calls {m : Int} {A : Option Addr} {n c : Nat} {P : VV} (w : World) (h : IsVV w A n c P) (hn : n ≤ 4096) :
    Calls Try.prog 49 #[.int .i64 m, .slice A n c] w fun e w' => ∃ A' c', e = .returned (.slice A' n c') ∧ IsK w' A' n c' m P ∧ Below w.heap.size w w' :=
  (keysTo_own w w h (Below.refl _ _) hn).mono fun e w' => by
    rintro ⟨A', c', vals, rfl, ho, hv, hb⟩
    exact ⟨A', c', rfl, isK_own ho hv hb h.1, hb⟩
end Go.Proofs.Yteeianandjokaaa.pk
/- Rows of fresh memory: they stand whatever lies below may become. -/
namespace Go.Proofs.Yteeianandjokaaa.uk

open Go.ChangeShapes Go.WideShapes Go.ChangeAt Go.RowKit

open Go.Proofs.Yteeianandjokaaa.cq Go.Proofs.Yteeianandjokaaa.vk Go.Proofs.Yteeianandjokaaa.bk

set_option linter.unusedVariables false
/-- cells of blocks from B on stand, but where their type is in es -/
structure Kq (B : Nat) (es : List TypeId) (w w' : World) : Prop where
  size : w.heap.size ≤ w'.heap.size
  high : ∀ (k : Nat) (cs : Array Value) (t : TypeId) (fr : Nat × Nat), B ≤ k → w.heap[k]? = some (.cells cs t fr) → t ∉ es → w'.heap[k]? = some (.cells cs t fr)
theorem Kq.refl (B : Nat) (es : List TypeId) (w : World) : Kq B es w w := ⟨Nat.le_refl _, fun _ _ _ _ _ h _ => h⟩
theorem Kq.trans {B : Nat} {es : List TypeId} {a b c : World} (h : Kq B es a b) (k : Kq B es b c) : Kq B es a c := ⟨Nat.le_trans h.size k.size, fun i cs t fr hB hi ht => k.high i cs t fr hB (h.high i cs t fr hB hi ht) ht⟩
theorem Kq.mono {B B' : Nat} {es : List TypeId} {a b : World} (h : Kq B es a b) (hB : B ≤ B') : Kq B' es a b := ⟨h.size, fun i cs t fr hk hi ht => h.high i cs t fr (Nat.le_trans hB hk) hi ht⟩
theorem Kq.more {B : Nat} {es es' : List TypeId} {a b : World} (h : Kq B es a b) (hs : ∀ e ∈ es, e ∈ es') : Kq B es' a b := ⟨h.size, fun k cs t fr hB hk ht => h.high k cs t fr hB hk (fun hh => ht (hs t hh))⟩
theorem Kq.of_below {B : Nat} {es : List TypeId} {w w' : World} (h : Below w.heap.size w w') : Kq B es w w' := ⟨h.size, fun k cs t fr _ hk _ => (h.block k (Array.getElem?_eq_some_iff.1 hk).1).trans hk⟩
theorem Kq.of_low {B r : Nat} {es : List TypeId} {w w' : World} (h : w.grownBy w' (some r)) (hr : r < B) : Kq B es w w' := ⟨h.size, fun k cs t fr hB hk _ => (h.block k (Array.getElem?_eq_some_iff.1 hk).1 (fun e => by injection e with e; omega)).trans hk⟩
theorem Kq.of_kp {B : Nat} {es : List TypeId} {w w' : World} (h : Kp B es w w') : Kq B es w w' := ⟨h.below.size, fun k cs t fr _ hk ht => h.high k cs t fr hk ht⟩
theorem Kq.of_grown {B B' n size : Nat} {es : List TypeId} {w w' : World} {e : TypeId} {v : Value} {xs : List Value} (ho : w.ownsRow B' e size v n xs) (he : e ∈ es) (hg : w.grownBy w' v.ownBlock) : Kq B es w w' := by
  refine ⟨hg.size, fun k cs t fr _ hk ht => (hg.block k (Array.getElem?_eq_some_iff.1 hk).1 ?_).trans hk⟩
  intro hh
  rcases ho.2 with ⟨rfl, _⟩ | ⟨g1, cap1, cur1, rfl, _, hh1, _⟩
  · simp [Value.ownBlock] at hh
  · have : k = g1 := by injection hh
    subst this
    rw [hk] at hh1
    injection hh1 with hh1
    injection hh1 with _ h3 _
    exact ht (h3 ▸ he)
theorem Kq.of_set {B : Nat} {es : List TypeId} {w : World} {g i : Nat} {cs : Array Value} {t : TypeId} {fr : Nat × Nat} (v : Value) (h : w.heap[g]? = some (.cells cs t fr)) (ht : t ∈ es ∨ g < B) : Kq B es w (w.setCell ⟨g, i, none⟩ v) := by
  refine ⟨by simp, fun k cs' t' fr' hB hk ht' => ?_⟩
  have hne : k ≠ g := by
    rintro rfl
    rw [h] at hk
    injection hk with hk
    injection hk with _ h2 _
    rcases ht with ht | ht
    · exact ht' (h2 ▸ ht)
    · omega
  exact (Below.heap_setCell _ _ _ _ hne).trans hk
theorem Kq.of_own {B : Nat} {es : List TypeId} {w w' : World} {row : Option Nat} (hg : w.grownBy w' row) (hr : ∀ r, row = some r → ∃ o : Obj, w.heap[r]? = some o ∧ o.isCells = false) : Kq B es w w' := by
  refine ⟨hg.size, fun k cs t fr _ hk ht => (hg.block k (Array.getElem?_eq_some_iff.1 hk).1 ?_).trans hk⟩
  intro hh
  obtain ⟨o, ho, hc⟩ := hr k hh.symm
  rw [hk] at ho
  cases ho
  cases hc
def Sq (B : Nat) (es : List TypeId) (p : World → Prop) (w : World) : Prop := ∀ w', Kq B es w w' → p w'
theorem Sq.now {B : Nat} {es : List TypeId} {p : World → Prop} {w : World} (h : Sq B es p w) : p w := h w (Kq.refl _ _ _)
theorem Sq.keep {B : Nat} {es : List TypeId} {p : World → Prop} {w w' : World} (h : Sq B es p w) (k : Kq B es w w') : Sq B es p w' := fun w2 h2 => h w2 (k.trans h2)
theorem Sq.below {B : Nat} {es : List TypeId} {p : World → Prop} {w w' : World} (h : Sq B es p w) (k : Below w.heap.size w w') : Sq B es p w' := h.keep (Kq.of_below k)
theorem Sq.down {B B' : Nat} {es es' : List TypeId} {p : World → Prop} {w : World} (h : Sq B es p w) (hB : B' ≤ B) (hs : ∀ e ∈ es', e ∈ es) : Sq B' es' p w := fun w' k => h w' ((k.mono hB).more hs)
theorem Sq.imp {B : Nat} {es : List TypeId} {p q : World → Prop} {w : World} (h : Sq B es p w) (hpq : ∀ w', p w' → q w') : Sq B es q w := fun w' k => hpq w' (h w' k)
theorem Sq.st {B : Nat} {es : List TypeId} {p : World → Prop} {w : World} (h : Sq B es p w) : St B es p w := fun w' k => h w' (Kq.of_kp k)
theorem own_sq {B B' n size : Nat} {es : List TypeId} {w : World} {e : TypeId} {v : Value} {xs : List Value} (h : w.ownsRow B' e size v n xs) (hB : B ≤ B') (he : e ∉ es) : Sq B es (fun w' => w'.ownsRow B' e size v n xs) w := fun w' k => by
  refine ⟨h.1, ?_⟩
  rcases h.2 with h1 | ⟨g, cap, cur, h1, h2, h3, h4⟩
  · exact .inl h1
  · exact .inr ⟨g, cap, cur, h1, h2, k.high _ _ _ _ (Nat.le_trans hB h2) h3 he, h4⟩
theorem isI_own_sq {w : World} {B B' n : Nat} {es : List TypeId} {v : Value} {l : List Int} (h : w.ownsRow B' 3 1 v n (iv l)) (hB : B ≤ B') (hb : ∀ x ∈ l, I64 x) (he : 3 ∉ es) : ∃ A c, v = .slice A n c ∧ Sq B es (fun w' => wo.IsI w' A n c l) w := by
  obtain ⟨A, c, rfl⟩ := own_slice h
  refine ⟨A, c, rfl, (own_sq h hB he).imp fun w' h' => ?_⟩
  obtain ⟨A', n', c', e, hI⟩ := isV_own h' hb
  cases e
  exact hI
structure RowQ {α : Type} (E : World → Value → α → Prop) (B : Nat) (es : List TypeId) (e : TypeId) (w : World) (v : Value) (L : List α) (vals : List Value) : Prop where
  own : w.ownsRow B e 1 v L.length vals
  at' : ∀ (i : Nat) (x : α), L[i]? = some x → ∃ u : Value, vals[i]? = some u ∧ Sq B es (fun w' => E w' u x) w
theorem RowQ.len {α : Type} {E : World → Value → α → Prop} {B : Nat} {es : List TypeId} {e : TypeId} {w : World} {v : Value} {L : List α} {vals : List Value} (h : RowQ E B es e w v L vals) : vals.length = L.length := by have := h.own.1; omega
theorem RowQ.nil {α : Type} (E : World → Value → α → Prop) (B : Nat) (es : List TypeId) (e : TypeId) (w : World) : RowQ E B es e w (.slice none 0 0) [] [] := ⟨World.ownsRow_nil _ _ _ _, fun i x h => by simp at h⟩
theorem RowQ.start {α : Type} {E : World → Value → α → Prop} {B : Nat} {es : List TypeId} {e : TypeId} {w : World} {v : Value} (h : w.ownsRow B e 1 v 0 []) : RowQ E B es e w v ([] : List α) [] := ⟨h, fun i x h => by simp at h⟩
theorem RowQ.below {α : Type} {E : World → Value → α → Prop} {B : Nat} {es : List TypeId} {e : TypeId} {w w' : World} {v : Value} {L : List α} {vals : List Value} (h : RowQ E B es e w v L vals) (hb : Below w.heap.size w w') : RowQ E B es e w' v L vals :=
  ⟨keptB h.own hb, fun i x hx => by obtain ⟨u, h1, h2⟩ := h.at' i x hx; exact ⟨u, h1, h2.below hb⟩⟩
theorem RowQ.push {α : Type} {E : World → Value → α → Prop} {B : Nat} {es : List TypeId} {e : TypeId} {w w' : World} {v v' : Value} {L : List α} {vals : List Value} {u : Value} {x : α} (h : RowQ E B es e w v L vals) (he : e ∈ es) (hs : Sq B es (fun w' => E w' u x) w)
    (o : Obj) (hg : (w.alloc o).grownBy w' v.ownBlock) (ho : w'.ownsRow B e 1 v' (L.length + 1) (vals ++ [u])) : RowQ E B es e w' v' (L ++ [x]) (vals ++ [u]) := by
  have hk : Kq B es w w' := by
    have h1 : Kq B es w (w.alloc o) := Kq.of_below (below_new w o)
    refine h1.trans (Kq.of_grown (keptB h.own (below_new w o)) he hg)
  have hl := h.len
  refine ⟨by simpa using ho, fun i y hy => ?_⟩
  rcases Nat.lt_trichotomy i L.length with hi | hi | hi
  · rw [List.getElem?_append_left hi] at hy
    obtain ⟨z, h1, h2⟩ := h.at' i y hy
    exact ⟨z, by rw [List.getElem?_append_left (by omega)]; exact h1, h2.keep hk⟩
  · subst hi
    rw [List.getElem?_append_right (Nat.le_refl _), Nat.sub_self] at hy
    simp at hy
    subst hy
    exact ⟨u, by rw [← hl, List.getElem?_append_right (Nat.le_refl _), Nat.sub_self]; rfl, hs.keep hk⟩
  · rw [List.getElem?_eq_none (by simp; omega)] at hy; cases hy
theorem RowQ.isVV {B : Nat} {es : List TypeId} {w : World} {v : Value} {L : VV} {vals : List Value} (h : RowQ IsV B es 23 w v L vals) : ∃ A c, v = .slice A L.length c ∧ IsVV w A L.length c L := by
  have hl := h.len
  rcases h.own.2 with ⟨hv, hn0⟩ | ⟨g, cap, cur, hv, hb2, hh, h3, h4, h5, h6⟩
  · subst hv
    exact ⟨none, 0, by rw [hn0], rfl, by omega, by omega, fun k l hk => by have := (List.getElem?_eq_some_iff.1 hk).1; omega⟩
  · subst hv
    refine ⟨_, _, rfl, rfl, h3, by unfold maxLen at h4; omega, fun k l hk => ?_⟩
    obtain ⟨u, hu, hs⟩ := h.at' k l hk
    obtain ⟨A', n', c', rfl, hI⟩ := hs.now
    have hc := h.own.cells rfl k _ hu
    rw [wk.add_at] at hc
    exact ⟨g, 0, A', n', c', rfl, (Array.getElem?_eq_some_iff.1 hh).1, hc, hI⟩
theorem RowQ.isVV_sq {B : Nat} {es es' : List TypeId} {w : World} {v : Value} {L : VV} {vals : List Value} (h : RowQ IsV B es 23 w v L vals) (hs : ∀ x ∈ es', x ∈ es) (he : 23 ∉ es') : ∃ A c, v = .slice A L.length c ∧ Sq B es' (fun w' => IsVV w' A L.length c L) w := by
  obtain ⟨A, c, rfl⟩ := own_slice h.own
  refine ⟨A, c, rfl, fun w' k => ?_⟩
  have h' : RowQ IsV B es' 23 w' (.slice A L.length c) L vals :=
    ⟨own_sq (B := B) h.own (Nat.le_refl _) he w' k, fun i x hx => by obtain ⟨u, h1, h2⟩ := h.at' i x hx; exact ⟨u, h1, (h2.down (Nat.le_refl _) hs).keep k⟩⟩
  obtain ⟨A', c', e, hI⟩ := h'.isVV
  cases e
  exact hI
theorem RowQ.isW {B : Nat} {es : List TypeId} {w : World} {v : Value} {L : List VV} {vals : List Value} (h : RowQ IsZ B es 22 w v L vals) : ∃ A c, v = .slice A L.length c ∧ IsW w A L.length c L := by
  have hl := h.len
  rcases h.own.2 with ⟨hv, hn0⟩ | ⟨g, cap, cur, hv, hb2, hh, h3, h4, h5, h6⟩
  · subst hv
    exact ⟨none, 0, by rw [hn0], rfl, by omega, by omega, fun k l hk => by have := (List.getElem?_eq_some_iff.1 hk).1; omega⟩
  · subst hv
    refine ⟨_, _, rfl, rfl, h3, by unfold maxLen at h4; omega, fun k l hk => ?_⟩
    obtain ⟨u, hu, hs⟩ := h.at' k l hk
    obtain ⟨A', n', c', rfl, hI⟩ := hs.now
    have hc := h.own.cells rfl k _ hu
    rw [wk.add_at] at hc
    exact ⟨g, 0, A', n', c', rfl, (Array.getElem?_eq_some_iff.1 hh).1, hc, hI⟩
theorem RowQ.isW_sq {B : Nat} {es es' : List TypeId} {w : World} {v : Value} {L : List VV} {vals : List Value} (h : RowQ IsZ B es 22 w v L vals) (hs : ∀ x ∈ es', x ∈ es) (he : 22 ∉ es') : ∃ A c, v = .slice A L.length c ∧ Sq B es' (fun w' => IsW w' A L.length c L) w := by
  obtain ⟨A, c, rfl⟩ := own_slice h.own
  refine ⟨A, c, rfl, fun w' k => ?_⟩
  have h' : RowQ IsZ B es' 22 w' (.slice A L.length c) L vals :=
    ⟨own_sq (B := B) h.own (Nat.le_refl _) he w' k, fun i x hx => by obtain ⟨u, h1, h2⟩ := h.at' i x hx; exact ⟨u, h1, (h2.down (Nat.le_refl _) hs).keep k⟩⟩
  obtain ⟨A', c', e, hI⟩ := h'.isW
  cases e
  exact hI
theorem RowQ.own_from {α : Type} {E : World → Value → α → Prop} {B : Nat} {es : List TypeId} {e : TypeId} {w w' : World} {v : Value} {L : List α} {vals : List Value} (h : RowQ E B es e w v L vals) {row : Option Nat} (hg : w.grownBy w' row) (hr : ∀ r, row = some r → ∃ o : Obj, w.heap[r]? = some o ∧ o.isCells = false) : RowQ E B es e w' v L vals := by
  refine ⟨World.ownsRow.kept h.own hg ?_, fun i x hx => by
    obtain ⟨u, h1, h2⟩ := h.at' i x hx
    exact ⟨u, h1, h2.keep (Kq.of_own hg hr)⟩⟩
  cases hv : v.ownBlock with
  | none => exact .inl rfl
  | some b =>
    refine .inr fun he => ?_
    obtain ⟨o, ho, hc⟩ := hr b he.symm
    rcases h.own.2 with ⟨rfl, _⟩ | ⟨g1, cap1, cur1, rfl, _, hh1, _⟩
    · simp [Value.ownBlock] at hv
    · have : g1 = b := by simpa [Value.ownBlock] using hv
      subst this
      rw [hh1] at ho
      cases ho
      cases hc
theorem RowQ.setBox {α : Type} {E : World → Value → α → Prop} {B S i : Nat} {es : List TypeId} {e : TypeId} {w : World} {v : Value} {L : List α} {vals : List Value} (h : RowQ E B es e w v L vals) {cs : Array Value} {t : TypeId} {fr : Nat × Nat} (hs : w.heap[S]? = some (.cells cs t fr)) (ht : t ∈ es ∨ S < B) (hne : t ≠ e) (u : Value) : RowQ E B es e (w.setCell ⟨S, i, none⟩ u) v L vals := by
  refine ⟨⟨h.own.1, ?_⟩, fun j x hx => by
    obtain ⟨z, h1, h2⟩ := h.at' j x hx
    exact ⟨z, h1, h2.keep (Kq.of_set u hs ht)⟩⟩
  rcases h.own.2 with h1 | ⟨g, cap, cur, h1, h2, h3, h4⟩
  · exact .inl h1
  · refine .inr ⟨g, cap, cur, h1, h2, ?_, h4⟩
    have hg : g ≠ S := by
      rintro rfl
      rw [hs] at h3
      injection h3 with h3
      injection h3 with _ h5 _
      exact hne h5
    exact (Below.heap_setCell _ _ _ _ hg).trans h3
end Go.Proofs.Yteeianandjokaaa.uk
/- Nearest, Cover, Table. -/
namespace Go.Proofs.Yteeianandjokaaa.pk

open Go.ChangeShapes Go.WideShapes Go.ChangeAt Go.RowKit

open Go.Proofs.Yteeianandjokaaa.pq Go.Proofs.Yteeianandjokaaa.cq Go.Proofs.Yteeianandjokaaa.vk Go.Proofs.Yteeianandjokaaa.bk Go.Proofs.Yteeianandjokaaa.wk Go.Proofs.Yteeianandjokaaa.uk

set_option linter.unusedVariables false
theorem cells1 (w : World) (v : Value) (t : TypeId) : ∀ j u, [v][j]? = some u → (w.alloc (.cells #[v] t)).cell? ((⟨w.heap.size, 0, none⟩ : Addr).add j) = some u := fun j u hu => by
  cases j with
  | zero =>
    simp only [List.getElem?_cons_zero, Option.some.injEq] at hu
    subst hu
    rw [wk.add_at, Nat.zero_add, cell_of_row _ _ _ _ _ _ (heap_alloc_new _ _)]
    rfl
  | succ j => simp at hu
def okE (b : Bool) : Value := .int .i64 (if b then 0 else 1)
theorem isVV_one {w : World} {A : Option Addr} {n c : Nat} {v : List Int} (t : TypeId) (h : wo.IsI w A n c v) : IsVV (w.alloc (.cells #[.slice A n c] t)) (some ⟨w.heap.size, 0, none⟩) 1 1 [v] := by
  refine ⟨rfl, Nat.le_refl _, by omega, fun k l hk => ?_⟩
  cases k with
  | zero =>
    simp only [List.getElem?_cons_zero, Option.some.injEq] at hk
    subst hk
    exact ⟨_, _, A, n, c, rfl, by rw [size_new]; omega, by rw [cell_of_row _ _ _ _ _ _ (heap_alloc_new _ _)]; rfl, isI_below h (below_new _ _)⟩
  | succ k => simp at hk
def nearT (m : Int) (P : VV) (v : List Int) : Value := if haveK m P [v] then .tuple #[.int .i64 ((nearest m P v).1 : Int), .int .i64 (nearest m P v).2, .int .i64 0] else .tuple #[.int .i64 0, .int .i64 0, .int .i64 1]
set_option maxRecDepth 100000 in
set_option maxHeartbeats 1000000 in
theorem nearest_calls {m : Int} {A A' : Option Addr} {n c n' c' : Nat} {P : VV} {v : List Int} (w : World) (h : IsVV w A n c P) (h' : wo.IsI w A' n' c' v) :
    Calls Try.prog 12 #[.int .i64 m, .slice A n c, .slice A' n' c'] w fun e w' => e = .returned (nearT m P v) ∧ Below w.heap.size w w' := by
  have hb0 := below_new w (.cells #[.slice A' n' c'] 23)
  have HH := Lib.hid (have_calls (m := m) (w.alloc (.cells #[.slice A' n' c'] 23)) (isVV_below h hb0) (isVV_one 23 h'))
  have HB0 := Lib.hid hb0
  have hPn := h.1
  unfold nearT
  cases hk : haveK m P [v]
  · rw [hk] at HH
    clear h h' hb0
    go_enter Try.func12, Try.ntmps12
    go_wp2_with fail
    refine HH.out.mono ?_
    rintro e w1 ⟨rfl, hb1⟩
    have HB1 := Lib.hid (Below.andThen HB0.out hb1)
    clear hb1
    go_wp2_with fail
    go_ret3
    exact ⟨rfl, HB1.out⟩
  · have hv := have_of hk
    rw [hk] at HH
    have HKT := Lib.hid (fun w' (hb : Below w.heap.size w w') => keysTo_calls (m := m) w' (isVV_below h hb) (by have := hv.p.n2; omega))
    have HN := Lib.hid (fun w' A1 c1 (hb : Below w.heap.size w w') (hK : IsK w' A1 n c1 m P) => near_calls w' hv.m1 hv.m3 hK (isI_below h' hb) hv.p (by omega) (hv.l.ok v (List.mem_singleton.2 rfl)))
    generalize nearest m P v = p at *
    obtain ⟨p1, p2⟩ := p
    dsimp only at HN ⊢
    clear h h' hb0 hv
    go_enter Try.func12, Try.ntmps12
    go_wp2_with fail
    refine HH.out.mono ?_
    rintro e w1 ⟨rfl, hb1⟩
    have HB1 := Lib.hid (Below.andThen HB0.out hb1)
    clear hb1
    go_wp2_with fail
    refine (HKT.out w1 HB1.out).mono ?_
    rintro e w2 ⟨A1, c1, rfl, hK, hb2⟩
    have HB2 := Lib.hid (Below.andThen HB1.out hb2)
    have HN2 := Lib.hid (HN.out w2 A1 c1 HB2.out hK)
    clear hb2 hK
    go_wp2_with fail
    refine HN2.out.mono ?_
    rintro e w3 ⟨rfl, hb3⟩
    have HB3 := Lib.hid (Below.andThen HB2.out hb3)
    clear hb3
    go_wp2_with fail
    go_ret3
    exact ⟨rfl, HB3.out⟩
set_option maxRecDepth 100000 in
set_option maxHeartbeats 1000000 in
theorem cover1_calls {m : Int} {A A' : Option Addr} {n c n' c' d k g g' most most' : Nat} {P L : VV} (w : World) (h1 : 1 ≤ m) (h3 : m ≤ 3) (hK : IsK w A n c m P) (hL : IsVV w A' n' c' L) (hP : Fit most d P) (hmost : most ≤ 4096) (hF : Fit most' d L) (hk : k < n')
    (hg : Box w g (.slice A n c)) (hg' : Box w g' (.slice A' n' c')) :
    Calls Try.prog 50 #[.int .i64 k, .pointer (some ⟨g, 0, none⟩), .pointer (some ⟨g', 0, none⟩)] w fun e w' => e = .returned (.int .i64 (cf m P L k)) ∧ Below w.heap.size w w' := by
  obtain ⟨b, o, A1, n1, c1, v, rfl, hb, hc, hI, hv⟩ := isVV_get hL hk
  have HN := Lib.hid (fun w' (hb : Below w.heap.size w w') => near_calls w' h1 h3 (hK.below hb) (isI_below hI hb) hP hmost (hF.at hv))
  have HE : Hid (cf m P L k = (nearest m P v).2) := by show _ = _; unfold cf nk; rw [getD_some hv]
  have hm := hL.2.2.1
  have hnc := hL.2.1
  have hlt0 : (k : Int) < (n' : Int) := by omega
  rw [HE.out]
  clear hK hL hP hF hI hv HE
  generalize nearest m P v = p at *
  obtain ⟨p1, p2⟩ := p
  dsimp only at HN ⊢
  go_enter Try.func50, Try.ntmps50
  go_wp2_with fail
  refine wk.region_tailS 11 [.is (.slice A n c), .is (.slice (some ⟨b, o, none⟩) n' c'), .is (.int .i64 (k : Int)), .is (.pointer (some ⟨b, o + k, none⟩)), .is (.slice A1 n1 c1), .is (.tuple #[.int .i64 (p1 : Int), .int .i64 p2]), .is (.tuple #[.int .i64 (p1 : Int), .int .i64 p2]), .is (.int .i64 (p1 : Int)), .is (.int .i64 p2), .is (.int .i64 (p1 : Int)), .is (.int .i64 p2)] [some 8, some 9, some 10, some 11, some 12, some 13, some 7, some 14, some 15, some 5, some 6] (by kernel_rfl) (by kernel_rfl) (by kernel_rfl) (by kernel_rfl) [] (by kernel_rfl) (by intro p hp; cases hp) (by kernel_rfl) (by kernel_rfl) ?hstep ?hdone
  case hstep =>
    intro i o ho hi hns E w4 hb4 D
    have hi2 : i = 0 ∨ i = 1 ∨ i = 2 ∨ i = 3 ∨ i = 4 ∨ i = 5 ∨ i = 6 ∨ i = 7 ∨ i = 8 ∨ i = 9 ∨ i = 10 := by omega
    clear hi
    rcases hi2 with rfl | rfl | rfl | rfl | rfl | rfl | rfl | rfl | rfl | rfl | rfl
    ·
      have ho2 := (Array.getElem?_eq_some_iff.1 ho).2
      simp only [List.getElem_toArray, List.getElem_cons_zero] at ho2
      subst ho2
      clear ho
      have e1 := D.old 1 (by kernel_rfl)
      exact wk.does_load1 rfl (show E (.tmp 1) = .pointer (some ⟨g, 0, none⟩) by rw [e1]; rfl) ((hg.below ((Below.refl _ _).drew.trans hb4)).cell) Try.underlying83 rfl rfl
    ·
      have ho2 := (Array.getElem?_eq_some_iff.1 ho).2
      simp only [List.getElem_toArray, List.getElem_cons_succ, List.getElem_cons_zero] at ho2
      subst ho2
      clear ho
      have e2 := D.old 2 (by kernel_rfl)
      exact wk.does_load1 rfl (show E (.tmp 2) = .pointer (some ⟨g', 0, none⟩) by rw [e2]; rfl) ((hg'.below ((Below.refl _ _).drew.trans hb4)).cell) Try.underlying22 rfl rfl
    ·
      have ho2 := (Array.getElem?_eq_some_iff.1 ho).2
      simp only [List.getElem_toArray, List.getElem_cons_succ, List.getElem_cons_zero] at ho2
      subst ho2
      clear ho
      have e0 := D.old 0 (by kernel_rfl)
      exact wk.does_move rfl (by rw [e0]; rfl)
    ·
      have ho2 := (Array.getElem?_eq_some_iff.1 ho).2
      simp only [List.getElem_toArray, List.getElem_cons_succ, List.getElem_cons_zero] at ho2
      subst ho2
      clear ho
      have e9 := D.is { on := 1, ground := .data } (by simp) rfl rfl 9 rfl
      have e10 := D.is { on := 2, ground := .data } (by simp) rfl rfl 10 rfl
      exact wk.does_run (by simp only [execOp]; rw [show E (.tmp 9) = _ from e9, show E (.tmp 10) = _ from e10]; go_simp) rfl
    ·
      have ho2 := (Array.getElem?_eq_some_iff.1 ho).2
      simp only [List.getElem_toArray, List.getElem_cons_succ, List.getElem_cons_zero] at ho2
      subst ho2
      clear ho
      have e11 := D.is { on := 3, ground := .data } (by simp) rfl rfl 11 rfl
      exact wk.does_load1 rfl e11 ((((Below.refl _ _).drew.trans hb4).cell (p := ⟨b, o + k, none⟩) hb).trans hc) Try.underlying23 rfl rfl
    ·
      have ho2 := (Array.getElem?_eq_some_iff.1 ho).2
      simp only [List.getElem_toArray, List.getElem_cons_succ, List.getElem_cons_zero] at ho2
      subst ho2
      clear ho
      have e8 := D.is { on := 0, ground := .data } (by simp) rfl rfl 8 rfl
      have e12 := D.is { on := 4, ground := .data } (by simp) rfl rfl 12 rfl
      refine wk.does_fn (f := 48) (vs := #[.slice A n c, .slice A1 n1 c1]) rfl (D.fn _) (by simp [e8, e12]) (by go_simp) ?_
      refine (HN.out w4 ((Below.refl _ _).drew.trans hb4)).mono ?_
      rintro e w7 ⟨rfl, hb7⟩
      exact ⟨_, rfl, hb7, rfl⟩
    ·
      have ho2 := (Array.getElem?_eq_some_iff.1 ho).2
      simp only [List.getElem_toArray, List.getElem_cons_succ, List.getElem_cons_zero] at ho2
      subst ho2
      clear ho
      have e13 := D.is { on := 5, ground := .data } (by simp) rfl rfl 13 rfl
      exact wk.does_move rfl e13
    ·
      have ho2 := (Array.getElem?_eq_some_iff.1 ho).2
      simp only [List.getElem_toArray, List.getElem_cons_succ, List.getElem_cons_zero] at ho2
      subst ho2
      clear ho
      have e7 := D.is { on := 6, ground := .data } (by simp) rfl rfl 7 rfl
      exact wk.does_extract rfl e7 rfl rfl
    ·
      have ho2 := (Array.getElem?_eq_some_iff.1 ho).2
      simp only [List.getElem_toArray, List.getElem_cons_succ, List.getElem_cons_zero] at ho2
      subst ho2
      clear ho
      have e7 := D.is { on := 6, ground := .data } (by simp) rfl rfl 7 rfl
      exact wk.does_extract rfl e7 rfl rfl
    ·
      have ho2 := (Array.getElem?_eq_some_iff.1 ho).2
      simp only [List.getElem_toArray, List.getElem_cons_succ, List.getElem_cons_zero] at ho2
      subst ho2
      clear ho
      have e14 := D.is { on := 7, ground := .data } (by simp) rfl rfl 14 rfl
      exact wk.does_assign rfl e14
    ·
      have ho2 := (Array.getElem?_eq_some_iff.1 ho).2
      simp only [List.getElem_toArray, List.getElem_cons_succ, List.getElem_cons_zero] at ho2
      subst ho2
      clear ho
      have e15 := D.is { on := 8, ground := .data } (by simp) rfl rfl 15 rfl
      exact wk.does_assign rfl e15
  case hdone =>
    intro vals w4 hb4 hv
    have h10 := hv 10 (by omega)
    clear hv
    replace h10 : vals 10 = (.int .i64 p2) := h10
    simp only [List.drop_succ_cons, List.drop_zero, wpList, wk.setL, List.setIfInBounds_toArray, List.set_cons_zero, List.set_cons_succ, Nat.zero_add, Nat.reduceAdd, h10]
    generalize vals 0 = x0
    generalize vals 1 = x1
    generalize vals 2 = x2
    generalize vals 3 = x3
    generalize vals 4 = x4
    generalize vals 5 = x5
    generalize vals 6 = x6
    generalize vals 7 = x7
    generalize vals 8 = x8
    generalize vals 9 = x9
    have hb : Below w.heap.size w w4 := (Below.refl _ _).drew.trans hb4
    clear hb4
    go_wp2_with fail
    go_ret
    exact ⟨rfl, hb⟩
set_option maxRecDepth 100000 in
set_option maxHeartbeats 1000000 in
theorem cover_calls {m : Int} {A A' : Option Addr} {n c n' c' : Nat} {P L : VV} (w : World) (h : IsVV w A n c P) (h' : IsVV w A' n' c' L) :
    Calls Try.prog 13 #[.int .i64 m, .slice A n c, .slice A' n' c'] w fun e w' => e = .returned (.tuple #[.int .i64 (if haveK m P L then pq.cover m P L else 0), okE (haveK m P L)]) ∧ Below w.heap.size w w' := by
  have hb0 := below_new w (.cells #[.slice A' n' c'] 22)
  have hx0 := Box.new w (.slice A' n' c') 22
  have HH := Lib.hid (have_calls (m := m) (w.alloc (.cells #[.slice A' n' c'] 22)) (isVV_below h hb0) (isVV_below h' hb0))
  have HB0 := Lib.hid hb0
  have hPn := h.1
  have hm := h'.2.2.1
  have hnc := h'.2.1
  have hcb := hx0.cell
  unfold okE
  cases hk : haveK m P L
  · rw [hk] at HH
    clear h h' hb0
    go_enter Try.func13, Try.ntmps13
    go_wp2_with fail
    refine HH.out.mono ?_
    rintro e w1 ⟨rfl, hb1⟩
    have HB1 := Lib.hid (Below.andThen HB0.out hb1)
    clear hb1
    go_wp2_with fail
    go_ret2
    exact ⟨rfl, HB1.out⟩
  · have hv := have_of hk
    rw [hk] at HH
    have hl2 := hv.l.n2
    have hLn := h'.1
    have HKT := Lib.hid (fun w' (hb : Below w.heap.size w w') => keysTo_calls (m := m) w' (isVV_below h hb) (by have := hv.p.n2; omega))
    have HX := Lib.hid hx0
    have HE : Hid (pq.cover m P L = (gr (cf m P L) n').2) := by show _ = _; unfold pq.cover; rw [hLn]
    rw [HE.out]
    have HG := Lib.hid (fun w' A1 c1 g (hb : Below w.heap.size w w') (hK : IsK w' A1 n c1 m P) (hx : Box w' w.heap.size (.slice A' n' c')) (hxk : Box w' g (.slice A1 n c1)) =>
      greatest_calls 50 #[.pointer (some ⟨g, 0, none⟩), .pointer (some ⟨w.heap.size, 0, none⟩)] (fun _ _ => by kernel_rfl) n' (by omega) (cf m P L) (fun k w2 => Below w'.heap.size w' w2) w'
        (fun k w2 hk hb2 => by
          refine (cover1_calls w2 hv.m1 hv.m3 (hK.below hb2) (isVV_below (isVV_below h' hb) hb2) hv.p (by omega) hv.l hk (hxk.below hb2) (hx.below hb2)).mono ?_
          rintro e w3 ⟨rfl, hb3⟩
          exact ⟨rfl, Below.andThen hb2 hb3⟩) (Below.refl _ _))
    generalize gr (cf m P L) n' = p at *
    obtain ⟨p1, p2⟩ := p
    dsimp only at HG ⊢
    clear h h' hb0 hv hx0 HE
    go_enter Try.func13, Try.ntmps13
    go_wp2_with fail
    refine HH.out.mono ?_
    rintro e w1 ⟨rfl, hb1⟩
    have HB1 := Lib.hid (Below.andThen HB0.out hb1)
    have HX1 := Lib.hid (HX.out.below hb1)
    clear hb1
    go_wp2_with fail
    refine (HKT.out w1 HB1.out).mono ?_
    rintro e w2 ⟨A1, c1, rfl, hK, hb2⟩
    have HB2 := Lib.hid (Below.andThen HB1.out hb2)
    have HK2 := Lib.hid hK
    have HX2 := Lib.hid (HX1.out.below hb2)
    have hmk := hK.2.2.1
    have hnck := hK.2.1
    have hb3 := below_new w2 (.cells #[.slice A1 n c1] 83)
    have hx3 := Box.new w2 (.slice A1 n c1) 83
    have hc3 := (HX2.out.below hb3).cell
    have HB3 := Lib.hid (Below.andThen HB2.out hb3)
    have HG3 := Lib.hid (HG.out _ A1 c1 w2.heap.size HB3.out (hK.below hb3) (HX2.out.below hb3) hx3)
    clear hb2 hK hcb hb3 hx3
    go_wp2_with fail
    refine HG3.out.mono ?_
    rintro e w4 ⟨rfl, hb4⟩
    have HB4 := Lib.hid (Below.andThen HB3.out hb4)
    clear hb4
    go_wp2_with fail
    go_ret2
    exact ⟨rfl, HB4.out⟩
set_option maxRecDepth 100000 in
set_option maxHeartbeats 4000000 in
theorem table_calls {m : Int} {A A' : Option Addr} {n c n' c' : Nat} {P L : VV} (w : World) (h : IsVV w A n c P) (h' : IsVV w A' n' c' L) :
    Calls Try.prog 14 #[.int .i64 m, .slice A n c, .slice A' n' c'] w fun e w' => ∃ A2 n2 c2, e = .returned (.tuple #[.slice A2 n2 c2, okE (haveK m P L)]) ∧ IsVV w' A2 n2 c2 (if haveK m P L then table m P L else []) ∧ Below w.heap.size w w' := by
  have HH := Lib.hid (have_calls (m := m) w h h')
  have hm := h'.2.2.1
  have hnc := h'.2.1
  unfold okE
  cases hk : haveK m P L
  · rw [hk] at HH
    clear h h'
    go_enter Try.func14, Try.ntmps14
    go_wp2_with fail
    refine HH.out.mono ?_
    rintro e w1 ⟨rfl, hb1⟩
    have HB1 := Lib.hid hb1
    clear hb1
    go_wp2_with fail
    go_ret2
    exact ⟨_, _, _, rfl, ⟨rfl, by omega, by omega, fun k l hk => by simp at hk⟩, HB1.out⟩
  · obtain ⟨i0, hi9, hz0, hz1, hz2⟩ := info_parts wi.infoI
    obtain ⟨i1, hj9, hj0, hj1, hj2⟩ := info_parts infoVz
    have hv := have_of hk
    rw [hk] at HH
    have HKT := Lib.hid (fun w' (hb : Below w.heap.size w w') => keysTo_calls (m := m) w' (isVV_below h hb) (by have := hv.p.n2; have := h.1; omega))
    have hn8 : n ≤ 8 := by rw [← h.1]; exact hv.p.n2
    have hn4 : n' ≤ 4096 := by rw [← h'.1]; exact hv.l.n2
    have HV := Lib.hid hv
    have H' := Lib.hid h'
    have HPL : Hid (P.length = n) := h.1
    clear h h' hv
    go_enter Try.func14, Try.ntmps14
    go_wp2_with fail
    refine HH.out.mono ?_
    rintro e w1 ⟨rfl, hb1⟩
    have HB1 := Lib.hid hb1
    clear hb1
    go_wp2_with fail
    refine (HKT.out w1 HB1.out).mono ?_
    rintro e w2 ⟨A1, c1, rfl, hK, hb2⟩
    have HB2 := Lib.hid (Below.andThen HB1.out hb2)
    have HK2 := Lib.hid hK
    have hmk := hK.2.2.1
    have hnck := hK.2.1
    have HL2 := Lib.hid (isVV_below H'.out HB2.out)
    clear hb2 hK
    have hnI : (i1.bytes : Nat) * n' ≤ 281474976710656 := by rw [hj2]; omega
    obtain ⟨w3, hmk3, hown3, hgr3⟩ := run_make_own (P := Try.prog) w2 w2.heap.size 22 23 i1 (.slice none 0 0) 1 Try.underlying22 hj9 hj0 hj1 .i64 .i64 n' hnI (by unfold maxLen; omega) (Nat.le_refl _)
    have HB3 : Hid (Below w2.heap.size w2 w3) := (Below.refl _ _).grown hgr3 (Nat.le_refl _) (fun k hk => by cases hk)
    have HOWN3 := Lib.hid hown3
    clear hown3 hgr3
    go_wp2_with fail
    have HTL : Hid ((table m P L).length = n') := by show _ = _; unfold table; rw [List.length_map, H'.out.1]
    go_loopg [9, 28] n' (fun gk u x wr => ∃ (k : Nat) (v0 : Value) (vs : List Value), k + gk = n' ∧ v0 = u ∧ x = .int .i64 (k : Int) ∧ RowQ IsV w2.heap.size [23] 23 wr v0 ((table m P L).take k) vs ∧ Below w2.heap.size w2 wr)
    case atStart => exact ⟨0, _, [], by omega, rfl, rfl, RowQ.start HOWN3.out, HB3.out⟩
    case round =>
      obtain ⟨k, v0, vs, hk, hv0, rfl, hown, hbel⟩ := hrel
      subst hv0
      have HK := Lib.hid hk
      have HOWN := Lib.hid hown
      have HBEL := Lib.hid hbel
      have hkn : k ≤ n' := by omega
      clear hk hown HOWN3 hmk3
      by_cases hlt : k < n'
      · obtain ⟨b7, o7, A8, n8, c8, v, rfl, hb7, hc7, hI8, hX8⟩ := isVV_get (isVV_below HL2.out hbel) hlt
        have hlt0 : (k : Int) < (n' : Int) := by omega
        have HFV := Lib.hid (HV.out.l.at hX8)
        have HTK : Hid ((table m P L)[k]? = some (keys m P v)) := by show _ = _; unfold table; rw [List.getElem?_map, hX8]; rfl
        have HI8 := Lib.hid hI8
        have HKL : Hid ((keys m P v).length = n) := by show _ = _; unfold keys; rw [List.length_map, HPL.out]
        have HSZ : Hid (w2.heap.size ≤ wr.heap.size) := hbel.size
        have hnI2 : (i0.bytes : Nat) * n ≤ 281474976710656 := by rw [hz2]; omega
        obtain ⟨w4, hmk4, hown4, hgr4⟩ := run_make_own (P := Try.prog) wr wr.heap.size 23 3 i0 (.int .i64 0) 1 Try.underlying23 hi9 hz0 hz1 .i64 .i64 n hnI2 (by unfold maxLen; omega) (Nat.le_refl _)
        have HB4 : Hid (Below wr.heap.size wr w4) := (Below.refl _ _).grown hgr4 (Nat.le_refl _) (fun k hk => by cases hk)
        have HOWN4 := Lib.hid hown4
        clear hown4 hgr4 hX8 hI8 hbel
        go_wp2_with fail
        obtain ⟨w0, hw0⟩ : ∃ u, u = wr := ⟨_, rfl⟩
        clear hc7 hb7
        go_loopg [12, 37] n (fun gk u x wr2 => ∃ (i : Nat) (v1 : Value), i + gk = n ∧ x = .int .i64 (i : Int) ∧ u = v1 ∧ wr2.ownsRow w0.heap.size 3 1 v1 i (iv ((keys m P v).take i)) ∧ Below w0.heap.size w0 wr2)
        case atStart => exact ⟨0, _, by omega, rfl, rfl, by rw [hw0]; simpa [iv] using HOWN4.out, by rw [hw0]; exact HB4.out⟩
        case round =>
          obtain ⟨i, v1, hi, rfl, rfl, hownr, hbi⟩ := hrel
          subst hw0
          have HKI := Lib.hid hi
          have HOWR := Lib.hid hownr
          have HBI := Lib.hid hbi
          have hin : i ≤ n := by omega
          have HBR : Hid (Below w2.heap.size w2 wr) := HBEL.out.trans (hbi.mono HBEL.out.size)
          clear hi hownr HOWN4 hmk4
          by_cases hlt2 : i < n
          · obtain ⟨bb, oo, Ai, ni, ci, p, eA, hbb, hci, hIi, hXi⟩ := (HK2.out.below HBR.out).get hlt2
            cases eA
            have hlt3 : (i : Int) < (n : Int) := by omega
            have HCK := Lib.hid (ckey_calls wr HV.out.m1 HV.out.m3 hIi (isI_below HI8.out hbi) (HV.out.p.at hXi) HFV.out)
            have HKX : Hid ((keys m P v)[i]? = some (vq.key m p v)) := by show _ = _; unfold keys; rw [List.getElem?_map, hXi]; rfl
            have hci' := hci
            unfold kfun at hci'
            generalize vq.key m p v = ri at *
            clear hXi hIi hci hbi
            go_wp2_with fail
            refine HCK.out.mono ?_
            rintro e w5 ⟨rfl, hb5⟩
            have hbe5 : Below w0.heap.size w0 w5 := HBI.out.trans (hb5.mono HBI.out.size)
            have HOW := Lib.hid (keptB HOWR.out hb5)
            have hB5 : w0.heap.size ≤ w5.heap.size := hbe5.size
            have HBE5 := Lib.hid hbe5
            clear hb5 hbe5 hci'
            go_wp2_with (at_builtin; refine wpList_append_own _ rfl _ _ 23 rfl w0.heap.size 3 i0 (.int .i64 0) 1 8 Try.underlying23 hi9 hz0 hz1 hz2 rfl (by decide) _ _ _ rfl (HOW.out.alloc _) ⟨w5.heap.size, 0, none⟩ 1 1 [.int .i64 ri] rfl rfl (cells1 _ _ _) ?c2 ?c3 ?c4 ?c5 ?_)
            case c2 => simp [Value.oneCell']
            case c3 => unfold maxLen; omega
            case c4 => omega
            case c5 => rw [size_new]; omega
            intro v' w6 hown6 hgrow6 _
            have hbe : Below w0.heap.size w0 w6 := (HBE5.out.alloc hB5 _).grown hgrow6 (by rw [size_new]; omega) (fun q hq => (HOW.out.lt q hq).1)
            have HB6 := Lib.hid hbe
            have HO6 := Lib.hid hown6
            clear hown6 hgrow6 hbe
            go_wp2_with fail
            go_roundg (gk - 1)
            case measure => have := HKI.out; omega
            case rel =>
              refine ⟨i + 1, _, by have := HKI.out; omega, by go_num, rfl, ?_, HB6.out⟩
              have hO := HO6.out
              rw [List.take_add_one, HKX.out]
              unfold iv at hO ⊢
              rw [List.map_append]
              simpa using hO
          · obtain rfl : i = n := by omega
            have hor := HOWR.out
            rw [List.take_of_length_le (by have := HKL.out; omega)] at hor
            have hbd : ∀ x ∈ keys m P v, I64 x := fun x hx => by
              unfold keys at hx
              obtain ⟨p, hp, rfl⟩ := List.mem_map.1 hx
              have := key_bd (m := m) (HV.out.p.ok p hp) HFV.out
              unfold I64
              omega
            obtain ⟨A9, c9, rfl, hsq⟩ := isI_own_sq (B := w2.heap.size) (es := [23]) hor HSZ.out hbd (by decide)
            have hsv : Sq w2.heap.size [23] (fun w' => IsV w' (.slice A9 i c9) (keys m P v)) wr := hsq.imp fun w' h => ⟨_, _, _, rfl, h⟩
            have HSV := Lib.hid hsv
            have hrow := HOWN.out.below hbi
            have HROW := Lib.hid hrow
            have HLT : Hid (((table m P L).take k).length = k) := by show _ = _; rw [List.length_take, HTL.out]; omega
            have ho0 := hrow.own
            rw [HLT.out] at ho0
            have HO2 := Lib.hid (keptB ho0 (below_new wr (.cells #[.slice A9 i c9] 23)))
            have HSZ2 : Hid (w2.heap.size ≤ wr.heap.size) := HBR.out.size
            clear hbi hor hbd hsq hsv hrow ho0
            go_wp2_with (at_builtin; refine wpList_append_own _ rfl _ _ 22 rfl w2.heap.size 23 i1 (.slice none 0 0) 1 24 Try.underlying22 hj9 hj0 hj1 hj2 rfl (by decide) _ _ _ rfl HO2.out ⟨wr.heap.size, 0, none⟩ 1 1 [.slice A9 i c9] rfl rfl (cells1 _ _ _) ?d2 ?d3 ?d4 ?d5 ?_)
            case d2 => simp [Value.oneCell']
            case d3 => unfold maxLen; omega
            case d4 => omega
            case d5 => have := HSZ2.out; rw [size_new]; omega
            intro v' w5 hown5 hgrow5 _
            have hbe : Below w2.heap.size w2 w5 := (HBR.out.alloc HSZ2.out _).grown hgrow5 (by have := HSZ2.out; rw [size_new]; omega) (fun q hq => (HO2.out.lt q hq).1)
            have hpush := HROW.out.push (by simp) HSV.out _ hgrow5 (by rw [HLT.out]; exact hown5)
            have HB5 := Lib.hid hbe
            have HP5 := Lib.hid hpush
            clear hown5 hgrow5 hbe hpush
            go_wp2_with fail
            go_roundg (n' - (k + 1))
            case measure => have := HK.out; omega
            case rel =>
              refine ⟨k + 1, _, vs ++ [.slice A9 i c9], by omega, rfl, by go_num, ?_, HB5.out⟩
              have hO := HP5.out
              rw [List.take_add_one, HTK.out]
              exact hO
      · obtain rfl : k = n' := by omega
        have ho := HOWN.out
        rw [List.take_of_length_le (by have := HTL.out; omega)] at ho
        obtain ⟨A9, c9, rfl, hvv⟩ := ho.isVV
        have HVV := Lib.hid hvv
        have HBZ := Lib.hid (HB2.out.trans (hbel.mono HB2.out.size))
        clear ho hbel hvv
        go_wp2_with fail
        go_ret2
        exact ⟨_, _, _, rfl, HVV.out, HBZ.out⟩
end Go.Proofs.Yteeianandjokaaa.pk
/- Pairs: join, has; what shells are. -/
namespace Go.Proofs.Yteeianandjokaaa.pk

open Go.ChangeShapes Go.WideShapes Go.ChangeAt Go.RowKit

open Go.Proofs.Yteeianandjokaaa.pq Go.Proofs.Yteeianandjokaaa.cq Go.Proofs.Yteeianandjokaaa.vk Go.Proofs.Yteeianandjokaaa.bk Go.Proofs.Yteeianandjokaaa.wk Go.Proofs.Yteeianandjokaaa.uk

set_option linter.unusedVariables false
def sh (s : Sh) : Value := .agg #[.int .i64 s.1, .int .i64 s.2]
/-- a pair in a variable -/
def RowP (w : World) (g : Nat) (a b : Int) : Prop := w.heap[g]? = some (.cells #[.int .i64 a, .int .i64 b] 87 (0, 0))
theorem RowP.lt {w : World} {g : Nat} {a b : Int} (h : RowP w g a b) : g < w.heap.size := (Array.getElem?_eq_some_iff.1 h).1
theorem RowP.below {w w' : World} {g : Nat} {a b : Int} (h : RowP w g a b) (hb : Below w.heap.size w w') : RowP w' g a b := (hb.block g h.lt).trans h
theorem RowP.new (w : World) (a b : Int) : RowP (w.alloc (.cells #[.int .i64 a, .int .i64 b] 87)) w.heap.size a b := heap_alloc_new w _
theorem RowP.cells {w : World} {g : Nat} {a b : Int} (h : RowP w g a b) : ∀ j u, [Value.int .i64 a, Value.int .i64 b][j]? = some u → w.cell? ((⟨g, 0, none⟩ : Addr).add j) = some u := fun j u hu => by
  rw [wk.add_at, Nat.zero_add, cell_of_row _ _ _ _ _ _ h]
  simpa using hu
theorem RowP.c0 {w : World} {g : Nat} {a b : Int} (h : RowP w g a b) : w.cell? ⟨g, 0, none⟩ = some (.int .i64 a) := by rw [cell_of_row _ _ _ _ _ _ h]; rfl
theorem RowP.c1 {w : World} {g : Nat} {a b : Int} (h : RowP w g a b) : w.cell? ⟨g, 1, none⟩ = some (.int .i64 b) := by rw [cell_of_row _ _ _ _ _ _ h]; rfl
theorem heap3 (w : World) (a b c : Obj) : (((w.alloc a).alloc b).alloc c).heap[w.heap.size + 1 + 1]? = some c := by
  have h := heap_alloc_new ((w.alloc a).alloc b) c
  simp only [size_new] at h
  exact h
set_option maxRecDepth 100000 in
theorem only_calls (x : Int) (w : World) : Calls Try.prog 55 #[.int .i64 x] w fun e w' => e = .returned (.agg #[.int .i64 x, .int .i64 x]) ∧ Below w.heap.size w w' := by
  have HB := Lib.hid (below_new w (.cells #[.int .i64 x, .int .i64 x] 87))
  go_enter Try.func55, Try.ntmps55
  go_wp2_with fail
  exact bodyPost_ret (v := .agg #[.int .i64 x, .int .i64 x]) (results_cell_row (fn := Try.f55) rfl _ _ w.heap.size 87 #[.int .i64 x, .int .i64 x] (0, 0) _ rfl (heap_alloc_new _ _) Try.underlying87 rfl (by kernel_rfl)) rfl ⟨rfl, HB.out⟩
set_option maxRecDepth 100000 in
theorem pjoin_calls (a b c d : Int) (w : World) : Calls Try.prog 56 #[.agg #[.int .i64 a, .int .i64 b], .agg #[.int .i64 c, .int .i64 d]] w fun e w' => e = .returned (.agg #[.int .i64 (min a c), .int .i64 (max b d)]) ∧ Below w.heap.size w w' := by
  obtain ⟨x, hx⟩ : ∃ x, min a c = x := ⟨_, rfl⟩
  obtain ⟨y, hy⟩ : ∃ y, max b d = y := ⟨_, rfl⟩
  rw [hx, hy]
  have hb1 := below_new w (.cells #[.int .i64 a, .int .i64 b] 87)
  have hb2 := below_new (w.alloc (.cells #[.int .i64 a, .int .i64 b] 87)) (.cells #[.int .i64 c, .int .i64 d] 87)
  have hb3 := below_new ((w.alloc (.cells #[.int .i64 a, .int .i64 b] 87)).alloc (.cells #[.int .i64 c, .int .i64 d] 87)) (.cells #[.int .i64 x, .int .i64 y] 87)
  have HB := Lib.hid (Below.andThen (Below.andThen hb1 hb2) hb3)
  clear hb1 hb2 hb3
  go_enter Try.func56, Try.ntmps56
  go_wp2_with fail
  exact bodyPost_ret (v := .agg #[.int .i64 x, .int .i64 y]) (results_cell_row (fn := Try.f56) rfl _ _ (w.heap.size + 1 + 1) 87 #[.int .i64 x, .int .i64 y] (0, 0) _ rfl (heap3 _ _ _ _) Try.underlying87 rfl (by kernel_rfl)) rfl ⟨rfl, HB.out⟩
theorem g1p : Try.prog.eqGuardType Try.prog.depth 87 = false := by kernel_rfl
theorem g3p : Try.prog.stoodInHeld 87 = false := by kernel_rfl
theorem g2p : Try.prog.underlying 87 = some (.struct (Try.prog.fieldsOf 87)) := by kernel_rfl
theorem eq_pair (w : World) (x1 x2 y1 y2 : Int) : (Op.equalIn 10000 87 (.agg #[.int .i64 x1, .int .i64 x2]) (.agg #[.int .i64 y1, .int .i64 y2])).run Try.prog w = .ok (decide (x1 = y1 ∧ x2 = y2)) w := by
  rw [show (10000 : Nat) = 9999 + 1 from rfl, run_equalIn_agg w 9999 _ _ _ g2p g3p]
  simp only [Program.fieldsOf, Try.underlying87]
  go_simp
  by_cases h1 : x1 = y1 <;> by_cases h2 : x2 = y2 <;> simp [h1, h2]
theorem has_eq {lo hi x : Int} : decide (min lo x = lo ∧ max hi x = hi) = in1 ((lo, hi), x) := by
  unfold in1
  simp only [decide_eq_decide]
  omega
set_option maxRecDepth 100000 in
set_option maxHeartbeats 1000000 in
theorem has_calls (lo hi x : Int) (w : World) : Calls Try.prog 68 #[.agg #[.int .i64 lo, .int .i64 hi], .int .i64 x] w fun e w' => e = .returned (.bool (in1 ((lo, hi), x))) ∧ Below w.heap.size w w' := by
  have hb0 := below_new w (.cells #[.int .i64 lo, .int .i64 hi] 87)
  have hr0 := RowP.new w lo hi
  rw [← has_eq]
  have hlt := hr0.lt
  have HB0 := Lib.hid hb0
  have HR := Lib.hid hr0
  clear hb0 hr0
  go_enter Try.func68, Try.ntmps68
  go_wp2_with fail
  generalize hG : w.heap.size = G at *
  generalize w.alloc (.cells #[.int .i64 lo, .int .i64 hi] 87) = w0 at *
  refine wk.region_tailS 7 [.is (.agg #[.int .i64 lo, .int .i64 hi]), .is (.int .i64 x), .is (.agg #[.int .i64 x, .int .i64 x]), .is (.agg #[.int .i64 (min lo x), .int .i64 (max hi x)]), .is (.agg #[.int .i64 lo, .int .i64 hi]), .is (.bool (decide (min lo x = lo ∧ max hi x = hi))), .is (.bool (decide (min lo x = lo ∧ max hi x = hi)))] [some 5, some 6, some 7, some 8, some 9, some 10, some 4] (by kernel_rfl) (by kernel_rfl) (by kernel_rfl) (by kernel_rfl) [] (by kernel_rfl) (by intro p hp; cases hp) (by kernel_rfl) (by kernel_rfl) ?hstep ?hdone
  case hstep =>
    intro i o ho hi hns E w4 hb4 D
    have hi2 : i = 0 ∨ i = 1 ∨ i = 2 ∨ i = 3 ∨ i = 4 ∨ i = 5 ∨ i = 6 := by omega
    clear hi
    rcases hi2 with rfl | rfl | rfl | rfl | rfl | rfl | rfl
    ·
      have ho2 := (Array.getElem?_eq_some_iff.1 ho).2
      simp only [List.getElem_toArray, List.getElem_cons_zero] at ho2
      subst ho2
      clear ho
      have e2 := D.old 2 (by kernel_rfl)
      exact wk.does_load_agg rfl (show E (.tmp 2) = .pointer (some ⟨G, 0, none⟩) by rw [e2]; rfl) (cs := [.int .i64 lo, .int .i64 hi]) ((HR.out.below ((Below.refl _ _).drew.trans hb4)).cells) Try.underlying87 rfl (by kernel_rfl) rfl
    ·
      have ho2 := (Array.getElem?_eq_some_iff.1 ho).2
      simp only [List.getElem_toArray, List.getElem_cons_succ, List.getElem_cons_zero] at ho2
      subst ho2
      clear ho
      have e1 := D.old 1 (by kernel_rfl)
      exact wk.does_move rfl (by rw [e1]; rfl)
    ·
      have ho2 := (Array.getElem?_eq_some_iff.1 ho).2
      simp only [List.getElem_toArray, List.getElem_cons_succ, List.getElem_cons_zero] at ho2
      subst ho2
      clear ho
      have e6 := D.is { on := 1, ground := .data } (by simp) rfl rfl 6 rfl
      refine wk.does_fn (f := 55) (vs := #[.int .i64 x]) rfl (D.fn _) (by simp [e6]) (by go_simp) ?_
      refine (only_calls x w4).mono ?_
      rintro e w7 ⟨rfl, hb7⟩
      exact ⟨_, rfl, hb7, rfl⟩
    ·
      have ho2 := (Array.getElem?_eq_some_iff.1 ho).2
      simp only [List.getElem_toArray, List.getElem_cons_succ, List.getElem_cons_zero] at ho2
      subst ho2
      clear ho
      have e5 := D.is { on := 0, ground := .data } (by simp) rfl rfl 5 rfl
      have e7 := D.is { on := 2, ground := .data } (by simp) rfl rfl 7 rfl
      refine wk.does_fn (f := 56) (vs := #[.agg #[.int .i64 lo, .int .i64 hi], .agg #[.int .i64 x, .int .i64 x]]) rfl (D.fn _) (by simp [e5, e7]) (by go_simp) ?_
      refine (pjoin_calls lo hi x x w4).mono ?_
      rintro e w7 ⟨rfl, hb7⟩
      exact ⟨_, rfl, hb7, rfl⟩
    ·
      have ho2 := (Array.getElem?_eq_some_iff.1 ho).2
      simp only [List.getElem_toArray, List.getElem_cons_succ, List.getElem_cons_zero] at ho2
      subst ho2
      clear ho
      have e2 := D.old 2 (by kernel_rfl)
      exact wk.does_load_agg rfl (show E (.tmp 2) = .pointer (some ⟨G, 0, none⟩) by rw [e2]; rfl) (cs := [.int .i64 lo, .int .i64 hi]) ((HR.out.below ((Below.refl _ _).drew.trans hb4)).cells) Try.underlying87 rfl (by kernel_rfl) rfl
    ·
      have ho2 := (Array.getElem?_eq_some_iff.1 ho).2
      simp only [List.getElem_toArray, List.getElem_cons_succ, List.getElem_cons_zero] at ho2
      subst ho2
      clear ho
      have e8 := D.is { on := 3, ground := .data } (by simp) rfl rfl 8 rfl
      have e9 := D.is { on := 4, ground := .data } (by simp) rfl rfl 9 rfl
      exact wk.does_eq_arr rfl e8 e9 g1p (eq_pair _ _ _ _ _) rfl
    ·
      have ho2 := (Array.getElem?_eq_some_iff.1 ho).2
      simp only [List.getElem_toArray, List.getElem_cons_succ, List.getElem_cons_zero] at ho2
      subst ho2
      clear ho
      have e10 := D.is { on := 5, ground := .data } (by simp) rfl rfl 10 rfl
      exact wk.does_assign rfl e10
  case hdone =>
    intro vals w4 hb4 hv
    have h6 := hv 6 (by omega)
    clear hv
    replace h6 : vals 6 = (.bool (decide (min lo x = lo ∧ max hi x = hi))) := h6
    simp only [List.drop_succ_cons, List.drop_zero, wpList, wk.setL, List.setIfInBounds_toArray, List.set_cons_zero, List.set_cons_succ, Nat.zero_add, Nat.reduceAdd, h6]
    generalize vals 0 = x0
    generalize vals 1 = x1
    generalize vals 2 = x2
    generalize vals 3 = x3
    generalize vals 4 = x4
    generalize vals 5 = x5
    have hb : Below w0.heap.size w0 w4 := (Below.refl _ _).drew.trans hb4
    have HB4 := Lib.hid (HB0.out.trans (hb.mono (by rw [← hG]; exact HB0.out.size)))
    clear hb hb4
    go_wp2_with fail
    go_ret
    exact ⟨rfl, by rw [hG]; exact HB4.out⟩
def notS (s : Sh) : Bool := !sok s
theorem notS_eq (s : Sh) : notS s = (decide (s.2 < s.1) || (!in1 ((0, 134217728), s.1) || !in1 ((0, 134217728), s.2))) := by
  unfold notS sok in1
  dsimp only
  by_cases h1 : s.2 < s.1
  · simp [h1]
  · simp only [decide_eq_false h1, Bool.false_or, ← decide_not, ← Bool.decide_or, decide_eq_decide]
    omega
theorem RowS.c0 {w : World} {g : Nat} {a b : Int} (h : RowS w g a b) : w.cell? ⟨g, 0, none⟩ = some (.int .i64 a) := by rw [cell_of_row _ _ _ _ _ _ h]; rfl
theorem RowS.c1 {w : World} {g : Nat} {a b : Int} (h : RowS w g a b) : w.cell? ⟨g, 1, none⟩ = some (.int .i64 b) := by rw [cell_of_row _ _ _ _ _ _ h]; rfl
set_option maxRecDepth 100000 in
set_option maxHeartbeats 1000000 in
theorem valid1_calls (s : Sh) (g : Nat) (w : World) (hg : RowP w g 0 134217728) :
    Calls Try.prog 67 #[sh s, .pointer (some ⟨g, 0, none⟩)] w fun e w' => e = .returned (.bool (notS s)) ∧ Below w.heap.size w w' := by
  obtain ⟨lo, hi⟩ := s
  rw [notS_eq]
  unfold sh
  dsimp only
  have hb0 := below_new w (.cells #[.int .i64 lo, .int .i64 hi] 65)
  have hr0 := RowS.new w lo hi
  have hp0 := hg.below hb0
  have hlt := hr0.lt
  have HB0 := Lib.hid hb0
  have HR := Lib.hid hr0
  have HP := Lib.hid hp0
  have hc0 := hr0.c0
  have hc1 := hr0.c1
  have hd0 := hp0.c0
  have hd1 := hp0.c1
  clear hb0 hr0 hg hp0
  by_cases h1 : hi < lo
  · rw [decide_eq_true h1, Bool.true_or]
    go_enter Try.func67, Try.ntmps67
    go_wp2_with fail
    go_ret
    exact ⟨rfl, HB0.out⟩
  · rw [decide_eq_false h1, Bool.false_or]
    have HL := Lib.hid (fun w' => has_calls 0 134217728 lo w')
    have HH := Lib.hid (fun w' => has_calls 0 134217728 hi w')
    generalize in1 ((0, 134217728), lo) = y1 at *
    generalize in1 ((0, 134217728), hi) = y2 at *
    go_enter Try.func67, Try.ntmps67
    go_wp2_with fail
    refine (HL.out _).mono ?_
    rintro e w1 ⟨rfl, hb1⟩
    have HB1 := Lib.hid (Below.andThen HB0.out hb1)
    have hc0' := (HR.out.below hb1).c0
    have hc1' := (HR.out.below hb1).c1
    have hd0' := (HP.out.below hb1).c0
    have hd1' := (HP.out.below hb1).c1
    clear hb1 hc0 hc1 hd0 hd1
    cases y1
    · go_wp2_with fail
      go_ret
      exact ⟨rfl, HB1.out⟩
    · go_wp2_with fail
      refine (HH.out _).mono ?_
      rintro e w2 ⟨rfl, hb2⟩
      have HB2 := Lib.hid (Below.andThen HB1.out hb2)
      clear hb2
      go_wp2_with fail
      go_ret
      exact ⟨rfl, HB2.out⟩
set_option maxRecDepth 100000 in
set_option maxHeartbeats 2000000 in
theorem idx_sh {L : List Sh} {A : Option Addr} {n c g : Nat} (w : World) (h : IsS w A n c L) (hg : RowP w g 0 134217728) :
    Calls Try.prog 89 #[.slice A n c, .func (.func 67) #[] #[.pointer (some ⟨g, 0, none⟩)]] w fun e w' => (∃ r : Int, e = .returned (.int .i64 r) ∧ decide (0 ≤ r) = L.any notS) ∧ Below w.heap.size w w' := by
  have hl := h.1
  have hm := h.2.2.1
  have hnc := h.2.1
  have H := Lib.hid h
  have HL := Lib.hid hl
  have HG := Lib.hid hg
  clear h hl hg
  go_enter Try.func89, Try.ntmps89
  go_wp2_with fail
  go_loopg [8] n (fun gk x wr => ∃ k : Nat, k + gk = n ∧ x = .int .i64 (k : Int) ∧ Below w.heap.size w wr ∧ (L.take k).any notS = false)
  case atStart => exact ⟨0, by omega, rfl, Below.refl _ _, by simp⟩
  case round =>
    obtain ⟨k, hk, rfl, hbel, hr⟩ := hrel
    have HK := Lib.hid hk
    have HR := Lib.hid hr
    have HB := Lib.hid hbel
    have hkn : k ≤ n := by omega
    clear hk hr
    by_cases hlt : k < n
    · obtain ⟨b, o, s, rfl, hc0, hc1, hb, hX, -⟩ := isS_get (isS_below H.out hbel) hlt
      have hlt0 : (k : Int) < (n : Int) := by omega
      have HC := Lib.hid (valid1_calls s g wr (HG.out.below hbel))
      have HX : Hid ((L.take (k + 1)).any notS = ((L.take k).any notS || notS s)) := by
        show _ = _
        rw [List.take_add_one, hX, List.any_append]; simp
      have HM := Lib.hid (List.mem_of_getElem? hX)
      unfold sh at HC
      clear hX hbel
      cases hx : notS s
      · rw [hx] at HC HX
        go_wp2_with fail
        refine HC.out.mono ?_
        rintro e w' ⟨rfl, hb2⟩
        have HB2 := Lib.hid (HB.out.trans (hb2.mono HB.out.size))
        clear hb2
        go_wp2_with fail
        go_roundg (gk - 1)
        case measure => have := HK.out; omega
        case rel =>
          refine ⟨k + 1, by have := HK.out; omega, by go_num, HB2.out, ?_⟩
          rw [HX.out, HR.out]; rfl
      · rw [hx] at HC
        go_wp2_with fail
        refine HC.out.mono ?_
        rintro e w' ⟨rfl, hb2⟩
        have HB2 := Lib.hid (HB.out.trans (hb2.mono HB.out.size))
        clear hb2
        go_wp2_with fail
        go_ret
        refine ⟨⟨k, rfl, ?_⟩, HB2.out⟩
        have h1 : L.any notS = true := by
          rw [List.any_eq_true]
          exact ⟨s, HM.out, hx⟩
        rw [h1]; simp
    · obtain rfl : k = n := by omega
      have hall : L.any notS = false := by
        have := HR.out
        rw [List.take_of_length_le (by have := HL.out; omega)] at this
        exact this
      have HALL := Lib.hid hall
      clear hall hbel
      go_wp2_with fail
      go_ret
      exact ⟨⟨-1, rfl, by rw [HALL.out]; rfl⟩, HB.out⟩
set_option maxRecDepth 100000 in
theorem con_sh {L : List Sh} {A : Option Addr} {n c g : Nat} (w : World) (h : IsS w A n c L) (hg : RowP w g 0 134217728) :
    Calls Try.prog 66 #[.slice A n c, .func (.func 67) #[] #[.pointer (some ⟨g, 0, none⟩)]] w fun e w' => e = .returned (.bool (L.any notS)) ∧ Below w.heap.size w w' := by
  have HI := Lib.hid (idx_sh w h hg)
  clear h hg
  generalize L.any notS = al at *
  go_enter Try.func66, Try.ntmps66
  go_wp2_with fail
  refine HI.out.mono ?_
  rintro e w' ⟨⟨r, rfl, hr⟩, hb⟩
  have HB := Lib.hid hb
  clear hb
  subst hr
  go_wp2_with fail
  go_ret
  exact ⟨rfl, HB.out⟩
theorem svalid_any (L : List Sh) : svalid L = (decide (L.length ≤ 8) && !L.any notS) := by
  unfold svalid
  congr 1
  induction L with
  | nil => rfl
  | cons x l ih => simp only [List.all_cons, List.any_cons, ih, notS]; cases sok x <;> simp
set_option maxRecDepth 100000 in
theorem svalid_calls {L : List Sh} {A : Option Addr} {n c : Nat} (w : World) (h : IsS w A n c L) :
    Calls Try.prog 30 #[.slice A n c] w fun e w' => e = .returned (.bool (svalid L)) ∧ Below w.heap.size w w' := by
  have hm := h.2.2.1
  have hnc := h.2.1
  have hb0 := below_new w (.cells #[.int .i64 0, .int .i64 134217728] 87)
  have HC := Lib.hid (con_sh (g := w.heap.size) _ (isS_below h hb0) (RowP.new w 0 134217728))
  have HB0 := Lib.hid hb0
  rw [svalid_any, h.1]
  clear h hb0
  generalize L.any notS = al at *
  by_cases h8 : n ≤ 8
  · rw [decide_eq_true h8, Bool.true_and]
    go_enter Try.func30, Try.ntmps30
    go_wp2_with fail
    refine HC.out.mono ?_
    rintro e w' ⟨rfl, hb⟩
    have HB := Lib.hid (Below.andThen HB0.out hb)
    clear hb
    go_wp2_with fail
    go_ret
    exact ⟨rfl, HB.out⟩
  · rw [decide_eq_false h8, Bool.false_and]
    go_enter Try.func30, Try.ntmps30
    go_wp2_with fail
    go_ret
    exact ⟨rfl, HB0.out⟩
end Go.Proofs.Yteeianandjokaaa.pk
