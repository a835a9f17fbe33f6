/- ProjectRangesAsSpecified: its walk. -/
import Derived.Test.YtjhagfggelhpkaaDoorJm

namespace Go.Proofs.YtjhagfggelhpkaaDoor.projectRangesAsSpecified

open Go.ChangeShapes Go.WideShapes Go.ChangeAt Go.RowKit

open Go.Proofs.YtjhagfggelhpkaaDoor.jq Go.Proofs.YtjhagfggelhpkaaDoor.vk Go.Proofs.YtjhagfggelhpkaaDoor.wk Go.Proofs.YtjhagfggelhpkaaDoor.jk

set_option linter.unusedVariables false
structure E (w0 : World) (A1 A2 A3 : Option Addr) (n1 c1 n2 c2 n3 c3 : Nat) (L Va Vb : List (List Int)) (w : World) : Prop where
  lines : IsVV w A1 n1 c1 L
  va : IsVV w A2 n2 c2 Va
  vb : IsVV w A3 n3 c3 Vb
  tab : hi.TabK w
  bel : Below w0.heap.size w0 w
theorem E.next {w0 : World} {A1 A2 A3 : Option Addr} {n1 c1 n2 c2 n3 c3 : Nat} {L Va Vb : List (List Int)} {w w' : World} (h : E w0 A1 A2 A3 n1 c1 n2 c2 n3 c3 L Va Vb w) (hb : Below w.heap.size w w') : E w0 A1 A2 A3 n1 c1 n2 c2 n3 c3 L Va Vb w' :=
  ⟨isVV_below h.lines hb, isVV_below h.va hb, isVV_below h.vb hb, tab_below h.tab hb, Below.andThen h.bel hb⟩
theorem E.drew {w0 : World} {A1 A2 A3 : Option Addr} {n1 c1 n2 c2 n3 c3 : Nat} {L Va Vb : List (List Int)} {w : World} (h : E w0 A1 A2 A3 n1 c1 n2 c2 n3 c3 L Va Vb w) (q9 : Nat) : E w0 A1 A2 A3 n1 c1 n2 c2 n3 c3 L Va Vb (w.drewN q9) :=
  ⟨h.lines, h.va, h.vb, h.tab, below_drewN h.bel q9⟩
set_option maxRecDepth 100000 in
set_option maxHeartbeats 8000000 in
theorem walk (w : World) (hT : hi.TabK w) {A1 A2 A3 : Option Addr} {n1 c1 n2 c2 n3 c3 : Nat} {L Va Vb : List (List Int)} (w1 : IsVV w A1 n1 c1 L) (w2 : IsVV w A2 n2 c2 Va) (w3 : IsVV w A3 n3 c3 Vb) :
    Calls Tryd.prog 4 #[.slice A1 n1 c1, .slice A2 n2 c2, .slice A3 n3 c3] w fun e w' => e = .returned (.bool true) ∧ Below w.heap.size w w' := by
  have HE : Hid (E w A1 A2 A3 n1 c1 n2 c2 n3 c3 L Va Vb w) := ⟨w1, w2, w3, hT, Below.refl _ _⟩
  have HNL := Lib.hid w1.1
  have HNA := Lib.hid w2.1
  have HNB := Lib.hid w3.1
  have hm3 := w3.2.2.1
  have hn3 := w3.2.1
  clear w1 w2 w3 hT
  go_enter Tryd.func4, Tryd.ntmps4
  have HN := Lib.hid (fits_calls w HE.out.lines HE.out.va)
  go_wp2_with fail
  refine HN.out.mono ?_
  rintro e w' ⟨rfl, q1, rfl⟩
  replace HE := Lib.hid (HE.out.drew q1)
  generalize (w.drewN q1) = v1 at *
  clear HN
  cases hfa : (vq.allv Va 20 && validL L ((Va.headD []).length : Int))
  ·
    go_wp2_with fail
    refine (san7_calls _ HE.out.tab).mono ?_
    rintro e w' ⟨rfl, hb⟩
    have HBZ := Lib.hid (Below.andThen HE.out.bel hb)
    clear hb
    go_wp2_with fail
    go_ret
    exact ⟨rfl, HBZ.out⟩
  ·
    have HN := Lib.hid (fits_calls v1 HE.out.lines HE.out.vb)
    go_wp2_with fail
    refine HN.out.mono ?_
    rintro e w' ⟨rfl, q2, rfl⟩
    replace HE := Lib.hid (HE.out.drew q2)
    generalize (v1.drewN q2) = v2 at *
    clear HN
    cases hfb : (vq.allv Vb 20 && validL L ((Vb.headD []).length : Int))
    ·
      go_wp2_with fail
      refine (san7_calls _ HE.out.tab).mono ?_
      rintro e w' ⟨rfl, hb⟩
      have HBZ := Lib.hid (Below.andThen HE.out.bel hb)
      clear hb
      go_wp2_with fail
      go_ret
      exact ⟨rfl, HBZ.out⟩
    ·
      simp only [Bool.and_eq_true] at hfa hfb
      obtain ⟨d, hdl, hdv, h1a, h20a⟩ := vq.allv_vec hfa.1
      obtain ⟨d', hdl', hdv', h1b, h20b⟩ := vq.allv_vec hfb.1
      have hha : (Va.headD []).length = d := by cases Va with
        | nil => simp at h1a
        | cons a V => exact hdl a (by simp)
      have hhb : (Vb.headD []).length = d' := by cases Vb with
        | nil => simp at h1b
        | cons a V => exact hdl' a (by simp)
      have hF : Fit L d := valid_iff.1 (by rw [← hha]; exact hfa.2)
      have hF' : Fit L d' := valid_iff.1 (by rw [← hhb]; exact hfb.2)
      obtain rfl : d = d' := by
        have h1 := hF.l1
        have hm : L[0]'(by omega) ∈ L := List.getElem_mem _
        rw [← hF.len _ hm, hF'.len _ hm]
      have HF := Lib.hid hF
      have HDA := Lib.hid hdl
      have HDB := Lib.hid hdl'
      have HVA := Lib.hid hdv
      have HVB := Lib.hid hdv'
      have hn2a : 1 ≤ n2 := by rw [← HNA.out]; exact h1a
      have hn2b : n2 ≤ 20 := by rw [← HNA.out]; exact h20a
      have hn3a : 1 ≤ n3 := by rw [← HNB.out]; exact h1b
      have hn3b : n3 ≤ 20 := by rw [← HNB.out]; exact h20b
      have hn8 : n1 ≤ 8 := by rw [← HNL.out]; exact hF.l8
      have HIA := Lib.hid (in_of hF hdv h1a)
      have HIB := Lib.hid (in_of hF hdv' h1b)
      clear hfa hfb hdl hdl' hdv hdv' h1a h1b h20a h20b hha hhb hF hF'
      have HN := Lib.hid (of_calls v2 HE.out.lines HE.out.va HF.out hn2a (by omega) HDA.out HVA.out)
      go_wp2_with fail
      refine HN.out.mono ?_
      rintro e v3 ⟨A5, c5, rfl, hR5, hb⟩
      replace HE := Lib.hid (HE.out.next hb)
      have HX := Lib.hid hR5
      clear hR5
      clear hb
      clear HN
      have HN := Lib.hid (of_calls v3 HE.out.lines HE.out.vb HF.out hn3a (by omega) HDB.out HVB.out)
      go_wp2_with fail
      refine HN.out.mono ?_
      rintro e v4 ⟨A6, c6, rfl, hR6, hb⟩
      replace HE := Lib.hid (HE.out.next hb)
      replace HX := Lib.hid (isR_below HX.out hb)
      have HY := Lib.hid hR6
      clear hR6
      clear hb
      clear HN
      obtain ⟨b0, o0, A0, n0, c0, v0, e0, hb0, hc0, hI0, hL0⟩ := isVV_get HE.out.vb (k := 0) (by omega)
      subst e0
      rw [Nat.add_zero] at hc0
      have hvm := List.mem_of_getElem? hL0
      obtain rfl : d = n0 := by rw [← hI0.1]; exact (HDB.out v0 hvm).symm
      have HI0 := Lib.hid hI0
      have HC0 := Lib.hid hc0
      have HB0 := Lib.hid hb0
      have HVV0 := Lib.hid (HVB.out v0 hvm)
      have HL0 := Lib.hid hL0
      have hlt0 : (0 : Int) < (n3 : Int) := by omega
      have hlt0' : 0 < n3 := by omega
      clear hI0 hc0 hb0 hvm hL0
      go_wp2_with fail
      refine wk.region_tailS 14 [.is (.slice A1 n1 c1), .is (.slice A2 n2 c2), .st (fun u x => ∃ A c, x = .slice A n1 c ∧ IsR u A n1 c (ofR L Va)) (fun u u2 x h hb => by obtain ⟨A, c, h1, h2⟩ := h; exact ⟨A, c, h1, isR_below h2 hb⟩), .is (.slice A1 n1 c1), .is (.slice (some ⟨b0, o0, none⟩) n3 c3), .st (fun u x => ∃ A c, x = .slice A n1 c ∧ IsR u A n1 c (ofR L Vb)) (fun u u2 x h hb => by obtain ⟨A, c, h1, h2⟩ := h; exact ⟨A, c, h1, isR_below h2 hb⟩), .st (fun u x => ∃ A c, x = .slice A n1 c ∧ IsR u A n1 c (join (ofR L Va) (ofR L Vb))) (fun u u2 x h hb => by obtain ⟨A, c, h1, h2⟩ := h; exact ⟨A, c, h1, isR_below h2 hb⟩), .is (.slice A1 n1 c1), .is (.slice (some ⟨b0, o0, none⟩) n3 c3), .is (.pointer (some ⟨b0, o0, none⟩)), .is (.slice A0 d c0), .st (fun u x => ∃ A c, x = .slice A n1 c ∧ wo.IsI u A n1 c (apply L v0)) (fun u u2 x h hb => by obtain ⟨A, c, h1, h2⟩ := h; exact ⟨A, c, h1, isI_below h2 hb⟩), .st (fun u x => ∃ A c, x = .slice A n1 c ∧ IsR u A n1 c (join (ofR L Va) (ofR L Vb))) (fun u u2 x h hb => by obtain ⟨A, c, h1, h2⟩ := h; exact ⟨A, c, h1, isR_below h2 hb⟩), .st (fun u x => ∃ A c, x = .slice A n1 c ∧ wo.IsI u A n1 c (apply L v0)) (fun u u2 x h hb => by obtain ⟨A, c, h1, h2⟩ := h; exact ⟨A, c, h1, isI_below h2 hb⟩)] [some 28, some 29, some 30, some 31, some 32, some 33, some 34, some 35, some 36, some 37, some 38, some 39, some 9, some 10] (by kernel_rfl) (by kernel_rfl) (by kernel_rfl) (by kernel_rfl) [] (by kernel_rfl) (by intro p hp; cases hp) (by kernel_rfl) (by kernel_rfl) ?hstep ?hdone
      case hstep =>
        intro i o ho hi hns E w4 hb4 D
        have hi2 : i = 0 ∨ i = 1 ∨ i = 2 ∨ i = 3 ∨ i = 4 ∨ i = 5 ∨ i = 6 ∨ i = 7 ∨ i = 8 ∨ i = 9 ∨ i = 10 ∨ i = 11 ∨ i = 12 ∨ i = 13 := by omega
        clear hi
        rcases hi2 with rfl | rfl | rfl | rfl | rfl | rfl | rfl | rfl | rfl | rfl | rfl | rfl | rfl | rfl
        ·
          have ho2 := (Array.getElem?_eq_some_iff.1 ho).2
          simp only [List.getElem_toArray, List.getElem_cons_zero] at ho2
          subst ho2
          clear ho
          have e0 := D.old 0 (by kernel_rfl)
          exact wk.does_move rfl (by rw [e0]; rfl)
        ·
          have ho2 := (Array.getElem?_eq_some_iff.1 ho).2
          simp only [List.getElem_toArray, List.getElem_cons_succ, List.getElem_cons_zero] at ho2
          subst ho2
          clear ho
          have e1 := D.old 1 (by kernel_rfl)
          exact wk.does_move rfl (by rw [e1]; rfl)
        ·
          have ho2 := (Array.getElem?_eq_some_iff.1 ho).2
          simp only [List.getElem_toArray, List.getElem_cons_succ, List.getElem_cons_zero] at ho2
          subst ho2
          clear ho
          have e28 := D.is { on := 0, ground := .data } (by simp) rfl rfl 28 rfl
          have e29 := D.is { on := 1, ground := .data } (by simp) rfl rfl 29 rfl
          refine wk.does_fn (f := 19) (vs := #[.slice A1 n1 c1, .slice A2 n2 c2]) rfl (D.fn _) (by simp [e28, e29]) (by go_simp) ?_
          refine (refof_calls w4 (isVV_below HE.out.lines ((Below.refl _ _).drew.trans hb4 : Below v4.heap.size v4 w4)) (isVV_below HE.out.va ((Below.refl _ _).drew.trans hb4 : Below v4.heap.size v4 w4)) HF.out hn2a HDA.out HVA.out).mono ?_
          rintro e w5 ⟨A', c', rfl, hR, hb5⟩
          exact ⟨_, rfl, hb5, A', c', rfl, hR⟩
        ·
          have ho2 := (Array.getElem?_eq_some_iff.1 ho).2
          simp only [List.getElem_toArray, List.getElem_cons_succ, List.getElem_cons_zero] at ho2
          subst ho2
          clear ho
          have e0 := D.old 0 (by kernel_rfl)
          exact wk.does_move rfl (by rw [e0]; rfl)
        ·
          have ho2 := (Array.getElem?_eq_some_iff.1 ho).2
          simp only [List.getElem_toArray, List.getElem_cons_succ, List.getElem_cons_zero] at ho2
          subst ho2
          clear ho
          have e2 := D.old 2 (by kernel_rfl)
          exact wk.does_move rfl (by rw [e2]; rfl)
        ·
          have ho2 := (Array.getElem?_eq_some_iff.1 ho).2
          simp only [List.getElem_toArray, List.getElem_cons_succ, List.getElem_cons_zero] at ho2
          subst ho2
          clear ho
          have e31 := D.is { on := 3, ground := .data } (by simp) rfl rfl 31 rfl
          have e32 := D.is { on := 4, ground := .data } (by simp) rfl rfl 32 rfl
          refine wk.does_fn (f := 19) (vs := #[.slice A1 n1 c1, .slice (some ⟨b0, o0, none⟩) n3 c3]) rfl (D.fn _) (by simp [e31, e32]) (by go_simp) ?_
          refine (refof_calls w4 (isVV_below HE.out.lines ((Below.refl _ _).drew.trans hb4 : Below v4.heap.size v4 w4)) (isVV_below HE.out.vb ((Below.refl _ _).drew.trans hb4 : Below v4.heap.size v4 w4)) HF.out hn3a HDB.out HVB.out).mono ?_
          rintro e w5 ⟨A', c', rfl, hR, hb5⟩
          exact ⟨_, rfl, hb5, A', c', rfl, hR⟩
        ·
          have ho2 := (Array.getElem?_eq_some_iff.1 ho).2
          simp only [List.getElem_toArray, List.getElem_cons_succ, List.getElem_cons_zero] at ho2
          subst ho2
          clear ho
          have s30 := D.st { on := 2, ground := .data } (by simp) rfl rfl 30 rfl
          have s33 := D.st { on := 5, ground := .data } (by simp) rfl rfl 33 rfl
          obtain ⟨Aa, ca, ea, hRa⟩ := s30
          obtain ⟨Ab, cb, eb, hRb⟩ := s33
          refine wk.does_fn (f := 18) (vs := #[.slice Aa n1 ca, .slice Ab n1 cb]) rfl (D.fn _) (by simp [ea, eb]) (by go_simp) ?_
          refine (refjoin_calls w4 hRa hRb (by omega)).mono ?_
          rintro e w5 ⟨v', rfl, ho, hb5⟩
          obtain ⟨A', c', rfl, hR⟩ := isR_of_own ho (join_wd hRa.2.2.2.2 hRb.2.2.2.2)
          exact ⟨_, rfl, hb5, A', c', rfl, hR⟩
        ·
          have ho2 := (Array.getElem?_eq_some_iff.1 ho).2
          simp only [List.getElem_toArray, List.getElem_cons_succ, List.getElem_cons_zero] at ho2
          subst ho2
          clear ho
          have e0 := D.old 0 (by kernel_rfl)
          exact wk.does_move rfl (by rw [e0]; rfl)
        ·
          have ho2 := (Array.getElem?_eq_some_iff.1 ho).2
          simp only [List.getElem_toArray, List.getElem_cons_succ, List.getElem_cons_zero] at ho2
          subst ho2
          clear ho
          have e2 := D.old 2 (by kernel_rfl)
          exact wk.does_move rfl (by rw [e2]; rfl)
        ·
          have ho2 := (Array.getElem?_eq_some_iff.1 ho).2
          simp only [List.getElem_toArray, List.getElem_cons_succ, List.getElem_cons_zero] at ho2
          subst ho2
          clear ho
          have e36 := D.is { on := 8, ground := .data } (by simp) rfl rfl 36 rfl
          exact wk.does_run (by simp only [execOp]; rw [e36, D.con]; go_simp) rfl
        ·
          have ho2 := (Array.getElem?_eq_some_iff.1 ho).2
          simp only [List.getElem_toArray, List.getElem_cons_succ, List.getElem_cons_zero] at ho2
          subst ho2
          clear ho
          have e37 := D.is { on := 9, ground := .data } (by simp) rfl rfl 37 rfl
          exact wk.does_load1 rfl e37 ((Below.cell (p := ⟨_, _, none⟩) ((Below.refl _ _).drew.trans hb4 : Below v4.heap.size v4 w4) HB0.out).trans HC0.out) Tryd.underlying24 rfl rfl
        ·
          have ho2 := (Array.getElem?_eq_some_iff.1 ho).2
          simp only [List.getElem_toArray, List.getElem_cons_succ, List.getElem_cons_zero] at ho2
          subst ho2
          clear ho
          have e35 := D.is { on := 7, ground := .data } (by simp) rfl rfl 35 rfl
          have e38 := D.is { on := 10, ground := .data } (by simp) rfl rfl 38 rfl
          refine wk.does_fn (f := 20) (vs := #[.slice A1 n1 c1, .slice A0 d c0]) rfl (D.fn _) (by simp [e35, e38]) (by go_simp) ?_
          refine (refapply_calls w4 (isVV_below HE.out.lines ((Below.refl _ _).drew.trans hb4 : Below v4.heap.size v4 w4)) (isI_below HI0.out ((Below.refl _ _).drew.trans hb4 : Below v4.heap.size v4 w4)) HF.out HVV0.out).mono ?_
          rintro e w5 ⟨v', rfl, ho, hb5⟩
          obtain ⟨A', c', rfl, hI⟩ := apply_is HF.out HVV0.out ho
          exact ⟨_, rfl, hb5, A', c', rfl, hI⟩
        ·
          have ho2 := (Array.getElem?_eq_some_iff.1 ho).2
          simp only [List.getElem_toArray, List.getElem_cons_succ, List.getElem_cons_zero] at ho2
          subst ho2
          clear ho
          have s34 := D.st { on := 6, ground := .data } (by simp) rfl rfl 34 rfl
          exact wk.does_assign rfl s34
        ·
          have ho2 := (Array.getElem?_eq_some_iff.1 ho).2
          simp only [List.getElem_toArray, List.getElem_cons_succ, List.getElem_cons_zero] at ho2
          subst ho2
          clear ho
          have s39 := D.st { on := 11, ground := .data } (by simp) rfl rfl 39 rfl
          exact wk.does_assign rfl s39
      case hdone =>
        intro vals w4 hb4 hv
        have h12 := hv 12 (by omega)
        have h13 := hv 13 (by omega)
        clear hv
        simp only [List.drop_succ_cons, List.drop_zero, wpList, wk.setL, List.setIfInBounds_toArray, List.set_cons_zero, List.set_cons_succ, Nat.zero_add, Nat.reduceAdd]
        generalize vals 0 = x0
        generalize vals 1 = x1
        generalize vals 2 = x2
        generalize vals 3 = x3
        generalize vals 4 = x4
        generalize vals 5 = x5
        generalize vals 6 = x6
        generalize vals 7 = x7
        generalize vals 8 = x8
        generalize vals 9 = x9
        generalize vals 10 = x10
        generalize vals 11 = x11
        generalize vals 12 = x12 at *
        generalize vals 13 = x13 at *
        obtain ⟨A8, c8, rfl, hJ8⟩ := h12
        obtain ⟨A9, c9, rfl, hS9⟩ := h13
        replace HE := Lib.hid (HE.out.next ((Below.refl _ _).drew.trans hb4 : Below v4.heap.size v4 w4))
        replace HX := Lib.hid (isR_below HX.out ((Below.refl _ _).drew.trans hb4 : Below v4.heap.size v4 w4))
        replace HY := Lib.hid (isR_below HY.out ((Below.refl _ _).drew.trans hb4 : Below v4.heap.size v4 w4))
        have HJ := Lib.hid hJ8
        have HS := Lib.hid hS9
        clear hb4 hJ8 hS9
        go_wp2_with fail
        refine (san7_calls _ HE.out.tab).mono ?_
        rintro e v5 ⟨rfl, hb⟩
        replace HE := Lib.hid (HE.out.next hb)
        replace HX := Lib.hid (isR_below HX.out hb)
        replace HY := Lib.hid (isR_below HY.out hb)
        replace HJ := Lib.hid (isR_below HJ.out hb)
        replace HS := Lib.hid (isI_below HS.out hb)
        clear hb
        have HN := Lib.hid (refof_calls v5 HE.out.lines HE.out.va HF.out hn2a HDA.out HVA.out)
        go_wp2_with fail
        refine HN.out.mono ?_
        rintro e v6 ⟨A7, c7, rfl, hR7, hb⟩
        replace HE := Lib.hid (HE.out.next hb)
        replace HX := Lib.hid (isR_below HX.out hb)
        replace HY := Lib.hid (isR_below HY.out hb)
        replace HJ := Lib.hid (isR_below HJ.out hb)
        replace HS := Lib.hid (isI_below HS.out hb)
        have H7 := Lib.hid hR7
        clear hR7
        clear hb
        clear HN
        have HN := Lib.hid (rsame_calls v6 HX.out H7.out)
        go_wp2_with fail
        refine HN.out.mono ?_
        rintro e w' ⟨rfl, q7, rfl⟩
        replace HE := Lib.hid (HE.out.drew q7)
        replace HX := Lib.hid (isR_drewN HX.out q7)
        replace HY := Lib.hid (isR_drewN HY.out q7)
        replace HJ := Lib.hid (isR_drewN HJ.out q7)
        replace HS := Lib.hid (isI_drewN HS.out q7)
        generalize (v6.drewN q7) = v7 at *
        rw [beq_self_eq_true]
        clear H7
        clear HN
        have HN := Lib.hid (pjoin_calls v7 HX.out HY.out (by omega))
        go_wp2_with fail
        refine HN.out.mono ?_
        rintro e v8 ⟨v7, rfl, ho, hb⟩
        replace HE := Lib.hid (HE.out.next hb)
        replace HX := Lib.hid (isR_below HX.out hb)
        replace HY := Lib.hid (isR_below HY.out hb)
        replace HJ := Lib.hid (isR_below HJ.out hb)
        replace HS := Lib.hid (isI_below HS.out hb)
        obtain ⟨A7, c7, rfl, hR7⟩ := isR_of_own ho (join_wd HX.out.2.2.2.2 HY.out.2.2.2.2)
        have H7 := Lib.hid hR7
        clear hR7 ho
        clear hb
        clear HN
        have HN := Lib.hid (rsame_calls v8 H7.out HJ.out)
        go_wp2_with fail
        refine HN.out.mono ?_
        rintro e w' ⟨rfl, q9, rfl⟩
        replace HE := Lib.hid (HE.out.drew q9)
        replace HX := Lib.hid (isR_drewN HX.out q9)
        replace HY := Lib.hid (isR_drewN HY.out q9)
        replace HJ := Lib.hid (isR_drewN HJ.out q9)
        replace HS := Lib.hid (isI_drewN HS.out q9)
        generalize (v8.drewN q9) = v9 at *
        rw [beq_self_eq_true]
        clear H7
        clear HN
        obtain ⟨b1, o1, A10, n10, c10, v1', e1, hb1, hc1, hI1, hL1⟩ := isVV_get HE.out.vb (k := 0) (by omega)
        cases e1
        rw [Nat.add_zero] at hc1
        obtain rfl := Option.some.inj (HL0.out.symm.trans hL1)
        obtain rfl : n10 = d := by rw [← hI1.1, ← HI0.out.1]
        have HN := Lib.hid (apply_calls v9 HE.out.lines hI1 HF.out HVV0.out)
        go_wp2_with fail
        refine HN.out.mono ?_
        rintro e v10 ⟨v7, rfl, ho, hb⟩
        replace HE := Lib.hid (HE.out.next hb)
        replace HX := Lib.hid (isR_below HX.out hb)
        replace HY := Lib.hid (isR_below HY.out hb)
        replace HJ := Lib.hid (isR_below HJ.out hb)
        replace HS := Lib.hid (isI_below HS.out hb)
        obtain ⟨A11, c11, rfl, hI11⟩ := apply_is HF.out HVV0.out ho
        have H11 := Lib.hid hI11
        clear hI11 ho hc1 hb1 hL1 hI1
        clear hb
        clear HN
        have HN := Lib.hid (same_calls A11 A9 n1 n1 c11 c9 _ _ v10 H11.out HS.out)
        go_wp2_with fail
        refine HN.out.mono ?_
        rintro e w' ⟨rfl, q11, rfl⟩
        replace HE := Lib.hid (HE.out.drew q11)
        replace HX := Lib.hid (isR_drewN HX.out q11)
        replace HY := Lib.hid (isR_drewN HY.out q11)
        replace HJ := Lib.hid (isR_drewN HJ.out q11)
        replace HS := Lib.hid (isI_drewN HS.out q11)
        generalize (v10.drewN q11) = v11 at *
        rw [beq_self_eq_true]
        clear H11
        clear HN
        have HN := Lib.hid (has_calls v11 HX.out HS.out)
        go_wp2_with fail
        refine HN.out.mono ?_
        rintro e w' ⟨rfl, q12, rfl⟩
        replace HE := Lib.hid (HE.out.drew q12)
        replace HX := Lib.hid (isR_drewN HX.out q12)
        replace HY := Lib.hid (isR_drewN HY.out q12)
        replace HJ := Lib.hid (isR_drewN HJ.out q12)
        replace HS := Lib.hid (isI_drewN HS.out q12)
        generalize (v11.drewN q12) = v12 at *
        clear HN
        have HN := Lib.hid (refhas_calls v12 HX.out HS.out)
        go_wp2_with fail
        refine HN.out.mono ?_
        rintro e w' ⟨rfl, q13, rfl⟩
        replace HE := Lib.hid (HE.out.drew q13)
        replace HX := Lib.hid (isR_drewN HX.out q13)
        replace HY := Lib.hid (isR_drewN HY.out q13)
        replace HJ := Lib.hid (isR_drewN HJ.out q13)
        replace HS := Lib.hid (isI_drewN HS.out q13)
        generalize (v12.drewN q13) = v13 at *
        clear HN
        generalize has (ofR L Va) (apply L v0) = hb9 at *
        have HIJ := Lib.hid (in_join HIA.out HIB.out)
        have HN := Lib.hid (widest_calls v13 HJ.out (fun x hx => by have := HIJ.out x hx; unfold In at this; omega))
        go_wp2_with fail
        refine HN.out.mono ?_
        rintro e w' ⟨rfl, q14, rfl⟩
        replace HE := Lib.hid (HE.out.drew q14)
        replace HX := Lib.hid (isR_drewN HX.out q14)
        replace HY := Lib.hid (isR_drewN HY.out q14)
        replace HJ := Lib.hid (isR_drewN HJ.out q14)
        replace HS := Lib.hid (isI_drewN HS.out q14)
        generalize (v13.drewN q14) = v14 at *
        clear HN
        have HN := Lib.hid (refwidest_calls v14 HJ.out (fun x hx => by have := HIJ.out x hx; unfold In at this; omega) (by have := HF.out.l1; have := HNL.out; omega))
        go_wp2_with fail
        refine HN.out.mono ?_
        rintro e w' ⟨rfl, q15, rfl⟩
        replace HE := Lib.hid (HE.out.drew q15)
        replace HX := Lib.hid (isR_drewN HX.out q15)
        replace HY := Lib.hid (isR_drewN HY.out q15)
        replace HJ := Lib.hid (isR_drewN HJ.out q15)
        replace HS := Lib.hid (isI_drewN HS.out q15)
        generalize (v14.drewN q15) = v15 at *
        clear HN
        go_wp2_with fail
        go_ret
        exact ⟨by simp, HE.out.bel⟩
end Go.Proofs.YtjhagfggelhpkaaDoor.projectRangesAsSpecified
