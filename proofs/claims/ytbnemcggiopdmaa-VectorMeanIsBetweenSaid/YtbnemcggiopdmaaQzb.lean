/- VectorMeanIsBetween: its walk. -/
import Derived.Test.YtbnemcggiopdmaaQza

import Derived.Test.YtbnemcggiopdmaaQx

import Derived.Deep.RegionLaw

import Derived.Lib.MinMax

namespace Go.Proofs.Ytbnemcggiopdmaa.vectorMeanIsBetween

open Go.ChangeShapes Go.WideShapes Go.ChangeAt Go.RowKit

open Go.Proofs.Ytbnemcggiopdmaa.vk

set_option linter.unusedVariables false
theorem infoSl : (Try.prog.info? 22).map (fun i => (i.zero, i.size, i.bytes)) = some (some (.slice none 0 0), 1, 24) := by kernel_rfl
theorem vs_of {w : World} {b o n c : Nat} {L : List (List Int)} (h : IsVV w (some ⟨b, o, none⟩) n c L) : ∃ vs : List Value, vs.length = n ∧ ∀ i v, vs[i]? = some v → b < w.heap.size ∧ w.cell? ⟨b, o + i, none⟩ = some v ∧ ∃ A' n' c' l, v = .slice A' n' c' ∧ L[i]? = some l ∧ wo.IsI w A' n' c' l := by
  refine wo.exists_list n fun i hi => ?_
  obtain ⟨b', o', A', n', c', l, e, hb, hc, hI, hL⟩ := isVV_get h hi
  cases e
  exact ⟨_, hb, hc, A', n', c', l, rfl, hL, hI⟩
theorem isVV_of_own {w : World} {B n : Nat} {v : Value} {vs : List Value} {M : List (List Int)} {e : TypeId} (h : w.ownsRow B e 1 v n vs) (hn : 1 ≤ n) (hM : M.length = n) (he : ∀ (i : Nat) (u : Value), vs[i]? = some u → ∃ (A' : Option Addr) (n' c' : Nat) (l : List Int), u = .slice A' n' c' ∧ M[i]? = some l ∧ wo.IsI w A' n' c' l) : ∃ A c, v = .slice A n c ∧ IsVV w A n c M := by
  have hvl : vs.length = n := by have := h.1; omega
  obtain ⟨A, c, rfl, h1, h2, hR⟩ := wp.RC.of_own h
  refine ⟨A, c, rfl, hM, h1, by unfold maxLen at h2; omega, fun i l hl => ?_⟩
  obtain ⟨b, o, hA, hb, hc⟩ := hR (by omega)
  have hi : i < vs.length := by
    rcases Nat.lt_or_ge i M.length with h' | h'
    · omega
    · rw [List.getElem?_eq_none h'] at hl; cases hl
  have hu : vs[i]? = some vs[i] := List.getElem?_eq_getElem hi
  obtain ⟨A', n', c', l', e1, e2, e3⟩ := he i _ hu
  rw [hl] at e2; cases e2
  rw [e1] at hu
  exact ⟨b, o, A', n', c', hA, hb, hc i _ hu, e3⟩
theorem turn_at {vs : List Value} {L : List (List Int)} {n k : Nat} (hv : vs.length = n) (hL : L.length = n) {Q : Value → List Int → Prop} (h : ∀ (i : Nat) (u : Value), vs[i]? = some u → ∃ l, L[i]? = some l ∧ Q u l) : ∀ (i : Nat) (u : Value), (vs.drop k ++ vs.take k)[i]? = some u → ∃ l, (L.drop k ++ L.take k)[i]? = some l ∧ Q u l := by
  intro i u hu
  rcases Nat.lt_or_ge i (n - k) with hi | hi
  · rw [List.getElem?_append_left (by rw [List.length_drop]; omega), List.getElem?_drop] at hu ⊢
    exact h _ u hu
  · rw [List.getElem?_append_right (by rw [List.length_drop]; omega), List.length_drop, List.getElem?_take] at hu ⊢
    rw [hv] at hu
    rw [hL]
    split at hu
    · rw [if_pos (by assumption)]; exact h _ u hu
    · cases hu
theorem turn_mem {L : List (List Int)} {k : Nat} {l : List Int} (h : l ∈ L.drop k ++ L.take k) : l ∈ L := by
  rcases List.mem_append.1 h with h | h
  · exact List.mem_of_mem_drop h
  · exact List.mem_of_mem_take h
theorem isVV_new3 {w : World} {A1 : Option Addr} {n1 c1 : Nat} {l1 : List Int} (h1 : wo.IsI w A1 n1 c1 l1) (t : TypeId) : IsVV (w.alloc (.cells #[.slice A1 n1 c1, .slice A1 n1 c1, .slice A1 n1 c1] t)) (some ⟨w.heap.size, 0, none⟩) 3 3 [l1, l1, l1] := by
  refine ⟨rfl, Nat.le_refl _, by omega, fun k l hk => ?_⟩
  have hc := wk.cells_new w [.slice A1 n1 c1, .slice A1 n1 c1, .slice A1 n1 c1] t
  have hkl : k < 3 := by
    rcases Nat.lt_or_ge k 3 with h | h
    · exact h
    · rw [List.getElem?_eq_none (by simpa using h)] at hk; cases hk
  have hl : l = l1 := by
    have : l ∈ [l1, l1, l1] := List.mem_of_getElem? hk
    simp at this; exact this
  subst hl
  have h := hc k (.slice A1 n1 c1) (by match k, hkl with
    | 0, _ => rfl
    | 1, _ => rfl
    | 2, _ => rfl)
  rw [wk.add_at] at h
  exact ⟨_, _, A1, n1, c1, rfl, by rw [size_new]; omega, h, isI_below h1 (below_new _ _)⟩
theorem run_from (w' : World) (b o n c k : Nat) (hk : k < n) (hc : n ≤ c) : (Instr.slice 31 (.slice (some ⟨b, o, none⟩) n c) (some (.int .i64 (k : Int))) none none).run Try.prog w' = .ok (.slice (some ⟨b, o + k, none⟩) (n - k) (c - k)) w' := by
  have ht : Try.prog.underlying 31 = some (.slice (Try.prog.elem 31)) := by simp [Program.elem, Try.underlying31]
  have he : Try.prog.elem 31 = 22 := by simp [Program.elem, Try.underlying31]
  rw [run_slice_l w' 31 (some ⟨b, o, none⟩) n c ht .i64 (k : Int) (by omega) (by omega), he, wk.run_sizeOf w' 22 1 infoV]
  simp only [Result.andThen, sliced, Int.toNat_natCast, if_neg (show ¬ c - k = 0 by omega), Option.map_some, wk.add_at, Nat.mul_one]
  rw [if_neg (by omega)]
theorem run_upto (w' : World) (b o n c k : Nat) (hk : k < n) (hc : n ≤ c) : (Instr.slice 31 (.slice (some ⟨b, o, none⟩) n c) none (some (.int .i64 (k : Int))) none).run Try.prog w' = .ok (.slice (some ⟨b, o, none⟩) k c) w' := by
  have ht : Try.prog.underlying 31 = some (.slice (Try.prog.elem 31)) := by simp [Program.elem, Try.underlying31]
  have he : Try.prog.elem 31 = 22 := by simp [Program.elem, Try.underlying31]
  rw [run_slice_h w' 31 (some ⟨b, o, none⟩) n c ht .i64 (k : Int) (by omega) (by omega), he, wk.run_sizeOf w' 22 1 infoV]
  simp only [Result.andThen, sliced, Int.toNat_natCast, Option.map_some, wk.add_at, Nat.mul_one, Nat.sub_zero, Nat.add_zero, ite_self]
set_option maxRecDepth 100000 in
set_option maxHeartbeats 4000000 in
theorem walk (w : World) {A : Option Addr} {n c : Nat} {L : List (List Int)} {nn : Int} (h : IsVV w A n c L) (w1 : (Lit.int .u8 nn).wf = true) :
    Calls Try.prog 7 #[.slice A n c, .int .u8 nn] w fun e w' => e = .returned (.bool true) ∧ Below w.heap.size w w' := by
  have HS := Lib.hid (fun w' => sanity_calls w')
  have hnn : 0 ≤ nn ∧ nn ≤ 255 := by simpa [Lit.wf, IntKind.min, IntKind.max, IntKind.signed, IntKind.bits] using w1
  clear w1
  have HALL := Lib.hid (rall_calls A n c L w h)
  cases hal : vq.allv L 20
  · rw [hal] at HALL
    clear h hal
    go_enter Try.func7, Try.ntmps7
    go_wp2_with fail
    refine HALL.out.mono ?_
    rintro e w' ⟨rfl, q5, rfl⟩
    have HB5 := Lib.hid (below_drewN (Below.refl w.heap.size w) q5)
    go_wp2_with fail
    generalize w.drewN q5 = w5 at *
    refine (HS.out _).mono ?_
    rintro e w6 ⟨rfl, hb6⟩
    have HB6 := Lib.hid (HB5.out.trans (hb6.mono HB5.out.size))
    clear hb6
    go_wp2_with fail
    go_ret
    exact ⟨rfl, HB6.out⟩
  rw [hal] at HALL
  obtain ⟨d, hd, hv, hl1, hl20⟩ := vq.allv_vec hal
  have hLn := h.1
  have hnc := h.2.1
  have hcm := h.2.2.1
  obtain ⟨b, o, A0, d0, c0, l0, rfl, hb0, hc0, hI0, hL0⟩ := isVV_get h (k := 0) (by omega)
  have hn1 : 1 ≤ n := by omega
  have hn20 : n ≤ 20 := by omega
  clear hb0 hc0 hI0 hL0 A0 d0 c0 l0
  have HD := Lib.hid hd
  have HVC := Lib.hid hv
  have HLN := Lib.hid hLn
  have HV0 := Lib.hid h
  clear h hd hv hLn hal hl1 hl20
  go_enter Try.func7, Try.ntmps7
  go_wp2_with fail
  refine HALL.out.mono ?_
  rintro e w' ⟨rfl, q5, rfl⟩
  have HB := Lib.hid (below_drewN (Below.refl w.heap.size w) q5)
  have HV := Lib.hid (isVV_drewN HV0.out q5)
  clear HALL HV0
  go_wp2_with fail
  change Hid (Below w.heap.size w (w.drewN q5)) at HB
  generalize w.drewN q5 = w5 at *
  have HME := Lib.hid (fun w' (hb : Below w5.heap.size w5 w') => mean_calls (some ⟨b, o, none⟩) n c d L w' (isVV_below HV.out hb) HD.out HVC.out hn1 (by omega))
  obtain ⟨k, hk, hkn⟩ : ∃ k : Nat, nn % (n : Int) = (k : Int) ∧ k < n := ⟨(nn % (n : Int)).toNat, by rw [Int.toNat_of_nonneg (Int.emod_nonneg _ (by omega))], by have := Int.emod_lt_of_pos nn (show (0 : Int) < n by omega); have := Int.emod_nonneg nn (show (n : Int) ≠ 0 by omega); omega⟩
  refine wk.region_tailS 9 [.is (.slice (some ⟨b, o, none⟩) n c), .st (fun u x => ∃ A c, x = .slice A d c ∧ wo.IsI u A d c (vq.mean L)) (fun u u2 x h hb => by obtain ⟨A, c, rfl, hi⟩ := h; exact ⟨A, c, rfl, isI_below hi hb⟩), .is (.int .u8 nn), .is (.int .i64 nn), .is (.slice (some ⟨b, o, none⟩) n c), .is (.int .i64 n), .is (.int .i64 (k : Int)), .st (fun u x => ∃ A c, x = .slice A d c ∧ wo.IsI u A d c (vq.mean L)) (fun u u2 x h hb => by obtain ⟨A, c, rfl, hi⟩ := h; exact ⟨A, c, rfl, isI_below hi hb⟩), .is (.int .i64 (k : Int))] [some 17, some 18, some 19, some 20, some 21, some 22, some 23, some 5, some 6] (by kernel_rfl) (by kernel_rfl) (by kernel_rfl) (by kernel_rfl) [] (by kernel_rfl) (by intro p hp; cases hp) (by kernel_rfl) (by kernel_rfl) ?hstep ?hdone
  case hstep =>
    intro i o ho hi hns E w6 hb4 D
    have hi2 : i = 0 ∨ i = 1 ∨ i = 2 ∨ i = 3 ∨ i = 4 ∨ i = 5 ∨ i = 6 ∨ i = 7 ∨ i = 8 := by omega
    clear hi
    rcases hi2 with rfl | rfl | rfl | rfl | rfl | rfl | rfl | rfl | rfl
    ·
      have ho2 := (Array.getElem?_eq_some_iff.1 ho).2
      simp only [List.getElem_toArray, List.getElem_cons_zero] at ho2
      subst ho2
      clear ho
      have e0 := D.old 0 (by kernel_rfl)
      exact wk.does_move rfl (by rw [e0]; rfl)
    ·
      have ho2 := (Array.getElem?_eq_some_iff.1 ho).2
      simp only [List.getElem_toArray, List.getElem_cons_succ, List.getElem_cons_zero] at ho2
      subst ho2
      clear ho
      have e17 := D.is { on := 0, ground := .data } (by simp) rfl rfl 17 rfl
      refine wk.does_fn (f := 30) (vs := #[.slice (some ⟨b, o, none⟩) n c]) rfl (D.fn _) (by simp [e17]) (by go_simp) ?_
      refine (HME.out w6 ((Below.refl _ _).drew.trans hb4)).mono ?_
      rintro e w7 ⟨A7, c7, rfl, hI7, hb7⟩
      exact ⟨_, rfl, hb7, A7, c7, rfl, hI7⟩
    ·
      have ho2 := (Array.getElem?_eq_some_iff.1 ho).2
      simp only [List.getElem_toArray, List.getElem_cons_succ, List.getElem_cons_zero] at ho2
      subst ho2
      clear ho
      have e1 := D.old 1 (by kernel_rfl)
      exact wk.does_move rfl (by rw [e1]; rfl)
    ·
      have ho2 := (Array.getElem?_eq_some_iff.1 ho).2
      simp only [List.getElem_toArray, List.getElem_cons_succ, List.getElem_cons_zero] at ho2
      subst ho2
      clear ho
      have e19 := D.is { on := 2, ground := .data } (by simp) rfl rfl 19 rfl
      exact wk.does_run (by simp only [execOp, e19]; go_simp; rw [IntKind.wrap_i64]; omega) rfl
    ·
      have ho2 := (Array.getElem?_eq_some_iff.1 ho).2
      simp only [List.getElem_toArray, List.getElem_cons_succ, List.getElem_cons_zero] at ho2
      subst ho2
      clear ho
      have e0 := D.old 0 (by kernel_rfl)
      exact wk.does_move rfl (by rw [e0]; rfl)
    ·
      have ho2 := (Array.getElem?_eq_some_iff.1 ho).2
      simp only [List.getElem_toArray, List.getElem_cons_succ, List.getElem_cons_zero] at ho2
      subst ho2
      clear ho
      have e21 := D.is { on := 4, ground := .data } (by simp) rfl rfl 21 rfl
      exact wk.does_run (by simp only [execOp, resolve, invoke, List.map_toArray, List.map_cons, List.map_nil, e21]; go_simp) rfl
    ·
      have ho2 := (Array.getElem?_eq_some_iff.1 ho).2
      simp only [List.getElem_toArray, List.getElem_cons_succ, List.getElem_cons_zero] at ho2
      subst ho2
      clear ho
      have e20 := D.is { on := 3, ground := .data } (by simp) rfl rfl 20 rfl
      have e22 := D.is { on := 5, ground := .data } (by simp) rfl rfl 22 rfl
      exact wk.does_bin rfl (by rw [e20, e22]; go_simp; rw [if_neg (by omega), Int.tmod_eq_emod_of_nonneg (by omega), hk]) rfl
    ·
      have ho2 := (Array.getElem?_eq_some_iff.1 ho).2
      simp only [List.getElem_toArray, List.getElem_cons_succ, List.getElem_cons_zero] at ho2
      subst ho2
      clear ho
      have s18 := D.st { on := 1, ground := .data } (by simp) rfl rfl 18 rfl
      exact wk.does_assign rfl s18
    ·
      have ho2 := (Array.getElem?_eq_some_iff.1 ho).2
      simp only [List.getElem_toArray, List.getElem_cons_succ, List.getElem_cons_zero] at ho2
      subst ho2
      clear ho
      have e23 := D.is { on := 6, ground := .data } (by simp) rfl rfl 23 rfl
      exact wk.does_assign rfl e23
  case hdone =>
    intro vals w6 hb4 hv
    have h7 := hv 7 (by omega)
    have h8 := hv 8 (by omega)
    clear hv
    replace h8 : vals 8 = (.int .i64 (k : Int)) := h8
    simp only [List.drop_succ_cons, List.drop_zero, wpList, Act.put, wk.setL, List.setIfInBounds_toArray, List.set_cons_zero, List.set_cons_succ, Nat.zero_add, Nat.reduceAdd, h8]
    generalize vals 0 = x0
    generalize vals 1 = x1
    generalize vals 2 = x2
    generalize vals 3 = x3
    generalize vals 4 = x4
    generalize vals 5 = x5
    generalize vals 6 = x6
    generalize vals 7 = x7 at *
    have HB3 := Lib.hid (Below.andThen HB.out ((Below.refl _ _).drew.trans hb4))
    obtain ⟨A3, c3, rfl, hI3⟩ := h7
    have HI3 := Lib.hid hI3
    have HV3 := Lib.hid (isVV_below HV.out ((Below.refl _ _).drew.trans hb4))
    clear hb4 hI3 HB HV HME hk hnn
    go_wp2_with fail
    obtain ⟨vs, hvl, hvs⟩ := vs_of HV3.out
    have HVS := Lib.hid hvs
    have hcutA := fun w' => run_from w' b o n c k hkn hnc
    have hcutB := fun w' => run_upto w' b o n c k hkn hnc
    have HO0 : Hid ((w6.alloc (.cells #[] 22)).drew.ownsRow w6.heap.size 22 1 (.slice (some ⟨w6.heap.size, 0, none⟩) 0 0) 0 []) := by
      have := World.ownsRow_lit (base := w6.heap.size) (e := 22) (size := 1) w6 #[] 0 (Nat.le_refl _) (by unfold maxLen; omega) rfl
      exact this
    have HSRC : Hid (∀ w', Below w6.heap.size w6 w' → ∀ j u, vs[j]? = some u → w'.cell? ⟨b, o + j, none⟩ = some u) := fun w' hb j u hu => by
      obtain ⟨hlt, hc, _⟩ := HVS.out j u hu
      exact (hb.cell (p := ⟨b, o + j, none⟩) hlt).trans hc
    have HN1 : Hid (∀ j u, (vs.drop k)[j]? = some u → (w6.alloc (.cells #[] 22)).drew.cell? ((⟨b, o + k, none⟩ : Addr).add j) = some u) := fun j u hu => by
      rw [wk.add_at, Nat.add_assoc]
      rw [List.getElem?_drop] at hu
      exact HSRC.out _ ((Below.refl _ _).alloc (Nat.le_refl _) _).drew _ u hu
    have HN2 : Hid (∀ w', Below w6.heap.size w6 w' → ∀ j u, (vs.take k)[j]? = some u → w'.cell? ((⟨b, o, none⟩ : Addr).add j) = some u) := fun w' hb j u hu => by
      rw [wk.add_at]
      rw [List.getElem?_take] at hu
      split at hu
      · exact HSRC.out _ hb _ u hu
      · cases hu
    have HONE : Hid (∀ u ∈ vs, u.oneCell' = true) := fun u hu => by
      obtain ⟨j, hj⟩ := List.getElem?_of_mem hu
      obtain ⟨_, _, A', n', c', l, rfl, _⟩ := HVS.out j u hj
      rfl
    have HONE1 : Hid (∀ u ∈ vs.drop k, u.oneCell' = true) := fun u hu => HONE.out u (List.mem_of_mem_drop hu)
    have HONE2 : Hid (∀ u ∈ vs.take k, u.oneCell' = true) := fun u hu => HONE.out u (List.mem_of_mem_take hu)
    have HL1 : Hid ((vs.drop k).length = (n - k) * 1) := by show _ = _; rw [List.length_drop, hvl, Nat.mul_one]
    have HL2 : Hid ((vs.take k).length = k * 1) := by show _ = _; rw [List.length_take, hvl, Nat.mul_one]; omega
    have HM1 : Hid (0 + (n - k) ≤ maxLen) := by show _ ≤ _; unfold maxLen; omega
    have HM2 : Hid ((0 + (n - k)) * 24 ≤ 140737488355328) := by show _ ≤ _; omega
    have HM3 : Hid (w6.heap.size ≤ (w6.alloc (.cells #[] 22)).drew.heap.size) := by show _ ≤ _; simp
    have HM4 : Hid (0 + (n - k) + k ≤ maxLen) := by show _ ≤ _; unfold maxLen; omega
    have HM5 : Hid ((0 + (n - k) + k) * 24 ≤ 140737488355328) := by show _ ≤ _; omega
    have HBA : Hid (Below w6.heap.size w6 (w6.alloc (.cells #[] 22)).drew) := ((Below.refl _ _).alloc (Nat.le_refl _) _).drew
    obtain ⟨i0, hi, hz0, hz1, hz2⟩ := info_parts infoSl
    go_region_law (first | (rw [if_pos (by rfl)]; refine wp_append_own _ (.tmp 24) (.tmp 27) 31 rfl w6.heap.size 22 i0 (.slice none 0 0) 1 24 Try.underlying31 hi hz0 hz1 hz2 rfl (by decide) _ 0 [] rfl HO0.out ⟨b, o + k, none⟩ (n - k) (c - k) (vs.drop k) rfl HL1.out HN1.out HONE1.out HM1.out HM2.out HM3.out ?_; intro v1 w1 hown1 hgrow1 _; have B1 : Below w6.heap.size w6 w1 := HBA.out.grown hgrow1 HM3.out (fun g hg => (HO0.out.lt g hg).1)) | (rw [if_pos (by rfl)]; refine wp_append_own _ (.tmp 28) (.tmp 31) 31 rfl w6.heap.size 22 i0 (.slice none 0 0) 1 24 Try.underlying31 hi hz0 hz1 hz2 rfl (by decide) _ _ _ rfl hown1 ⟨b, o, none⟩ k c (vs.take k) rfl HL2.out (HN2.out _ B1) HONE2.out HM4.out HM5.out (by have := B1.size; omega) ?_; intro v2 w2 hown2 hgrow2 _))
    all_goals (change Exit.then _ _ Exit.normal (Act.put _ (some 7) _) _)
    all_goals (simp only [Act.put, List.setIfInBounds_toArray, List.set_cons_zero, List.set_cons_succ])
    all_goals
      have B2 : Below w6.heap.size w6 w2 := B1.grown hgrow2 (by have := B1.size; omega) (fun g hg => (hown1.lt g hg).1)
      have HM3 := Lib.hid (fun w' (hb : Below w2.heap.size w2 w') => isI_below (isI_below HI3.out (B2.mono (Nat.le_refl _))) hb)
      have HV2 := Lib.hid (isVV_below HV3.out (B2.mono (Nat.le_refl _)))
      have HB5 := Lib.hid (HB3.out.trans (B2.mono HB3.out.size))
      rw [Nat.zero_add, Nat.sub_add_cancel (Nat.le_of_lt hkn), List.nil_append] at hown2
      obtain ⟨A4, c4, rfl, hI4⟩ := isVV_of_own (M := L.drop k ++ L.take k) hown2 hn1 (by simp; have := HLN.out; omega) (fun i u hu => by
        obtain ⟨l, h1, A', n', c', h2, h3⟩ := turn_at (k := k) hvl HLN.out (Q := fun u l => ∃ A' n' c', u = .slice A' n' c' ∧ wo.IsI w2 A' n' c' l) (fun i u hu => by
          obtain ⟨_, _, A', n', c', l, e1, e2, e3⟩ := HVS.out i u hu
          exact ⟨l, e2, A', n', c', e1, isI_below e3 (B2.mono (Nat.le_refl _))⟩) i u hu
        exact ⟨A', n', c', l, h2, h1, h3⟩)
      have HMT := Lib.hid (fun w' (hb : Below w2.heap.size w2 w') => by
        have h := mean_calls A4 n c4 d (L.drop k ++ L.take k) w' (isVV_below hI4 hb) (fun l hl => HD.out l (turn_mem hl)) (fun l hl => HVC.out l (turn_mem hl)) hn1 (by omega)
        rw [vq.mean_turned k (by have := HLN.out; omega) HD.out] at h
        exact h)
      obtain ⟨b', o', A0, d0, c0, l0, e0, hb0, hc0, hI0, hL0⟩ := isVV_get HV2.out (k := 0) (by omega)
      cases e0
      rw [Nat.add_zero] at hc0
      obtain ⟨b', o', Ak, dk, ck, lk, ek, hbk, hck, hIk, hLk⟩ := isVV_get HV2.out hkn
      cases ek
      have hd0 : d0 = d := by rw [← hI0.1]; exact HD.out _ (List.mem_of_getElem? hL0)
      have hdk : dk = d := by rw [← hIk.1]; exact HD.out _ (List.mem_of_getElem? hLk)
      rw [hd0] at hc0 hI0
      rw [hdk] at hck hIk
      have HC0 := Lib.hid (fun w' (hb : Below w2.heap.size w2 w') => (hb.cell (p := ⟨b, o, none⟩) hb0).trans hc0)
      have HCK := Lib.hid (fun w' (hb : Below w2.heap.size w2 w') => (hb.cell (p := ⟨b, o + k, none⟩) hbk).trans hck)
      have HIK := Lib.hid (fun w' (hb : Below w2.heap.size w2 w') => isI_below hIk hb)
      have HMK := Lib.hid (fun A8 w' (hi : IsVV w' A8 3 3 [lk, lk, lk]) => by
        have h := mean_calls A8 3 3 lk.length [lk, lk, lk] w' hi (by intro l hl; simp at hl; rw [hl]) (by intro l hl; simp at hl; rw [hl]; exact HVC.out _ (List.mem_of_getElem? hLk)) (by omega) (by omega)
        rw [vq.mean_same, hIk.1] at h
        exact h)
      have hvm := vq.mean_vec (by have := HLN.out; omega) HD.out HVC.out
      have HAL := Lib.hid (fun w' (hb : Below w2.heap.size w2 w') => by
        have h := alike_calls A3 A0 d d c3 c0 (vq.mean L) l0 w' (HM3.out _ hb) (isI_below hI0 hb)
        rw [vq.alike_iff.2 ⟨by rw [vq.mean_length (by have := HLN.out; omega) HD.out, hI0.1], hvm, HVC.out _ (List.mem_of_getElem? hL0)⟩] at h
        exact h)
      clear hI4 hI0 hIk hc0 hck hL0 hLk hvm hown2 hgrow2 hown1 hgrow1 hvl
      have hn0' : (0 : Int) < (n : Int) := by omega
      have hkn' : (k : Int) < (n : Int) := by omega
      go_wp2_with fail
      refine wk.region_tailS 35 [.is (.slice A3 d c3), .is (.slice (some ⟨b, o, none⟩) n c), .is (.pointer (some ⟨b, o, none⟩)), .is (.slice A0 d c0), .is (.bool true), .is (.bool false), .is (.bool false), .is (.slice A3 d c3), .is (.slice A4 n c4), .st (fun u x => ∃ A c, x = .slice A d c ∧ wo.IsI u A d c (vq.mean L)) (fun u u2 x h hb => by obtain ⟨A, c, rfl, hi⟩ := h; exact ⟨A, c, rfl, isI_below hi hb⟩), .is (.bool true), .is (.bool false), .is (.bool false), .is (.bool false), .is (.slice (some ⟨b, o, none⟩) n c), .is (.int .i64 (k : Int)), .is (.pointer (some ⟨b, o + k, none⟩)), .is (.slice Ak d ck), .is (.slice (some ⟨b, o, none⟩) n c), .is (.int .i64 (k : Int)), .is (.pointer (some ⟨b, o + k, none⟩)), .is (.slice Ak d ck), .is (.slice (some ⟨b, o, none⟩) n c), .is (.int .i64 (k : Int)), .is (.pointer (some ⟨b, o + k, none⟩)), .is (.slice Ak d ck), .st (fun u x => ∃ A, x = .slice A 3 3 ∧ IsVV u A 3 3 [lk, lk, lk]) (fun u u2 x h hb => by obtain ⟨A, rfl, hi⟩ := h; exact ⟨A, rfl, isVV_below hi hb⟩), .st (fun u x => ∃ A c, x = .slice A d c ∧ wo.IsI u A d c lk) (fun u u2 x h hb => by obtain ⟨A, c, rfl, hi⟩ := h; exact ⟨A, c, rfl, isI_below hi hb⟩), .is (.slice (some ⟨b, o, none⟩) n c), .is (.int .i64 (k : Int)), .is (.pointer (some ⟨b, o + k, none⟩)), .is (.slice Ak d ck), .is (.bool true), .is (.bool false), .is (.bool false)] [some 33, some 34, some 35, some 36, some 37, some 38, some 39, some 40, some 41, some 42, some 43, some 44, some 45, some 46, some 47, some 48, some 49, some 50, some 51, some 52, some 53, some 54, some 55, some 56, some 57, some 58, some 59, some 60, some 61, some 62, some 63, some 64, some 65, some 66, some 67] (by kernel_rfl) (by kernel_rfl) (by kernel_rfl) (by kernel_rfl) [] (by kernel_rfl) (by intro p hp; cases hp) (by kernel_rfl) (by kernel_rfl) ?hstep ?hdone
      case hstep =>
        intro i o ho hi hns E w7 hb4 D
        have hi2 : i = 0 ∨ i = 1 ∨ i = 2 ∨ i = 3 ∨ i = 4 ∨ i = 5 ∨ i = 6 ∨ i = 7 ∨ i = 8 ∨ i = 9 ∨ i = 10 ∨ i = 11 ∨ i = 12 ∨ i = 13 ∨ i = 14 ∨ i = 15 ∨ i = 16 ∨ i = 17 ∨ i = 18 ∨ i = 19 ∨ i = 20 ∨ i = 21 ∨ i = 22 ∨ i = 23 ∨ i = 24 ∨ i = 25 ∨ i = 26 ∨ i = 27 ∨ i = 28 ∨ i = 29 ∨ i = 30 ∨ i = 31 ∨ i = 32 ∨ i = 33 ∨ i = 34 := by omega
        clear hi
        rcases hi2 with rfl | rfl | rfl | rfl | rfl | rfl | rfl | rfl | rfl | rfl | rfl | rfl | rfl | rfl | rfl | rfl | rfl | rfl | rfl | rfl | rfl | rfl | rfl | rfl | rfl | rfl | rfl | rfl | rfl | rfl | rfl | rfl | rfl | rfl | rfl
        ·
          have ho2 := (Array.getElem?_eq_some_iff.1 ho).2
          simp only [List.getElem_toArray, List.getElem_cons_zero] at ho2
          subst ho2
          clear ho
          have e5 := D.old 5 (by kernel_rfl)
          exact wk.does_move rfl (by rw [e5]; rfl)
        ·
          have ho2 := (Array.getElem?_eq_some_iff.1 ho).2
          simp only [List.getElem_toArray, List.getElem_cons_succ, List.getElem_cons_zero] at ho2
          subst ho2
          clear ho
          have e0 := D.old 0 (by kernel_rfl)
          exact wk.does_move rfl (by rw [e0]; rfl)
        ·
          have ho2 := (Array.getElem?_eq_some_iff.1 ho).2
          simp only [List.getElem_toArray, List.getElem_cons_succ, List.getElem_cons_zero] at ho2
          subst ho2
          clear ho
          have e34 := D.is { on := 1, ground := .data } (by simp) rfl rfl 34 rfl
          exact wk.does_run (by simp only [execOp, e34, D.con]; go_simp; all_goals (intro h; omega)) rfl
        ·
          have ho2 := (Array.getElem?_eq_some_iff.1 ho).2
          simp only [List.getElem_toArray, List.getElem_cons_succ, List.getElem_cons_zero] at ho2
          subst ho2
          clear ho
          have e35 := D.is { on := 2, ground := .data } (by simp) rfl rfl 35 rfl
          exact wk.does_load1 rfl e35 (HC0.out _ ((Below.refl _ _).drew.trans hb4)) Try.underlying22 rfl rfl
        ·
          have ho2 := (Array.getElem?_eq_some_iff.1 ho).2
          simp only [List.getElem_toArray, List.getElem_cons_succ, List.getElem_cons_zero] at ho2
          subst ho2
          clear ho
          have e33 := D.is { on := 0, ground := .data } (by simp) rfl rfl 33 rfl
          have e36 := D.is { on := 3, ground := .data } (by simp) rfl rfl 36 rfl
          refine wk.does_fn (f := 14) (vs := #[.slice A3 d c3, .slice A0 d c0]) rfl (D.fn _) (by simp [e33, e36]) (by go_simp) ?_
          refine (HAL.out _ ((Below.refl _ _).drew.trans hb4)).mono ?_
          rintro e w7 ⟨rfl, hb7⟩
          exact ⟨_, rfl, hb7, rfl⟩
        ·
          have ho2 := (Array.getElem?_eq_some_iff.1 ho).2
          simp only [List.getElem_toArray, List.getElem_cons_succ, List.getElem_cons_zero] at ho2
          subst ho2
          clear ho
          have e37 := D.is { on := 4, ground := .data } (by simp) rfl rfl 37 rfl
          exact wk.does_un rfl (by rw [e37]; go_simp) rfl
        ·
          have ho2 := (Array.getElem?_eq_some_iff.1 ho).2
          simp only [List.getElem_toArray, List.getElem_cons_succ, List.getElem_cons_zero] at ho2
          subst ho2
          clear ho
          have e38 := D.is { on := 5, ground := .data } (by simp) rfl rfl 38 rfl
          exact wk.does_move rfl e38
        ·
          have ho2 := (Array.getElem?_eq_some_iff.1 ho).2
          simp only [List.getElem_toArray, List.getElem_cons_succ, List.getElem_cons_zero] at ho2
          subst ho2
          clear ho
          have e5 := D.old 5 (by kernel_rfl)
          exact wk.does_move rfl (by rw [e5]; rfl)
        ·
          have ho2 := (Array.getElem?_eq_some_iff.1 ho).2
          simp only [List.getElem_toArray, List.getElem_cons_succ, List.getElem_cons_zero] at ho2
          subst ho2
          clear ho
          have e7 := D.old 7 (by kernel_rfl)
          exact wk.does_move rfl (by rw [e7]; rfl)
        ·
          have ho2 := (Array.getElem?_eq_some_iff.1 ho).2
          simp only [List.getElem_toArray, List.getElem_cons_succ, List.getElem_cons_zero] at ho2
          subst ho2
          clear ho
          have e41 := D.is { on := 8, ground := .data } (by simp) rfl rfl 41 rfl
          refine wk.does_fn (f := 30) (vs := #[.slice A4 n c4]) rfl (D.fn _) (by simp [e41]) (by go_simp) ?_
          refine (HMT.out _ ((Below.refl _ _).drew.trans hb4)).mono ?_
          rintro e w7 ⟨A7, c7, rfl, hI7, hb7⟩
          exact ⟨_, rfl, hb7, A7, c7, rfl, hI7⟩
        ·
          have ho2 := (Array.getElem?_eq_some_iff.1 ho).2
          simp only [List.getElem_toArray, List.getElem_cons_succ, List.getElem_cons_zero] at ho2
          subst ho2
          clear ho
          have e40 := D.is { on := 7, ground := .data } (by simp) rfl rfl 40 rfl
          have s42 := D.st { on := 9, ground := .data } (by simp) rfl rfl 42 rfl
          obtain ⟨A8, c8, e8, hI8⟩ := s42
          refine wk.does_fn (f := 19) (vs := #[.slice A3 d c3, .slice A8 d c8]) rfl (D.fn _) (by simp [e40, e8]) (by go_simp) ?_
          refine (same_calls A3 A8 d d c3 c8 _ _ _ (HM3.out _ ((Below.refl _ _).drew.trans hb4)) hI8).mono ?_
          rw [beq_self_eq_true]
          rintro e w7 ⟨rfl, q7, rfl⟩
          exact ⟨_, rfl, below_drewN (Below.refl _ _) q7, rfl⟩
        ·
          have ho2 := (Array.getElem?_eq_some_iff.1 ho).2
          simp only [List.getElem_toArray, List.getElem_cons_succ, List.getElem_cons_zero] at ho2
          subst ho2
          clear ho
          have e43 := D.is { on := 10, ground := .data } (by simp) rfl rfl 43 rfl
          exact wk.does_un rfl (by rw [e43]; go_simp) rfl
        ·
          have ho2 := (Array.getElem?_eq_some_iff.1 ho).2
          simp only [List.getElem_toArray, List.getElem_cons_succ, List.getElem_cons_zero] at ho2
          subst ho2
          clear ho
          have e39 := D.is { on := 6, ground := .data } (by simp) rfl rfl 39 rfl
          have e44 := D.is { on := 11, ground := .data } (by simp) rfl rfl 44 rfl
          exact wk.does_pick rfl e39 e44
        ·
          have ho2 := (Array.getElem?_eq_some_iff.1 ho).2
          simp only [List.getElem_toArray, List.getElem_cons_succ, List.getElem_cons_zero] at ho2
          subst ho2
          clear ho
          have e45 := D.is { on := 12, ground := .data } (by simp) rfl rfl 45 rfl
          exact wk.does_move rfl e45
        ·
          have ho2 := (Array.getElem?_eq_some_iff.1 ho).2
          simp only [List.getElem_toArray, List.getElem_cons_succ, List.getElem_cons_zero] at ho2
          subst ho2
          clear ho
          have e0 := D.old 0 (by kernel_rfl)
          exact wk.does_move rfl (by rw [e0]; rfl)
        ·
          have ho2 := (Array.getElem?_eq_some_iff.1 ho).2
          simp only [List.getElem_toArray, List.getElem_cons_succ, List.getElem_cons_zero] at ho2
          subst ho2
          clear ho
          have e6 := D.old 6 (by kernel_rfl)
          exact wk.does_move rfl (by rw [e6]; rfl)
        ·
          have ho2 := (Array.getElem?_eq_some_iff.1 ho).2
          simp only [List.getElem_toArray, List.getElem_cons_succ, List.getElem_cons_zero] at ho2
          subst ho2
          clear ho
          have e47 := D.is { on := 14, ground := .data } (by simp) rfl rfl 47 rfl
          have e48 := D.is { on := 15, ground := .data } (by simp) rfl rfl 48 rfl
          exact wk.does_run (by simp only [execOp, e47, e48]; go_simp; all_goals (intro h; omega)) rfl
        ·
          have ho2 := (Array.getElem?_eq_some_iff.1 ho).2
          simp only [List.getElem_toArray, List.getElem_cons_succ, List.getElem_cons_zero] at ho2
          subst ho2
          clear ho
          have e49 := D.is { on := 16, ground := .data } (by simp) rfl rfl 49 rfl
          exact wk.does_load1 rfl e49 (HCK.out _ ((Below.refl _ _).drew.trans hb4)) Try.underlying22 rfl rfl
        ·
          have ho2 := (Array.getElem?_eq_some_iff.1 ho).2
          simp only [List.getElem_toArray, List.getElem_cons_succ, List.getElem_cons_zero] at ho2
          subst ho2
          clear ho
          have e0 := D.old 0 (by kernel_rfl)
          exact wk.does_move rfl (by rw [e0]; rfl)
        ·
          have ho2 := (Array.getElem?_eq_some_iff.1 ho).2
          simp only [List.getElem_toArray, List.getElem_cons_succ, List.getElem_cons_zero] at ho2
          subst ho2
          clear ho
          have e6 := D.old 6 (by kernel_rfl)
          exact wk.does_move rfl (by rw [e6]; rfl)
        ·
          have ho2 := (Array.getElem?_eq_some_iff.1 ho).2
          simp only [List.getElem_toArray, List.getElem_cons_succ, List.getElem_cons_zero] at ho2
          subst ho2
          clear ho
          have e51 := D.is { on := 18, ground := .data } (by simp) rfl rfl 51 rfl
          have e52 := D.is { on := 19, ground := .data } (by simp) rfl rfl 52 rfl
          exact wk.does_run (by simp only [execOp, e51, e52]; go_simp; all_goals (intro h; omega)) rfl
        ·
          have ho2 := (Array.getElem?_eq_some_iff.1 ho).2
          simp only [List.getElem_toArray, List.getElem_cons_succ, List.getElem_cons_zero] at ho2
          subst ho2
          clear ho
          have e53 := D.is { on := 20, ground := .data } (by simp) rfl rfl 53 rfl
          exact wk.does_load1 rfl e53 (HCK.out _ ((Below.refl _ _).drew.trans hb4)) Try.underlying22 rfl rfl
        ·
          have ho2 := (Array.getElem?_eq_some_iff.1 ho).2
          simp only [List.getElem_toArray, List.getElem_cons_succ, List.getElem_cons_zero] at ho2
          subst ho2
          clear ho
          have e0 := D.old 0 (by kernel_rfl)
          exact wk.does_move rfl (by rw [e0]; rfl)
        ·
          have ho2 := (Array.getElem?_eq_some_iff.1 ho).2
          simp only [List.getElem_toArray, List.getElem_cons_succ, List.getElem_cons_zero] at ho2
          subst ho2
          clear ho
          have e6 := D.old 6 (by kernel_rfl)
          exact wk.does_move rfl (by rw [e6]; rfl)
        ·
          have ho2 := (Array.getElem?_eq_some_iff.1 ho).2
          simp only [List.getElem_toArray, List.getElem_cons_succ, List.getElem_cons_zero] at ho2
          subst ho2
          clear ho
          have e55 := D.is { on := 22, ground := .data } (by simp) rfl rfl 55 rfl
          have e56 := D.is { on := 23, ground := .data } (by simp) rfl rfl 56 rfl
          exact wk.does_run (by simp only [execOp, e55, e56]; go_simp; all_goals (intro h; omega)) rfl
        ·
          have ho2 := (Array.getElem?_eq_some_iff.1 ho).2
          simp only [List.getElem_toArray, List.getElem_cons_succ, List.getElem_cons_zero] at ho2
          subst ho2
          clear ho
          have e57 := D.is { on := 24, ground := .data } (by simp) rfl rfl 57 rfl
          exact wk.does_load1 rfl e57 (HCK.out _ ((Below.refl _ _).drew.trans hb4)) Try.underlying22 rfl rfl
        ·
          have ho2 := (Array.getElem?_eq_some_iff.1 ho).2
          simp only [List.getElem_toArray, List.getElem_cons_succ, List.getElem_cons_zero] at ho2
          subst ho2
          clear ho
          have e50 := D.is { on := 17, ground := .data } (by simp) rfl rfl 50 rfl
          have e54 := D.is { on := 21, ground := .data } (by simp) rfl rfl 54 rfl
          have e58 := D.is { on := 25, ground := .data } (by simp) rfl rfl 58 rfl
          exact wk.does_new (v := .slice (some ⟨w7.heap.size, 0, none⟩) 3 3) (w' := w7.alloc (.cells #[.slice Ak d ck, .slice Ak d ck, .slice Ak d ck] 22)) (by unfold execOp; simp only [List.map_toArray, List.map_cons, List.map_nil, e50, e54, e58]; go_simp) (below_new _ _) ⟨_, rfl, isVV_new3 (HIK.out _ ((Below.refl _ _).drew.trans hb4)) _⟩
        ·
          have ho2 := (Array.getElem?_eq_some_iff.1 ho).2
          simp only [List.getElem_toArray, List.getElem_cons_succ, List.getElem_cons_zero] at ho2
          subst ho2
          clear ho
          have s59 := D.st { on := 26, ground := .data } (by simp) rfl rfl 59 rfl
          obtain ⟨A8, e8, hI8⟩ := s59
          refine wk.does_fn (f := 30) (vs := #[.slice A8 3 3]) rfl (D.fn _) (by simp [e8]) (by go_simp) ?_
          refine (HMK.out A8 w7 hI8).mono ?_
          rintro e w8 ⟨A7, c7, rfl, hI7, hb7⟩
          exact ⟨_, rfl, hb7, A7, c7, rfl, hI7⟩
        ·
          have ho2 := (Array.getElem?_eq_some_iff.1 ho).2
          simp only [List.getElem_toArray, List.getElem_cons_succ, List.getElem_cons_zero] at ho2
          subst ho2
          clear ho
          have e0 := D.old 0 (by kernel_rfl)
          exact wk.does_move rfl (by rw [e0]; rfl)
        ·
          have ho2 := (Array.getElem?_eq_some_iff.1 ho).2
          simp only [List.getElem_toArray, List.getElem_cons_succ, List.getElem_cons_zero] at ho2
          subst ho2
          clear ho
          have e6 := D.old 6 (by kernel_rfl)
          exact wk.does_move rfl (by rw [e6]; rfl)
        ·
          have ho2 := (Array.getElem?_eq_some_iff.1 ho).2
          simp only [List.getElem_toArray, List.getElem_cons_succ, List.getElem_cons_zero] at ho2
          subst ho2
          clear ho
          have e61 := D.is { on := 28, ground := .data } (by simp) rfl rfl 61 rfl
          have e62 := D.is { on := 29, ground := .data } (by simp) rfl rfl 62 rfl
          exact wk.does_run (by simp only [execOp, e61, e62]; go_simp; all_goals (intro h; omega)) rfl
        ·
          have ho2 := (Array.getElem?_eq_some_iff.1 ho).2
          simp only [List.getElem_toArray, List.getElem_cons_succ, List.getElem_cons_zero] at ho2
          subst ho2
          clear ho
          have e63 := D.is { on := 30, ground := .data } (by simp) rfl rfl 63 rfl
          exact wk.does_load1 rfl e63 (HCK.out _ ((Below.refl _ _).drew.trans hb4)) Try.underlying22 rfl rfl
        ·
          have ho2 := (Array.getElem?_eq_some_iff.1 ho).2
          simp only [List.getElem_toArray, List.getElem_cons_succ, List.getElem_cons_zero] at ho2
          subst ho2
          clear ho
          have s60 := D.st { on := 27, ground := .data } (by simp) rfl rfl 60 rfl
          have e64 := D.is { on := 31, ground := .data } (by simp) rfl rfl 64 rfl
          obtain ⟨A8, c8, e8, hI8⟩ := s60
          refine wk.does_fn (f := 19) (vs := #[.slice A8 d c8, .slice Ak d ck]) rfl (D.fn _) (by simp [e8, e64]) (by go_simp) ?_
          refine (same_calls A8 Ak d d c8 ck _ _ _ hI8 (HIK.out _ ((Below.refl _ _).drew.trans hb4))).mono ?_
          rw [beq_self_eq_true]
          rintro e w8 ⟨rfl, q7, rfl⟩
          exact ⟨_, rfl, below_drewN (Below.refl _ _) q7, rfl⟩
        ·
          have ho2 := (Array.getElem?_eq_some_iff.1 ho).2
          simp only [List.getElem_toArray, List.getElem_cons_succ, List.getElem_cons_zero] at ho2
          subst ho2
          clear ho
          have e65 := D.is { on := 32, ground := .data } (by simp) rfl rfl 65 rfl
          exact wk.does_un rfl (by rw [e65]; go_simp) rfl
        ·
          have ho2 := (Array.getElem?_eq_some_iff.1 ho).2
          simp only [List.getElem_toArray, List.getElem_cons_succ, List.getElem_cons_zero] at ho2
          subst ho2
          clear ho
          have e46 := D.is { on := 13, ground := .data } (by simp) rfl rfl 46 rfl
          have e66 := D.is { on := 33, ground := .data } (by simp) rfl rfl 66 rfl
          exact wk.does_pick rfl e46 e66
      case hdone =>
        intro vals w7 hb4 hv
        have h34 := hv 34 (by omega)
        clear hv
        replace h34 : vals 34 = (.bool false) := h34
        simp only [List.drop_succ_cons, List.drop_zero, wpList, Act.put, wk.setL, List.setIfInBounds_toArray, List.set_cons_zero, List.set_cons_succ, Nat.zero_add, Nat.reduceAdd, h34]
        generalize vals 0 = x0
        generalize vals 1 = x1
        generalize vals 2 = x2
        generalize vals 3 = x3
        generalize vals 4 = x4
        generalize vals 5 = x5
        generalize vals 6 = x6
        generalize vals 7 = x7
        generalize vals 8 = x8
        generalize vals 9 = x9
        generalize vals 10 = x10
        generalize vals 11 = x11
        generalize vals 12 = x12
        generalize vals 13 = x13
        generalize vals 14 = x14
        generalize vals 15 = x15
        generalize vals 16 = x16
        generalize vals 17 = x17
        generalize vals 18 = x18
        generalize vals 19 = x19
        generalize vals 20 = x20
        generalize vals 21 = x21
        generalize vals 22 = x22
        generalize vals 23 = x23
        generalize vals 24 = x24
        generalize vals 25 = x25
        generalize vals 26 = x26
        generalize vals 27 = x27
        generalize vals 28 = x28
        generalize vals 29 = x29
        generalize vals 30 = x30
        generalize vals 31 = x31
        generalize vals 32 = x32
        generalize vals 33 = x33
        have HB7 := Lib.hid (Below.andThen HB5.out ((Below.refl _ _).drew.trans hb4))
        have HV7 := Lib.hid (isVV_below HV2.out ((Below.refl _ _).drew.trans hb4))
        have HM7 := Lib.hid (HM3.out _ ((Below.refl _ _).drew.trans hb4))
        clear hb4 HB5 HV2 HM3 HAL HMT HMK HC0 HCK HIK
        go_wp2_with fail
        go_loopg [70] d (fun g2 x wr => ∃ i : Nat, i + g2 = d ∧ x = .int .i64 (i : Int) ∧ Below w7.heap.size w7 wr)
        case atStart => exact ⟨0, by omega, rfl, Below.refl _ _⟩
        case round =>
          obtain ⟨i, hi7, rfl, hbel⟩ := hrel
          have HK := Lib.hid hi7
          have HBE := Lib.hid hbel
          have hid : i ≤ d := by omega
          clear hi7 hbel
          by_cases hlt : i < d
          · obtain ⟨b', o', A9, d9, c9, l9, e9, hb9, hc9, hI9, hL9⟩ := isVV_get (isVV_below HV7.out HBE.out) (k := 0) (by omega)
            cases e9
            rw [Nat.add_zero] at hc9
            have hd9 : d9 = d := by rw [← hI9.1]; exact HD.out _ (List.mem_of_getElem? hL9)
            rw [hd9] at hc9 hI9
            have hcm9 := hI9.2.2.1
            have hnc9 := hI9.2.1
            obtain ⟨b9, o9, x9, rfl, hx9, -, -, -⟩ := isI_at hI9 hlt
            have hid' : (i : Int) < (d : Int) := by omega
            have hid0 : (0 : Int) ≤ (i : Int) := by omega
            clear hI9 hL9 hb9
            go_wp2_with fail
            go_quiet (fail)
            go_wp2_with fail
            go_loopg [9, 10, 87] n (fun g3 s9 s10 y wr => ∃ (j : Nat) (lo hi : Int), j + g3 = n ∧ y = .int .i64 (j : Int) ∧ s9 = .int .i64 lo ∧ s10 = .int .i64 hi ∧ (∀ l ∈ L.take j, lo ≤ l.getD i 0 ∧ l.getD i 0 ≤ hi) ∧ Below w7.heap.size w7 wr)
            case atStart => exact ⟨0, x9, x9, by omega, rfl, rfl, rfl, by simp, below_drewN HBE.out _⟩
            case round =>
              obtain ⟨j, lo, hi2, hj, rfl, rfl, rfl, hall, hbel2⟩ := hrel
              have HJ := Lib.hid hj
              have HBF := Lib.hid hbel2
              have HA := Lib.hid hall
              have hjn : j ≤ n := by omega
              clear hj hall hbel2
              by_cases hlt2 : j < n
              · obtain ⟨b', o', A8, d8, c8, l8, e8, hb8, hc8, hI8, hL8⟩ := isVV_get (isVV_below HV7.out HBF.out) hlt2
                cases e8
                have hd8 : d8 = d := by rw [← hI8.1]; exact HD.out _ (List.mem_of_getElem? hL8)
                rw [hd8] at hc8 hI8
                have hcm8 := hI8.2.2.1
                have hnc8 := hI8.2.1
                obtain ⟨b8, o8, x8, rfl, hx8, hlx8, -, -⟩ := isI_at hI8 hlt
                have hgd : l8.getD i 0 = x8 := by simp [List.getD, hlx8]
                have HT := Lib.hid (vq.take_snoc hL8)
                have HGD := Lib.hid hgd
                clear hI8 hL8 hb8 hlx8 hgd
                go_wp2_with fail
                go_quiet (fail)
                go_wp2_with fail
                go_roundg (gk - 1)
                case measure => have := HJ.out; omega
                case rel =>
                  refine ⟨j + 1, min lo x8, max hi2 x8, by have := HJ.out; omega, by go_num, rfl, rfl, fun l hl => ?_, below_drewN HBF.out _⟩
                  rw [HT.out] at hl
                  rcases List.mem_append.1 hl with h | h
                  · have := HA.out l h; omega
                  · have e : l = l8 := by simpa using h
                    rw [e, HGD.out]; omega
              · obtain rfl : j = n := by omega
                obtain ⟨b3, o3, z, rfl, hz, hmz, -, -⟩ := isI_at (isI_below HM7.out HBF.out) hlt
                have hbt := vq.mean_between (L := L) (i := i) (lo := lo) (hi := hi2) (by have := HLN.out; omega) (fun l hl => HA.out l (by rw [List.take_of_length_le (by have := HLN.out; omega)]; exact hl))
                have hma := vq.mean_at hlt (by have := HLN.out; omega) HD.out
                rw [hmz] at hma
                have hzz : z = vq.col L i / (L.length : Int) := by simpa using hma
                rw [← hzz] at hbt
                obtain ⟨hz1, hz2⟩ := hbt
                clear hma hmz hzz
                go_wp2_with fail
                go_roundg (d - (i + 1))
                case measure => have := HK.out; omega
                case rel => exact ⟨i + 1, by have := HK.out; omega, by go_num, HBF.out⟩
          · go_wp2_with fail
            refine (HS.out _).mono ?_
            rintro e w9 ⟨rfl, hb9⟩
            have HB9 := Lib.hid (HB7.out.trans ((HBE.out.mono HB7.out.size).trans (hb9.mono (Nat.le_trans HB7.out.size HBE.out.size))))
            clear hb9
            go_wp2_with fail
            go_ret
            exact ⟨rfl, HB9.out⟩
    
end Go.Proofs.Ytbnemcggiopdmaa.vectorMeanIsBetween
