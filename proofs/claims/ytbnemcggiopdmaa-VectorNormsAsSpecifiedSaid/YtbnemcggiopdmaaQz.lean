/- VectorNormsAsSpecified: its walk. -/
import Derived.Test.YtbnemcggiopdmaaQy

namespace Go.Proofs.Ytbnemcggiopdmaa.vectorNormsAsSpecified

open Go.ChangeShapes Go.WideShapes Go.ChangeAt Go.RowKit

open Go.Proofs.Ytbnemcggiopdmaa.vk

set_option linter.unusedVariables false
set_option maxRecDepth 100000 in
set_option maxHeartbeats 4000000 in
theorem walk (w : World) {m : Int} {A1 A2 : Option Addr} {n1 n2 c1 c2 : Nat} {v : List Int} {L : List (List Int)} (w0 : (Lit.int .i64 m).wf = true) (h1 : wo.IsI w A1 n1 c1 v) (h2 : IsVV w A2 n2 c2 L) :
    Calls Try.prog 4 #[.int .i64 m, .slice A1 n1 c1, .slice A2 n2 c2] w fun e w' => e = .returned (.bool true) ∧ Below w.heap.size w w' := by
  have HS := Lib.hid (fun w' => sanity_calls w')
  have hm := int_wf w0
  clear w0
  have H1 := Lib.hid h1
  have H2 := Lib.hid h2
  have HDF := Lib.hid (diff_calls A1 n1 c1 v w h1)
  have HM := Lib.hid (metric_calls m w)
  have HALL := Lib.hid (fun w' hb => rall_calls A2 n2 c2 L w' (isVV_below H2.out hb))
  clear h1 h2
  /- what follows the first test -/
  have HTAIL : Hid (∀ w', Below w.heap.size w w' → vq.allv L 20 = true → ∃ d, (∀ w', Below w.heap.size w w' → Calls Try.prog 30 #[.slice A2 n2 c2] w' fun e w2 => ∃ A' c', e = .returned (.slice A' d c') ∧ wo.IsI w2 A' d c' (vq.mean L) ∧ Below w'.heap.size w' w2) ∧ (∀ w', Below w.heap.size w w' → Calls Try.prog 31 #[.slice A2 n2 c2] w' fun e w2 => ∃ A' c', e = .returned (.slice A' d c') ∧ wo.IsI w2 A' d c' (vq.mean L) ∧ Below w'.heap.size w' w2)) := by
    intro w' hb hal
    obtain ⟨d, hd, hv, hl1, hl20⟩ := vq.allv_vec hal
    have hn := H2.out.1
    exact ⟨d, fun w' hb => mean_calls A2 n2 c2 d L w' (isVV_below H2.out hb) hd hv (by omega) (by omega), fun w' hb => rmean_calls A2 n2 c2 d L w' (isVV_below H2.out hb) hd hv (by omega) (by omega)⟩
  have hcase : (vq.diff v = true ∧ 1 ≤ m ∧ m ≤ 3) ∨ (vq.diff v = true ∧ ¬ (1 ≤ m ∧ m ≤ 3)) ∨ vq.diff v = false := by
    cases vq.diff v
    · exact .inr (.inr rfl)
    · by_cases h : 1 ≤ m ∧ m ≤ 3
      · exact .inl ⟨rfl, h⟩
      · exact .inr (.inl ⟨rfl, h⟩)
  rcases hcase with ⟨hdf, hm1, hm3⟩ | ⟨hdf, hm3⟩ | hdf
  · obtain ⟨d1, d2, d3⟩ := vq.diff_iff.1 hdf
    have hn32 : n1 ≤ 32 := by have := H1.out.1; omega
    rw [hdf] at HDF
    rw [decide_eq_true (show 1 ≤ m ∧ m ≤ 3 from ⟨hm1, hm3⟩)] at HM
    have HFV : Hid (Few v) := d3
    have HN := Lib.hid (norm_calls m A1 n1 c1 v w (by omega) (by omega) H1.out HFV.out hn32)
    have HRN := Lib.hid (fun w' hb => rnorm_calls m A1 n1 c1 v w' hm1 hm3 (isI_below H1.out hb) HFV.out hn32)
    have HDT := Lib.hid (fun w' hb => dot_calls A1 A1 n1 c1 c1 v v w' (isI_below H1.out hb) (isI_below H1.out hb) HFV.out HFV.out hn32)
    have HRDT := Lib.hid (fun w' hb => rdot_calls A1 A1 n1 c1 c1 v v w' (isI_below H1.out hb) (isI_below H1.out hb) HFV.out HFV.out hn32)
    generalize vq.norm m v = nm at HN HRN
    generalize vq.dot v v = dt at HDT HRDT
    clear d1 d2 d3 hdf
    go_enter Try.func4, Try.ntmps4
    go_wp2_with fail
    refine HDF.out.mono ?_
    rintro e w' ⟨rfl, rfl⟩
    go_wp2_with fail
    refine HM.out.mono ?_
    rintro e w' ⟨rfl, rfl⟩
    go_wp2_with fail
    refine HN.out.mono ?_
    rintro e w1 ⟨rfl, hb1⟩
    have HB1 := Lib.hid hb1
    clear hb1 HN HM HDF
    go_wp2_with fail
    refine (HRN.out w1 HB1.out).mono ?_
    rintro e w' ⟨rfl, q1, rfl⟩
    have HB2 := Lib.hid (below_drewN HB1.out q1)
    generalize w1.drewN q1 = w2 at *
    clear HB1 HRN
    go_wp2_with fail
    refine (HDT.out w2 HB2.out).mono ?_
    rintro e w3 ⟨rfl, hb3⟩
    have HB3 := Lib.hid (Below.andThen HB2.out hb3)
    clear hb3 HB2 HDT
    go_wp2_with fail
    refine (HRDT.out w3 HB3.out).mono ?_
    rintro e w' ⟨rfl, q3, rfl⟩
    have HB := Lib.hid (below_drewN HB3.out q3)
    generalize w3.drewN q3 = wc at *
    clear HB3 HRDT
    go_wp2_with fail
    refine (HALL.out _ HB.out).mono ?_
    cases hal : vq.allv L 20
    · rintro e w' ⟨rfl, q5, rfl⟩
      have HB5 := Lib.hid (below_drewN HB.out q5)
      generalize wc.drewN q5 = w5 at *
      go_wp2_with fail
      refine (HS.out _).mono ?_
      rintro e w6 ⟨rfl, hb6⟩
      have HB6 := Lib.hid (Below.andThen HB5.out hb6)
      clear hb6
      go_wp2_with fail
      go_ret
      exact ⟨rfl, HB6.out⟩
    · rintro e w' ⟨rfl, q5, rfl⟩
      have HB5 := Lib.hid (below_drewN HB.out q5)
      obtain ⟨d, hme, hrm⟩ := HTAIL.out _ HB.out hal
      have HME := Lib.hid hme
      have HRM := Lib.hid hrm
      clear hme hrm HTAIL hal
      generalize wc.drewN q5 = w5 at *
      go_wp2_with fail
      refine (HS.out _).mono ?_
      rintro e w6 ⟨rfl, hb6⟩
      have HB6 := Lib.hid (Below.andThen HB5.out hb6)
      clear hb6 HB5
      go_wp2_with fail
      refine (HME.out _ HB6.out).mono ?_
      rintro e w7 ⟨A7, c7, rfl, hI7, hb7⟩
      have HB7 := Lib.hid (Below.andThen HB6.out hb7)
      have HI7 := Lib.hid hI7
      clear hb7 hI7 HB6 HME
      go_wp2_with fail
      refine (HRM.out _ HB7.out).mono ?_
      rintro e w8 ⟨A8, c8, rfl, hI8, hb8⟩
      have HB8 := Lib.hid (Below.andThen HB7.out hb8)
      have HI8 := Lib.hid hI8
      have HI78 := Lib.hid (isI_below HI7.out hb8)
      clear hb8 hI8 HB7 HI7 HRM
      go_wp2_with fail
      refine (same_calls A7 A8 d d c7 c8 _ _ _ HI78.out HI8.out).mono ?_
      rw [beq_self_eq_true]
      rintro e w' ⟨rfl, q9, rfl⟩
      have HB9 := Lib.hid (below_drewN HB8.out q9)
      generalize w8.drewN q9 = w9 at *
      clear HB8 HI78 HI8
      go_wp2_with fail
      go_ret
      exact ⟨rfl, HB9.out⟩
  · rw [hdf] at HDF
    rw [decide_eq_false hm3] at HM
    clear hdf hm3
    go_enter Try.func4, Try.ntmps4
    go_wp2_with fail
    refine HDF.out.mono ?_
    rintro e w' ⟨rfl, rfl⟩
    go_wp2_with fail
    refine HM.out.mono ?_
    rintro e wc ⟨rfl, rfl⟩
    have HB := Lib.hid (Below.refl wc.heap.size wc)
    go_wp2_with fail
    refine (HALL.out _ HB.out).mono ?_
    cases hal : vq.allv L 20
    · rintro e w' ⟨rfl, q5, rfl⟩
      have HB5 := Lib.hid (below_drewN HB.out q5)
      generalize wc.drewN q5 = w5 at *
      go_wp2_with fail
      refine (HS.out _).mono ?_
      rintro e w6 ⟨rfl, hb6⟩
      have HB6 := Lib.hid (Below.andThen HB5.out hb6)
      clear hb6
      go_wp2_with fail
      go_ret
      exact ⟨rfl, HB6.out⟩
    · rintro e w' ⟨rfl, q5, rfl⟩
      have HB5 := Lib.hid (below_drewN HB.out q5)
      obtain ⟨d, hme, hrm⟩ := HTAIL.out _ HB.out hal
      have HME := Lib.hid hme
      have HRM := Lib.hid hrm
      clear hme hrm HTAIL hal
      generalize wc.drewN q5 = w5 at *
      go_wp2_with fail
      refine (HS.out _).mono ?_
      rintro e w6 ⟨rfl, hb6⟩
      have HB6 := Lib.hid (Below.andThen HB5.out hb6)
      clear hb6 HB5
      go_wp2_with fail
      refine (HME.out _ HB6.out).mono ?_
      rintro e w7 ⟨A7, c7, rfl, hI7, hb7⟩
      have HB7 := Lib.hid (Below.andThen HB6.out hb7)
      have HI7 := Lib.hid hI7
      clear hb7 hI7 HB6 HME
      go_wp2_with fail
      refine (HRM.out _ HB7.out).mono ?_
      rintro e w8 ⟨A8, c8, rfl, hI8, hb8⟩
      have HB8 := Lib.hid (Below.andThen HB7.out hb8)
      have HI8 := Lib.hid hI8
      have HI78 := Lib.hid (isI_below HI7.out hb8)
      clear hb8 hI8 HB7 HI7 HRM
      go_wp2_with fail
      refine (same_calls A7 A8 d d c7 c8 _ _ _ HI78.out HI8.out).mono ?_
      rw [beq_self_eq_true]
      rintro e w' ⟨rfl, q9, rfl⟩
      have HB9 := Lib.hid (below_drewN HB8.out q9)
      generalize w8.drewN q9 = w9 at *
      clear HB8 HI78 HI8
      go_wp2_with fail
      go_ret
      exact ⟨rfl, HB9.out⟩
  · rw [hdf] at HDF
    clear hdf
    go_enter Try.func4, Try.ntmps4
    go_wp2_with fail
    refine HDF.out.mono ?_
    rintro e wc ⟨rfl, rfl⟩
    have HB := Lib.hid (Below.refl wc.heap.size wc)
    go_wp2_with fail
    refine (HALL.out _ HB.out).mono ?_
    cases hal : vq.allv L 20
    · rintro e w' ⟨rfl, q5, rfl⟩
      have HB5 := Lib.hid (below_drewN HB.out q5)
      generalize wc.drewN q5 = w5 at *
      go_wp2_with fail
      refine (HS.out _).mono ?_
      rintro e w6 ⟨rfl, hb6⟩
      have HB6 := Lib.hid (Below.andThen HB5.out hb6)
      clear hb6
      go_wp2_with fail
      go_ret
      exact ⟨rfl, HB6.out⟩
    · rintro e w' ⟨rfl, q5, rfl⟩
      have HB5 := Lib.hid (below_drewN HB.out q5)
      obtain ⟨d, hme, hrm⟩ := HTAIL.out _ HB.out hal
      have HME := Lib.hid hme
      have HRM := Lib.hid hrm
      clear hme hrm HTAIL hal
      generalize wc.drewN q5 = w5 at *
      go_wp2_with fail
      refine (HS.out _).mono ?_
      rintro e w6 ⟨rfl, hb6⟩
      have HB6 := Lib.hid (Below.andThen HB5.out hb6)
      clear hb6 HB5
      go_wp2_with fail
      refine (HME.out _ HB6.out).mono ?_
      rintro e w7 ⟨A7, c7, rfl, hI7, hb7⟩
      have HB7 := Lib.hid (Below.andThen HB6.out hb7)
      have HI7 := Lib.hid hI7
      clear hb7 hI7 HB6 HME
      go_wp2_with fail
      refine (HRM.out _ HB7.out).mono ?_
      rintro e w8 ⟨A8, c8, rfl, hI8, hb8⟩
      have HB8 := Lib.hid (Below.andThen HB7.out hb8)
      have HI8 := Lib.hid hI8
      have HI78 := Lib.hid (isI_below HI7.out hb8)
      clear hb8 hI8 HB7 HI7 HRM
      go_wp2_with fail
      refine (same_calls A7 A8 d d c7 c8 _ _ _ HI78.out HI8.out).mono ?_
      rw [beq_self_eq_true]
      rintro e w' ⟨rfl, q9, rfl⟩
      have HB9 := Lib.hid (below_drewN HB8.out q9)
      generalize w8.drewN q9 = w9 at *
      clear HB8 HI78 HI8
      go_wp2_with fail
      go_ret
      exact ⟨rfl, HB9.out⟩
end Go.Proofs.Ytbnemcggiopdmaa.vectorNormsAsSpecified
