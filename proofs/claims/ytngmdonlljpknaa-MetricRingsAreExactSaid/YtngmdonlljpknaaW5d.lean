/- MetricRingsAreExact: its walk. -/
import Derived.Test.YtngmdonlljpknaaVf

namespace Go.Proofs.Ytngmdonlljpknaa.metricRingsAreExact

open Go.ChangeShapes Go.WideShapes Go.ChangeAt Go.RowKit

open Go.Proofs.Ytngmdonlljpknaa.vk

open Go.Proofs.Ytngmdonlljpknaa.me

set_option linter.unusedVariables false
theorem keys_of {m a b c : Int} (h : (okk m a && okk m b && okk m c) = true) : 1 ≤ m ∧ m ≤ 3 ∧ 0 ≤ a ∧ a ≤ 134217728 ∧ 0 ≤ b ∧ b ≤ 134217728 ∧ 0 ≤ c ∧ c ≤ 134217728 := by
  simp [okk] at h
  omega
theorem gap_dec {m a x y : Int} (h : x ≤ y) (k3 : 0 ≤ a) (k4 : a ≤ 134217728) (hx : 0 ≤ x) (hy : y ≤ 134217728) : (gap m x y a == 0) = (decide (rlo m a 0 ≤ y) && decide (x ≤ high m a 0)) := by
  rw [Bool.eq_iff_iff]
  simp [gap_zero h k3 k4 hx hy]
theorem ring_dec {m a t b : Int} (ha : 0 ≤ a) (ht : 0 ≤ t) (hb : 0 ≤ b) (hb2 : b ≤ 134217728) : (decide (rlo m a t ≤ b) && decide (b ≤ high m a t)) = decide (low m a b ≤ t) := by
  rw [Bool.eq_iff_iff]
  simp [ring_iff ha ht hb hb2]
set_option maxRecDepth 100000 in
set_option maxHeartbeats 4000000 in
theorem walk (w : World) {m a t b : Int} (w0 : (Lit.int .i64 m).wf = true) (w1 : (Lit.int .i64 a).wf = true) (w2 : (Lit.int .i64 t).wf = true) (w3 : (Lit.int .i64 b).wf = true) :
    Calls Try.prog 7 #[.int .i64 m, .int .i64 a, .int .i64 t, .int .i64 b] w fun e w' => e = .returned (.bool true) ∧ Below w.heap.size w w' := by
  have HS := Lib.hid (fun w' => sanity_calls w')
  have HK := Lib.hid (fun w' => keys_calls m a t b w')
  clear w0 w1 w2 w3
  by_cases hk : (okk m a && okk m t && okk m b) = true
  · obtain ⟨k1, k2, k3, k4, k5, k6, k7, k8⟩ := keys_of hk
    rw [hk] at HK
    clear hk
    obtain ⟨x, hx⟩ : ∃ x, min t b = x := ⟨_, rfl⟩
    obtain ⟨y, hy⟩ : ∃ y, max t b = y := ⟨_, rfl⟩
    have hxy : x ≤ y := by omega
    have hx0 : 0 ≤ x := by omega
    have hy2 : y ≤ 134217728 := by omega
    have HG := Lib.hid (fun w' => ring_calls m a t w' k1 k2 k3 k5 k4 k6)
    have HG0 := Lib.hid (fun w' => ring_calls m a 0 w' k1 k2 k3 (by omega) k4 (by omega))
    have HL := Lib.hid (fun w' => low_calls m a b w' k1 k2 k3 k7 k4 k8)
    have HP := Lib.hid (fun w' => gap_calls m x y a w' k1 k2 k3 hx0 k4 hy2 hxy)
    have hin := a_in (m := m) k3 k4 k5
    have hlo := rlo_nonneg (m := m) k3 k5
    have hhi := high_le m a t
    have HD1 := Lib.hid (ring_dec (m := m) k3 k5 k7 k8)
    have HD2 := Lib.hid (gap_dec (m := m) hxy k3 k4 hx0 hy2)
    generalize rlo m a t = LO at *
    generalize high m a t = HI at *
    generalize rlo m a 0 = L0 at *
    generalize high m a 0 = H0 at *
    generalize low m a b = LL at *
    generalize gap m x y a = GG at *
    obtain ⟨hin1, hin2⟩ := hin
    rcases (by omega : (LO ≤ b ∧ b ≤ HI) ∨ (b < LO) ∨ (LO ≤ b ∧ HI < b)) with q | q | q
    · have r1 : LL ≤ t := by have := HD1.out; rw [decide_eq_true q.1, decide_eq_true q.2] at this; exact of_decide_eq_true this.symm
      obtain ⟨q1, q2⟩ := q
      clear HD1
      rcases (by omega : (L0 ≤ y ∧ x ≤ H0) ∨ (y < L0) ∨ (L0 ≤ y ∧ H0 < x)) with p | p | p
      · obtain rfl : GG = 0 := by have := HD2.out; rw [decide_eq_true p.1, decide_eq_true p.2] at this; simpa using this
        obtain ⟨p1, p2⟩ := p
        clear HD2
        go_enter Try.func7, Try.ntmps7
        go_wp2_with fail
        refine (HK.out _).mono ?_
        rintro e w' ⟨rfl, rfl⟩
        go_wp2_with fail
        refine (HG.out _).mono ?_
        rintro e w1 ⟨rfl, hb1⟩
        have HB1 := Lib.hid hb1
        clear hb1
        go_wp2_with fail
        refine (HG0.out _).mono ?_
        rintro e w2 ⟨rfl, hb2⟩
        have HB2 := Lib.hid (Below.andThen HB1.out hb2)
        clear hb2 HB1
        go_wp2_with fail
        refine (HS.out _).mono ?_
        rintro e w3 ⟨rfl, hb3⟩
        have HB3 := Lib.hid (Below.andThen HB2.out hb3)
        clear hb3 HB2
        go_wp2_with fail
        refine (HL.out _).mono ?_
        rintro e w4 ⟨rfl, hb4⟩
        have HB4 := Lib.hid (Below.andThen HB3.out hb4)
        clear hb4 HB3
        go_wp2_with fail
        refine (HP.out _).mono ?_
        rintro e w5 ⟨rfl, hb5⟩
        have HB5 := Lib.hid (Below.andThen HB4.out hb5)
        clear hb5 HB4
        go_wp2
        go_ret
        first | exact ⟨rfl, HB5.out⟩ | exact ⟨by simp; omega, HB5.out⟩
      · have r2 : (GG == 0) = false := by have := HD2.out; rw [decide_eq_false (show ¬ L0 ≤ y by omega)] at this; exact this
        clear HD2
        go_enter Try.func7, Try.ntmps7
        go_wp2_with fail
        refine (HK.out _).mono ?_
        rintro e w' ⟨rfl, rfl⟩
        go_wp2_with fail
        refine (HG.out _).mono ?_
        rintro e w1 ⟨rfl, hb1⟩
        have HB1 := Lib.hid hb1
        clear hb1
        go_wp2_with fail
        refine (HG0.out _).mono ?_
        rintro e w2 ⟨rfl, hb2⟩
        have HB2 := Lib.hid (Below.andThen HB1.out hb2)
        clear hb2 HB1
        go_wp2_with fail
        refine (HS.out _).mono ?_
        rintro e w3 ⟨rfl, hb3⟩
        have HB3 := Lib.hid (Below.andThen HB2.out hb3)
        clear hb3 HB2
        go_wp2_with fail
        refine (HL.out _).mono ?_
        rintro e w4 ⟨rfl, hb4⟩
        have HB4 := Lib.hid (Below.andThen HB3.out hb4)
        clear hb4 HB3
        go_wp2_with fail
        refine (HP.out _).mono ?_
        rintro e w5 ⟨rfl, hb5⟩
        have HB5 := Lib.hid (Below.andThen HB4.out hb5)
        clear hb5 HB4
        go_wp2
        go_ret
        first | exact ⟨rfl, HB5.out⟩ | exact ⟨by simp; omega, HB5.out⟩
      · have r2 : (GG == 0) = false := by have := HD2.out; rw [decide_eq_false (show ¬ x ≤ H0 by omega), Bool.and_false] at this; exact this
        obtain ⟨p1, p2⟩ := p
        clear HD2
        go_enter Try.func7, Try.ntmps7
        go_wp2_with fail
        refine (HK.out _).mono ?_
        rintro e w' ⟨rfl, rfl⟩
        go_wp2_with fail
        refine (HG.out _).mono ?_
        rintro e w1 ⟨rfl, hb1⟩
        have HB1 := Lib.hid hb1
        clear hb1
        go_wp2_with fail
        refine (HG0.out _).mono ?_
        rintro e w2 ⟨rfl, hb2⟩
        have HB2 := Lib.hid (Below.andThen HB1.out hb2)
        clear hb2 HB1
        go_wp2_with fail
        refine (HS.out _).mono ?_
        rintro e w3 ⟨rfl, hb3⟩
        have HB3 := Lib.hid (Below.andThen HB2.out hb3)
        clear hb3 HB2
        go_wp2_with fail
        refine (HL.out _).mono ?_
        rintro e w4 ⟨rfl, hb4⟩
        have HB4 := Lib.hid (Below.andThen HB3.out hb4)
        clear hb4 HB3
        go_wp2_with fail
        refine (HP.out _).mono ?_
        rintro e w5 ⟨rfl, hb5⟩
        have HB5 := Lib.hid (Below.andThen HB4.out hb5)
        clear hb5 HB4
        go_wp2
        go_ret
        first | exact ⟨rfl, HB5.out⟩ | exact ⟨by simp; omega, HB5.out⟩
    · have r1 : t < LL := by have := HD1.out; rw [decide_eq_false (show ¬ LO ≤ b by omega)] at this; exact Int.not_le.1 (of_decide_eq_false this.symm)
      clear HD1
      rcases (by omega : (L0 ≤ y ∧ x ≤ H0) ∨ (y < L0) ∨ (L0 ≤ y ∧ H0 < x)) with p | p | p
      · obtain rfl : GG = 0 := by have := HD2.out; rw [decide_eq_true p.1, decide_eq_true p.2] at this; simpa using this
        obtain ⟨p1, p2⟩ := p
        clear HD2
        go_enter Try.func7, Try.ntmps7
        go_wp2_with fail
        refine (HK.out _).mono ?_
        rintro e w' ⟨rfl, rfl⟩
        go_wp2_with fail
        refine (HG.out _).mono ?_
        rintro e w1 ⟨rfl, hb1⟩
        have HB1 := Lib.hid hb1
        clear hb1
        go_wp2_with fail
        refine (HG0.out _).mono ?_
        rintro e w2 ⟨rfl, hb2⟩
        have HB2 := Lib.hid (Below.andThen HB1.out hb2)
        clear hb2 HB1
        go_wp2_with fail
        refine (HS.out _).mono ?_
        rintro e w3 ⟨rfl, hb3⟩
        have HB3 := Lib.hid (Below.andThen HB2.out hb3)
        clear hb3 HB2
        go_wp2_with fail
        refine (HL.out _).mono ?_
        rintro e w4 ⟨rfl, hb4⟩
        have HB4 := Lib.hid (Below.andThen HB3.out hb4)
        clear hb4 HB3
        go_wp2_with fail
        refine (HP.out _).mono ?_
        rintro e w5 ⟨rfl, hb5⟩
        have HB5 := Lib.hid (Below.andThen HB4.out hb5)
        clear hb5 HB4
        go_wp2
        go_ret
        first | exact ⟨rfl, HB5.out⟩ | exact ⟨by simp; omega, HB5.out⟩
      · have r2 : (GG == 0) = false := by have := HD2.out; rw [decide_eq_false (show ¬ L0 ≤ y by omega)] at this; exact this
        clear HD2
        go_enter Try.func7, Try.ntmps7
        go_wp2_with fail
        refine (HK.out _).mono ?_
        rintro e w' ⟨rfl, rfl⟩
        go_wp2_with fail
        refine (HG.out _).mono ?_
        rintro e w1 ⟨rfl, hb1⟩
        have HB1 := Lib.hid hb1
        clear hb1
        go_wp2_with fail
        refine (HG0.out _).mono ?_
        rintro e w2 ⟨rfl, hb2⟩
        have HB2 := Lib.hid (Below.andThen HB1.out hb2)
        clear hb2 HB1
        go_wp2_with fail
        refine (HS.out _).mono ?_
        rintro e w3 ⟨rfl, hb3⟩
        have HB3 := Lib.hid (Below.andThen HB2.out hb3)
        clear hb3 HB2
        go_wp2_with fail
        refine (HL.out _).mono ?_
        rintro e w4 ⟨rfl, hb4⟩
        have HB4 := Lib.hid (Below.andThen HB3.out hb4)
        clear hb4 HB3
        go_wp2_with fail
        refine (HP.out _).mono ?_
        rintro e w5 ⟨rfl, hb5⟩
        have HB5 := Lib.hid (Below.andThen HB4.out hb5)
        clear hb5 HB4
        go_wp2
        go_ret
        first | exact ⟨rfl, HB5.out⟩ | exact ⟨by simp; omega, HB5.out⟩
      · have r2 : (GG == 0) = false := by have := HD2.out; rw [decide_eq_false (show ¬ x ≤ H0 by omega), Bool.and_false] at this; exact this
        obtain ⟨p1, p2⟩ := p
        clear HD2
        go_enter Try.func7, Try.ntmps7
        go_wp2_with fail
        refine (HK.out _).mono ?_
        rintro e w' ⟨rfl, rfl⟩
        go_wp2_with fail
        refine (HG.out _).mono ?_
        rintro e w1 ⟨rfl, hb1⟩
        have HB1 := Lib.hid hb1
        clear hb1
        go_wp2_with fail
        refine (HG0.out _).mono ?_
        rintro e w2 ⟨rfl, hb2⟩
        have HB2 := Lib.hid (Below.andThen HB1.out hb2)
        clear hb2 HB1
        go_wp2_with fail
        refine (HS.out _).mono ?_
        rintro e w3 ⟨rfl, hb3⟩
        have HB3 := Lib.hid (Below.andThen HB2.out hb3)
        clear hb3 HB2
        go_wp2_with fail
        refine (HL.out _).mono ?_
        rintro e w4 ⟨rfl, hb4⟩
        have HB4 := Lib.hid (Below.andThen HB3.out hb4)
        clear hb4 HB3
        go_wp2_with fail
        refine (HP.out _).mono ?_
        rintro e w5 ⟨rfl, hb5⟩
        have HB5 := Lib.hid (Below.andThen HB4.out hb5)
        clear hb5 HB4
        go_wp2
        go_ret
        first | exact ⟨rfl, HB5.out⟩ | exact ⟨by simp; omega, HB5.out⟩
    · have r1 : t < LL := by have := HD1.out; rw [decide_eq_false (show ¬ b ≤ HI by omega), Bool.and_false] at this; exact Int.not_le.1 (of_decide_eq_false this.symm)
      obtain ⟨q1, q2⟩ := q
      clear HD1
      rcases (by omega : (L0 ≤ y ∧ x ≤ H0) ∨ (y < L0) ∨ (L0 ≤ y ∧ H0 < x)) with p | p | p
      · obtain rfl : GG = 0 := by have := HD2.out; rw [decide_eq_true p.1, decide_eq_true p.2] at this; simpa using this
        obtain ⟨p1, p2⟩ := p
        clear HD2
        go_enter Try.func7, Try.ntmps7
        go_wp2_with fail
        refine (HK.out _).mono ?_
        rintro e w' ⟨rfl, rfl⟩
        go_wp2_with fail
        refine (HG.out _).mono ?_
        rintro e w1 ⟨rfl, hb1⟩
        have HB1 := Lib.hid hb1
        clear hb1
        go_wp2_with fail
        refine (HG0.out _).mono ?_
        rintro e w2 ⟨rfl, hb2⟩
        have HB2 := Lib.hid (Below.andThen HB1.out hb2)
        clear hb2 HB1
        go_wp2_with fail
        refine (HS.out _).mono ?_
        rintro e w3 ⟨rfl, hb3⟩
        have HB3 := Lib.hid (Below.andThen HB2.out hb3)
        clear hb3 HB2
        go_wp2_with fail
        refine (HL.out _).mono ?_
        rintro e w4 ⟨rfl, hb4⟩
        have HB4 := Lib.hid (Below.andThen HB3.out hb4)
        clear hb4 HB3
        go_wp2_with fail
        refine (HP.out _).mono ?_
        rintro e w5 ⟨rfl, hb5⟩
        have HB5 := Lib.hid (Below.andThen HB4.out hb5)
        clear hb5 HB4
        go_wp2
        go_ret
        first | exact ⟨rfl, HB5.out⟩ | exact ⟨by simp; omega, HB5.out⟩
      · have r2 : (GG == 0) = false := by have := HD2.out; rw [decide_eq_false (show ¬ L0 ≤ y by omega)] at this; exact this
        clear HD2
        go_enter Try.func7, Try.ntmps7
        go_wp2_with fail
        refine (HK.out _).mono ?_
        rintro e w' ⟨rfl, rfl⟩
        go_wp2_with fail
        refine (HG.out _).mono ?_
        rintro e w1 ⟨rfl, hb1⟩
        have HB1 := Lib.hid hb1
        clear hb1
        go_wp2_with fail
        refine (HG0.out _).mono ?_
        rintro e w2 ⟨rfl, hb2⟩
        have HB2 := Lib.hid (Below.andThen HB1.out hb2)
        clear hb2 HB1
        go_wp2_with fail
        refine (HS.out _).mono ?_
        rintro e w3 ⟨rfl, hb3⟩
        have HB3 := Lib.hid (Below.andThen HB2.out hb3)
        clear hb3 HB2
        go_wp2_with fail
        refine (HL.out _).mono ?_
        rintro e w4 ⟨rfl, hb4⟩
        have HB4 := Lib.hid (Below.andThen HB3.out hb4)
        clear hb4 HB3
        go_wp2_with fail
        refine (HP.out _).mono ?_
        rintro e w5 ⟨rfl, hb5⟩
        have HB5 := Lib.hid (Below.andThen HB4.out hb5)
        clear hb5 HB4
        go_wp2
        go_ret
        first | exact ⟨rfl, HB5.out⟩ | exact ⟨by simp; omega, HB5.out⟩
      · have r2 : (GG == 0) = false := by have := HD2.out; rw [decide_eq_false (show ¬ x ≤ H0 by omega), Bool.and_false] at this; exact this
        obtain ⟨p1, p2⟩ := p
        clear HD2
        go_enter Try.func7, Try.ntmps7
        go_wp2_with fail
        refine (HK.out _).mono ?_
        rintro e w' ⟨rfl, rfl⟩
        go_wp2_with fail
        refine (HG.out _).mono ?_
        rintro e w1 ⟨rfl, hb1⟩
        have HB1 := Lib.hid hb1
        clear hb1
        go_wp2_with fail
        refine (HG0.out _).mono ?_
        rintro e w2 ⟨rfl, hb2⟩
        have HB2 := Lib.hid (Below.andThen HB1.out hb2)
        clear hb2 HB1
        go_wp2_with fail
        refine (HS.out _).mono ?_
        rintro e w3 ⟨rfl, hb3⟩
        have HB3 := Lib.hid (Below.andThen HB2.out hb3)
        clear hb3 HB2
        go_wp2_with fail
        refine (HL.out _).mono ?_
        rintro e w4 ⟨rfl, hb4⟩
        have HB4 := Lib.hid (Below.andThen HB3.out hb4)
        clear hb4 HB3
        go_wp2_with fail
        refine (HP.out _).mono ?_
        rintro e w5 ⟨rfl, hb5⟩
        have HB5 := Lib.hid (Below.andThen HB4.out hb5)
        clear hb5 HB4
        go_wp2
        go_ret
        first | exact ⟨rfl, HB5.out⟩ | exact ⟨by simp; omega, HB5.out⟩
  · rw [Bool.eq_false_iff.2 hk] at HK
    clear hk
    go_enter Try.func7, Try.ntmps7
    go_wp2_with fail
    refine (HK.out _).mono ?_
    rintro e w' ⟨rfl, rfl⟩
    go_wp2_with fail
    refine (HS.out _).mono ?_
    rintro e w1 ⟨rfl, hb1⟩
    have HB1 := Lib.hid hb1
    clear hb1
    go_wp2
    go_ret
    first | exact ⟨rfl, HB1.out⟩ | exact ⟨by simp; omega, HB1.out⟩
end Go.Proofs.Ytngmdonlljpknaa.metricRingsAreExact
