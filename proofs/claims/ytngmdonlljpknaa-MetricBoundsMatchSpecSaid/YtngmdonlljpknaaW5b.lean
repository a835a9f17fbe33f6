/- MetricBoundsMatchSpec: its walk. -/
import Derived.Test.YtngmdonlljpknaaVf

namespace Go.Proofs.Ytngmdonlljpknaa.metricBoundsMatchSpec

open Go.ChangeShapes Go.WideShapes Go.ChangeAt Go.RowKit

open Go.Proofs.Ytngmdonlljpknaa.vk

open Go.Proofs.Ytngmdonlljpknaa.me

set_option linter.unusedVariables false
theorem keys_of {m a b c : Int} (h : (okk m a && okk m b && okk m c) = true) : 1 ≤ m ∧ m ≤ 3 ∧ 0 ≤ a ∧ a ≤ 134217728 ∧ 0 ≤ b ∧ b ≤ 134217728 ∧ 0 ≤ c ∧ c ≤ 134217728 := by
  simp [okk] at h
  omega
set_option maxRecDepth 100000 in
set_option maxHeartbeats 4000000 in
theorem walk (w : World) {m a b c : Int} (w0 : (Lit.int .i64 m).wf = true) (w1 : (Lit.int .i64 a).wf = true) (w2 : (Lit.int .i64 b).wf = true) (w3 : (Lit.int .i64 c).wf = true) :
    Calls Try.prog 4 #[.int .i64 m, .int .i64 a, .int .i64 b, .int .i64 c] w fun e w' => e = .returned (.bool true) ∧ Below w.heap.size w w' := by
  have HS := Lib.hid (fun w' => sanity_calls w')
  have HK := Lib.hid (fun w' => keys_calls m a b c w')
  clear w0 w1 w2 w3
  by_cases hk : (okk m a && okk m b && okk m c) = true
  · obtain ⟨k1, k2, k3, k4, k5, k6, k7, k8⟩ := keys_of hk
    rw [hk] at HK
    clear hk
    have HG := Lib.hid (fun w' => ring_calls m a b w' k1 k2 k3 k5 k4 k6)
    have HRG := Lib.hid (fun w' => rring_calls m a b w' k3 k5 k4 k6)
    have HL := Lib.hid (fun w' => low_calls m a b w' k1 k2 k3 k5 k4 k6)
    have HRL := Lib.hid (fun w' => rlow_calls m a b w' k3 k5 k4 k6)
    have HH := Lib.hid (fun w' => high_calls m a b w' k1 k2 k3 k5 k4 k6)
    have HRH := Lib.hid (fun w' => rhigh_calls m a b w' k3 k5 k4 k6)
    have HT := Lib.hid (fun w' => triangle_calls m a b c w' k1 k2 k3 k5 k4 k6)
    have HRT := Lib.hid (fun w' => rtriangle_calls m a b c w' k3 k5 k4 k6)
    obtain ⟨x, hx⟩ : ∃ x, min b c = x := ⟨_, rfl⟩
    obtain ⟨y, hy⟩ : ∃ y, max b c = y := ⟨_, rfl⟩
    have hxy : x ≤ y := by omega
    have hx0 : 0 ≤ x := by omega
    have hy2 : y ≤ 134217728 := by omega
    have HP := Lib.hid (fun w' => gap_calls m x y a w' k1 k2 k3 hx0 k4 hy2 hxy)
    have HRP := Lib.hid (fun w' => rgap_calls m x y a w' k3 hx0 k4 hy2 hxy)
    have HE := Lib.hid (fun w' => reach_calls m x y a w' k1 k2 k3 (by omega) k4 hy2)
    have HRE := Lib.hid (fun w' => rreach_calls m x y a w' k3 hx0 k4 hy2 hxy)
    have HA := Lib.hid (fun w' => ball_calls m a b c w' k1 k2 k5 k7 k6 k8)
    have HRA := Lib.hid (fun w' => rball_calls m a b c w' k5 k7 k6 k8)
    generalize rlo m a b = LO at *
    generalize high m a b = HI at *
    generalize low m a b = LL at *
    generalize gap m x y a = GG at *
    generalize high m a y = RE at *
    generalize (decide (LL ≤ c) && decide (c ≤ HI)) = TT at *
    generalize decide (a ≤ high m b c) = BB at *
    go_enter Try.func4, Try.ntmps4
    go_wp2_with fail
    refine (HK.out _).mono ?_
    rintro e w' ⟨rfl, rfl⟩
    go_wp2_with fail
    refine (HG.out _).mono ?_
    rintro e w1 ⟨rfl, hb1⟩
    have HB1 := Lib.hid hb1
    clear hb1
    go_wp2_with fail
    refine (HRG.out _).mono ?_
    rintro e w2 ⟨rfl, hb2⟩
    have HB2 := Lib.hid (Below.andThen HB1.out hb2)
    clear hb2 HB1
    go_wp2_with fail
    refine (HL.out _).mono ?_
    rintro e w3 ⟨rfl, hb3⟩
    have HB3 := Lib.hid hb3
    clear hb3
    go_wp2_with fail
    refine (HRL.out _).mono ?_
    rintro e w' ⟨rfl, rfl⟩
    go_wp2_with fail
    refine (HH.out _).mono ?_
    rintro e w4 ⟨rfl, hb4⟩
    have HB4 := Lib.hid (Below.andThen HB3.out hb4)
    clear hb4 HB3
    go_wp2_with fail
    refine (HRH.out _).mono ?_
    rintro e w' ⟨rfl, rfl⟩
    go_wp2_with fail
    refine (HT.out _).mono ?_
    rintro e w5 ⟨rfl, hb5⟩
    have HB5 := Lib.hid (Below.andThen HB4.out hb5)
    clear hb5 HB4
    go_wp2_with fail
    refine (HRT.out _).mono ?_
    rintro e w' ⟨rfl, rfl⟩
    go_wp2_with fail
    refine (HP.out _).mono ?_
    rintro e w6 ⟨rfl, hb6⟩
    have HB6 := Lib.hid (Below.andThen HB5.out hb6)
    clear hb6 HB5
    go_wp2_with fail
    refine (HRP.out _).mono ?_
    rintro e w' ⟨rfl, rfl⟩
    go_wp2_with fail
    refine (HE.out _).mono ?_
    rintro e w7 ⟨rfl, hb7⟩
    have HB7 := Lib.hid (Below.andThen HB6.out hb7)
    clear hb7 HB6
    go_wp2_with fail
    refine (HRE.out _).mono ?_
    rintro e w' ⟨rfl, rfl⟩
    go_wp2_with fail
    refine (HA.out _).mono ?_
    rintro e w8 ⟨rfl, hb8⟩
    have HB8 := Lib.hid (Below.andThen HB7.out hb8)
    clear hb8 HB7
    go_wp2_with fail
    refine (HRA.out _).mono ?_
    rintro e w' ⟨rfl, rfl⟩
    go_wp2_with fail
    refine (HS.out _).mono ?_
    rintro e w9 ⟨rfl, hb9⟩
    have HB9 := Lib.hid (Below.andThen HB8.out hb9)
    clear hb9 HB8
    have hrow := (HB9.out.block w2.heap.size (by rw [size_new]; omega)).trans (heap_alloc_new _ _)
    have hc0 : w9.cell? ⟨w2.heap.size, 0, none⟩ = some (.int .i64 LO) := by rw [cell_of_row _ _ _ _ _ _ hrow]; rfl
    have hc1 : w9.cell? ⟨w2.heap.size, 1, none⟩ = some (.int .i64 HI) := by rw [cell_of_row _ _ _ _ _ _ hrow]; rfl
    clear hrow
    go_wp2
    go_ret
    exact ⟨rfl, Below.andThen HB2.out (Below.andThen (below_new _ _) HB9.out)⟩
  · rw [Bool.eq_false_iff.2 hk] at HK
    clear hk
    go_enter Try.func4, Try.ntmps4
    go_wp2_with fail
    refine (HK.out _).mono ?_
    rintro e w' ⟨rfl, rfl⟩
    go_wp2_with fail
    refine (HS.out _).mono ?_
    rintro e w1 ⟨rfl, hb1⟩
    have HB1 := Lib.hid hb1
    clear hb1
    go_wp2
    go_ret
    exact ⟨rfl, HB1.out⟩
end Go.Proofs.Ytngmdonlljpknaa.metricBoundsMatchSpec
