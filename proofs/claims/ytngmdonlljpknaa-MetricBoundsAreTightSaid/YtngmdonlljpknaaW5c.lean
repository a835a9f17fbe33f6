/- MetricBoundsAreTight: its walk. -/
import Derived.Test.YtngmdonlljpknaaVe

namespace Go.Proofs.Ytngmdonlljpknaa.metricBoundsAreTight

open Go.ChangeShapes Go.WideShapes Go.ChangeAt Go.RowKit

open Go.Proofs.Ytngmdonlljpknaa.vk

open Go.Proofs.Ytngmdonlljpknaa.me

set_option linter.unusedVariables false
theorem low_key {m d e : Int} (hd : 0 ≤ d) (he : 0 ≤ e) : low m (keyk m d) (keyk m e) = keyk m (max d e - min d e) := by
  unfold keyk
  by_cases hm : m = 2
  · subst hm; simp only [if_pos]; exact low_sq hd he
  · simp only [if_neg hm]; unfold low; rw [if_neg hm]; omega
theorem high_key {m d e : Int} (hd : 0 ≤ d) (he : 0 ≤ e) : high m (keyk m d) (keyk m e) = min (keyk m (d + e)) 134217728 := by
  unfold keyk
  by_cases hm : m = 2
  · subst hm; simp only [if_pos]; exact high_sq hd he
  · simp only [if_neg hm]; unfold high; rw [if_neg hm]
theorem keyk_bd {m d : Int} (hd : 0 ≤ d) (hd2 : d ≤ 11585) : 0 ≤ keyk m d ∧ keyk m d ≤ 134217728 := by
  unfold keyk
  split
  · have := sq_le hd hd2; have := sq_nonneg d; omega
  · omega
set_option maxRecDepth 100000 in
set_option maxHeartbeats 4000000 in
theorem walk (w : World) {m d e : Int} (w0 : (Lit.int .i64 m).wf = true) (w1 : (Lit.int .i64 d).wf = true) (w2 : (Lit.int .i64 e).wf = true) :
    Calls Try.prog 6 #[.int .i64 m, .int .i64 d, .int .i64 e] w fun e w' => e = .returned (.bool true) ∧ Below w.heap.size w w' := by
  have HS := Lib.hid (fun w' => sanity_calls w')
  have HV := Lib.hid (fun w' => rvalid_calls m 0 w')
  have hE : okk m 0 = decide (1 ≤ m ∧ m ≤ 3) := by unfold okk; simp
  rw [hE] at HV
  clear w0 w1 w2 hE
  by_cases hm : 1 ≤ m ∧ m ≤ 3
  · rw [decide_eq_true hm] at HV
    obtain ⟨hm1, hm3⟩ := hm
    by_cases h1 : d < 0
    · skip
      go_enter Try.func6, Try.ntmps6
      go_wp2_with fail
      refine (HV.out _).mono ?_
      rintro e w' ⟨rfl, rfl⟩
      go_wp2_with fail
      refine (HS.out _).mono ?_
      rintro e w1 ⟨rfl, hb1⟩
      have HB1 := Lib.hid hb1
      clear hb1
      go_wp2
      go_ret
      exact ⟨rfl, HB1.out⟩
    · by_cases h2 : 11585 < d
      · skip
        go_enter Try.func6, Try.ntmps6
        go_wp2_with fail
        refine (HV.out _).mono ?_
        rintro e w' ⟨rfl, rfl⟩
        go_wp2_with fail
        refine (HS.out _).mono ?_
        rintro e w1 ⟨rfl, hb1⟩
        have HB1 := Lib.hid hb1
        clear hb1
        go_wp2
        go_ret
        exact ⟨rfl, HB1.out⟩
      · by_cases h3 : e < 0
        · skip
          go_enter Try.func6, Try.ntmps6
          go_wp2_with fail
          refine (HV.out _).mono ?_
          rintro e w' ⟨rfl, rfl⟩
          go_wp2_with fail
          refine (HS.out _).mono ?_
          rintro e w1 ⟨rfl, hb1⟩
          have HB1 := Lib.hid hb1
          clear hb1
          go_wp2
          go_ret
          exact ⟨rfl, HB1.out⟩
        · by_cases h4 : 11585 < e
          · skip
            go_enter Try.func6, Try.ntmps6
            go_wp2_with fail
            refine (HV.out _).mono ?_
            rintro e w' ⟨rfl, rfl⟩
            go_wp2_with fail
            refine (HS.out _).mono ?_
            rintro e w1 ⟨rfl, hb1⟩
            have HB1 := Lib.hid hb1
            clear hb1
            go_wp2
            go_ret
            exact ⟨rfl, HB1.out⟩
          · have e0 : 0 ≤ d := by omega
            have e1 : 0 ≤ e := by omega
            have b1 := keyk_bd (m := m) (d := d) (by omega) (by omega)
            have b2 := keyk_bd (m := m) (d := e) (by omega) (by omega)
            obtain ⟨x, hx⟩ : ∃ x, max d e = x := ⟨_, rfl⟩
            obtain ⟨y, hy⟩ : ∃ y, min d e = y := ⟨_, rfl⟩
            have hy0 : 0 ≤ y := by omega
            have hxy : y ≤ x := by omega
            have hx2 : x ≤ 11585 := by omega
            have HKS := Lib.hid (fun w' => key_calls m (d + e) w' (by omega) (by omega))
            have HKD := Lib.hid (fun w' => key_calls m d w' (by omega) (by omega))
            have HKE := Lib.hid (fun w' => key_calls m e w' (by omega) (by omega))
            have HKX := Lib.hid (fun w' => key_calls m (x - y) w' (by omega) (by omega))
            have HL := Lib.hid (fun w' => low_calls m (keyk m d) (keyk m e) w' hm1 hm3 b1.1 b2.1 b1.2 b2.2)
            have HH := Lib.hid (fun w' => high_calls m (keyk m d) (keyk m e) w' hm1 hm3 b1.1 b2.1 b1.2 b2.2)
            rw [low_key e0 e1, hx, hy] at HL
            rw [high_key e0 e1] at HH
            generalize keyk m d = kd at *
            generalize keyk m e = ke at *
            generalize keyk m (x - y) = kx at *
            generalize keyk m (d + e) = ks at *
            by_cases h5 : 134217728 < ks
            · rw [Int.min_eq_right (show (134217728 : Int) ≤ ks by omega)] at HH
              go_enter Try.func6, Try.ntmps6
              go_wp2_with fail
              refine (HV.out _).mono ?_
              rintro e w' ⟨rfl, rfl⟩
              go_wp2_with fail
              refine (HKS.out _).mono ?_
              rintro e w' ⟨rfl, rfl⟩
              go_wp2_with fail
              refine (HS.out _).mono ?_
              rintro e w1 ⟨rfl, hb1⟩
              have HB1 := Lib.hid hb1
              clear hb1
              go_wp2_with fail
              refine (HKD.out _).mono ?_
              rintro e w' ⟨rfl, rfl⟩
              go_wp2_with fail
              refine (HKE.out _).mono ?_
              rintro e w' ⟨rfl, rfl⟩
              go_wp2_with fail
              refine (HL.out _).mono ?_
              rintro e w2 ⟨rfl, hb2⟩
              have HB2 := Lib.hid (Below.andThen HB1.out hb2)
              clear hb2 HB1
              go_wp2_with fail
              refine (HKX.out _).mono ?_
              rintro e w' ⟨rfl, rfl⟩
              go_wp2_with fail
              refine (HKD.out _).mono ?_
              rintro e w' ⟨rfl, rfl⟩
              go_wp2_with fail
              refine (HKE.out _).mono ?_
              rintro e w' ⟨rfl, rfl⟩
              go_wp2_with fail
              refine (HH.out _).mono ?_
              rintro e w3 ⟨rfl, hb3⟩
              have HB3 := Lib.hid (Below.andThen HB2.out hb3)
              clear hb3 HB2
              go_wp2
              go_ret
              exact ⟨rfl, HB3.out⟩
            · rw [Int.min_eq_left (show ks ≤ 134217728 by omega)] at HH
              go_enter Try.func6, Try.ntmps6
              go_wp2_with fail
              refine (HV.out _).mono ?_
              rintro e w' ⟨rfl, rfl⟩
              go_wp2_with fail
              refine (HKS.out _).mono ?_
              rintro e w' ⟨rfl, rfl⟩
              go_wp2_with fail
              refine (HS.out _).mono ?_
              rintro e w1 ⟨rfl, hb1⟩
              have HB1 := Lib.hid hb1
              clear hb1
              go_wp2_with fail
              refine (HKD.out _).mono ?_
              rintro e w' ⟨rfl, rfl⟩
              go_wp2_with fail
              refine (HKE.out _).mono ?_
              rintro e w' ⟨rfl, rfl⟩
              go_wp2_with fail
              refine (HL.out _).mono ?_
              rintro e w2 ⟨rfl, hb2⟩
              have HB2 := Lib.hid (Below.andThen HB1.out hb2)
              clear hb2 HB1
              go_wp2_with fail
              refine (HKX.out _).mono ?_
              rintro e w' ⟨rfl, rfl⟩
              go_wp2_with fail
              refine (HKD.out _).mono ?_
              rintro e w' ⟨rfl, rfl⟩
              go_wp2_with fail
              refine (HKE.out _).mono ?_
              rintro e w' ⟨rfl, rfl⟩
              go_wp2_with fail
              refine (HH.out _).mono ?_
              rintro e w3 ⟨rfl, hb3⟩
              have HB3 := Lib.hid (Below.andThen HB2.out hb3)
              clear hb3 HB2
              go_wp2
              go_ret
              exact ⟨rfl, HB3.out⟩
  · rw [decide_eq_false hm] at HV
    go_enter Try.func6, Try.ntmps6
    go_wp2_with fail
    refine (HV.out _).mono ?_
    rintro e w' ⟨rfl, rfl⟩
    go_wp2_with fail
    refine (HS.out _).mono ?_
    rintro e w1 ⟨rfl, hb1⟩
    have HB1 := Lib.hid hb1
    clear hb1
    go_wp2
    go_ret
    exact ⟨rfl, HB1.out⟩
end Go.Proofs.Ytngmdonlljpknaa.metricBoundsAreTight
