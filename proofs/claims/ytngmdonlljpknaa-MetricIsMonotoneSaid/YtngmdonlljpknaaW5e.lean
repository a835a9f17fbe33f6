/- MetricIsMonotone: its walk. -/
import Derived.Test.YtngmdonlljpknaaVf

namespace Go.Proofs.Ytngmdonlljpknaa.metricIsMonotone

open Go.ChangeShapes Go.WideShapes Go.ChangeAt Go.RowKit

open Go.Proofs.Ytngmdonlljpknaa.vk

open Go.Proofs.Ytngmdonlljpknaa.me

set_option linter.unusedVariables false
theorem keys_of {m a b c : Int} (h : (okk m a && okk m b && okk m c) = true) : 1 ≤ m ∧ m ≤ 3 ∧ 0 ≤ a ∧ a ≤ 134217728 ∧ 0 ≤ b ∧ b ≤ 134217728 ∧ 0 ≤ c ∧ c ≤ 134217728 := by
  simp [okk] at h
  omega
set_option maxRecDepth 100000 in
set_option maxHeartbeats 4000000 in
theorem walk (w : World) {m a b c : Int} (w0 : (Lit.int .i64 m).wf = true) (w1 : (Lit.int .i64 a).wf = true) (w2 : (Lit.int .i64 b).wf = true) (w3 : (Lit.int .i64 c).wf = true) :
    Calls Try.prog 8 #[.int .i64 m, .int .i64 a, .int .i64 b, .int .i64 c] w fun e w' => e = .returned (.bool true) ∧ Below w.heap.size w w' := by
  have HS := Lib.hid (fun w' => sanity_calls w')
  have HK := Lib.hid (fun w' => keys_calls m a b c w')
  clear w0 w1 w2 w3
  by_cases hk : (okk m a && okk m b && okk m c) = true
  · obtain ⟨k1, k2, k3, k4, k5, k6, k7, k8⟩ := keys_of hk
    rw [hk] at HK
    clear hk
    obtain ⟨x, hx⟩ : ∃ x, min b c = x := ⟨_, rfl⟩
    obtain ⟨y, hy⟩ : ∃ y, max b c = y := ⟨_, rfl⟩
    have hxy : x ≤ y := by omega
    have hx0 : 0 ≤ x := by omega
    have hy2 : y ≤ 134217728 := by omega
    have hxb : x ≤ b := by omega
    have hxc : x ≤ c := by omega
    have hby : b ≤ y := by omega
    have hcy : c ≤ y := by omega
    have HLB := Lib.hid (fun w' => low_calls m a b w' k1 k2 k3 k5 k4 k6)
    have HBL := Lib.hid (fun w' => low_calls m b a w' k1 k2 k5 k3 k6 k4)
    have HHB := Lib.hid (fun w' => high_calls m a b w' k1 k2 k3 k5 k4 k6)
    have HBH := Lib.hid (fun w' => high_calls m b a w' k1 k2 k5 k3 k6 k4)
    have HAA := Lib.hid (fun w' => low_v m a a 0 ⟨k1, k2, k3, k3, k4, k4⟩ (low_self k3) w')
    have HA0 := Lib.hid (fun w' => high_v m a 0 a ⟨k1, k2, k3, by omega, k4, by omega⟩ (high_zero k4) w')
    have HHX := Lib.hid (fun w' => high_calls m a x w' k1 k2 k3 hx0 k4 (by omega))
    have HHY := Lib.hid (fun w' => high_calls m a y w' k1 k2 k3 (by omega) k4 hy2)
    have HLX := Lib.hid (fun w' => low_calls m a x w' k1 k2 k3 hx0 k4 (by omega))
    have HLY := Lib.hid (fun w' => low_calls m a y w' k1 k2 k3 (by omega) k4 hy2)
    have HLC := Lib.hid (fun w' => low_calls m a c w' k1 k2 k3 k7 k4 k8)
    have HHC := Lib.hid (fun w' => high_calls m a c w' k1 k2 k3 k7 k4 k8)
    have HP := Lib.hid (fun w' => gap_calls m x y a w' k1 k2 k3 hx0 k4 hy2 hxy)
    have HE := Lib.hid (fun w' => reach_calls m x y a w' k1 k2 k3 (by omega) k4 hy2)
    rw [low_comm m b a] at HBL
    rw [high_comm m b a] at HBH
    have f1 := high_grow (m := m) k3 hx0 hxy
    have f2 : a ≤ x → low m a x ≤ low m a y := fun q => low_away k3 k4 (by omega) hy2 (.inl ⟨q, hxy⟩)
    have f3 : y ≤ a → low m a y ≤ low m a x := fun q => low_away k3 k4 hx0 (by omega) (.inr ⟨hxy, q⟩)
    have f4 := gap_le (m := m) hxb hby k3 k4 hx0 hy2
    have f5 := gap_le (m := m) hxc hcy k3 k4 hx0 hy2
    have f6 := high_grow (m := m) k3 k5 hby
    have f7 := high_grow (m := m) k3 k7 hcy
    generalize low m a b = LB at *
    generalize high m a b = HB at *
    generalize high m a x = HX at *
    generalize high m a y = HY at *
    generalize low m a x = LX at *
    generalize low m a y = LY at *
    generalize low m a c = LC at *
    generalize high m a c = HC at *
    generalize gap m x y a = GG at *
    by_cases g1 : a ≤ x
    · have f2' := f2 g1
      by_cases g2 : y ≤ a
      · have f3' := f3 g2
        clear f2 f3
        go_enter Try.func8, Try.ntmps8
        go_wp2_with fail
        refine (HK.out _).mono ?_
        rintro e w' ⟨rfl, rfl⟩
        go_wp2_with fail
        refine (HLB.out _).mono ?_
        rintro e w1 ⟨rfl, hb1⟩
        have HB1 := Lib.hid hb1
        clear hb1
        go_wp2_with fail
        refine (HBL.out _).mono ?_
        rintro e w2 ⟨rfl, hb2⟩
        have HB2 := Lib.hid (Below.andThen HB1.out hb2)
        clear hb2 HB1
        go_wp2_with fail
        refine (HHB.out _).mono ?_
        rintro e w3 ⟨rfl, hb3⟩
        have HB3 := Lib.hid (Below.andThen HB2.out hb3)
        clear hb3 HB2
        go_wp2_with fail
        refine (HBH.out _).mono ?_
        rintro e w4 ⟨rfl, hb4⟩
        have HB4 := Lib.hid (Below.andThen HB3.out hb4)
        clear hb4 HB3
        go_wp2_with fail
        refine (HAA.out _).mono ?_
        rintro e w5 ⟨rfl, hb5⟩
        have HB5 := Lib.hid (Below.andThen HB4.out hb5)
        clear hb5 HB4
        go_wp2_with fail
        refine (HA0.out _).mono ?_
        rintro e w6 ⟨rfl, hb6⟩
        have HB6 := Lib.hid (Below.andThen HB5.out hb6)
        clear hb6 HB5
        go_wp2_with fail
        refine (HHX.out _).mono ?_
        rintro e w7 ⟨rfl, hb7⟩
        have HB7 := Lib.hid (Below.andThen HB6.out hb7)
        clear hb7 HB6
        go_wp2_with fail
        refine (HHY.out _).mono ?_
        rintro e w8 ⟨rfl, hb8⟩
        have HB8 := Lib.hid (Below.andThen HB7.out hb8)
        clear hb8 HB7
        go_wp2_with fail
        refine (HLX.out _).mono ?_
        rintro e w9 ⟨rfl, hb9⟩
        have HB9 := Lib.hid (Below.andThen HB8.out hb9)
        clear hb9 HB8
        go_wp2_with fail
        refine (HLY.out _).mono ?_
        rintro e w10 ⟨rfl, hb10⟩
        have HB10 := Lib.hid (Below.andThen HB9.out hb10)
        clear hb10 HB9
        go_wp2_with fail
        refine (HLY.out _).mono ?_
        rintro e w11 ⟨rfl, hb11⟩
        have HB11 := Lib.hid (Below.andThen HB10.out hb11)
        clear hb11 HB10
        go_wp2_with fail
        refine (HLX.out _).mono ?_
        rintro e w12 ⟨rfl, hb12⟩
        have HB12 := Lib.hid (Below.andThen HB11.out hb12)
        clear hb12 HB11
        go_wp2_with fail
        refine (HP.out _).mono ?_
        rintro e w13 ⟨rfl, hb13⟩
        have HB13 := Lib.hid (Below.andThen HB12.out hb13)
        clear hb13 HB12
        go_wp2_with fail
        refine (HE.out _).mono ?_
        rintro e w14 ⟨rfl, hb14⟩
        have HB14 := Lib.hid (Below.andThen HB13.out hb14)
        clear hb14 HB13
        go_wp2_with fail
        refine (HS.out _).mono ?_
        rintro e w15 ⟨rfl, hb15⟩
        have HB15 := Lib.hid (Below.andThen HB14.out hb15)
        clear hb15 HB14
        go_wp2_with fail
        refine (HLB.out _).mono ?_
        rintro e w16 ⟨rfl, hb16⟩
        have HB16 := Lib.hid (Below.andThen HB15.out hb16)
        clear hb16 HB15
        go_wp2_with fail
        refine (HLC.out _).mono ?_
        rintro e w17 ⟨rfl, hb17⟩
        have HB17 := Lib.hid (Below.andThen HB16.out hb17)
        clear hb17 HB16
        go_wp2_with fail
        refine (HHB.out _).mono ?_
        rintro e w18 ⟨rfl, hb18⟩
        have HB18 := Lib.hid (Below.andThen HB17.out hb18)
        clear hb18 HB17
        go_wp2_with fail
        refine (HHC.out _).mono ?_
        rintro e w19 ⟨rfl, hb19⟩
        have HB19 := Lib.hid (Below.andThen HB18.out hb19)
        clear hb19 HB18
        go_wp2
        go_ret
        exact ⟨rfl, HB19.out⟩
      · clear f2 f3
        go_enter Try.func8, Try.ntmps8
        go_wp2_with fail
        refine (HK.out _).mono ?_
        rintro e w' ⟨rfl, rfl⟩
        go_wp2_with fail
        refine (HLB.out _).mono ?_
        rintro e w1 ⟨rfl, hb1⟩
        have HB1 := Lib.hid hb1
        clear hb1
        go_wp2_with fail
        refine (HBL.out _).mono ?_
        rintro e w2 ⟨rfl, hb2⟩
        have HB2 := Lib.hid (Below.andThen HB1.out hb2)
        clear hb2 HB1
        go_wp2_with fail
        refine (HHB.out _).mono ?_
        rintro e w3 ⟨rfl, hb3⟩
        have HB3 := Lib.hid (Below.andThen HB2.out hb3)
        clear hb3 HB2
        go_wp2_with fail
        refine (HBH.out _).mono ?_
        rintro e w4 ⟨rfl, hb4⟩
        have HB4 := Lib.hid (Below.andThen HB3.out hb4)
        clear hb4 HB3
        go_wp2_with fail
        refine (HAA.out _).mono ?_
        rintro e w5 ⟨rfl, hb5⟩
        have HB5 := Lib.hid (Below.andThen HB4.out hb5)
        clear hb5 HB4
        go_wp2_with fail
        refine (HA0.out _).mono ?_
        rintro e w6 ⟨rfl, hb6⟩
        have HB6 := Lib.hid (Below.andThen HB5.out hb6)
        clear hb6 HB5
        go_wp2_with fail
        refine (HHX.out _).mono ?_
        rintro e w7 ⟨rfl, hb7⟩
        have HB7 := Lib.hid (Below.andThen HB6.out hb7)
        clear hb7 HB6
        go_wp2_with fail
        refine (HHY.out _).mono ?_
        rintro e w8 ⟨rfl, hb8⟩
        have HB8 := Lib.hid (Below.andThen HB7.out hb8)
        clear hb8 HB7
        go_wp2_with fail
        refine (HLX.out _).mono ?_
        rintro e w9 ⟨rfl, hb9⟩
        have HB9 := Lib.hid (Below.andThen HB8.out hb9)
        clear hb9 HB8
        go_wp2_with fail
        refine (HLY.out _).mono ?_
        rintro e w10 ⟨rfl, hb10⟩
        have HB10 := Lib.hid (Below.andThen HB9.out hb10)
        clear hb10 HB9
        go_wp2_with fail
        refine (HP.out _).mono ?_
        rintro e w11 ⟨rfl, hb11⟩
        have HB11 := Lib.hid (Below.andThen HB10.out hb11)
        clear hb11 HB10
        go_wp2_with fail
        refine (HE.out _).mono ?_
        rintro e w12 ⟨rfl, hb12⟩
        have HB12 := Lib.hid (Below.andThen HB11.out hb12)
        clear hb12 HB11
        go_wp2_with fail
        refine (HS.out _).mono ?_
        rintro e w13 ⟨rfl, hb13⟩
        have HB13 := Lib.hid (Below.andThen HB12.out hb13)
        clear hb13 HB12
        go_wp2_with fail
        refine (HLB.out _).mono ?_
        rintro e w14 ⟨rfl, hb14⟩
        have HB14 := Lib.hid (Below.andThen HB13.out hb14)
        clear hb14 HB13
        go_wp2_with fail
        refine (HLC.out _).mono ?_
        rintro e w15 ⟨rfl, hb15⟩
        have HB15 := Lib.hid (Below.andThen HB14.out hb15)
        clear hb15 HB14
        go_wp2_with fail
        refine (HHB.out _).mono ?_
        rintro e w16 ⟨rfl, hb16⟩
        have HB16 := Lib.hid (Below.andThen HB15.out hb16)
        clear hb16 HB15
        go_wp2_with fail
        refine (HHC.out _).mono ?_
        rintro e w17 ⟨rfl, hb17⟩
        have HB17 := Lib.hid (Below.andThen HB16.out hb17)
        clear hb17 HB16
        go_wp2
        go_ret
        exact ⟨rfl, HB17.out⟩
    · by_cases g2 : y ≤ a
      · have f3' := f3 g2
        clear f2 f3
        go_enter Try.func8, Try.ntmps8
        go_wp2_with fail
        refine (HK.out _).mono ?_
        rintro e w' ⟨rfl, rfl⟩
        go_wp2_with fail
        refine (HLB.out _).mono ?_
        rintro e w1 ⟨rfl, hb1⟩
        have HB1 := Lib.hid hb1
        clear hb1
        go_wp2_with fail
        refine (HBL.out _).mono ?_
        rintro e w2 ⟨rfl, hb2⟩
        have HB2 := Lib.hid (Below.andThen HB1.out hb2)
        clear hb2 HB1
        go_wp2_with fail
        refine (HHB.out _).mono ?_
        rintro e w3 ⟨rfl, hb3⟩
        have HB3 := Lib.hid (Below.andThen HB2.out hb3)
        clear hb3 HB2
        go_wp2_with fail
        refine (HBH.out _).mono ?_
        rintro e w4 ⟨rfl, hb4⟩
        have HB4 := Lib.hid (Below.andThen HB3.out hb4)
        clear hb4 HB3
        go_wp2_with fail
        refine (HAA.out _).mono ?_
        rintro e w5 ⟨rfl, hb5⟩
        have HB5 := Lib.hid (Below.andThen HB4.out hb5)
        clear hb5 HB4
        go_wp2_with fail
        refine (HA0.out _).mono ?_
        rintro e w6 ⟨rfl, hb6⟩
        have HB6 := Lib.hid (Below.andThen HB5.out hb6)
        clear hb6 HB5
        go_wp2_with fail
        refine (HHX.out _).mono ?_
        rintro e w7 ⟨rfl, hb7⟩
        have HB7 := Lib.hid (Below.andThen HB6.out hb7)
        clear hb7 HB6
        go_wp2_with fail
        refine (HHY.out _).mono ?_
        rintro e w8 ⟨rfl, hb8⟩
        have HB8 := Lib.hid (Below.andThen HB7.out hb8)
        clear hb8 HB7
        go_wp2_with fail
        refine (HLY.out _).mono ?_
        rintro e w9 ⟨rfl, hb9⟩
        have HB9 := Lib.hid (Below.andThen HB8.out hb9)
        clear hb9 HB8
        go_wp2_with fail
        refine (HLX.out _).mono ?_
        rintro e w10 ⟨rfl, hb10⟩
        have HB10 := Lib.hid (Below.andThen HB9.out hb10)
        clear hb10 HB9
        go_wp2_with fail
        refine (HP.out _).mono ?_
        rintro e w11 ⟨rfl, hb11⟩
        have HB11 := Lib.hid (Below.andThen HB10.out hb11)
        clear hb11 HB10
        go_wp2_with fail
        refine (HE.out _).mono ?_
        rintro e w12 ⟨rfl, hb12⟩
        have HB12 := Lib.hid (Below.andThen HB11.out hb12)
        clear hb12 HB11
        go_wp2_with fail
        refine (HS.out _).mono ?_
        rintro e w13 ⟨rfl, hb13⟩
        have HB13 := Lib.hid (Below.andThen HB12.out hb13)
        clear hb13 HB12
        go_wp2_with fail
        refine (HLB.out _).mono ?_
        rintro e w14 ⟨rfl, hb14⟩
        have HB14 := Lib.hid (Below.andThen HB13.out hb14)
        clear hb14 HB13
        go_wp2_with fail
        refine (HLC.out _).mono ?_
        rintro e w15 ⟨rfl, hb15⟩
        have HB15 := Lib.hid (Below.andThen HB14.out hb15)
        clear hb15 HB14
        go_wp2_with fail
        refine (HHB.out _).mono ?_
        rintro e w16 ⟨rfl, hb16⟩
        have HB16 := Lib.hid (Below.andThen HB15.out hb16)
        clear hb16 HB15
        go_wp2_with fail
        refine (HHC.out _).mono ?_
        rintro e w17 ⟨rfl, hb17⟩
        have HB17 := Lib.hid (Below.andThen HB16.out hb17)
        clear hb17 HB16
        go_wp2
        go_ret
        exact ⟨rfl, HB17.out⟩
      · clear f2 f3
        go_enter Try.func8, Try.ntmps8
        go_wp2_with fail
        refine (HK.out _).mono ?_
        rintro e w' ⟨rfl, rfl⟩
        go_wp2_with fail
        refine (HLB.out _).mono ?_
        rintro e w1 ⟨rfl, hb1⟩
        have HB1 := Lib.hid hb1
        clear hb1
        go_wp2_with fail
        refine (HBL.out _).mono ?_
        rintro e w2 ⟨rfl, hb2⟩
        have HB2 := Lib.hid (Below.andThen HB1.out hb2)
        clear hb2 HB1
        go_wp2_with fail
        refine (HHB.out _).mono ?_
        rintro e w3 ⟨rfl, hb3⟩
        have HB3 := Lib.hid (Below.andThen HB2.out hb3)
        clear hb3 HB2
        go_wp2_with fail
        refine (HBH.out _).mono ?_
        rintro e w4 ⟨rfl, hb4⟩
        have HB4 := Lib.hid (Below.andThen HB3.out hb4)
        clear hb4 HB3
        go_wp2_with fail
        refine (HAA.out _).mono ?_
        rintro e w5 ⟨rfl, hb5⟩
        have HB5 := Lib.hid (Below.andThen HB4.out hb5)
        clear hb5 HB4
        go_wp2_with fail
        refine (HA0.out _).mono ?_
        rintro e w6 ⟨rfl, hb6⟩
        have HB6 := Lib.hid (Below.andThen HB5.out hb6)
        clear hb6 HB5
        go_wp2_with fail
        refine (HHX.out _).mono ?_
        rintro e w7 ⟨rfl, hb7⟩
        have HB7 := Lib.hid (Below.andThen HB6.out hb7)
        clear hb7 HB6
        go_wp2_with fail
        refine (HHY.out _).mono ?_
        rintro e w8 ⟨rfl, hb8⟩
        have HB8 := Lib.hid (Below.andThen HB7.out hb8)
        clear hb8 HB7
        go_wp2_with fail
        refine (HP.out _).mono ?_
        rintro e w9 ⟨rfl, hb9⟩
        have HB9 := Lib.hid (Below.andThen HB8.out hb9)
        clear hb9 HB8
        go_wp2_with fail
        refine (HE.out _).mono ?_
        rintro e w10 ⟨rfl, hb10⟩
        have HB10 := Lib.hid (Below.andThen HB9.out hb10)
        clear hb10 HB9
        go_wp2_with fail
        refine (HS.out _).mono ?_
        rintro e w11 ⟨rfl, hb11⟩
        have HB11 := Lib.hid (Below.andThen HB10.out hb11)
        clear hb11 HB10
        go_wp2_with fail
        refine (HLB.out _).mono ?_
        rintro e w12 ⟨rfl, hb12⟩
        have HB12 := Lib.hid (Below.andThen HB11.out hb12)
        clear hb12 HB11
        go_wp2_with fail
        refine (HLC.out _).mono ?_
        rintro e w13 ⟨rfl, hb13⟩
        have HB13 := Lib.hid (Below.andThen HB12.out hb13)
        clear hb13 HB12
        go_wp2_with fail
        refine (HHB.out _).mono ?_
        rintro e w14 ⟨rfl, hb14⟩
        have HB14 := Lib.hid (Below.andThen HB13.out hb14)
        clear hb14 HB13
        go_wp2_with fail
        refine (HHC.out _).mono ?_
        rintro e w15 ⟨rfl, hb15⟩
        have HB15 := Lib.hid (Below.andThen HB14.out hb15)
        clear hb15 HB14
        go_wp2
        go_ret
        exact ⟨rfl, HB15.out⟩
  · rw [Bool.eq_false_iff.2 hk] at HK
    clear hk
    go_enter Try.func8, Try.ntmps8
    go_wp2_with fail
    refine (HK.out _).mono ?_
    rintro e w' ⟨rfl, rfl⟩
    go_wp2_with fail
    refine (HS.out _).mono ?_
    rintro e w1 ⟨rfl, hb1⟩
    have HB1 := Lib.hid hb1
    clear hb1
    go_wp2
    go_ret
    exact ⟨rfl, HB1.out⟩
end Go.Proofs.Ytngmdonlljpknaa.metricIsMonotone
