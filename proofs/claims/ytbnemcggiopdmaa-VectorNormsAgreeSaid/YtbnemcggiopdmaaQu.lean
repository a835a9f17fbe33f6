/- VectorNormsAgree: its walk. -/
import Derived.Test.YtbnemcggiopdmaaQp

import Derived.Test.YtbnemcggiopdmaaQr

namespace Go.Proofs.Ytbnemcggiopdmaa.vectorNormsAgree

open Go.ChangeShapes Go.WideShapes Go.ChangeAt Go.RowKit

open Go.Proofs.Ytbnemcggiopdmaa.vk

set_option linter.unusedVariables false
set_option maxRecDepth 100000 in
set_option maxHeartbeats 4000000 in
theorem walk (w : World) {A1 A2 : Option Addr} {n1 n2 c1 c2 : Nat} {a b : List Int} (h1 : wo.IsI w A1 n1 c1 a) (h2 : wo.IsI w A2 n2 c2 b) :
    Calls Try.prog 6 #[.slice A1 n1 c1, .slice A2 n2 c2] w fun e w' => e = .returned (.bool true) ∧ Below w.heap.size w w' := by
  have HS := Lib.hid (fun w' => sanity_calls w')
  have HAB := Lib.hid (ralike_calls A1 A2 n1 n2 c1 c2 a b w h1 h2)
  have H1 := Lib.hid h1
  have H2 := Lib.hid h2
  clear h1 h2
  by_cases k1 : vq.alike a b = true
  · obtain ⟨hab, hva, hvb⟩ := vq.alike_iff.1 k1
    rw [k1] at HAB
    have hn12 : n2 = n1 := by have := H1.out.1; have := H2.out.1; omega
    subst hn12
    have hn32 : n2 ≤ 32 := by have := hva.le; have := H1.out.1; omega
    have hl : (vq.sub a b).length = n2 := by rw [vq.sub_length hab]; exact H1.out.1
    have HSUB := Lib.hid (sub_calls A1 A2 n2 c1 c2 a b w H1.out H2.out (few_of hva) (few_of hvb) hn32)
    have HFA := Lib.hid (few_of hva)
    have HFB := Lib.hid (few_of hvb)
    have HFS : Hid (Few (vq.sub a b)) := vq.sub_bound hva hvb
    have HK := Lib.hid (fun w' hb => key_calls 2 A1 A2 n2 c1 c2 a b w' (by omega) (by omega) (isI_below H1.out hb) (isI_below H2.out hb) HFS.out hn32)
    have HNA := Lib.hid (fun w' hb => norm_calls 2 A1 n2 c1 a w' (by omega) (by omega) (isI_below H1.out hb) HFA.out hn32)
    have HNB := Lib.hid (fun w' hb => norm_calls 2 A2 n2 c2 b w' (by omega) (by omega) (isI_below H2.out hb) HFB.out hn32)
    have HD := Lib.hid (fun w' hb => dot_calls A1 A2 n2 c1 c2 a b w' (isI_below H1.out hb) (isI_below H2.out hb) HFA.out HFB.out hn32)
    have HN1 := Lib.hid (fun (A3 : Option Addr) (c3 : Nat) (w' : World) (hi : wo.IsI w' A3 n2 c3 (vq.sub a b)) => norm_calls 1 A3 n2 c3 (vq.sub a b) w' (by omega) (by omega) hi HFS.out hn32)
    have HN2 := Lib.hid (fun (A3 : Option Addr) (c3 : Nat) (w' : World) (hi : wo.IsI w' A3 n2 c3 (vq.sub a b)) => norm_calls 2 A3 n2 c3 (vq.sub a b) w' (by omega) (by omega) hi HFS.out hn32)
    have HN3 := Lib.hid (fun (A3 : Option Addr) (c3 : Nat) (w' : World) (hi : wo.IsI w' A3 n2 c3 (vq.sub a b)) => norm_calls 3 A3 n2 c3 (vq.sub a b) w' (by omega) (by omega) hi HFS.out hn32)
    have HDD := Lib.hid (fun (A3 : Option Addr) (c3 : Nat) (w' : World) (hi : wo.IsI w' A3 n2 c3 (vq.sub a b)) => dot_calls A3 A3 n2 c3 c3 (vq.sub a b) (vq.sub a b) w' hi hi HFS.out HFS.out hn32)
    have hk := vq.key2_dot hab
    have ba := vq.norm_bound (m := 2) HFA.out
    have bb := vq.norm_bound (m := 2) HFB.out
    have bs1 := vq.norm_bound (m := 1) HFS.out
    have bs2 := vq.norm_bound (m := 2) HFS.out
    have bs3 := vq.norm_bound (m := 3) HFS.out
    have pa := vq.norm_nonneg 2 a
    have pb := vq.norm_nonneg 2 b
    have ps1 := vq.norm_nonneg 1 (vq.sub a b)
    have ps2 := vq.norm_nonneg 2 (vq.sub a b)
    have ps3 := vq.norm_nonneg 3 (vq.sub a b)
    obtain ⟨i1, i2, i3, i4, i5, i6⟩ := vq.norms (vq.sub a b)
    rw [hl] at bs1 bs2 bs3 i2 i5
    rw [i6] at HDD
    have hla := hva.le
    have hlb := hvb.le
    have hpk : 0 ≤ vq.key 2 a b := ps2
    have hbk : vq.key 2 a b ≤ 4000000 * n2 := bs2
    generalize hS : vq.sub a b = S at *
    generalize vq.key 2 a b = k at *
    generalize vq.norm 2 a = na at *
    generalize vq.norm 2 b = nb at *
    generalize vq.dot a b = d at *
    generalize vq.norm 1 S = s at *
    generalize vq.norm 2 S = e at *
    generalize vq.norm 3 S = m at *
    have p1 := vq.norm_mul_bd (m := (n2 : Int)) (n := m) (d := 200000000) (by omega) (by omega) ps3 (by omega) (by omega)
    have p2 := vq.norm_mul_bd (m := m) (n := m) (d := 200000000) ps3 (by omega) ps3 (by omega) (by omega)
    have p3 := vq.norm_mul_bd (m := m) (n := s) (d := 200000000) ps3 (by omega) ps1 (by omega) (by omega)
    have p4 := vq.norm_mul_bd (m := s) (n := s) (d := 200000000) ps1 (by omega) ps1 (by omega) (by omega)
    have p5 := vq.norm_mul_bd (m := (n2 : Int)) (n := e) (d := 200000000) (by omega) (by omega) ps2 (by omega) (by omega)
    have d1 : -200000000 ≤ d := by omega
    have d2 : d ≤ 200000000 := by omega
    have na2 : na ≤ 200000000 := by omega
    have nb2 : nb ≤ 200000000 := by omega
    have HKE := Lib.hid hk
    clear hab hva hvb k1 hl hk hS bs1 bs2 bs3 ba bb hla hlb i6 hpk hbk
    go_enter Try.func6, Try.ntmps6
    go_wp2_with fail
    refine HAB.out.mono ?_
    rintro e w' ⟨rfl, rfl⟩
    go_wp2_with fail
    refine HSUB.out.mono ?_
    rintro e w1 ⟨A3, c3, rfl, hI, hb1⟩
    have HB1 := Lib.hid hb1
    have HI1 := Lib.hid hI
    have HDD1 := Lib.hid (HDD.out A3 c3)
    clear hb1 hI HSUB HAB HDD
    go_wp2_with fail
    refine (HN1.out A3 c3 w1 HI1.out).mono ?_
    rintro e w2 ⟨rfl, hb2⟩
    have HB2 := Lib.hid (Below.andThen HB1.out hb2)
    have HI2 := Lib.hid (isI_below HI1.out hb2)
    clear hb2 HB1 HI1
    go_wp2_with fail
    refine (HN2.out A3 c3 w2 HI2.out).mono ?_
    rintro e w3 ⟨rfl, hb3⟩
    have HB3 := Lib.hid (Below.andThen HB2.out hb3)
    have HI3 := Lib.hid (isI_below HI2.out hb3)
    clear hb3 HB2 HI2
    go_wp2_with fail
    refine (HN3.out A3 c3 w3 HI3.out).mono ?_
    rintro e w4 ⟨rfl, hb4⟩
    have HB4 := Lib.hid (Below.andThen HB3.out hb4)
    have HI4 := Lib.hid (isI_below HI3.out hb4)
    clear hb4 HB3 HI3 HN1 HN2 HN3
    go_wp2_with fail
    refine (HK.out _ HB4.out).mono ?_
    rintro e w5 ⟨rfl, hb5⟩
    have HB5 := Lib.hid (Below.andThen HB4.out hb5)
    have HI5 := Lib.hid (isI_below HI4.out hb5)
    clear hb5 HB4 HI4 HK
    go_wp2_with fail
    refine (HNA.out _ HB5.out).mono ?_
    rintro e w6 ⟨rfl, hb6⟩
    have HB6 := Lib.hid (Below.andThen HB5.out hb6)
    have HI6 := Lib.hid (isI_below HI5.out hb6)
    clear hb6 HB5 HI5 HNA
    go_wp2_with fail
    refine (HNB.out _ HB6.out).mono ?_
    rintro e w7 ⟨rfl, hb7⟩
    have HB7 := Lib.hid (Below.andThen HB6.out hb7)
    have HI7 := Lib.hid (isI_below HI6.out hb7)
    clear hb7 HB6 HI6 HNB
    go_wp2_with fail
    refine (HD.out _ HB7.out).mono ?_
    rintro e w8 ⟨rfl, hb8⟩
    have HB8 := Lib.hid (Below.andThen HB7.out hb8)
    have HI8 := Lib.hid (isI_below HI7.out hb8)
    clear hb8 HB7 HI7 HD
    have hke : (k == na + nb - 2 * d) = true := by rw [HKE.out]; exact beq_self_eq_true _
    go_wp2_with fail
    refine (HS.out _).mono ?_
    rintro e w9 ⟨rfl, hb9⟩
    have HB9 := Lib.hid (Below.andThen HB8.out hb9)
    have HI9 := Lib.hid (isI_below HI8.out hb9)
    clear hb9 HB8 HI8
    go_wp2_with fail
    refine (HDD1.out w9 HI9.out).mono ?_
    rintro e w10 ⟨rfl, hb10⟩
    have HB10 := Lib.hid (Below.andThen HB9.out hb10)
    clear hb10 HB9 HI9 HDD1
    go_wp2_with fail
    go_ret
    exact ⟨by simp, HB10.out⟩
  · have k2 : vq.alike a b = false := by simpa using k1
    rw [k2] at HAB
    clear k1 k2
    go_enter Try.func6, Try.ntmps6
    go_wp2_with fail
    refine HAB.out.mono ?_
    rintro e w' ⟨rfl, rfl⟩
    go_wp2_with fail
    refine (HS.out _).mono ?_
    rintro e w6 ⟨rfl, hb6⟩
    have HB6 := Lib.hid hb6
    clear hb6
    go_wp2_with fail
    go_ret
    exact ⟨rfl, HB6.out⟩
end Go.Proofs.Ytbnemcggiopdmaa.vectorNormsAgree
