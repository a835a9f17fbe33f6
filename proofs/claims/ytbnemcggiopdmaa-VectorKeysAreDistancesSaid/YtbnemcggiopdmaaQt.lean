/- VectorKeysAreDistances: its walk. -/
import Derived.Test.YtbnemcggiopdmaaQp

import Derived.Test.YtbnemcggiopdmaaQr

namespace Go.Proofs.Ytbnemcggiopdmaa.vectorKeysAreDistances

open Go.ChangeShapes Go.WideShapes Go.ChangeAt Go.RowKit

open Go.Proofs.Ytbnemcggiopdmaa.vk

set_option linter.unusedVariables false
set_option maxRecDepth 100000 in
set_option maxHeartbeats 4000000 in
theorem walk (w : World) {m : Int} {A1 A2 A3 : Option Addr} {n1 n2 n3 c1 c2 c3 : Nat} {a b c : List Int} (w0 : (Lit.int .i64 m).wf = true) (h1 : wo.IsI w A1 n1 c1 a) (h2 : wo.IsI w A2 n2 c2 b) (h3 : wo.IsI w A3 n3 c3 c) :
    Calls Try.prog 5 #[.int .i64 m, .slice A1 n1 c1, .slice A2 n2 c2, .slice A3 n3 c3] w fun e w' => e = .returned (.bool true) ∧ Below w.heap.size w w' := by
  have HS := Lib.hid (fun w' => sanity_calls w')
  have hm := int_wf w0
  clear w0
  have HM := Lib.hid (fun w' => metric_calls m w')
  have HAB := Lib.hid (ralike_calls A1 A2 n1 n2 c1 c2 a b w h1 h2)
  have HBC := Lib.hid (ralike_calls A2 A3 n2 n3 c2 c3 b c w h2 h3)
  have H1 := Lib.hid h1
  have H2 := Lib.hid h2
  have H3 := Lib.hid h3
  clear h1 h2 h3
  by_cases hok : vq.alike a b = true ∧ vq.alike b c = true ∧ 1 ≤ m ∧ m ≤ 3
  · obtain ⟨k1, k2, hm1, hm3⟩ := hok
    obtain ⟨hab, hva, hvb⟩ := vq.alike_iff.1 k1
    obtain ⟨hbc, -, hvc⟩ := vq.alike_iff.1 k2
    rw [k1] at HAB
    rw [k2] at HBC
    rw [decide_eq_true (show 1 ≤ m ∧ m ≤ 3 from ⟨hm1, hm3⟩)] at HM
    have hn12 : n2 = n1 := by have := H1.out.1; have := H2.out.1; omega
    subst hn12
    have hn23 : n3 = n2 := by have := H3.out.1; have := H2.out.1; omega
    subst hn23
    have hn32 : n3 ≤ 32 := by have := hva.le; have := H1.out.1; omega
    have HXY := Lib.hid (fun w' hb => key_calls m A1 A3 n3 c1 c3 a c w' (by omega) (by omega) (isI_below H1.out hb) (isI_below H3.out hb) (vq.sub_bound hva hvc) hn32)
    have HYX := Lib.hid (fun w' hb => key_calls m A3 A1 n3 c3 c1 c a w' (by omega) (by omega) (isI_below H3.out hb) (isI_below H1.out hb) (vq.sub_bound hvc hva) hn32)
    have HY := Lib.hid (fun w' hb => key_calls m A1 A2 n3 c1 c2 a b w' (by omega) (by omega) (isI_below H1.out hb) (isI_below H2.out hb) (vq.sub_bound hva hvb) hn32)
    have HZ := Lib.hid (fun w' hb => key_calls m A2 A3 n3 c2 c3 b c w' (by omega) (by omega) (isI_below H2.out hb) (isI_below H3.out hb) (vq.sub_bound hvb hvc) hn32)
    have HC := Lib.hid (fun w' hb => compare_calls A1 A3 n3 n3 c1 c3 a c w' (isI_below H1.out hb) (isI_below H3.out hb))
    rw [vq.key_comm m c a] at HYX
    have bx := vq.norm_bound (m := m) (vq.sub_bound hva hvc)
    have by' := vq.norm_bound (m := m) (vq.sub_bound hva hvb)
    have bz := vq.norm_bound (m := m) (vq.sub_bound hvb hvc)
    rw [vq.sub_length (hab.trans hbc)] at bx
    rw [vq.sub_length hab] at by'
    rw [vq.sub_length hbc] at bz
    have ha32 := hva.le
    have hb32 := hvb.le
    have px := vq.norm_nonneg m (vq.sub a c)
    have py := vq.norm_nonneg m (vq.sub a b)
    have pz := vq.norm_nonneg m (vq.sub b c)
    have hzero := (vq.key_zero hm1 hm3 (hab.trans hbc)).trans (vq.cmp_zero a c).symm
    have htri : m ≠ 2 → vq.key m a c ≤ vq.key m a b + vq.key m b c := fun h => vq.triangle hm1 hm3 h hab hbc
    have htri2 : m = 2 → (vq.key m a c - vq.key m a b - vq.key m b c) * (vq.key m a c - vq.key m a b - vq.key m b c) ≤ 4 * vq.key m a b * vq.key m b c := fun h => by subst h; exact vq.triangle2 hab hbc
    change vq.key m a c ≤ _ at bx
    change vq.key m a b ≤ _ at by'
    change vq.key m b c ≤ _ at bz
    change 0 ≤ vq.key m a c at px
    change 0 ≤ vq.key m a b at py
    change 0 ≤ vq.key m b c at pz
    generalize vq.key m a c = x at *
    generalize vq.key m a b = y at *
    generalize vq.key m b c = z at *
    generalize vq.cmp a c = q at *
    have hx : x ≤ 134217728 := by omega
    have hy : y ≤ 134217728 := by omega
    have hz : z ≤ 134217728 := by omega
    have HT := Lib.hid htri
    have HT2 := Lib.hid htri2
    have hzq : (x == 0) = (q == 0) := by rw [Bool.eq_iff_iff]; simp [hzero]
    clear hab hbc hva hvb hvc k1 k2 bx by' bz ha32 hb32 hzero htri htri2
    go_enter Try.func5, Try.ntmps5
    go_wp2_with fail
    refine HAB.out.mono ?_
    rintro e w' ⟨rfl, rfl⟩
    go_wp2_with fail
    refine HBC.out.mono ?_
    rintro e w' ⟨rfl, rfl⟩
    go_wp2_with fail
    refine (HM.out _).mono ?_
    rintro e w' ⟨rfl, rfl⟩
    clear HAB HBC HM
    go_wp2_with fail
    refine (HXY.out _ (Below.refl _ _)).mono ?_
    rintro e w1 ⟨rfl, hb1⟩
    have HB1 := Lib.hid hb1
    clear hb1 HXY
    go_wp2_with fail
    refine (HY.out _ HB1.out).mono ?_
    rintro e w2 ⟨rfl, hb2⟩
    have HB2 := Lib.hid (Below.andThen HB1.out hb2)
    clear hb2 HY HB1
    go_wp2_with fail
    refine (HZ.out _ HB2.out).mono ?_
    rintro e w3 ⟨rfl, hb3⟩
    have HB3 := Lib.hid (Below.andThen HB2.out hb3)
    clear hb3 HZ HB2
    go_wp2_with fail
    refine (HYX.out _ HB3.out).mono ?_
    rintro e w4 ⟨rfl, hb4⟩
    have HB4 := Lib.hid (Below.andThen HB3.out hb4)
    clear hb4 HYX HB3
    go_wp2_with fail
    refine (HC.out _ HB4.out).mono ?_
    rintro e w5 ⟨rfl, hb5⟩
    have HB5 := Lib.hid (Below.andThen HB4.out hb5)
    clear hb5 HC HB4
    by_cases hm2 : m = 2
    · have ht := HT2.out hm2
      rcases (by omega : x - y - z ≤ 0 ∨ 0 < x - y - z) with hs | hs
      · go_wp2_with fail
        refine (HS.out _).mono ?_
        rintro e w6 ⟨rfl, hb6⟩
        have HB6 := Lib.hid (Below.andThen HB5.out hb6)
        clear hb6 HB5
        go_wp2_with fail
        go_ret
        exact ⟨rfl, HB6.out⟩
      · have hp1 := vq.norm_mul_bd (m := y) (n := z) (d := 200000000) (by omega) (by omega) (by omega) (by omega) (by omega)
        have hp2 := vq.norm_mul_bd (m := x - y - z) (n := x - y - z) (d := 200000000) (by omega) (by omega) (by omega) (by omega) (by omega)
        have he : 4 * y * z = 4 * (y * z) := by rw [Int.mul_assoc]
        have hp3 : 0 ≤ 4 * y * z ∧ 4 * y * z ≤ 200000000000000000 := by omega
        clear he
        go_wp2_with fail
        refine (HS.out _).mono ?_
        rintro e w6 ⟨rfl, hb6⟩
        have HB6 := Lib.hid (Below.andThen HB5.out hb6)
        clear hb6 HB5
        go_wp2_with fail
        go_ret
        exact ⟨rfl, HB6.out⟩
    · have ht := HT.out hm2
      go_wp2_with fail
      refine (HS.out _).mono ?_
      rintro e w6 ⟨rfl, hb6⟩
      have HB6 := Lib.hid (Below.andThen HB5.out hb6)
      clear hb6 HB5
      go_wp2_with fail
      go_ret
      exact ⟨by simp; omega, HB6.out⟩
  · rcases Bool.eq_false_or_eq_true (vq.alike a b) with k1 | k1
    · rcases Bool.eq_false_or_eq_true (vq.alike b c) with k2 | k2
      · have hme : ¬ (1 ≤ m ∧ m ≤ 3) := fun h => hok ⟨k1, k2, h.1, h.2⟩
        rw [k1] at HAB
        rw [k2] at HBC
        rw [decide_eq_false hme] at HM
        clear hok hme k1 k2
        go_enter Try.func5, Try.ntmps5
        go_wp2_with fail
        refine HAB.out.mono ?_
        rintro e w' ⟨rfl, rfl⟩
        go_wp2_with fail
        refine HBC.out.mono ?_
        rintro e w' ⟨rfl, rfl⟩
        go_wp2_with fail
        refine (HM.out _).mono ?_
        rintro e w' ⟨rfl, rfl⟩
        go_wp2_with fail
        refine (HS.out _).mono ?_
        rintro e w6 ⟨rfl, hb6⟩
        have HB6 := Lib.hid hb6
        clear hb6
        go_wp2_with fail
        go_ret
        exact ⟨rfl, HB6.out⟩
      · rw [k1] at HAB
        rw [k2] at HBC
        clear hok k1 k2
        go_enter Try.func5, Try.ntmps5
        go_wp2_with fail
        refine HAB.out.mono ?_
        rintro e w' ⟨rfl, rfl⟩
        go_wp2_with fail
        refine HBC.out.mono ?_
        rintro e w' ⟨rfl, rfl⟩
        go_wp2_with fail
        refine (HS.out _).mono ?_
        rintro e w6 ⟨rfl, hb6⟩
        have HB6 := Lib.hid hb6
        clear hb6
        go_wp2_with fail
        go_ret
        exact ⟨rfl, HB6.out⟩
    · rw [k1] at HAB
      clear hok k1
      go_enter Try.func5, Try.ntmps5
      go_wp2_with fail
      refine HAB.out.mono ?_
      rintro e w' ⟨rfl, rfl⟩
      go_wp2_with fail
      refine (HS.out _).mono ?_
      rintro e w6 ⟨rfl, hb6⟩
      have HB6 := Lib.hid hb6
      clear hb6
      go_wp2_with fail
      go_ret
      exact ⟨rfl, HB6.out⟩
end Go.Proofs.Ytbnemcggiopdmaa.vectorKeysAreDistances
