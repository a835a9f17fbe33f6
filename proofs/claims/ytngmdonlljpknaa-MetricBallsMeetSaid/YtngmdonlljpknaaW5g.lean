/- MetricBallsMeet: its walk. -/
import Derived.Test.YtngmdonlljpknaaW5f

import Derived.Test.YtngmdonlljpknaaQk

import Derived.Test.YtngmdonlljpknaaQr

namespace Go.Proofs.Ytngmdonlljpknaa.metricBallsMeet

open Go.ChangeShapes Go.WideShapes Go.ChangeAt Go.RowKit

open Go.Proofs.Ytngmdonlljpknaa.vk

open Go.Proofs.Ytngmdonlljpknaa.me

set_option linter.unusedVariables false

open Go.Proofs.Ytngmdonlljpknaa.metricTrianglesHold
set_option maxRecDepth 100000 in
set_option maxHeartbeats 4000000 in
theorem walk (w : World) {m r s : Int} {A1 A2 A3 : Option Addr} {n1 n2 n3 c1 c2 c3 : Nat} {p q x : List Int} (w0 : (Lit.int .i64 m).wf = true) (h1 : wo.IsI w A1 n1 c1 p) (h2 : wo.IsI w A2 n2 c2 q) (h3 : wo.IsI w A3 n3 c3 x) (w4 : (Lit.int .i64 r).wf = true) (w5 : (Lit.int .i64 s).wf = true) :
    Calls Try.prog 9 #[.int .i64 m, .slice A1 n1 c1, .slice A2 n2 c2, .slice A3 n3 c3, .int .i64 r, .int .i64 s] w fun e w' => e = .returned (.bool true) ∧ Below w.heap.size w w' := by
  have HS := Lib.hid (fun w' => sanity_calls w')
  clear w0
  have HAB := Lib.hid (fun w' hb => ralike_calls A1 A2 n1 n2 c1 c2 p q w' (isI_below h1 hb) (isI_below h2 hb))
  have HBC := Lib.hid (fun w' hb => ralike_calls A2 A3 n2 n3 c2 c3 q x w' (isI_below h2 hb) (isI_below h3 hb))
  have H1 := Lib.hid h1
  have H2 := Lib.hid h2
  have H3 := Lib.hid h3
  clear h1 h2 h3
  clear w4 w5
  have HK := Lib.hid (fun w' => keys_calls m r s 0 w')
  by_cases hok : vq.alike p q = true ∧ vq.alike q x = true ∧ (okk m r && okk m s && okk m 0) = true
  · obtain ⟨k1, k2, k3⟩ := hok
    rw [k1] at HAB
    rw [k2] at HBC
    rw [k3] at HK
    have hk : 1 ≤ m ∧ m ≤ 3 ∧ 0 ≤ r ∧ r ≤ 134217728 ∧ 0 ≤ s ∧ s ≤ 134217728 := by
      simp [okk] at k3
      omega
    clear k3
    obtain ⟨hm1, hm3, r1, r2, s1, s2⟩ := hk
    obtain ⟨hpq, hvp, hvq⟩ := vq.alike_iff.1 k1
    obtain ⟨hqx, -, hvx⟩ := vq.alike_iff.1 k2
    have hn12 : n2 = n1 := by have := H1.out.1; have := H2.out.1; omega
    subst hn12
    have hn23 : n3 = n2 := by have := H3.out.1; have := H2.out.1; omega
    subst hn23
    have hn32 : n3 ≤ 32 := by have := hvp.le; have := H1.out.1; omega
    have HPQ := Lib.hid (fun w' hb => rkey_calls m A1 A2 n3 c1 c2 p q w' hm1 hm3 (isI_below H1.out hb) (isI_below H2.out hb) (few_vec hvp) (few_vec hvq) (vq.sub_bound hvp hvq) hn32)
    have HQX := Lib.hid (fun w' hb => rkey_calls m A2 A3 n3 c2 c3 q x w' hm1 hm3 (isI_below H2.out hb) (isI_below H3.out hb) (few_vec hvq) (few_vec hvx) (vq.sub_bound hvq hvx) hn32)
    have HPX := Lib.hid (fun w' hb => rkey_calls m A1 A3 n3 c1 c3 p x w' hm1 hm3 (isI_below H1.out hb) (isI_below H3.out hb) (few_vec hvp) (few_vec hvx) (vq.sub_bound hvp hvx) hn32)
    obtain ⟨b1, b2, b3, b4, b5, b6, t1, t2, t3, t4⟩ := key_facts hm1 hm3 hpq hqx hvp hvq hvx
    rw [show (0:Int) = 0 from rfl] at b1
    clear hpq hqx hvp hvq hvx k1 k2 H1 H2 H3 hn32
    generalize vq.key m p q = c at *
    generalize vq.key m q x = b at *
    generalize vq.key m p x = a at *
    have f := (tri_of (m := m) (a := a) (b := b) (c := c) b5 b3 b2 (fun h => by have := t1 h; have := t2 h; have := t3 h; omega) (fun h => by have := t4 h; exact H_comm.1 (H_swap.1 (H_comm.1 this)))).2
    clear t1 t2 t3 t4
    have HH := Lib.hid (fun w' => high_calls m r s w' hm1 hm3 r1 s1 r2 s2)
    have HB := Lib.hid (fun w' => ball_calls m c r s w' hm1 hm3 r1 s1 r2 s2)
    by_cases h1 : a ≤ r
    · by_cases h2 : b ≤ s
      · have g1 := high_grow (m := m) b5 b3 h2
        have g2 := high_grow (m := m) s1 b5 h1
        rw [high_comm m s a, high_comm m s r] at g2
        have HB2 := Lib.hid (fun w' => ball_v m c r s true ⟨hm1, hm3, r1, s1, r2, s2⟩ (decide_eq_true (by omega)) w')
        clear HB f g1 g2
        have HB := HB2
        clear HB2
        go_enter Try.func9, Try.ntmps9
        go_wp2_with fail
        refine (HAB.out _ (Below.refl _ _)).mono ?_
        rintro e w' ⟨rfl, rfl⟩
        go_wp2_with fail
        refine (HBC.out _ (Below.refl _ _)).mono ?_
        rintro e w' ⟨rfl, rfl⟩
        go_wp2_with fail
        refine (HK.out _).mono ?_
        rintro e w' ⟨rfl, rfl⟩
        go_wp2_with fail
        refine (HPQ.out _ (Below.refl _ _)).mono ?_
        rintro e w1 ⟨rfl, hb1⟩
        have HB1 := Lib.hid hb1
        clear hb1
        go_wp2_with fail
        refine (HPX.out _ HB1.out).mono ?_
        rintro e w2 ⟨rfl, hb2⟩
        have HB2 := Lib.hid (Below.andThen HB1.out hb2)
        clear hb2 HB1
        go_wp2_with fail
        refine (HQX.out _ HB2.out).mono ?_
        rintro e w3 ⟨rfl, hb3⟩
        have HB3 := Lib.hid (Below.andThen HB2.out hb3)
        clear hb3 HB2
        go_wp2_with fail
        refine (HS.out _).mono ?_
        rintro e w4 ⟨rfl, hb4⟩
        have HB4 := Lib.hid (Below.andThen HB3.out hb4)
        clear hb4 HB3
        go_wp2_with fail
        refine (HB.out _).mono ?_
        rintro e w5 ⟨rfl, hb5⟩
        have HB5 := Lib.hid (Below.andThen HB4.out hb5)
        clear hb5 HB4
        go_wp2
        go_ret
        first | exact ⟨rfl, HB5.out⟩ | exact ⟨by simp; omega, HB5.out⟩
      · generalize high m r s = y at *
        go_enter Try.func9, Try.ntmps9
        go_wp2_with fail
        refine (HAB.out _ (Below.refl _ _)).mono ?_
        rintro e w' ⟨rfl, rfl⟩
        go_wp2_with fail
        refine (HBC.out _ (Below.refl _ _)).mono ?_
        rintro e w' ⟨rfl, rfl⟩
        go_wp2_with fail
        refine (HK.out _).mono ?_
        rintro e w' ⟨rfl, rfl⟩
        go_wp2_with fail
        refine (HPQ.out _ (Below.refl _ _)).mono ?_
        rintro e w1 ⟨rfl, hb1⟩
        have HB1 := Lib.hid hb1
        clear hb1
        go_wp2_with fail
        refine (HPX.out _ HB1.out).mono ?_
        rintro e w2 ⟨rfl, hb2⟩
        have HB2 := Lib.hid (Below.andThen HB1.out hb2)
        clear hb2 HB1
        go_wp2_with fail
        refine (HQX.out _ HB2.out).mono ?_
        rintro e w3 ⟨rfl, hb3⟩
        have HB3 := Lib.hid (Below.andThen HB2.out hb3)
        clear hb3 HB2
        go_wp2_with fail
        refine (HS.out _).mono ?_
        rintro e w4 ⟨rfl, hb4⟩
        have HB4 := Lib.hid (Below.andThen HB3.out hb4)
        clear hb4 HB3
        go_wp2_with fail
        refine (HB.out _).mono ?_
        rintro e w5 ⟨rfl, hb5⟩
        have HB5 := Lib.hid (Below.andThen HB4.out hb5)
        clear hb5 HB4
        go_wp2_with fail
        refine (HH.out _).mono ?_
        rintro e w6 ⟨rfl, hb6⟩
        have HB6 := Lib.hid (Below.andThen HB5.out hb6)
        clear hb6 HB5
        go_wp2
        go_ret
        first | exact ⟨rfl, HB6.out⟩ | exact ⟨by simp; omega, HB6.out⟩
    · generalize high m r s = y at *
      go_enter Try.func9, Try.ntmps9
      go_wp2_with fail
      refine (HAB.out _ (Below.refl _ _)).mono ?_
      rintro e w' ⟨rfl, rfl⟩
      go_wp2_with fail
      refine (HBC.out _ (Below.refl _ _)).mono ?_
      rintro e w' ⟨rfl, rfl⟩
      go_wp2_with fail
      refine (HK.out _).mono ?_
      rintro e w' ⟨rfl, rfl⟩
      go_wp2_with fail
      refine (HPQ.out _ (Below.refl _ _)).mono ?_
      rintro e w1 ⟨rfl, hb1⟩
      have HB1 := Lib.hid hb1
      clear hb1
      go_wp2_with fail
      refine (HPX.out _ HB1.out).mono ?_
      rintro e w2 ⟨rfl, hb2⟩
      have HB2 := Lib.hid (Below.andThen HB1.out hb2)
      clear hb2 HB1
      go_wp2_with fail
      refine (HQX.out _ HB2.out).mono ?_
      rintro e w3 ⟨rfl, hb3⟩
      have HB3 := Lib.hid (Below.andThen HB2.out hb3)
      clear hb3 HB2
      go_wp2_with fail
      refine (HS.out _).mono ?_
      rintro e w4 ⟨rfl, hb4⟩
      have HB4 := Lib.hid (Below.andThen HB3.out hb4)
      clear hb4 HB3
      go_wp2_with fail
      refine (HB.out _).mono ?_
      rintro e w5 ⟨rfl, hb5⟩
      have HB5 := Lib.hid (Below.andThen HB4.out hb5)
      clear hb5 HB4
      go_wp2_with fail
      refine (HH.out _).mono ?_
      rintro e w6 ⟨rfl, hb6⟩
      have HB6 := Lib.hid (Below.andThen HB5.out hb6)
      clear hb6 HB5
      go_wp2
      go_ret
      first | exact ⟨rfl, HB6.out⟩ | exact ⟨by simp; omega, HB6.out⟩
  · rcases Bool.eq_false_or_eq_true (vq.alike p q) with k1 | k1
    · rcases Bool.eq_false_or_eq_true (vq.alike q x) with k2 | k2
      · have hme : ¬ ((okk m r && okk m s && okk m 0) = true) := fun h => hok ⟨k1, k2, h⟩
        rw [k1] at HAB
        rw [k2] at HBC
        rw [Bool.eq_false_iff.2 hme] at HK
        clear hok hme k1 k2
        go_enter Try.func9, Try.ntmps9
        go_wp2_with fail
        refine (HAB.out _ (Below.refl _ _)).mono ?_
        rintro e w' ⟨rfl, rfl⟩
        go_wp2_with fail
        refine (HBC.out _ (Below.refl _ _)).mono ?_
        rintro e w' ⟨rfl, rfl⟩
        go_wp2_with fail
        refine (HK.out _).mono ?_
        rintro e w' ⟨rfl, rfl⟩
        go_wp2_with fail
        refine (HS.out _).mono ?_
        rintro e w1 ⟨rfl, hb1⟩
        have HB1 := Lib.hid hb1
        clear hb1
        go_wp2
        go_ret
        first | exact ⟨rfl, HB1.out⟩ | exact ⟨by simp; omega, HB1.out⟩
      · rw [k1] at HAB
        rw [k2] at HBC
        clear hok k1 k2
        go_enter Try.func9, Try.ntmps9
        go_wp2_with fail
        refine (HAB.out _ (Below.refl _ _)).mono ?_
        rintro e w' ⟨rfl, rfl⟩
        go_wp2_with fail
        refine (HBC.out _ (Below.refl _ _)).mono ?_
        rintro e w' ⟨rfl, rfl⟩
        go_wp2_with fail
        refine (HS.out _).mono ?_
        rintro e w1 ⟨rfl, hb1⟩
        have HB1 := Lib.hid hb1
        clear hb1
        go_wp2
        go_ret
        first | exact ⟨rfl, HB1.out⟩ | exact ⟨by simp; omega, HB1.out⟩
    · rw [k1] at HAB
      clear hok k1
      rcases Bool.eq_false_or_eq_true (vq.alike q x) with k2 | k2
      · rw [k2] at HBC
        go_enter Try.func9, Try.ntmps9
        go_wp2_with fail
        refine (HAB.out _ (Below.refl _ _)).mono ?_
        rintro e w' ⟨rfl, rfl⟩
        go_wp2_with fail
        refine (HBC.out _ (Below.refl _ _)).mono ?_
        rintro e w' ⟨rfl, rfl⟩
        go_wp2_with fail
        refine (HS.out _).mono ?_
        rintro e w1 ⟨rfl, hb1⟩
        have HB1 := Lib.hid hb1
        clear hb1
        go_wp2
        go_ret
        first | exact ⟨rfl, HB1.out⟩ | exact ⟨by simp; omega, HB1.out⟩
      · rw [k2] at HBC
        go_enter Try.func9, Try.ntmps9
        go_wp2_with fail
        refine (HAB.out _ (Below.refl _ _)).mono ?_
        rintro e w' ⟨rfl, rfl⟩
        go_wp2_with fail
        refine (HBC.out _ (Below.refl _ _)).mono ?_
        rintro e w' ⟨rfl, rfl⟩
        go_wp2_with fail
        refine (HS.out _).mono ?_
        rintro e w1 ⟨rfl, hb1⟩
        have HB1 := Lib.hid hb1
        clear hb1
        go_wp2
        go_ret
        first | exact ⟨rfl, HB1.out⟩ | exact ⟨by simp; omega, HB1.out⟩
end Go.Proofs.Ytngmdonlljpknaa.metricBallsMeet
