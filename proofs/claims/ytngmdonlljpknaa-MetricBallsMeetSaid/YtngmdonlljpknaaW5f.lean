/- MetricTrianglesHold: its walk. -/
import Derived.Test.YtngmdonlljpknaaVf

import Derived.Test.YtngmdonlljpknaaQk

import Derived.Test.YtngmdonlljpknaaQr

namespace Go.Proofs.Ytngmdonlljpknaa.metricTrianglesHold

open Go.ChangeShapes Go.WideShapes Go.ChangeAt Go.RowKit

open Go.Proofs.Ytngmdonlljpknaa.vk

open Go.Proofs.Ytngmdonlljpknaa.me

set_option linter.unusedVariables false
theorem few_vec {v : List Int} (h : vq.Vec v) : Few v := fun y hy => by have := h.lo y hy; have := h.hi y hy; omega
theorem key_facts {m : Int} {p q x : List Int} (h1 : 1 ≤ m) (h3 : m ≤ 3) (hpq : p.length = q.length) (hqx : q.length = x.length) (hvp : vq.Vec p) (hvq : vq.Vec q) (hvx : vq.Vec x) :
    0 ≤ vq.key m p q ∧ vq.key m p q ≤ 134217728 ∧ 0 ≤ vq.key m q x ∧ vq.key m q x ≤ 134217728 ∧ 0 ≤ vq.key m p x ∧ vq.key m p x ≤ 134217728 ∧
    (m ≠ 2 → vq.key m p q ≤ vq.key m q x + vq.key m p x) ∧ (m ≠ 2 → vq.key m q x ≤ vq.key m p q + vq.key m p x) ∧ (m ≠ 2 → vq.key m p x ≤ vq.key m p q + vq.key m q x) ∧ (m = 2 → H (vq.key m p q) (vq.key m q x) (vq.key m p x)) := by
  have l1 : p.length ≤ 32 := hvp.le
  have e1 := vq.norm_bound (m := m) (vq.sub_bound hvp hvq)
  have e2 := vq.norm_bound (m := m) (vq.sub_bound hvq hvx)
  have e3 := vq.norm_bound (m := m) (vq.sub_bound hvp hvx)
  rw [vq.sub_length hpq] at e1
  rw [vq.sub_length hqx] at e2
  rw [vq.sub_length (hpq.trans hqx)] at e3
  have p1 := vq.norm_nonneg m (vq.sub p q)
  have p2 := vq.norm_nonneg m (vq.sub q x)
  have p3 := vq.norm_nonneg m (vq.sub p x)
  refine ⟨p1, ?_, p2, ?_, p3, ?_, fun h => ?_, fun h => ?_, fun h => ?_, fun h => ?_⟩
  · show vq.norm m (vq.sub p q) ≤ _; omega
  · show vq.norm m (vq.sub q x) ≤ _; omega
  · show vq.norm m (vq.sub p x) ≤ _; omega
  · have := vq.triangle h1 h3 h (a := p) (b := x) (c := q) (by omega) (by omega)
    rw [vq.key_comm m x q] at this
    omega
  · have := vq.triangle h1 h3 h (a := q) (b := p) (c := x) (by omega) (by omega)
    rw [vq.key_comm m q p] at this
    omega
  · exact vq.triangle h1 h3 h (a := p) (b := q) (c := x) (by omega) (by omega)
  · subst h
    have := vq.triangle2 (a := p) (b := q) (c := x) hpq hqx
    generalize vq.key 2 p q = a at *
    generalize vq.key 2 q x = b at *
    generalize vq.key 2 p x = c at *
    refine (H_iff ..).1 ?_
    have e : (a + b - c) * (a + b - c) = (c - a - b) * (c - a - b) := by grind
    omega
set_option maxRecDepth 100000 in
set_option maxHeartbeats 4000000 in
theorem walk (w : World) {m : Int} {A1 A2 A3 : Option Addr} {n1 n2 n3 c1 c2 c3 : Nat} {p q x : List Int} (w0 : (Lit.int .i64 m).wf = true) (h1 : wo.IsI w A1 n1 c1 p) (h2 : wo.IsI w A2 n2 c2 q) (h3 : wo.IsI w A3 n3 c3 x) :
    Calls Try.prog 5 #[.int .i64 m, .slice A1 n1 c1, .slice A2 n2 c2, .slice A3 n3 c3] w fun e w' => e = .returned (.bool true) ∧ Below w.heap.size w w' := by
  have HS := Lib.hid (fun w' => sanity_calls w')
  clear w0
  have HAB := Lib.hid (fun w' hb => ralike_calls A1 A2 n1 n2 c1 c2 p q w' (isI_below h1 hb) (isI_below h2 hb))
  have HBC := Lib.hid (fun w' hb => ralike_calls A2 A3 n2 n3 c2 c3 q x w' (isI_below h2 hb) (isI_below h3 hb))
  have H1 := Lib.hid h1
  have H2 := Lib.hid h2
  have H3 := Lib.hid h3
  clear h1 h2 h3
  have HV := Lib.hid (fun w' => rvalid_calls m 0 w')
  have hE : okk m 0 = decide (1 ≤ m ∧ m ≤ 3) := by unfold okk; simp
  rw [hE] at HV
  clear hE
  by_cases hok : vq.alike p q = true ∧ vq.alike q x = true ∧ 1 ≤ m ∧ m ≤ 3
  · obtain ⟨k1, k2, hm1, hm3⟩ := hok
    rw [k1] at HAB
    rw [k2] at HBC
    rw [decide_eq_true (show 1 ≤ m ∧ m ≤ 3 from ⟨hm1, hm3⟩)] at HV
    obtain ⟨hpq, hvp, hvq⟩ := vq.alike_iff.1 k1
    obtain ⟨hqx, -, hvx⟩ := vq.alike_iff.1 k2
    have hn12 : n2 = n1 := by have := H1.out.1; have := H2.out.1; omega
    subst hn12
    have hn23 : n3 = n2 := by have := H3.out.1; have := H2.out.1; omega
    subst hn23
    have hn32 : n3 ≤ 32 := by have := hvp.le; have := H1.out.1; omega
    have HPQ := Lib.hid (fun w' hb => rkey_calls m A1 A2 n3 c1 c2 p q w' hm1 hm3 (isI_below H1.out hb) (isI_below H2.out hb) (few_vec hvp) (few_vec hvq) (vq.sub_bound hvp hvq) hn32)
    have HQX := Lib.hid (fun w' hb => rkey_calls m A2 A3 n3 c2 c3 q x w' hm1 hm3 (isI_below H2.out hb) (isI_below H3.out hb) (few_vec hvq) (few_vec hvx) (vq.sub_bound hvq hvx) hn32)
    have HPX := Lib.hid (fun w' hb => rkey_calls m A1 A3 n3 c1 c3 p x w' hm1 hm3 (isI_below H1.out hb) (isI_below H3.out hb) (few_vec hvp) (few_vec hvx) (vq.sub_bound hvp hvx) hn32)
    obtain ⟨b1, b2, b3, b4, b5, b6, t1, t2, t3, t4⟩ := key_facts hm1 hm3 hpq hqx hvp hvq hvx
    obtain ⟨f1, f2⟩ := tri_of (m := m) b1 b3 b6 (fun h => by have := t1 h; have := t2 h; have := t3 h; omega) t4
    clear hpq hqx hvp hvq hvx k1 k2 H1 H2 H3 hn32
    generalize vq.key m p q = a at *
    generalize vq.key m q x = b at *
    generalize vq.key m p x = c at *
    obtain ⟨g1, g2⟩ := tri_of (m := m) (a := c) (b := b) (c := a) b5 b3 b2 (fun h => by have := t1 h; have := t2 h; have := t3 h; omega) (fun h => by have := t4 h; exact H_comm.1 (H_swap.1 (H_comm.1 this)))
    obtain ⟨j1, j2⟩ := tri_of (m := m) (a := a) (b := c) (c := b) b1 b5 b4 (fun h => by have := t1 h; have := t2 h; have := t3 h; omega) (fun h => H_swap.1 (t4 h))
    clear t1 t2 t3 t4
    have HL := Lib.hid (fun w' => low_calls m a b w' hm1 hm3 b1 b3 b2 b4)
    have HH := Lib.hid (fun w' => high_calls m a b w' hm1 hm3 b1 b3 b2 b4)
    have HT1 := Lib.hid (fun w' => tri_v m a b c true ⟨hm1, hm3, b1, b3, b2, b4⟩ (by simp [f1, f2]) w')
    have HT2 := Lib.hid (fun w' => tri_v m c b a true ⟨hm1, hm3, b5, b3, b6, b4⟩ (by simp [g1, g2]) w')
    have HT3 := Lib.hid (fun w' => tri_v m a c b true ⟨hm1, hm3, b1, b5, b2, b6⟩ (by simp [j1, j2]) w')
    clear g1 g2 j1 j2
    generalize low m a b = LL at *
    generalize high m a b = HH' at *
    go_enter Try.func5, Try.ntmps5
    go_wp2_with fail
    refine (HAB.out _ (Below.refl _ _)).mono ?_
    rintro e w' ⟨rfl, rfl⟩
    go_wp2_with fail
    refine (HBC.out _ (Below.refl _ _)).mono ?_
    rintro e w' ⟨rfl, rfl⟩
    go_wp2_with fail
    refine (HV.out _).mono ?_
    rintro e w' ⟨rfl, rfl⟩
    go_wp2_with fail
    refine (HPQ.out _ (Below.refl _ _)).mono ?_
    rintro e w1 ⟨rfl, hb1⟩
    have HB1 := Lib.hid hb1
    clear hb1
    go_wp2_with fail
    refine (HQX.out _ HB1.out).mono ?_
    rintro e w2 ⟨rfl, hb2⟩
    have HB2 := Lib.hid (Below.andThen HB1.out hb2)
    clear hb2 HB1
    go_wp2_with fail
    refine (HPX.out _ HB2.out).mono ?_
    rintro e w3 ⟨rfl, hb3⟩
    have HB3 := Lib.hid (Below.andThen HB2.out hb3)
    clear hb3 HB2
    go_wp2_with fail
    refine (HL.out _).mono ?_
    rintro e w4 ⟨rfl, hb4⟩
    have HB4 := Lib.hid (Below.andThen HB3.out hb4)
    clear hb4 HB3
    go_wp2_with fail
    refine (HH.out _).mono ?_
    rintro e w5 ⟨rfl, hb5⟩
    have HB5 := Lib.hid (Below.andThen HB4.out hb5)
    clear hb5 HB4
    go_wp2_with fail
    refine (HS.out _).mono ?_
    rintro e w6 ⟨rfl, hb6⟩
    have HB6 := Lib.hid (Below.andThen HB5.out hb6)
    clear hb6 HB5
    go_wp2_with fail
    refine (HT1.out _).mono ?_
    rintro e w7 ⟨rfl, hb7⟩
    have HB7 := Lib.hid (Below.andThen HB6.out hb7)
    clear hb7 HB6
    go_wp2_with fail
    refine (HT2.out _).mono ?_
    rintro e w8 ⟨rfl, hb8⟩
    have HB8 := Lib.hid (Below.andThen HB7.out hb8)
    clear hb8 HB7
    go_wp2_with fail
    refine (HT3.out _).mono ?_
    rintro e w9 ⟨rfl, hb9⟩
    have HB9 := Lib.hid (Below.andThen HB8.out hb9)
    clear hb9 HB8
    go_wp2
    go_ret
    first | exact ⟨rfl, HB9.out⟩ | exact ⟨by simp; omega, HB9.out⟩
  · rcases Bool.eq_false_or_eq_true (vq.alike p q) with k1 | k1
    · rcases Bool.eq_false_or_eq_true (vq.alike q x) with k2 | k2
      · have hme : ¬ (1 ≤ m ∧ m ≤ 3) := fun h => hok ⟨k1, k2, h⟩
        rw [k1] at HAB
        rw [k2] at HBC
        rw [decide_eq_false hme] at HV
        clear hok hme k1 k2
        go_enter Try.func5, Try.ntmps5
        go_wp2_with fail
        refine (HAB.out _ (Below.refl _ _)).mono ?_
        rintro e w' ⟨rfl, rfl⟩
        go_wp2_with fail
        refine (HBC.out _ (Below.refl _ _)).mono ?_
        rintro e w' ⟨rfl, rfl⟩
        go_wp2_with fail
        refine (HV.out _).mono ?_
        rintro e w' ⟨rfl, rfl⟩
        go_wp2_with fail
        refine (HS.out _).mono ?_
        rintro e w1 ⟨rfl, hb1⟩
        have HB1 := Lib.hid hb1
        clear hb1
        go_wp2
        go_ret
        first | exact ⟨rfl, HB1.out⟩ | exact ⟨by simp; omega, HB1.out⟩
      · rw [k1] at HAB
        rw [k2] at HBC
        clear hok k1 k2
        go_enter Try.func5, Try.ntmps5
        go_wp2_with fail
        refine (HAB.out _ (Below.refl _ _)).mono ?_
        rintro e w' ⟨rfl, rfl⟩
        go_wp2_with fail
        refine (HBC.out _ (Below.refl _ _)).mono ?_
        rintro e w' ⟨rfl, rfl⟩
        go_wp2_with fail
        refine (HS.out _).mono ?_
        rintro e w1 ⟨rfl, hb1⟩
        have HB1 := Lib.hid hb1
        clear hb1
        go_wp2
        go_ret
        first | exact ⟨rfl, HB1.out⟩ | exact ⟨by simp; omega, HB1.out⟩
    · rw [k1] at HAB
      clear hok k1
      rcases Bool.eq_false_or_eq_true (vq.alike q x) with k2 | k2
      · rw [k2] at HBC
        go_enter Try.func5, Try.ntmps5
        go_wp2_with fail
        refine (HAB.out _ (Below.refl _ _)).mono ?_
        rintro e w' ⟨rfl, rfl⟩
        go_wp2_with fail
        refine (HBC.out _ (Below.refl _ _)).mono ?_
        rintro e w' ⟨rfl, rfl⟩
        go_wp2_with fail
        refine (HS.out _).mono ?_
        rintro e w1 ⟨rfl, hb1⟩
        have HB1 := Lib.hid hb1
        clear hb1
        go_wp2
        go_ret
        first | exact ⟨rfl, HB1.out⟩ | exact ⟨by simp; omega, HB1.out⟩
      · rw [k2] at HBC
        go_enter Try.func5, Try.ntmps5
        go_wp2_with fail
        refine (HAB.out _ (Below.refl _ _)).mono ?_
        rintro e w' ⟨rfl, rfl⟩
        go_wp2_with fail
        refine (HBC.out _ (Below.refl _ _)).mono ?_
        rintro e w' ⟨rfl, rfl⟩
        go_wp2_with fail
        refine (HS.out _).mono ?_
        rintro e w1 ⟨rfl, hb1⟩
        have HB1 := Lib.hid hb1
        clear hb1
        go_wp2
        go_ret
        first | exact ⟨rfl, HB1.out⟩ | exact ⟨by simp; omega, HB1.out⟩
end Go.Proofs.Ytngmdonlljpknaa.metricTrianglesHold
