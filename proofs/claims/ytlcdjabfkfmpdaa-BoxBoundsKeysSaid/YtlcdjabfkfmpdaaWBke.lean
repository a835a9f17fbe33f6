/- BoxBoundsKeys: its walk. -/
import Derived.Test.YtlcdjabfkfmpdaaBu

import Derived.Test.YtlcdjabfkfmpdaaBv

namespace Go.Proofs.Ytlcdjabfkfmpdaa.bk

open Go.ChangeShapes Go.WideShapes Go.ChangeAt Go.RowKit
theorem IsU.below {w w' : World} {A : Option Addr} {n c : Nat} {l : List Int} (h : IsU w A n c l) (hb : Below w.heap.size w w') : IsU w' A n c l := isU_below h hb
end Go.Proofs.Ytlcdjabfkfmpdaa.bk

namespace Go.Proofs.Ytlcdjabfkfmpdaa.boxBoundsKeys

open Go.ChangeShapes Go.WideShapes Go.ChangeAt Go.RowKit

open Go.Proofs.Ytlcdjabfkfmpdaa.bq Go.Proofs.Ytlcdjabfkfmpdaa.vk Go.Proofs.Ytlcdjabfkfmpdaa.wk Go.Proofs.Ytlcdjabfkfmpdaa.bk

set_option linter.unusedVariables false
set_option maxRecDepth 100000 in
set_option maxHeartbeats 16000000 in
theorem walk (w : World) {m : Int} {v u : Value} {p q : Pair} {A A3 A4 : Option Addr} {n c n3 c3 n4 c4 : Nat} {l pk qk : List Int} (w0 : (Lit.int .i64 m).wf = true) (w1 : IsX w v p) (w2 : IsX w u q) (w3 : wo.IsI w A n c l) (w4 : IsU w A3 n3 c3 pk) (w5 : IsU w A4 n4 c4 qk) :
    Calls Try.prog 5 #[.int .i64 m, v, u, .slice A n c, .slice A3 n3 c3, .slice A4 n4 c4] w fun e w' => e = .returned (.bool true) ∧ Below w.heap.size w w' := by
  obtain ⟨A1, n1, c1, A2, n2, c2, rfl, hx1, hx2⟩ := w1
  obtain ⟨B1, m1, d1, B2, m2, d2, rfl, hy1, hy2⟩ := w2
  have HN1 := Lib.hid hx1.1
  have HM1 := Lib.hid hy1.1
  have HNL := Lib.hid w3.1
  have HB := Lib.hid (Below.andThen (below_new w (.cells #[.slice A1 n1 c1, .slice A2 n2 c2] 25)) (below_new _ (.cells #[.slice B1 m1 d1, .slice B2 m2 d2] 25)))
  have HX : Hid (IsX ((w.alloc (.cells #[.slice A1 n1 c1, .slice A2 n2 c2] 25)).alloc (.cells #[.slice B1 m1 d1, .slice B2 m2 d2] 25)) (.agg #[.slice A1 n1 c1, .slice A2 n2 c2]) p) := IsX.below ⟨_, _, _, _, _, _, rfl, hx1, hx2⟩ HB.out
  have HY : Hid (IsX ((w.alloc (.cells #[.slice A1 n1 c1, .slice A2 n2 c2] 25)).alloc (.cells #[.slice B1 m1 d1, .slice B2 m2 d2] 25)) (.agg #[.slice B1 m1 d1, .slice B2 m2 d2]) q) := IsX.below ⟨_, _, _, _, _, _, rfl, hy1, hy2⟩ HB.out
  have HT := Lib.hid ((TwoX.new w (.slice A1 n1 c1) (.slice A2 n2 c2)).below (below_new _ (.cells #[.slice B1 m1 d1, .slice B2 m2 d2] 25)))
  have HT8 := Lib.hid (TwoX.new (w.alloc (.cells #[.slice A1 n1 c1, .slice A2 n2 c2] 25)) (.slice B1 m1 d1) (.slice B2 m2 d2))
  rw [size_new] at HT8
  have HV := Lib.hid (VI.mk (isI_below w3 HB.out))
  have HU := Lib.hid (w4.below HB.out)
  have HQ := Lib.hid (w5.below HB.out)
  clear hx1 hx2 hy1 hy2 w0 w3 w4 w5
  have hc0HT := HT.out.two.c0
  have hc1HT := HT.out.two.c1
  have hc0HT8 := HT8.out.two.c0
  have hc1HT8 := HT8.out.two.c1
  go_enter Try.func5, Try.ntmps5
  go_wp2_with fail
  clear hc0HT hc1HT hc0HT8 hc1HT8
  refine (few_calls _ p _ HX.out).mono ?_
  rintro e w1 ⟨rfl, hb⟩
  replace HT := Lib.hid (HT.out.below hb)
  replace HT8 := Lib.hid (HT8.out.below hb)
  replace HX := Lib.hid (HX.out.below hb)
  replace HY := Lib.hid (HY.out.below hb)
  replace HV := Lib.hid (HV.out.below hb)
  replace HU := Lib.hid (HU.out.below hb)
  replace HQ := Lib.hid (HQ.out.below hb)
  replace HB := Lib.hid (Below.andThen HB.out hb)
  clear hb
  have hc0HT := HT.out.two.c0
  have hc1HT := HT.out.two.c1
  have hc0HT8 := HT8.out.two.c0
  have hc1HT8 := HT8.out.two.c1
  cases hfew : (decide (p.1.length ≤ 40) && decide (p.2.length ≤ 40))
  ·
    go_wp2_with fail
    clear hc0HT hc1HT hc0HT8 hc1HT8
    refine (sanity_calls _).mono ?_
    rintro e w' ⟨rfl, hb⟩
    have HBZ := Lib.hid (Below.andThen HB.out hb)
    clear hb
    go_wp2_with fail
    go_ret
    exact ⟨rfl, HBZ.out⟩
  go_wp2_with fail
  clear hc0HT hc1HT hc0HT8 hc1HT8
  refine (few_calls _ q _ HY.out).mono ?_
  rintro e w2 ⟨rfl, hb⟩
  replace HT := Lib.hid (HT.out.below hb)
  replace HT8 := Lib.hid (HT8.out.below hb)
  replace HX := Lib.hid (HX.out.below hb)
  replace HY := Lib.hid (HY.out.below hb)
  replace HV := Lib.hid (HV.out.below hb)
  replace HU := Lib.hid (HU.out.below hb)
  replace HQ := Lib.hid (HQ.out.below hb)
  replace HB := Lib.hid (Below.andThen HB.out hb)
  clear hb
  have hc0HT := HT.out.two.c0
  have hc1HT := HT.out.two.c1
  have hc0HT8 := HT8.out.two.c0
  have hc1HT8 := HT8.out.two.c1
  cases hfew2 : (decide (q.1.length ≤ 40) && decide (q.2.length ≤ 40))
  ·
    go_wp2_with fail
    clear hc0HT hc1HT hc0HT8 hc1HT8
    refine (sanity_calls _).mono ?_
    rintro e w' ⟨rfl, hb⟩
    have HBZ := Lib.hid (Below.andThen HB.out hb)
    clear hb
    go_wp2_with fail
    go_ret
    exact ⟨rfl, HBZ.out⟩
  go_wp2_with fail
  clear hc0HT hc1HT hc0HT8 hc1HT8
  refine (valid_calls _ p _ HX.out).mono ?_
  rintro e w3 ⟨rfl, hb⟩
  replace HT := Lib.hid (HT.out.below hb)
  replace HT8 := Lib.hid (HT8.out.below hb)
  replace HX := Lib.hid (HX.out.below hb)
  replace HY := Lib.hid (HY.out.below hb)
  replace HV := Lib.hid (HV.out.below hb)
  replace HU := Lib.hid (HU.out.below hb)
  replace HQ := Lib.hid (HQ.out.below hb)
  replace HB := Lib.hid (Below.andThen HB.out hb)
  clear hb
  have hc0HT := HT.out.two.c0
  have hc1HT := HT.out.two.c1
  have hc0HT8 := HT8.out.two.c0
  have hc1HT8 := HT8.out.two.c1
  cases hval : bvalid p
  ·
    go_wp2_with fail
    clear hc0HT hc1HT hc0HT8 hc1HT8
    refine (sanity_calls _).mono ?_
    rintro e w' ⟨rfl, hb⟩
    have HBZ := Lib.hid (Below.andThen HB.out hb)
    clear hb
    go_wp2_with fail
    go_ret
    exact ⟨rfl, HBZ.out⟩
  go_wp2_with fail
  clear hc0HT hc1HT hc0HT8 hc1HT8
  refine (rvector_calls A n c l _ HV.out.is).mono ?_
  rintro e w' ⟨rfl, rfl⟩
  have hc0HT := HT.out.two.c0
  have hc1HT := HT.out.two.c1
  have hc0HT8 := HT8.out.two.c0
  have hc1HT8 := HT8.out.two.c1
  cases hvec : vq.valid l
  ·
    go_wp2_with fail
    clear hc0HT hc1HT hc0HT8 hc1HT8
    refine (sanity_calls _).mono ?_
    rintro e w' ⟨rfl, hb⟩
    have HBZ := Lib.hid (Below.andThen HB.out hb)
    clear hb
    go_wp2_with fail
    go_ret
    exact ⟨rfl, HBZ.out⟩
  by_cases hnn : n ≠ n1
  ·
    have hnn' : ¬ ((n : Int) = (n1 : Int)) := by omega
    go_wp2_with fail
    clear hc0HT hc1HT hc0HT8 hc1HT8
    refine (sanity_calls _).mono ?_
    rintro e w' ⟨rfl, hb⟩
    have HBZ := Lib.hid (Below.andThen HB.out hb)
    clear hb
    go_wp2_with fail
    go_ret
    exact ⟨rfl, HBZ.out⟩
  obtain rfl : n = n1 := by omega
  clear hnn
  go_wp2_with fail
  clear hc0HT hc1HT hc0HT8 hc1HT8
  refine (rmetric_calls m _).mono ?_
  rintro e w' ⟨rfl, rfl⟩
  have hc0HT := HT.out.two.c0
  have hc1HT := HT.out.two.c1
  have hc0HT8 := HT8.out.two.c0
  have hc1HT8 := HT8.out.two.c1
  cases hmet : metricB m
  ·
    go_wp2_with fail
    clear hc0HT hc1HT hc0HT8 hc1HT8
    refine (sanity_calls _).mono ?_
    rintro e w' ⟨rfl, hb⟩
    have HBZ := Lib.hid (Below.andThen HB.out hb)
    clear hb
    go_wp2_with fail
    go_ret
    exact ⟨rfl, HBZ.out⟩
  have hp := bvalid_iff.1 hval
  have hv := vq.valid_iff.1 hvec
  have hm3 := metric_iff.1 (show metric m = true from hmet)
  have hlp : l.length = p.1.length := by rw [HN1.out, HNL.out]
  have HP := Lib.hid hp
  have HVV := Lib.hid hv
  have HM := Lib.hid hm3
  have HLP := Lib.hid hlp
  have hask := asked_iff.2 ⟨hm3, hlp.symm, hp, hv⟩
  have HASK := Lib.hid hask
  have hn32 : n ≤ 32 := by rw [← HNL.out]; exact hv.le
  have HN32 := Lib.hid hn32
  have hin : has p (inner p pk) = true := has_inner hp
  have HIN := Lib.hid hin
  obtain ⟨xi, hxi⟩ : ∃ xi, inner p pk = xi := ⟨_, rfl⟩
  have HXL : Hid (xi.length = n) := by show _ = _; rw [← hxi, inner_length, HN1.out]
  rw [hxi] at HIN
  have HXI := Lib.hid hxi
  obtain ⟨kn, hkn⟩ : ∃ kn, keyf m (difs bq.gap p (l, l)) = kn := ⟨_, rfl⟩
  obtain ⟨kf, hkf⟩ : ∃ kf, keyf m (difs bq.reach p (l, l)) = kf := ⟨_, rfl⟩
  obtain ⟨kk, hkk⟩ : ∃ kk, keyf m (dists l xi) = kk := ⟨_, rfl⟩
  have hk1 : ¬ kk < kn := by rw [← hkk, ← hkn]; exact Int.not_lt.2 (key_ge hp hlp HIN.out)
  have hk2 : ¬ kf < kk := by rw [← hkk, ← hkf]; exact Int.not_lt.2 (key_le hp hlp HIN.out)
  have hk3 : ¬ (134217728 : Int) < kf := by rw [← hkf]; exact Int.not_lt.2 (far_most hp hv hlp)
  have HK0 : Hid (kn = 0 ↔ has p l = true) := by show _ ↔ _; rw [← hkn]; exact near_zero hp hv hlp
  have HKN := Lib.hid hkn
  have HKF := Lib.hid hkf
  have HKK := Lib.hid hkk
  clear hp hv hm3 hlp hask hn32 hval hvec hmet hfew hfew2 hin hxi hkn hkf hkk
  go_wp2_with fail
  clear hc0HT hc1HT hc0HT8 hc1HT8
  refine (inner_calls _ p _ _ _ pk _ HX.out HU.out HP.out).mono ?_
  rintro e w6 ⟨x, rfl, hx, hb⟩
  replace HT := Lib.hid (HT.out.below hb)
  replace HT8 := Lib.hid (HT8.out.below hb)
  replace HX := Lib.hid (HX.out.below hb)
  replace HY := Lib.hid (HY.out.below hb)
  replace HV := Lib.hid (HV.out.below hb)
  replace HU := Lib.hid (HU.out.below hb)
  replace HQ := Lib.hid (HQ.out.below hb)
  replace HB := Lib.hid (Below.andThen HB.out hb)
  obtain ⟨An, nn, cn, rfl, hx⟩ := hx
  rw [HXI.out] at hx
  obtain rfl : nn = n := by rw [← hx.1, HXL.out]
  have HI := Lib.hid (VI.mk hx)
  clear hx
  clear hb
  have hc0HT := HT.out.two.c0
  have hc1HT := HT.out.two.c1
  have hc0HT8 := HT8.out.two.c0
  have hc1HT8 := HT8.out.two.c1
  go_wp2_with fail
  clear hc0HT hc1HT hc0HT8 hc1HT8
  refine (near_calls m _ p A nn c l _ HX.out HV.out.is).mono ?_
  rintro e w7 ⟨rfl, hb⟩
  replace HT := Lib.hid (HT.out.below hb)
  replace HT8 := Lib.hid (HT8.out.below hb)
  replace HX := Lib.hid (HX.out.below hb)
  replace HY := Lib.hid (HY.out.below hb)
  replace HV := Lib.hid (HV.out.below hb)
  replace HU := Lib.hid (HU.out.below hb)
  replace HQ := Lib.hid (HQ.out.below hb)
  replace HI := Lib.hid (HI.out.below hb)
  replace HB := Lib.hid (Below.andThen HB.out hb)
  rw [if_pos HASK.out, if_pos HASK.out, HKN.out]
  clear hb
  have hc0HT := HT.out.two.c0
  have hc1HT := HT.out.two.c1
  have hc0HT8 := HT8.out.two.c0
  have hc1HT8 := HT8.out.two.c1
  go_wp2_with fail
  clear hc0HT hc1HT hc0HT8 hc1HT8
  refine (far_calls m _ p A nn c l _ HX.out HV.out.is).mono ?_
  rintro e w8 ⟨rfl, hb⟩
  replace HT := Lib.hid (HT.out.below hb)
  replace HT8 := Lib.hid (HT8.out.below hb)
  replace HX := Lib.hid (HX.out.below hb)
  replace HY := Lib.hid (HY.out.below hb)
  replace HV := Lib.hid (HV.out.below hb)
  replace HU := Lib.hid (HU.out.below hb)
  replace HQ := Lib.hid (HQ.out.below hb)
  replace HI := Lib.hid (HI.out.below hb)
  replace HB := Lib.hid (Below.andThen HB.out hb)
  rw [if_pos HASK.out, if_pos HASK.out, HKF.out]
  clear hb
  have hc0HT := HT.out.two.c0
  have hc1HT := HT.out.two.c1
  have hc0HT8 := HT8.out.two.c0
  have hc1HT8 := HT8.out.two.c1
  go_wp2_with fail
  clear hc0HT hc1HT hc0HT8 hc1HT8
  refine (rkey_calls m HM.out A An nn c nn cn l xi _ HV.out.is HI.out.is (Nat.le_refl _) HN32.out (fun i hi => by have h1 := HP.out.len; have h2 := HLP.out; have h3 := HNL.out; have a1 := vec_at HP.out.lo (i := i) (by omega); have a2 := vec_at HP.out.hi (i := i) (by omega); have a3 := vec_at HVV.out (i := i) (by omega); have a4 := HP.out.le i (by omega); have a5 := ((has_iff HP.out).1 HIN.out).2 i (by omega); omega)).mono ?_
  rintro e w' ⟨rfl, q9, rfl⟩
  have hb := below_dr (Below.refl w8.heap.size w8) q9
  replace HT := Lib.hid (HT.out.below hb)
  replace HT8 := Lib.hid (HT8.out.below hb)
  replace HX := Lib.hid (HX.out.below hb)
  replace HY := Lib.hid (HY.out.below hb)
  replace HV := Lib.hid (HV.out.below hb)
  replace HU := Lib.hid (HU.out.below hb)
  replace HQ := Lib.hid (HQ.out.below hb)
  replace HI := Lib.hid (HI.out.below hb)
  replace HB := Lib.hid (Below.andThen HB.out hb)
  rw [HKK.out]
  clear hb
  have hc0HT := HT.out.two.c0
  have hc1HT := HT.out.two.c1
  have hc0HT8 := HT8.out.two.c0
  have hc1HT8 := HT8.out.two.c1
  go_wp2_with fail
  clear hc0HT hc1HT hc0HT8 hc1HT8
  refine (has_calls _ p _ _ _ xi _ HX.out HI.out.is).mono ?_
  rintro e w10 ⟨rfl, hb⟩
  replace HT := Lib.hid (HT.out.below hb)
  replace HT8 := Lib.hid (HT8.out.below hb)
  replace HX := Lib.hid (HX.out.below hb)
  replace HY := Lib.hid (HY.out.below hb)
  replace HV := Lib.hid (HV.out.below hb)
  replace HU := Lib.hid (HU.out.below hb)
  replace HQ := Lib.hid (HQ.out.below hb)
  replace HI := Lib.hid (HI.out.below hb)
  replace HB := Lib.hid (Below.andThen HB.out hb)
  rw [HIN.out]
  clear hb
  have hc0HT := HT.out.two.c0
  have hc1HT := HT.out.two.c1
  have hc0HT8 := HT8.out.two.c0
  have hc1HT8 := HT8.out.two.c1
  go_wp2_with fail
  clear hc0HT hc1HT hc0HT8 hc1HT8
  refine (has_calls _ p _ _ _ l _ HX.out HV.out.is).mono ?_
  rintro e w11 ⟨rfl, hb⟩
  replace HT := Lib.hid (HT.out.below hb)
  replace HT8 := Lib.hid (HT8.out.below hb)
  replace HX := Lib.hid (HX.out.below hb)
  replace HY := Lib.hid (HY.out.below hb)
  replace HV := Lib.hid (HV.out.below hb)
  replace HU := Lib.hid (HU.out.below hb)
  replace HQ := Lib.hid (HQ.out.below hb)
  replace HI := Lib.hid (HI.out.below hb)
  replace HB := Lib.hid (Below.andThen HB.out hb)
  clear hb
  have hc0HT := HT.out.two.c0
  have hc1HT := HT.out.two.c1
  have hc0HT8 := HT8.out.two.c0
  have hc1HT8 := HT8.out.two.c1
  cases hhas : has p l
  ·
    have hk4 : ¬ kn = 0 := by rw [HK0.out, hhas]; decide
    have hk4b : (kn == 0) = false := by simpa using hk4
    clear hhas
    go_wp2_with fail
    clear hc0HT hc1HT hc0HT8 hc1HT8
    refine (valid_calls _ q _ HY.out).mono ?_
    rintro e w12 ⟨rfl, hb⟩
    replace HT := Lib.hid (HT.out.below hb)
    replace HT8 := Lib.hid (HT8.out.below hb)
    replace HX := Lib.hid (HX.out.below hb)
    replace HY := Lib.hid (HY.out.below hb)
    replace HV := Lib.hid (HV.out.below hb)
    replace HU := Lib.hid (HU.out.below hb)
    replace HQ := Lib.hid (HQ.out.below hb)
    replace HI := Lib.hid (HI.out.below hb)
    replace HB := Lib.hid (Below.andThen HB.out hb)
    clear hb
    have hc0HT := HT.out.two.c0
    have hc1HT := HT.out.two.c1
    have hc0HT8 := HT8.out.two.c0
    have hc1HT8 := HT8.out.two.c1
    cases hval : bvalid q
    ·
      go_wp2_with fail
      clear hc0HT hc1HT hc0HT8 hc1HT8
      refine (sanity_calls _).mono ?_
      rintro e w' ⟨rfl, hb⟩
      have HBZ := Lib.hid (Below.andThen HB.out hb)
      clear hb
      go_wp2_with fail
      go_ret
      exact ⟨rfl, HBZ.out⟩
    by_cases hnm : m1 ≠ nn
    ·
      have hnm' : ¬ ((m1 : Int) = (nn : Int)) := by omega
      go_wp2_with fail
      clear hc0HT hc1HT hc0HT8 hc1HT8
      refine (sanity_calls _).mono ?_
      rintro e w' ⟨rfl, hb⟩
      have HBZ := Lib.hid (Below.andThen HB.out hb)
      clear hb
      go_wp2_with fail
      go_ret
      exact ⟨rfl, HBZ.out⟩
    obtain rfl : m1 = nn := by omega
    clear hnm
    have hq := bvalid_iff.1 hval
    have hpq : p.1.length = q.1.length := by rw [HN1.out, HM1.out]
    have HQB := Lib.hid hq
    have hal : balike p q = true := balike_iff.2 ⟨hpq, HP.out, hq⟩
    have hask : asked m p q = true := by simp only [asked, Bool.and_eq_true, metric_iff]; exact ⟨HM.out, hal⟩
    have HASK2 := Lib.hid hask
    have hme : (meetR p q).2.1 = bvalid (meet p q) ∧ (meetR p q).2.2 = 0 := by
      unfold meetR
      rw [if_pos hal]
      cases bvalid (meet p q) <;> exact ⟨rfl, rfl⟩
    have HME := Lib.hid hme
    have hin2 : has q (inner q qk) = true := has_inner hq
    have HIN2 := Lib.hid hin2
    obtain ⟨yi, hyi⟩ : ∃ yi, inner q qk = yi := ⟨_, rfl⟩
    have HYL : Hid (yi.length = m1) := by show _ = _; rw [← hyi, inner_length, HM1.out]
    rw [hyi] at HIN2
    have HYI := Lib.hid hyi
    obtain ⟨ka, hka⟩ : ∃ ka, keyf m (difs bq.gap p q) = ka := ⟨_, rfl⟩
    obtain ⟨kb, hkb⟩ : ∃ kb, keyf m (dists xi yi) = kb := ⟨_, rfl⟩
    have hk5 : ka ≤ kb := by rw [← hka, ← hkb]; exact key_apart HP.out hq hpq HIN.out HIN2.out
    have HK6 : Hid (ka = 0 ↔ bvalid (meet p q) = true) := by show _ ↔ _; rw [← hka]; exact apart_zero HP.out hq hpq
    have HKA := Lib.hid hka
    have HKB := Lib.hid hkb
    have HPQ := Lib.hid hpq
    clear hq hpq hal hask hme hin2 hyi hka hkb hval
    go_wp2_with fail
    clear hc0HT hc1HT hc0HT8 hc1HT8
    refine (apart_calls m _ _ p q _ HX.out HY.out).mono ?_
    rintro e w13 ⟨rfl, hb⟩
    replace HT := Lib.hid (HT.out.below hb)
    replace HT8 := Lib.hid (HT8.out.below hb)
    replace HX := Lib.hid (HX.out.below hb)
    replace HY := Lib.hid (HY.out.below hb)
    replace HV := Lib.hid (HV.out.below hb)
    replace HU := Lib.hid (HU.out.below hb)
    replace HQ := Lib.hid (HQ.out.below hb)
    replace HI := Lib.hid (HI.out.below hb)
    replace HB := Lib.hid (Below.andThen HB.out hb)
    rw [if_pos HASK2.out, if_pos HASK2.out, HKA.out]
    clear hb
    have hc0HT := HT.out.two.c0
    have hc1HT := HT.out.two.c1
    have hc0HT8 := HT8.out.two.c0
    have hc1HT8 := HT8.out.two.c1
    go_wp2_with fail
    clear hc0HT hc1HT hc0HT8 hc1HT8
    refine (meet_calls _ _ p q _ HX.out HY.out).mono ?_
    rintro e w14 ⟨x, rfl, hx, hb⟩
    replace HT := Lib.hid (HT.out.below hb)
    replace HT8 := Lib.hid (HT8.out.below hb)
    replace HX := Lib.hid (HX.out.below hb)
    replace HY := Lib.hid (HY.out.below hb)
    replace HV := Lib.hid (HV.out.below hb)
    replace HU := Lib.hid (HU.out.below hb)
    replace HQ := Lib.hid (HQ.out.below hb)
    replace HI := Lib.hid (HI.out.below hb)
    replace HB := Lib.hid (Below.andThen HB.out hb)
    rw [HME.out.1, HME.out.2]
    obtain ⟨e1, e2, e3, e4, e5, e6, rfl, _, _⟩ := hx
    clear hb
    have hc0HT := HT.out.two.c0
    have hc1HT := HT.out.two.c1
    have hc0HT8 := HT8.out.two.c0
    have hc1HT8 := HT8.out.two.c1
    go_wp2_with fail
    clear hc0HT hc1HT hc0HT8 hc1HT8
    refine (sanity_calls _).mono ?_
    rintro e w15 ⟨rfl, hb⟩
    replace HT := Lib.hid ((HT.out.below (below_new _ _)).below hb)
    replace HT8 := Lib.hid ((HT8.out.below (below_new _ _)).below hb)
    replace HX := Lib.hid ((HX.out.below (below_new _ _)).below hb)
    replace HY := Lib.hid ((HY.out.below (below_new _ _)).below hb)
    replace HV := Lib.hid ((HV.out.below (below_new _ _)).below hb)
    replace HU := Lib.hid ((HU.out.below (below_new _ _)).below hb)
    replace HQ := Lib.hid ((HQ.out.below (below_new _ _)).below hb)
    replace HI := Lib.hid ((HI.out.below (below_new _ _)).below hb)
    replace HB := Lib.hid (Below.andThen (Below.andThen HB.out (below_new _ _)) hb)
    clear hb
    have hc0HT := HT.out.two.c0
    have hc1HT := HT.out.two.c1
    have hc0HT8 := HT8.out.two.c0
    have hc1HT8 := HT8.out.two.c1
    go_wp2_with fail
    clear hc0HT hc1HT hc0HT8 hc1HT8
    refine (inner_calls _ q _ _ _ qk _ HY.out HQ.out HQB.out).mono ?_
    rintro e w16 ⟨x, rfl, hx, hb⟩
    replace HT := Lib.hid (HT.out.below hb)
    replace HT8 := Lib.hid (HT8.out.below hb)
    replace HX := Lib.hid (HX.out.below hb)
    replace HY := Lib.hid (HY.out.below hb)
    replace HV := Lib.hid (HV.out.below hb)
    replace HU := Lib.hid (HU.out.below hb)
    replace HQ := Lib.hid (HQ.out.below hb)
    replace HI := Lib.hid (HI.out.below hb)
    replace HB := Lib.hid (Below.andThen HB.out hb)
    obtain ⟨Am, nm, cm, rfl, hx⟩ := hx
    rw [HYI.out] at hx
    obtain rfl : nm = m1 := by rw [← hx.1, HYL.out]
    have HJ := Lib.hid (VI.mk hx)
    clear hx
    clear hb
    have hc0HT := HT.out.two.c0
    have hc1HT := HT.out.two.c1
    have hc0HT8 := HT8.out.two.c0
    have hc1HT8 := HT8.out.two.c1
    go_wp2_with fail
    clear hc0HT hc1HT hc0HT8 hc1HT8
    refine (rkey_calls m HM.out An Am nm cn nm cm xi yi _ HI.out.is HJ.out.is (Nat.le_refl _) HN32.out (fun i hi => by have h1 := HP.out.len; have h2 := HPQ.out; have h3 := HN1.out; have h4 := HQB.out.len; have a1 := vec_at HP.out.lo (i := i) (by omega); have a2 := vec_at HP.out.hi (i := i) (by omega); have a3 := vec_at HQB.out.lo (i := i) (by omega); have a6 := vec_at HQB.out.hi (i := i) (by omega); have a5 := ((has_iff HP.out).1 HIN.out).2 i (by omega); have a7 := ((has_iff HQB.out).1 HIN2.out).2 i (by omega); omega)).mono ?_
    rintro e w' ⟨rfl, q17, rfl⟩
    have hb := below_dr (Below.refl w16.heap.size w16) q17
    replace HT := Lib.hid (HT.out.below hb)
    replace HT8 := Lib.hid (HT8.out.below hb)
    replace HX := Lib.hid (HX.out.below hb)
    replace HY := Lib.hid (HY.out.below hb)
    replace HV := Lib.hid (HV.out.below hb)
    replace HU := Lib.hid (HU.out.below hb)
    replace HQ := Lib.hid (HQ.out.below hb)
    replace HI := Lib.hid (HI.out.below hb)
    replace HJ := Lib.hid (HJ.out.below hb)
    replace HB := Lib.hid (Below.andThen HB.out hb)
    rw [HKB.out]
    clear hb
    have hc0HT := HT.out.two.c0
    have hc1HT := HT.out.two.c1
    have hc0HT8 := HT8.out.two.c0
    have hc1HT8 := HT8.out.two.c1
    have HBE := HB.out
    cases hbm : bvalid (meet p q)
    · have hk7 : ¬ ka = 0 := by rw [HK6.out, hbm]; decide
      have hk7b : (ka == 0) = false := by simpa using hk7
      go_wp2_with fail
      go_ret
      exact ⟨rfl, HBE⟩
    · obtain rfl : ka = 0 := HK6.out.2 hbm
      go_wp2_with fail
      go_ret
      exact ⟨rfl, HBE⟩
  ·
    obtain rfl : kn = 0 := HK0.out.2 hhas
    clear hhas
    go_wp2_with fail
    clear hc0HT hc1HT hc0HT8 hc1HT8
    refine (valid_calls _ q _ HY.out).mono ?_
    rintro e w12 ⟨rfl, hb⟩
    replace HT := Lib.hid (HT.out.below hb)
    replace HT8 := Lib.hid (HT8.out.below hb)
    replace HX := Lib.hid (HX.out.below hb)
    replace HY := Lib.hid (HY.out.below hb)
    replace HV := Lib.hid (HV.out.below hb)
    replace HU := Lib.hid (HU.out.below hb)
    replace HQ := Lib.hid (HQ.out.below hb)
    replace HI := Lib.hid (HI.out.below hb)
    replace HB := Lib.hid (Below.andThen HB.out hb)
    clear hb
    have hc0HT := HT.out.two.c0
    have hc1HT := HT.out.two.c1
    have hc0HT8 := HT8.out.two.c0
    have hc1HT8 := HT8.out.two.c1
    cases hval : bvalid q
    ·
      go_wp2_with fail
      clear hc0HT hc1HT hc0HT8 hc1HT8
      refine (sanity_calls _).mono ?_
      rintro e w' ⟨rfl, hb⟩
      have HBZ := Lib.hid (Below.andThen HB.out hb)
      clear hb
      go_wp2_with fail
      go_ret
      exact ⟨rfl, HBZ.out⟩
    by_cases hnm : m1 ≠ nn
    ·
      have hnm' : ¬ ((m1 : Int) = (nn : Int)) := by omega
      go_wp2_with fail
      clear hc0HT hc1HT hc0HT8 hc1HT8
      refine (sanity_calls _).mono ?_
      rintro e w' ⟨rfl, hb⟩
      have HBZ := Lib.hid (Below.andThen HB.out hb)
      clear hb
      go_wp2_with fail
      go_ret
      exact ⟨rfl, HBZ.out⟩
    obtain rfl : m1 = nn := by omega
    clear hnm
    have hq := bvalid_iff.1 hval
    have hpq : p.1.length = q.1.length := by rw [HN1.out, HM1.out]
    have HQB := Lib.hid hq
    have hal : balike p q = true := balike_iff.2 ⟨hpq, HP.out, hq⟩
    have hask : asked m p q = true := by simp only [asked, Bool.and_eq_true, metric_iff]; exact ⟨HM.out, hal⟩
    have HASK2 := Lib.hid hask
    have hme : (meetR p q).2.1 = bvalid (meet p q) ∧ (meetR p q).2.2 = 0 := by
      unfold meetR
      rw [if_pos hal]
      cases bvalid (meet p q) <;> exact ⟨rfl, rfl⟩
    have HME := Lib.hid hme
    have hin2 : has q (inner q qk) = true := has_inner hq
    have HIN2 := Lib.hid hin2
    obtain ⟨yi, hyi⟩ : ∃ yi, inner q qk = yi := ⟨_, rfl⟩
    have HYL : Hid (yi.length = m1) := by show _ = _; rw [← hyi, inner_length, HM1.out]
    rw [hyi] at HIN2
    have HYI := Lib.hid hyi
    obtain ⟨ka, hka⟩ : ∃ ka, keyf m (difs bq.gap p q) = ka := ⟨_, rfl⟩
    obtain ⟨kb, hkb⟩ : ∃ kb, keyf m (dists xi yi) = kb := ⟨_, rfl⟩
    have hk5 : ka ≤ kb := by rw [← hka, ← hkb]; exact key_apart HP.out hq hpq HIN.out HIN2.out
    have HK6 : Hid (ka = 0 ↔ bvalid (meet p q) = true) := by show _ ↔ _; rw [← hka]; exact apart_zero HP.out hq hpq
    have HKA := Lib.hid hka
    have HKB := Lib.hid hkb
    have HPQ := Lib.hid hpq
    clear hq hpq hal hask hme hin2 hyi hka hkb hval
    go_wp2_with fail
    clear hc0HT hc1HT hc0HT8 hc1HT8
    refine (apart_calls m _ _ p q _ HX.out HY.out).mono ?_
    rintro e w13 ⟨rfl, hb⟩
    replace HT := Lib.hid (HT.out.below hb)
    replace HT8 := Lib.hid (HT8.out.below hb)
    replace HX := Lib.hid (HX.out.below hb)
    replace HY := Lib.hid (HY.out.below hb)
    replace HV := Lib.hid (HV.out.below hb)
    replace HU := Lib.hid (HU.out.below hb)
    replace HQ := Lib.hid (HQ.out.below hb)
    replace HI := Lib.hid (HI.out.below hb)
    replace HB := Lib.hid (Below.andThen HB.out hb)
    rw [if_pos HASK2.out, if_pos HASK2.out, HKA.out]
    clear hb
    have hc0HT := HT.out.two.c0
    have hc1HT := HT.out.two.c1
    have hc0HT8 := HT8.out.two.c0
    have hc1HT8 := HT8.out.two.c1
    go_wp2_with fail
    clear hc0HT hc1HT hc0HT8 hc1HT8
    refine (meet_calls _ _ p q _ HX.out HY.out).mono ?_
    rintro e w14 ⟨x, rfl, hx, hb⟩
    replace HT := Lib.hid (HT.out.below hb)
    replace HT8 := Lib.hid (HT8.out.below hb)
    replace HX := Lib.hid (HX.out.below hb)
    replace HY := Lib.hid (HY.out.below hb)
    replace HV := Lib.hid (HV.out.below hb)
    replace HU := Lib.hid (HU.out.below hb)
    replace HQ := Lib.hid (HQ.out.below hb)
    replace HI := Lib.hid (HI.out.below hb)
    replace HB := Lib.hid (Below.andThen HB.out hb)
    rw [HME.out.1, HME.out.2]
    obtain ⟨e1, e2, e3, e4, e5, e6, rfl, _, _⟩ := hx
    clear hb
    have hc0HT := HT.out.two.c0
    have hc1HT := HT.out.two.c1
    have hc0HT8 := HT8.out.two.c0
    have hc1HT8 := HT8.out.two.c1
    go_wp2_with fail
    clear hc0HT hc1HT hc0HT8 hc1HT8
    refine (sanity_calls _).mono ?_
    rintro e w15 ⟨rfl, hb⟩
    replace HT := Lib.hid ((HT.out.below (below_new _ _)).below hb)
    replace HT8 := Lib.hid ((HT8.out.below (below_new _ _)).below hb)
    replace HX := Lib.hid ((HX.out.below (below_new _ _)).below hb)
    replace HY := Lib.hid ((HY.out.below (below_new _ _)).below hb)
    replace HV := Lib.hid ((HV.out.below (below_new _ _)).below hb)
    replace HU := Lib.hid ((HU.out.below (below_new _ _)).below hb)
    replace HQ := Lib.hid ((HQ.out.below (below_new _ _)).below hb)
    replace HI := Lib.hid ((HI.out.below (below_new _ _)).below hb)
    replace HB := Lib.hid (Below.andThen (Below.andThen HB.out (below_new _ _)) hb)
    clear hb
    have hc0HT := HT.out.two.c0
    have hc1HT := HT.out.two.c1
    have hc0HT8 := HT8.out.two.c0
    have hc1HT8 := HT8.out.two.c1
    go_wp2_with fail
    clear hc0HT hc1HT hc0HT8 hc1HT8
    refine (inner_calls _ q _ _ _ qk _ HY.out HQ.out HQB.out).mono ?_
    rintro e w16 ⟨x, rfl, hx, hb⟩
    replace HT := Lib.hid (HT.out.below hb)
    replace HT8 := Lib.hid (HT8.out.below hb)
    replace HX := Lib.hid (HX.out.below hb)
    replace HY := Lib.hid (HY.out.below hb)
    replace HV := Lib.hid (HV.out.below hb)
    replace HU := Lib.hid (HU.out.below hb)
    replace HQ := Lib.hid (HQ.out.below hb)
    replace HI := Lib.hid (HI.out.below hb)
    replace HB := Lib.hid (Below.andThen HB.out hb)
    obtain ⟨Am, nm, cm, rfl, hx⟩ := hx
    rw [HYI.out] at hx
    obtain rfl : nm = m1 := by rw [← hx.1, HYL.out]
    have HJ := Lib.hid (VI.mk hx)
    clear hx
    clear hb
    have hc0HT := HT.out.two.c0
    have hc1HT := HT.out.two.c1
    have hc0HT8 := HT8.out.two.c0
    have hc1HT8 := HT8.out.two.c1
    go_wp2_with fail
    clear hc0HT hc1HT hc0HT8 hc1HT8
    refine (rkey_calls m HM.out An Am nm cn nm cm xi yi _ HI.out.is HJ.out.is (Nat.le_refl _) HN32.out (fun i hi => by have h1 := HP.out.len; have h2 := HPQ.out; have h3 := HN1.out; have h4 := HQB.out.len; have a1 := vec_at HP.out.lo (i := i) (by omega); have a2 := vec_at HP.out.hi (i := i) (by omega); have a3 := vec_at HQB.out.lo (i := i) (by omega); have a6 := vec_at HQB.out.hi (i := i) (by omega); have a5 := ((has_iff HP.out).1 HIN.out).2 i (by omega); have a7 := ((has_iff HQB.out).1 HIN2.out).2 i (by omega); omega)).mono ?_
    rintro e w' ⟨rfl, q17, rfl⟩
    have hb := below_dr (Below.refl w16.heap.size w16) q17
    replace HT := Lib.hid (HT.out.below hb)
    replace HT8 := Lib.hid (HT8.out.below hb)
    replace HX := Lib.hid (HX.out.below hb)
    replace HY := Lib.hid (HY.out.below hb)
    replace HV := Lib.hid (HV.out.below hb)
    replace HU := Lib.hid (HU.out.below hb)
    replace HQ := Lib.hid (HQ.out.below hb)
    replace HI := Lib.hid (HI.out.below hb)
    replace HJ := Lib.hid (HJ.out.below hb)
    replace HB := Lib.hid (Below.andThen HB.out hb)
    rw [HKB.out]
    clear hb
    have hc0HT := HT.out.two.c0
    have hc1HT := HT.out.two.c1
    have hc0HT8 := HT8.out.two.c0
    have hc1HT8 := HT8.out.two.c1
    have HBE := HB.out
    cases hbm : bvalid (meet p q)
    · have hk7 : ¬ ka = 0 := by rw [HK6.out, hbm]; decide
      have hk7b : (ka == 0) = false := by simpa using hk7
      go_wp2_with fail
      go_ret
      exact ⟨rfl, HBE⟩
    · obtain rfl : ka = 0 := HK6.out.2 hbm
      go_wp2_with fail
      go_ret
      exact ⟨rfl, HBE⟩
end Go.Proofs.Ytlcdjabfkfmpdaa.boxBoundsKeys
