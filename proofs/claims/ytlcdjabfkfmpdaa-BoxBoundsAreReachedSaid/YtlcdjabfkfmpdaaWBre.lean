/- BoxBoundsAreReached: its walk. -/
import Derived.Test.YtlcdjabfkfmpdaaBu

import Derived.Test.YtlcdjabfkfmpdaaBv

namespace Go.Proofs.Ytlcdjabfkfmpdaa.boxBoundsAreReached

open Go.ChangeShapes Go.WideShapes Go.ChangeAt Go.RowKit

open Go.Proofs.Ytlcdjabfkfmpdaa.bq Go.Proofs.Ytlcdjabfkfmpdaa.vk Go.Proofs.Ytlcdjabfkfmpdaa.wk Go.Proofs.Ytlcdjabfkfmpdaa.bk

set_option linter.unusedVariables false
set_option maxRecDepth 100000 in
set_option maxHeartbeats 8000000 in
theorem walk (w : World) {m : Int} {v : Value} {p : Pair} {A : Option Addr} {n c : Nat} {l : List Int} (w0 : (Lit.int .i64 m).wf = true) (w1 : IsX w v p) (w2 : wo.IsI w A n c l) :
    Calls Try.prog 6 #[.int .i64 m, v, .slice A n c] w fun e w' => e = .returned (.bool true) ∧ Below w.heap.size w w' := by
  obtain ⟨A1, n1, c1, A2, n2, c2, rfl, hx1, hx2⟩ := w1
  have hn1 := hx1.1
  have hnl := w2.1
  have HX : Hid (IsX (w.alloc (.cells #[.slice A1 n1 c1, .slice A2 n2 c2] 25)) (.agg #[.slice A1 n1 c1, .slice A2 n2 c2]) p) := IsX.below ⟨_, _, _, _, _, _, rfl, hx1, hx2⟩ (below_new _ _)
  have HT := Lib.hid (TwoX.new w (.slice A1 n1 c1) (.slice A2 n2 c2))
  have HV := Lib.hid (VI.mk (isI_below w2 (below_new _ (.cells #[.slice A1 n1 c1, .slice A2 n2 c2] 25))))
  have HB := Lib.hid (below_new w (.cells #[.slice A1 n1 c1, .slice A2 n2 c2] 25))
  clear hx1 hx2 w0 w2
  have HN1 := Lib.hid hn1
  have HNL := Lib.hid hnl
  clear hn1 hnl
  have hc0HT := HT.out.two.c0
  have hc1HT := HT.out.two.c1
  go_enter Try.func6, Try.ntmps6
  go_wp2_with fail
  clear hc0HT hc1HT
  refine (few_calls _ p _ HX.out).mono ?_
  rintro e w1 ⟨rfl, hb⟩
  replace HT := Lib.hid (HT.out.below hb)
  replace HX := Lib.hid (HX.out.below hb)
  replace HV := Lib.hid (HV.out.below hb)
  replace HB := Lib.hid (Below.andThen HB.out hb)
  clear hb
  have hc0HT := HT.out.two.c0
  have hc1HT := HT.out.two.c1
  cases hfew : (decide (p.1.length ≤ 40) && decide (p.2.length ≤ 40))
  ·
    go_wp2_with fail
    clear hc0HT hc1HT
    refine (sanity_calls _).mono ?_
    rintro e w' ⟨rfl, hb⟩
    have HBZ := Lib.hid (Below.andThen HB.out hb)
    clear hb
    go_wp2_with fail
    go_ret
    exact ⟨rfl, HBZ.out⟩
  go_wp2_with fail
  clear hc0HT hc1HT
  refine (valid_calls _ p _ HX.out).mono ?_
  rintro e w2 ⟨rfl, hb⟩
  replace HT := Lib.hid (HT.out.below hb)
  replace HX := Lib.hid (HX.out.below hb)
  replace HV := Lib.hid (HV.out.below hb)
  replace HB := Lib.hid (Below.andThen HB.out hb)
  clear hb
  have hc0HT := HT.out.two.c0
  have hc1HT := HT.out.two.c1
  cases hval : bvalid p
  ·
    go_wp2_with fail
    clear hc0HT hc1HT
    refine (sanity_calls _).mono ?_
    rintro e w' ⟨rfl, hb⟩
    have HBZ := Lib.hid (Below.andThen HB.out hb)
    clear hb
    go_wp2_with fail
    go_ret
    exact ⟨rfl, HBZ.out⟩
  go_wp2_with fail
  clear hc0HT hc1HT
  refine (rvector_calls A n c l _ HV.out.is).mono ?_
  rintro e w' ⟨rfl, rfl⟩
  have hc0HT := HT.out.two.c0
  have hc1HT := HT.out.two.c1
  cases hvec : vq.valid l
  ·
    go_wp2_with fail
    clear hc0HT hc1HT
    refine (sanity_calls _).mono ?_
    rintro e w' ⟨rfl, hb⟩
    have HBZ := Lib.hid (Below.andThen HB.out hb)
    clear hb
    go_wp2_with fail
    go_ret
    exact ⟨rfl, HBZ.out⟩
  by_cases hnn : n ≠ n1
  ·
    have hnn' : ¬ ((n : Int) = (n1 : Int)) := by omega
    go_wp2_with fail
    clear hc0HT hc1HT
    refine (sanity_calls _).mono ?_
    rintro e w' ⟨rfl, hb⟩
    have HBZ := Lib.hid (Below.andThen HB.out hb)
    clear hb
    go_wp2_with fail
    go_ret
    exact ⟨rfl, HBZ.out⟩
  obtain rfl : n = n1 := by omega
  clear hnn
  go_wp2_with fail
  clear hc0HT hc1HT
  refine (rmetric_calls m _).mono ?_
  rintro e w' ⟨rfl, rfl⟩
  have hc0HT := HT.out.two.c0
  have hc1HT := HT.out.two.c1
  cases hmet : metricB m
  ·
    go_wp2_with fail
    clear hc0HT hc1HT
    refine (sanity_calls _).mono ?_
    rintro e w' ⟨rfl, hb⟩
    have HBZ := Lib.hid (Below.andThen HB.out hb)
    clear hb
    go_wp2_with fail
    go_ret
    exact ⟨rfl, HBZ.out⟩
  have hp := bvalid_iff.1 hval
  have hv := vq.valid_iff.1 hvec
  have hm3 := metric_iff.1 (show metric m = true from hmet)
  have hlp : l.length = p.1.length := by rw [HN1.out, HNL.out]
  have HP := Lib.hid hp
  have HVV := Lib.hid hv
  have HM := Lib.hid hm3
  have HLP := Lib.hid hlp
  have hask := asked_iff.2 ⟨hm3, hlp.symm, hp, hv⟩
  have HASK := Lib.hid hask
  have hn32 : n ≤ 32 := by rw [← HNL.out]; exact hv.le
  have HN32 := Lib.hid hn32
  clear hp hv hm3 hlp hask hn32 hval hvec hmet hfew
  go_wp2_with fail
  clear hc0HT hc1HT
  refine (nearest_calls _ p A n c l _ HX.out HV.out.is (by rw [← HLP.out]; exact HNL.out) (by rw [← HP.out.len, ← HLP.out]; exact HNL.out) (by have := HN32.out; omega)).mono ?_
  rintro e w5 ⟨x, rfl, hx, hb⟩
  replace HT := Lib.hid (HT.out.below hb)
  replace HX := Lib.hid (HX.out.below hb)
  replace HV := Lib.hid (HV.out.below hb)
  replace HB := Lib.hid (Below.andThen HB.out hb)
  obtain ⟨An, nn, cn, rfl, hx⟩ := hx
  obtain rfl : nn = n := by rw [← hx.1, nearest_length, HNL.out]
  have HNE := Lib.hid (VI.mk hx)
  clear hx
  clear hb
  have hc0HT := HT.out.two.c0
  have hc1HT := HT.out.two.c1
  go_wp2_with fail
  clear hc0HT hc1HT
  refine (farthest_calls _ p A nn c l _ HX.out HV.out.is (by rw [← HLP.out]; exact HNL.out) (by rw [← HP.out.len, ← HLP.out]; exact HNL.out) (by have := HN32.out; omega) (fun i hi => by have h1 := HP.out.len; have h2 := HLP.out; have h3 := HNL.out; have a1 := vec_at HP.out.lo (i := i) (by omega); have a2 := vec_at HP.out.hi (i := i) (by omega); have a3 := vec_at HVV.out (i := i) (by omega); omega)).mono ?_
  rintro e w6 ⟨x, rfl, hx, hb⟩
  replace HT := Lib.hid (HT.out.below hb)
  replace HX := Lib.hid (HX.out.below hb)
  replace HV := Lib.hid (HV.out.below hb)
  replace HNE := Lib.hid (HNE.out.below hb)
  replace HB := Lib.hid (Below.andThen HB.out hb)
  obtain ⟨Af, nf, cf, rfl, hx⟩ := hx
  obtain rfl : nf = nn := by rw [← hx.1, farthest_length, HNL.out]
  have HFA := Lib.hid (VI.mk hx)
  clear hx
  clear hb
  have hc0HT := HT.out.two.c0
  have hc1HT := HT.out.two.c1
  go_wp2_with fail
  clear hc0HT hc1HT
  refine (near_calls m _ p A nf c l _ HX.out HV.out.is).mono ?_
  rintro e w7 ⟨rfl, hb⟩
  replace HT := Lib.hid (HT.out.below hb)
  replace HX := Lib.hid (HX.out.below hb)
  replace HV := Lib.hid (HV.out.below hb)
  replace HNE := Lib.hid (HNE.out.below hb)
  replace HFA := Lib.hid (HFA.out.below hb)
  replace HB := Lib.hid (Below.andThen HB.out hb)
  rw [if_pos HASK.out, if_pos HASK.out, near_key HP.out HLP.out]
  obtain ⟨kn, hkn⟩ : ∃ kn, keyf m (dists l (nearest p l)) = kn := ⟨_, rfl⟩
  rw [hkn]
  have HKN := Lib.hid hkn
  clear hkn
  clear hb
  have hc0HT := HT.out.two.c0
  have hc1HT := HT.out.two.c1
  go_wp2_with fail
  clear hc0HT hc1HT
  refine (far_calls m _ p A nf c l _ HX.out HV.out.is).mono ?_
  rintro e w8 ⟨rfl, hb⟩
  replace HT := Lib.hid (HT.out.below hb)
  replace HX := Lib.hid (HX.out.below hb)
  replace HV := Lib.hid (HV.out.below hb)
  replace HNE := Lib.hid (HNE.out.below hb)
  replace HFA := Lib.hid (HFA.out.below hb)
  replace HB := Lib.hid (Below.andThen HB.out hb)
  rw [if_pos HASK.out, if_pos HASK.out, far_key HP.out HLP.out]
  obtain ⟨kf, hkf⟩ : ∃ kf, keyf m (dists l (farthest p l)) = kf := ⟨_, rfl⟩
  rw [hkf]
  have HKF := Lib.hid hkf
  clear hkf
  clear hb
  have hc0HT := HT.out.two.c0
  have hc1HT := HT.out.two.c1
  go_wp2_with fail
  clear hc0HT hc1HT
  refine (sanity_calls _).mono ?_
  rintro e w9 ⟨rfl, hb⟩
  replace HT := Lib.hid (HT.out.below hb)
  replace HX := Lib.hid (HX.out.below hb)
  replace HV := Lib.hid (HV.out.below hb)
  replace HNE := Lib.hid (HNE.out.below hb)
  replace HFA := Lib.hid (HFA.out.below hb)
  replace HB := Lib.hid (Below.andThen HB.out hb)
  clear hb
  have hc0HT := HT.out.two.c0
  have hc1HT := HT.out.two.c1
  go_wp2_with fail
  clear hc0HT hc1HT
  refine (has_calls _ p _ _ _ (nearest p l) _ HX.out HNE.out.is).mono ?_
  rintro e w10 ⟨rfl, hb⟩
  replace HT := Lib.hid (HT.out.below hb)
  replace HX := Lib.hid (HX.out.below hb)
  replace HV := Lib.hid (HV.out.below hb)
  replace HNE := Lib.hid (HNE.out.below hb)
  replace HFA := Lib.hid (HFA.out.below hb)
  replace HB := Lib.hid (Below.andThen HB.out hb)
  rw [has_nearest HP.out HLP.out]
  clear hb
  have hc0HT := HT.out.two.c0
  have hc1HT := HT.out.two.c1
  go_wp2_with fail
  clear hc0HT hc1HT
  refine (has_calls _ p _ _ _ (farthest p l) _ HX.out HFA.out.is).mono ?_
  rintro e w11 ⟨rfl, hb⟩
  replace HT := Lib.hid (HT.out.below hb)
  replace HX := Lib.hid (HX.out.below hb)
  replace HV := Lib.hid (HV.out.below hb)
  replace HNE := Lib.hid (HNE.out.below hb)
  replace HFA := Lib.hid (HFA.out.below hb)
  replace HB := Lib.hid (Below.andThen HB.out hb)
  rw [has_farthest HP.out HLP.out]
  clear hb
  have hc0HT := HT.out.two.c0
  have hc1HT := HT.out.two.c1
  go_wp2_with fail
  clear hc0HT hc1HT
  refine (rkey_calls m HM.out A An nf c nf cn l (nearest p l) _ HV.out.is HNE.out.is (Nat.le_refl _) HN32.out (fun i hi => by have h1 := HP.out.len; have h2 := HLP.out; have h3 := HNL.out; have a1 := vec_at HP.out.lo (i := i) (by omega); have a2 := vec_at HP.out.hi (i := i) (by omega); have a3 := vec_at HVV.out (i := i) (by omega); have a4 := HP.out.le i (by omega); have a5 := nearest_at (p := p) (v := l) (i := i) (by omega); omega)).mono ?_
  rintro e w' ⟨rfl, q12, rfl⟩
  have hb := below_dr (Below.refl w11.heap.size w11) q12
  replace HT := Lib.hid (HT.out.below hb)
  replace HX := Lib.hid (HX.out.below hb)
  replace HV := Lib.hid (HV.out.below hb)
  replace HNE := Lib.hid (HNE.out.below hb)
  replace HFA := Lib.hid (HFA.out.below hb)
  replace HB := Lib.hid (Below.andThen HB.out hb)
  rw [HKN.out]
  clear hb
  have hc0HT := HT.out.two.c0
  have hc1HT := HT.out.two.c1
  go_wp2_with fail
  clear hc0HT hc1HT
  refine (rkey_calls m HM.out A Af nf c nf cf l (farthest p l) _ HV.out.is HFA.out.is (Nat.le_refl _) HN32.out (fun i hi => by have h1 := HP.out.len; have h2 := HLP.out; have h3 := HNL.out; have a1 := vec_at HP.out.lo (i := i) (by omega); have a2 := vec_at HP.out.hi (i := i) (by omega); have a3 := vec_at HVV.out (i := i) (by omega); have a4 := HP.out.le i (by omega); have a5 := (show at' p.1 i ≤ at' (farthest p l) i ∧ at' (farthest p l) i ≤ at' p.2 i from ((has_iff HP.out).1 (has_farthest HP.out HLP.out)).2 i (by omega)); omega)).mono ?_
  rintro e w' ⟨rfl, q13, rfl⟩
  have hb := below_dr (Below.refl (w11.drewN q12).heap.size (w11.drewN q12)) q13
  replace HT := Lib.hid (HT.out.below hb)
  replace HX := Lib.hid (HX.out.below hb)
  replace HV := Lib.hid (HV.out.below hb)
  replace HNE := Lib.hid (HNE.out.below hb)
  replace HFA := Lib.hid (HFA.out.below hb)
  replace HB := Lib.hid (Below.andThen HB.out hb)
  rw [HKF.out]
  clear hb
  have hc0HT := HT.out.two.c0
  have hc1HT := HT.out.two.c1
  have HBE := HB.out
  rw [dr_add] at HBE
  go_wp2_with fail
  go_ret
  exact ⟨rfl, HBE⟩
end Go.Proofs.Ytlcdjabfkfmpdaa.boxBoundsAreReached
