/- BoxMeasuresAsSpecified: its walk. -/
import Derived.Test.YtegoinkkcfbfaaaDh

import Derived.Test.YtegoinkkcfbfaaaG8

import Derived.Test.YtegoinkkcfbfaaaG7

import Derived.Test.YtegoinkkcfbfaaaG5

import Derived.Test.YtegoinkkcfbfaaaG6

namespace Go.Proofs.Ytegoinkkcfbfaaa.boxMeasuresAsSpecified

open Go.ChangeShapes Go.WideShapes Go.ChangeAt Go.RowKit

open Go.Proofs.Ytegoinkkcfbfaaa.bq Go.Proofs.Ytegoinkkcfbfaaa.vk Go.Proofs.Ytegoinkkcfbfaaa.wk Go.Proofs.Ytegoinkkcfbfaaa.bk

set_option linter.unusedVariables false
set_option maxRecDepth 100000 in
set_option maxHeartbeats 16000000 in
theorem walk (w : World) {v u : Value} {p q : Pair} {A : Option Addr} {n c : Nat} {l : List Int} {m axis at_ : Int} (w0 : IsX w v p) (w1 : IsX w u q) (w2 : wo.IsI w A n c l) (w3 : (Lit.int .i64 m).wf = true) (w4 : (Lit.int .i64 axis).wf = true) (w5 : (Lit.int .i64 at_).wf = true) :
    Calls Try.prog 3 #[v, u, .slice A n c, .int .i64 m, .int .i64 axis, .int .i64 at_] w fun e w' => e = .returned (.bool true) ∧ Below w.heap.size w w' := by
  obtain ⟨A1, n1, c1, A2, n2, c2, rfl, hx1, hx2⟩ := w0
  obtain ⟨B1, m1, d1, B2, m2, d2, rfl, hy1, hy2⟩ := w1
  have HB := Lib.hid (Below.andThen (below_new w (.cells #[.slice A1 n1 c1, .slice A2 n2 c2] 24)) (below_new _ (.cells #[.slice B1 m1 d1, .slice B2 m2 d2] 24)))
  have HX : Hid (IsX ((w.alloc (.cells #[.slice A1 n1 c1, .slice A2 n2 c2] 24)).alloc (.cells #[.slice B1 m1 d1, .slice B2 m2 d2] 24)) (.agg #[.slice A1 n1 c1, .slice A2 n2 c2]) p) := IsX.below ⟨_, _, _, _, _, _, rfl, hx1, hx2⟩ HB.out
  have HY : Hid (IsX ((w.alloc (.cells #[.slice A1 n1 c1, .slice A2 n2 c2] 24)).alloc (.cells #[.slice B1 m1 d1, .slice B2 m2 d2] 24)) (.agg #[.slice B1 m1 d1, .slice B2 m2 d2]) q) := IsX.below ⟨_, _, _, _, _, _, rfl, hy1, hy2⟩ HB.out
  have HT := Lib.hid ((TwoX.new w (.slice A1 n1 c1) (.slice A2 n2 c2)).below (below_new _ (.cells #[.slice B1 m1 d1, .slice B2 m2 d2] 24)))
  have HT6 := Lib.hid (TwoX.new (w.alloc (.cells #[.slice A1 n1 c1, .slice A2 n2 c2] 24)) (.slice B1 m1 d1) (.slice B2 m2 d2))
  rw [size_new] at HT6
  have HV := Lib.hid (VI.mk (isI_below w2 HB.out))
  have hnc := w2.2.1
  have hmc := w2.2.2.1
  obtain ⟨R, hR⟩ : ∃ R, cutR p axis at_ = R := ⟨_, rfl⟩
  obtain ⟨S, hS⟩ : ∃ S, splitR p = S := ⟨_, rfl⟩
  have HR := Lib.hid hR
  have HS := Lib.hid hS
  obtain ⟨nv, hnv⟩ : ∃ z : Int, (if asked m p (l, l) then keyf m (difs bq.gap p (l, l)) else 0) = z := ⟨_, rfl⟩
  obtain ⟨ne, hne⟩ : ∃ z : Int, (if asked m p (l, l) then 0 else 1) = z := ⟨_, rfl⟩
  obtain ⟨fv, hfv⟩ : ∃ z : Int, (if asked m p (l, l) then keyf m (difs bq.reach p (l, l)) else 0) = z := ⟨_, rfl⟩
  obtain ⟨av, hav⟩ : ∃ z : Int, (if asked m p q then keyf m (difs bq.gap p q) else 0) = z := ⟨_, rfl⟩
  obtain ⟨ae, hae⟩ : ∃ z : Int, (if asked m p q then 0 else 1) = z := ⟨_, rfl⟩
  have Hnv := Lib.hid hnv
  have Hne := Lib.hid hne
  have Hfv := Lib.hid hfv
  have Hav := Lib.hid hav
  have Hae := Lib.hid hae
  clear hx1 hx2 hy1 hy2 w2 hR hS hnv hne hfv hav hae
  have hc0HT := HT.out.two.c0
  have hc1HT := HT.out.two.c1
  have hc0HT6 := HT6.out.two.c0
  have hc1HT6 := HT6.out.two.c1
  go_enter Try.func3, Try.ntmps3
  go_wp2_with fail
  clear hc0HT hc1HT hc0HT6 hc1HT6
  refine (few_calls _ p _ HX.out).mono ?_
  rintro e w1 ⟨rfl, hb⟩
  replace HT := Lib.hid (HT.out.below hb)
  replace HT6 := Lib.hid (HT6.out.below hb)
  replace HX := Lib.hid (HX.out.below hb)
  replace HY := Lib.hid (HY.out.below hb)
  replace HV := Lib.hid (HV.out.below hb)
  replace HB := Lib.hid (Below.andThen HB.out hb)
  clear hb
  have hc0HT := HT.out.two.c0
  have hc1HT := HT.out.two.c1
  have hc0HT6 := HT6.out.two.c0
  have hc1HT6 := HT6.out.two.c1
  cases hfew : (decide (p.1.length ≤ 40) && decide (p.2.length ≤ 40))
  ·
    go_wp2_with fail
    clear hc0HT hc1HT hc0HT6 hc1HT6
    refine (sanity_calls _).mono ?_
    rintro e w' ⟨rfl, hb⟩
    have HBZ := Lib.hid (Below.andThen HB.out hb)
    clear hb
    go_wp2_with fail
    go_ret
    exact ⟨rfl, HBZ.out⟩
  clear hfew
  go_wp2_with fail
  clear hc0HT hc1HT hc0HT6 hc1HT6
  refine (few_calls _ q _ HY.out).mono ?_
  rintro e w2 ⟨rfl, hb⟩
  replace HT := Lib.hid (HT.out.below hb)
  replace HT6 := Lib.hid (HT6.out.below hb)
  replace HX := Lib.hid (HX.out.below hb)
  replace HY := Lib.hid (HY.out.below hb)
  replace HV := Lib.hid (HV.out.below hb)
  replace HB := Lib.hid (Below.andThen HB.out hb)
  clear hb
  have hc0HT := HT.out.two.c0
  have hc1HT := HT.out.two.c1
  have hc0HT6 := HT6.out.two.c0
  have hc1HT6 := HT6.out.two.c1
  cases hfew2 : (decide (q.1.length ≤ 40) && decide (q.2.length ≤ 40))
  ·
    go_wp2_with fail
    clear hc0HT hc1HT hc0HT6 hc1HT6
    refine (sanity_calls _).mono ?_
    rintro e w' ⟨rfl, hb⟩
    have HBZ := Lib.hid (Below.andThen HB.out hb)
    clear hb
    go_wp2_with fail
    go_ret
    exact ⟨rfl, HBZ.out⟩
  clear hfew2
  by_cases h40 : n > 40
  ·
    go_wp2_with fail
    clear hc0HT hc1HT hc0HT6 hc1HT6
    refine (sanity_calls _).mono ?_
    rintro e w' ⟨rfl, hb⟩
    have HBZ := Lib.hid (Below.andThen HB.out hb)
    clear hb
    go_wp2_with fail
    go_ret
    exact ⟨rfl, HBZ.out⟩
  go_wp2_with fail
  clear hc0HT hc1HT hc0HT6 hc1HT6
  refine (near_calls m _ p A n c l _ HX.out HV.out.is).mono ?_
  rintro e w3 ⟨rfl, hb⟩
  replace HT := Lib.hid (HT.out.below hb)
  replace HT6 := Lib.hid (HT6.out.below hb)
  replace HX := Lib.hid (HX.out.below hb)
  replace HY := Lib.hid (HY.out.below hb)
  replace HV := Lib.hid (HV.out.below hb)
  replace HB := Lib.hid (Below.andThen HB.out hb)
  rw [Hnv.out, Hne.out]
  clear hb
  have hc0HT := HT.out.two.c0
  have hc1HT := HT.out.two.c1
  have hc0HT6 := HT6.out.two.c0
  have hc1HT6 := HT6.out.two.c1
  go_wp2_with fail
  clear hc0HT hc1HT hc0HT6 hc1HT6
  refine (far_calls m _ p A n c l _ HX.out HV.out.is).mono ?_
  rintro e w4 ⟨rfl, hb⟩
  replace HT := Lib.hid (HT.out.below hb)
  replace HT6 := Lib.hid (HT6.out.below hb)
  replace HX := Lib.hid (HX.out.below hb)
  replace HY := Lib.hid (HY.out.below hb)
  replace HV := Lib.hid (HV.out.below hb)
  replace HB := Lib.hid (Below.andThen HB.out hb)
  rw [Hfv.out, Hne.out]
  clear hb
  have hc0HT := HT.out.two.c0
  have hc1HT := HT.out.two.c1
  have hc0HT6 := HT6.out.two.c0
  have hc1HT6 := HT6.out.two.c1
  go_wp2_with fail
  clear hc0HT hc1HT hc0HT6 hc1HT6
  refine (apart_calls m _ _ p q _ HX.out HY.out).mono ?_
  rintro e w5 ⟨rfl, hb⟩
  replace HT := Lib.hid (HT.out.below hb)
  replace HT6 := Lib.hid (HT6.out.below hb)
  replace HX := Lib.hid (HX.out.below hb)
  replace HY := Lib.hid (HY.out.below hb)
  replace HV := Lib.hid (HV.out.below hb)
  replace HB := Lib.hid (Below.andThen HB.out hb)
  rw [Hav.out, Hae.out]
  clear hb
  have hc0HT := HT.out.two.c0
  have hc1HT := HT.out.two.c1
  have hc0HT6 := HT6.out.two.c0
  have hc1HT6 := HT6.out.two.c1
  go_wp2_with fail
  clear hc0HT hc1HT hc0HT6 hc1HT6
  refine (cut_calls _ p axis at_ _ HX.out).mono ?_
  rintro e w6 ⟨x, y, rfl, hx, hy, hb⟩
  replace HT := Lib.hid (HT.out.below hb)
  replace HT6 := Lib.hid (HT6.out.below hb)
  replace HX := Lib.hid (HX.out.below hb)
  replace HY := Lib.hid (HY.out.below hb)
  replace HV := Lib.hid (HV.out.below hb)
  replace HB := Lib.hid (Below.andThen HB.out hb)
  rw [HR.out] at hx hy
  rw [HR.out]
  obtain ⟨s1, s2, s3, s4, s5, s6, rfl, hx1, hx2⟩ := hx
  obtain ⟨t1, t2, t3, t4, t5, t6, rfl, hy1, hy2⟩ := hy
  have HXS : Hid (IsX _ (.agg #[.slice s1 s2 s3, .slice s4 s5 s6]) R.1) := ⟨_, _, _, _, _, _, rfl, hx1, hx2⟩
  have HXT : Hid (IsX _ (.agg #[.slice t1 t2 t3, .slice t4 t5 t6]) R.2.1) := ⟨_, _, _, _, _, _, rfl, hy1, hy2⟩
  clear hx1 hx2 hy1 hy2
  clear hb
  have hc0HT := HT.out.two.c0
  have hc1HT := HT.out.two.c1
  have hc0HT6 := HT6.out.two.c0
  have hc1HT6 := HT6.out.two.c1
  clear hc0HT hc1HT hc0HT6 hc1HT6
  have HB1 := Lib.hid (Rx.new w6 24 #[.slice s1 s2 s3, .slice s4 s5 s6])
  replace HT := Lib.hid (HT.out.below (below_new _ (.cells #[.slice s1 s2 s3, .slice s4 s5 s6] 24)))
  replace HT6 := Lib.hid (HT6.out.below (below_new _ (.cells #[.slice s1 s2 s3, .slice s4 s5 s6] 24)))
  replace HX := Lib.hid (HX.out.below (below_new _ (.cells #[.slice s1 s2 s3, .slice s4 s5 s6] 24)))
  replace HY := Lib.hid (HY.out.below (below_new _ (.cells #[.slice s1 s2 s3, .slice s4 s5 s6] 24)))
  replace HV := Lib.hid (HV.out.below (below_new _ (.cells #[.slice s1 s2 s3, .slice s4 s5 s6] 24)))
  replace HXS := Lib.hid (HXS.out.below (below_new _ (.cells #[.slice s1 s2 s3, .slice s4 s5 s6] 24)))
  replace HXT := Lib.hid (HXT.out.below (below_new _ (.cells #[.slice s1 s2 s3, .slice s4 s5 s6] 24)))
  replace HB := Lib.hid (Below.andThen HB.out (below_new _ (.cells #[.slice s1 s2 s3, .slice s4 s5 s6] 24)))
  have hc0HT := HT.out.two.c0
  have hc1HT := HT.out.two.c1
  have hc0HT6 := HT6.out.two.c0
  have hc1HT6 := HT6.out.two.c1
  have hc0HB1 := HB1.out.c (j := 0) rfl
  have hc1HB1 := HB1.out.c (j := 1) rfl
  clear hc0HT hc1HT hc0HT6 hc1HT6 hc0HB1 hc1HB1
  have HB2 := Lib.hid (Rx.new (w6.alloc (.cells #[.slice s1 s2 s3, .slice s4 s5 s6] 24)) 24 #[.slice t1 t2 t3, .slice t4 t5 t6])
  replace HT := Lib.hid (HT.out.below (below_new _ (.cells #[.slice t1 t2 t3, .slice t4 t5 t6] 24)))
  replace HT6 := Lib.hid (HT6.out.below (below_new _ (.cells #[.slice t1 t2 t3, .slice t4 t5 t6] 24)))
  replace HX := Lib.hid (HX.out.below (below_new _ (.cells #[.slice t1 t2 t3, .slice t4 t5 t6] 24)))
  replace HY := Lib.hid (HY.out.below (below_new _ (.cells #[.slice t1 t2 t3, .slice t4 t5 t6] 24)))
  replace HV := Lib.hid (HV.out.below (below_new _ (.cells #[.slice t1 t2 t3, .slice t4 t5 t6] 24)))
  replace HXS := Lib.hid (HXS.out.below (below_new _ (.cells #[.slice t1 t2 t3, .slice t4 t5 t6] 24)))
  replace HXT := Lib.hid (HXT.out.below (below_new _ (.cells #[.slice t1 t2 t3, .slice t4 t5 t6] 24)))
  replace HB1 := Lib.hid (HB1.out.below (below_new _ (.cells #[.slice t1 t2 t3, .slice t4 t5 t6] 24)))
  replace HB := Lib.hid (Below.andThen HB.out (below_new _ (.cells #[.slice t1 t2 t3, .slice t4 t5 t6] 24)))
  have hc0HT := HT.out.two.c0
  have hc1HT := HT.out.two.c1
  have hc0HT6 := HT6.out.two.c0
  have hc1HT6 := HT6.out.two.c1
  have hc0HB1 := HB1.out.c (j := 0) rfl
  have hc1HB1 := HB1.out.c (j := 1) rfl
  have hc0HB2 := HB2.out.c (j := 0) rfl
  have hc1HB2 := HB2.out.c (j := 1) rfl
  clear hc0HT hc1HT hc0HT6 hc1HT6 hc0HB1 hc1HB1 hc0HB2 hc1HB2
  rw [size_new] at HB2
  have hc0HT := HT.out.two.c0
  have hc1HT := HT.out.two.c1
  have hc0HT6 := HT6.out.two.c0
  have hc1HT6 := HT6.out.two.c1
  have hc0HB1 := HB1.out.c (j := 0) rfl
  have hc1HB1 := HB1.out.c (j := 1) rfl
  have hc0HB2 := HB2.out.c (j := 0) rfl
  have hc1HB2 := HB2.out.c (j := 1) rfl
  go_wp2_with fail
  clear hc0HT hc1HT hc0HT6 hc1HT6 hc0HB1 hc1HB1 hc0HB2 hc1HB2
  refine (split_calls _ p _ HX.out).mono ?_
  rintro e w7 ⟨rfl, hb⟩
  replace HT := Lib.hid (HT.out.below hb)
  replace HT6 := Lib.hid (HT6.out.below hb)
  replace HX := Lib.hid (HX.out.below hb)
  replace HY := Lib.hid (HY.out.below hb)
  replace HV := Lib.hid (HV.out.below hb)
  replace HXS := Lib.hid (HXS.out.below hb)
  replace HXT := Lib.hid (HXT.out.below hb)
  replace HB1 := Lib.hid (HB1.out.below hb)
  replace HB2 := Lib.hid (HB2.out.below hb)
  replace HB := Lib.hid (Below.andThen HB.out hb)
  rw [HS.out]
  clear hb
  have hc0HT := HT.out.two.c0
  have hc1HT := HT.out.two.c1
  have hc0HT6 := HT6.out.two.c0
  have hc1HT6 := HT6.out.two.c1
  have hc0HB1 := HB1.out.c (j := 0) rfl
  have hc1HB1 := HB1.out.c (j := 1) rfl
  have hc0HB2 := HB2.out.c (j := 0) rfl
  have hc1HB2 := HB2.out.c (j := 1) rfl
  go_wp2_with fail
  clear hc0HT hc1HT hc0HT6 hc1HT6 hc0HB1 hc1HB1 hc0HB2 hc1HB2
  refine (refnear_calls m _ p A n c l _ HX.out HV.out.is).mono ?_
  rintro e w8 ⟨rfl, hb⟩
  replace HT := Lib.hid (HT.out.below hb)
  replace HT6 := Lib.hid (HT6.out.below hb)
  replace HX := Lib.hid (HX.out.below hb)
  replace HY := Lib.hid (HY.out.below hb)
  replace HV := Lib.hid (HV.out.below hb)
  replace HXS := Lib.hid (HXS.out.below hb)
  replace HXT := Lib.hid (HXT.out.below hb)
  replace HB1 := Lib.hid (HB1.out.below hb)
  replace HB2 := Lib.hid (HB2.out.below hb)
  replace HB := Lib.hid (Below.andThen HB.out hb)
  rw [Hnv.out, Hne.out]
  clear hb
  have hc0HT := HT.out.two.c0
  have hc1HT := HT.out.two.c1
  have hc0HT6 := HT6.out.two.c0
  have hc1HT6 := HT6.out.two.c1
  have hc0HB1 := HB1.out.c (j := 0) rfl
  have hc1HB1 := HB1.out.c (j := 1) rfl
  have hc0HB2 := HB2.out.c (j := 0) rfl
  have hc1HB2 := HB2.out.c (j := 1) rfl
  clear hc0HT hc1HT hc0HT6 hc1HT6 hc0HB1 hc1HB1 hc0HB2 hc1HB2
  have HN1 := Lib.hid (Rx.new w8 36 #[.int .i64 nv, .int .i64 ne])
  replace HT := Lib.hid (HT.out.below (below_new _ (.cells #[.int .i64 nv, .int .i64 ne] 36)))
  replace HT6 := Lib.hid (HT6.out.below (below_new _ (.cells #[.int .i64 nv, .int .i64 ne] 36)))
  replace HX := Lib.hid (HX.out.below (below_new _ (.cells #[.int .i64 nv, .int .i64 ne] 36)))
  replace HY := Lib.hid (HY.out.below (below_new _ (.cells #[.int .i64 nv, .int .i64 ne] 36)))
  replace HV := Lib.hid (HV.out.below (below_new _ (.cells #[.int .i64 nv, .int .i64 ne] 36)))
  replace HXS := Lib.hid (HXS.out.below (below_new _ (.cells #[.int .i64 nv, .int .i64 ne] 36)))
  replace HXT := Lib.hid (HXT.out.below (below_new _ (.cells #[.int .i64 nv, .int .i64 ne] 36)))
  replace HB1 := Lib.hid (HB1.out.below (below_new _ (.cells #[.int .i64 nv, .int .i64 ne] 36)))
  replace HB2 := Lib.hid (HB2.out.below (below_new _ (.cells #[.int .i64 nv, .int .i64 ne] 36)))
  replace HB := Lib.hid (Below.andThen HB.out (below_new _ (.cells #[.int .i64 nv, .int .i64 ne] 36)))
  have hc0HT := HT.out.two.c0
  have hc1HT := HT.out.two.c1
  have hc0HT6 := HT6.out.two.c0
  have hc1HT6 := HT6.out.two.c1
  have hc0HB1 := HB1.out.c (j := 0) rfl
  have hc1HB1 := HB1.out.c (j := 1) rfl
  have hc0HB2 := HB2.out.c (j := 0) rfl
  have hc1HB2 := HB2.out.c (j := 1) rfl
  have hc0HN1 := HN1.out.c (j := 0) rfl
  have hc1HN1 := HN1.out.c (j := 1) rfl
  go_wp2_with fail
  clear hc0HT hc1HT hc0HT6 hc1HT6 hc0HB1 hc1HB1 hc0HB2 hc1HB2 hc0HN1 hc1HN1
  refine (reffar_calls m _ p A n c l _ HX.out HV.out.is).mono ?_
  rintro e w9 ⟨rfl, hb⟩
  replace HT := Lib.hid (HT.out.below hb)
  replace HT6 := Lib.hid (HT6.out.below hb)
  replace HX := Lib.hid (HX.out.below hb)
  replace HY := Lib.hid (HY.out.below hb)
  replace HV := Lib.hid (HV.out.below hb)
  replace HXS := Lib.hid (HXS.out.below hb)
  replace HXT := Lib.hid (HXT.out.below hb)
  replace HB1 := Lib.hid (HB1.out.below hb)
  replace HB2 := Lib.hid (HB2.out.below hb)
  replace HN1 := Lib.hid (HN1.out.below hb)
  replace HB := Lib.hid (Below.andThen HB.out hb)
  rw [Hfv.out, Hne.out]
  clear hb
  have hc0HT := HT.out.two.c0
  have hc1HT := HT.out.two.c1
  have hc0HT6 := HT6.out.two.c0
  have hc1HT6 := HT6.out.two.c1
  have hc0HB1 := HB1.out.c (j := 0) rfl
  have hc1HB1 := HB1.out.c (j := 1) rfl
  have hc0HB2 := HB2.out.c (j := 0) rfl
  have hc1HB2 := HB2.out.c (j := 1) rfl
  have hc0HN1 := HN1.out.c (j := 0) rfl
  have hc1HN1 := HN1.out.c (j := 1) rfl
  clear hc0HT hc1HT hc0HT6 hc1HT6 hc0HB1 hc1HB1 hc0HB2 hc1HB2 hc0HN1 hc1HN1
  have HN2 := Lib.hid (Rx.new w9 36 #[.int .i64 fv, .int .i64 ne])
  replace HT := Lib.hid (HT.out.below (below_new _ (.cells #[.int .i64 fv, .int .i64 ne] 36)))
  replace HT6 := Lib.hid (HT6.out.below (below_new _ (.cells #[.int .i64 fv, .int .i64 ne] 36)))
  replace HX := Lib.hid (HX.out.below (below_new _ (.cells #[.int .i64 fv, .int .i64 ne] 36)))
  replace HY := Lib.hid (HY.out.below (below_new _ (.cells #[.int .i64 fv, .int .i64 ne] 36)))
  replace HV := Lib.hid (HV.out.below (below_new _ (.cells #[.int .i64 fv, .int .i64 ne] 36)))
  replace HXS := Lib.hid (HXS.out.below (below_new _ (.cells #[.int .i64 fv, .int .i64 ne] 36)))
  replace HXT := Lib.hid (HXT.out.below (below_new _ (.cells #[.int .i64 fv, .int .i64 ne] 36)))
  replace HB1 := Lib.hid (HB1.out.below (below_new _ (.cells #[.int .i64 fv, .int .i64 ne] 36)))
  replace HB2 := Lib.hid (HB2.out.below (below_new _ (.cells #[.int .i64 fv, .int .i64 ne] 36)))
  replace HN1 := Lib.hid (HN1.out.below (below_new _ (.cells #[.int .i64 fv, .int .i64 ne] 36)))
  replace HB := Lib.hid (Below.andThen HB.out (below_new _ (.cells #[.int .i64 fv, .int .i64 ne] 36)))
  have hc0HT := HT.out.two.c0
  have hc1HT := HT.out.two.c1
  have hc0HT6 := HT6.out.two.c0
  have hc1HT6 := HT6.out.two.c1
  have hc0HB1 := HB1.out.c (j := 0) rfl
  have hc1HB1 := HB1.out.c (j := 1) rfl
  have hc0HB2 := HB2.out.c (j := 0) rfl
  have hc1HB2 := HB2.out.c (j := 1) rfl
  have hc0HN1 := HN1.out.c (j := 0) rfl
  have hc1HN1 := HN1.out.c (j := 1) rfl
  have hc0HN2 := HN2.out.c (j := 0) rfl
  have hc1HN2 := HN2.out.c (j := 1) rfl
  go_wp2_with fail
  clear hc0HT hc1HT hc0HT6 hc1HT6 hc0HB1 hc1HB1 hc0HB2 hc1HB2 hc0HN1 hc1HN1 hc0HN2 hc1HN2
  refine (refapart_calls m _ _ p q _ HX.out HY.out).mono ?_
  rintro e w10 ⟨rfl, hb⟩
  replace HT := Lib.hid (HT.out.below hb)
  replace HT6 := Lib.hid (HT6.out.below hb)
  replace HX := Lib.hid (HX.out.below hb)
  replace HY := Lib.hid (HY.out.below hb)
  replace HV := Lib.hid (HV.out.below hb)
  replace HXS := Lib.hid (HXS.out.below hb)
  replace HXT := Lib.hid (HXT.out.below hb)
  replace HB1 := Lib.hid (HB1.out.below hb)
  replace HB2 := Lib.hid (HB2.out.below hb)
  replace HN1 := Lib.hid (HN1.out.below hb)
  replace HN2 := Lib.hid (HN2.out.below hb)
  replace HB := Lib.hid (Below.andThen HB.out hb)
  rw [Hav.out, Hae.out]
  clear hb
  have hc0HT := HT.out.two.c0
  have hc1HT := HT.out.two.c1
  have hc0HT6 := HT6.out.two.c0
  have hc1HT6 := HT6.out.two.c1
  have hc0HB1 := HB1.out.c (j := 0) rfl
  have hc1HB1 := HB1.out.c (j := 1) rfl
  have hc0HB2 := HB2.out.c (j := 0) rfl
  have hc1HB2 := HB2.out.c (j := 1) rfl
  have hc0HN1 := HN1.out.c (j := 0) rfl
  have hc1HN1 := HN1.out.c (j := 1) rfl
  have hc0HN2 := HN2.out.c (j := 0) rfl
  have hc1HN2 := HN2.out.c (j := 1) rfl
  clear hc0HT hc1HT hc0HT6 hc1HT6 hc0HB1 hc1HB1 hc0HB2 hc1HB2 hc0HN1 hc1HN1 hc0HN2 hc1HN2
  have HN3 := Lib.hid (Rx.new w10 36 #[.int .i64 av, .int .i64 ae])
  replace HT := Lib.hid (HT.out.below (below_new _ (.cells #[.int .i64 av, .int .i64 ae] 36)))
  replace HT6 := Lib.hid (HT6.out.below (below_new _ (.cells #[.int .i64 av, .int .i64 ae] 36)))
  replace HX := Lib.hid (HX.out.below (below_new _ (.cells #[.int .i64 av, .int .i64 ae] 36)))
  replace HY := Lib.hid (HY.out.below (below_new _ (.cells #[.int .i64 av, .int .i64 ae] 36)))
  replace HV := Lib.hid (HV.out.below (below_new _ (.cells #[.int .i64 av, .int .i64 ae] 36)))
  replace HXS := Lib.hid (HXS.out.below (below_new _ (.cells #[.int .i64 av, .int .i64 ae] 36)))
  replace HXT := Lib.hid (HXT.out.below (below_new _ (.cells #[.int .i64 av, .int .i64 ae] 36)))
  replace HB1 := Lib.hid (HB1.out.below (below_new _ (.cells #[.int .i64 av, .int .i64 ae] 36)))
  replace HB2 := Lib.hid (HB2.out.below (below_new _ (.cells #[.int .i64 av, .int .i64 ae] 36)))
  replace HN1 := Lib.hid (HN1.out.below (below_new _ (.cells #[.int .i64 av, .int .i64 ae] 36)))
  replace HN2 := Lib.hid (HN2.out.below (below_new _ (.cells #[.int .i64 av, .int .i64 ae] 36)))
  replace HB := Lib.hid (Below.andThen HB.out (below_new _ (.cells #[.int .i64 av, .int .i64 ae] 36)))
  have hc0HT := HT.out.two.c0
  have hc1HT := HT.out.two.c1
  have hc0HT6 := HT6.out.two.c0
  have hc1HT6 := HT6.out.two.c1
  have hc0HB1 := HB1.out.c (j := 0) rfl
  have hc1HB1 := HB1.out.c (j := 1) rfl
  have hc0HB2 := HB2.out.c (j := 0) rfl
  have hc1HB2 := HB2.out.c (j := 1) rfl
  have hc0HN1 := HN1.out.c (j := 0) rfl
  have hc1HN1 := HN1.out.c (j := 1) rfl
  have hc0HN2 := HN2.out.c (j := 0) rfl
  have hc1HN2 := HN2.out.c (j := 1) rfl
  have hc0HN3 := HN3.out.c (j := 0) rfl
  have hc1HN3 := HN3.out.c (j := 1) rfl
  go_wp2_with fail
  clear hc0HT hc1HT hc0HT6 hc1HT6 hc0HB1 hc1HB1 hc0HB2 hc1HB2 hc0HN1 hc1HN1 hc0HN2 hc1HN2 hc0HN3 hc1HN3
  refine (refcut_calls _ p axis at_ _ HX.out).mono ?_
  rintro e w11 ⟨u1, u2, u3, u4, rfl, hx, hy, hb⟩
  replace HT := Lib.hid (HT.out.below hb)
  replace HT6 := Lib.hid (HT6.out.below hb)
  replace HX := Lib.hid (HX.out.below hb)
  replace HY := Lib.hid (HY.out.below hb)
  replace HV := Lib.hid (HV.out.below hb)
  replace HXS := Lib.hid (HXS.out.below hb)
  replace HXT := Lib.hid (HXT.out.below hb)
  replace HB1 := Lib.hid (HB1.out.below hb)
  replace HB2 := Lib.hid (HB2.out.below hb)
  replace HN1 := Lib.hid (HN1.out.below hb)
  replace HN2 := Lib.hid (HN2.out.below hb)
  replace HN3 := Lib.hid (HN3.out.below hb)
  replace HB := Lib.hid (Below.andThen HB.out hb)
  rw [HR.out] at hx hy
  rw [HR.out]
  obtain ⟨a1, a2, a3, a4, a5, a6, e1, hx1, hx2⟩ := hx
  obtain ⟨b1, b2, b3, b4, b5, b6, e2, hy1, hy2⟩ := hy
  simp only [Value.agg.injEq, Array.mk.injEq, List.cons.injEq, and_true] at e1 e2
  obtain ⟨rfl, rfl⟩ := e1
  obtain ⟨rfl, rfl⟩ := e2
  have HXU : Hid (IsX _ (.agg #[.slice a1 a2 a3, .slice a4 a5 a6]) R.1) := ⟨_, _, _, _, _, _, rfl, hx1, hx2⟩
  have HXW : Hid (IsX _ (.agg #[.slice b1 b2 b3, .slice b4 b5 b6]) R.2.1) := ⟨_, _, _, _, _, _, rfl, hy1, hy2⟩
  clear hx1 hx2 hy1 hy2
  clear hb
  have hc0HT := HT.out.two.c0
  have hc1HT := HT.out.two.c1
  have hc0HT6 := HT6.out.two.c0
  have hc1HT6 := HT6.out.two.c1
  have hc0HB1 := HB1.out.c (j := 0) rfl
  have hc1HB1 := HB1.out.c (j := 1) rfl
  have hc0HB2 := HB2.out.c (j := 0) rfl
  have hc1HB2 := HB2.out.c (j := 1) rfl
  have hc0HN1 := HN1.out.c (j := 0) rfl
  have hc1HN1 := HN1.out.c (j := 1) rfl
  have hc0HN2 := HN2.out.c (j := 0) rfl
  have hc1HN2 := HN2.out.c (j := 1) rfl
  have hc0HN3 := HN3.out.c (j := 0) rfl
  have hc1HN3 := HN3.out.c (j := 1) rfl
  clear hc0HT hc1HT hc0HT6 hc1HT6 hc0HB1 hc1HB1 hc0HB2 hc1HB2 hc0HN1 hc1HN1 hc0HN2 hc1HN2 hc0HN3 hc1HN3
  have HH := Lib.hid (Rx.new w11 HAL #[.slice a1 a2 a3, .slice a4 a5 a6, .slice b1 b2 b3, .slice b4 b5 b6, .int .i64 R.2.2])
  replace HT := Lib.hid (HT.out.below (below_new _ (.cells #[.slice a1 a2 a3, .slice a4 a5 a6, .slice b1 b2 b3, .slice b4 b5 b6, .int .i64 R.2.2] HAL)))
  replace HT6 := Lib.hid (HT6.out.below (below_new _ (.cells #[.slice a1 a2 a3, .slice a4 a5 a6, .slice b1 b2 b3, .slice b4 b5 b6, .int .i64 R.2.2] HAL)))
  replace HX := Lib.hid (HX.out.below (below_new _ (.cells #[.slice a1 a2 a3, .slice a4 a5 a6, .slice b1 b2 b3, .slice b4 b5 b6, .int .i64 R.2.2] HAL)))
  replace HY := Lib.hid (HY.out.below (below_new _ (.cells #[.slice a1 a2 a3, .slice a4 a5 a6, .slice b1 b2 b3, .slice b4 b5 b6, .int .i64 R.2.2] HAL)))
  replace HV := Lib.hid (HV.out.below (below_new _ (.cells #[.slice a1 a2 a3, .slice a4 a5 a6, .slice b1 b2 b3, .slice b4 b5 b6, .int .i64 R.2.2] HAL)))
  replace HXS := Lib.hid (HXS.out.below (below_new _ (.cells #[.slice a1 a2 a3, .slice a4 a5 a6, .slice b1 b2 b3, .slice b4 b5 b6, .int .i64 R.2.2] HAL)))
  replace HXT := Lib.hid (HXT.out.below (below_new _ (.cells #[.slice a1 a2 a3, .slice a4 a5 a6, .slice b1 b2 b3, .slice b4 b5 b6, .int .i64 R.2.2] HAL)))
  replace HB1 := Lib.hid (HB1.out.below (below_new _ (.cells #[.slice a1 a2 a3, .slice a4 a5 a6, .slice b1 b2 b3, .slice b4 b5 b6, .int .i64 R.2.2] HAL)))
  replace HB2 := Lib.hid (HB2.out.below (below_new _ (.cells #[.slice a1 a2 a3, .slice a4 a5 a6, .slice b1 b2 b3, .slice b4 b5 b6, .int .i64 R.2.2] HAL)))
  replace HN1 := Lib.hid (HN1.out.below (below_new _ (.cells #[.slice a1 a2 a3, .slice a4 a5 a6, .slice b1 b2 b3, .slice b4 b5 b6, .int .i64 R.2.2] HAL)))
  replace HN2 := Lib.hid (HN2.out.below (below_new _ (.cells #[.slice a1 a2 a3, .slice a4 a5 a6, .slice b1 b2 b3, .slice b4 b5 b6, .int .i64 R.2.2] HAL)))
  replace HN3 := Lib.hid (HN3.out.below (below_new _ (.cells #[.slice a1 a2 a3, .slice a4 a5 a6, .slice b1 b2 b3, .slice b4 b5 b6, .int .i64 R.2.2] HAL)))
  replace HXU := Lib.hid (HXU.out.below (below_new _ (.cells #[.slice a1 a2 a3, .slice a4 a5 a6, .slice b1 b2 b3, .slice b4 b5 b6, .int .i64 R.2.2] HAL)))
  replace HXW := Lib.hid (HXW.out.below (below_new _ (.cells #[.slice a1 a2 a3, .slice a4 a5 a6, .slice b1 b2 b3, .slice b4 b5 b6, .int .i64 R.2.2] HAL)))
  replace HB := Lib.hid (Below.andThen HB.out (below_new _ (.cells #[.slice a1 a2 a3, .slice a4 a5 a6, .slice b1 b2 b3, .slice b4 b5 b6, .int .i64 R.2.2] HAL)))
  have hc0HT := HT.out.two.c0
  have hc1HT := HT.out.two.c1
  have hc0HT6 := HT6.out.two.c0
  have hc1HT6 := HT6.out.two.c1
  have hc0HB1 := HB1.out.c (j := 0) rfl
  have hc1HB1 := HB1.out.c (j := 1) rfl
  have hc0HB2 := HB2.out.c (j := 0) rfl
  have hc1HB2 := HB2.out.c (j := 1) rfl
  have hc0HN1 := HN1.out.c (j := 0) rfl
  have hc1HN1 := HN1.out.c (j := 1) rfl
  have hc0HN2 := HN2.out.c (j := 0) rfl
  have hc1HN2 := HN2.out.c (j := 1) rfl
  have hc0HN3 := HN3.out.c (j := 0) rfl
  have hc1HN3 := HN3.out.c (j := 1) rfl
  have hc0HH := HH.out.c (j := 0) rfl
  have hc1HH := HH.out.c (j := 1) rfl
  have hc2HH := HH.out.c (j := 2) rfl
  have hc3HH := HH.out.c (j := 3) rfl
  have hc4HH := HH.out.c (j := 4) rfl
  go_wp2_with fail
  clear hc0HT hc1HT hc0HT6 hc1HT6 hc0HB1 hc1HB1 hc0HB2 hc1HB2 hc0HN1 hc1HN1 hc0HN2 hc1HN2 hc0HN3 hc1HN3 hc0HH hc1HH hc2HH hc3HH hc4HH
  refine (refsplit_calls _ p _ HX.out).mono ?_
  rintro e w12 ⟨rfl, hb⟩
  replace HT := Lib.hid (HT.out.below hb)
  replace HT6 := Lib.hid (HT6.out.below hb)
  replace HX := Lib.hid (HX.out.below hb)
  replace HY := Lib.hid (HY.out.below hb)
  replace HV := Lib.hid (HV.out.below hb)
  replace HXS := Lib.hid (HXS.out.below hb)
  replace HXT := Lib.hid (HXT.out.below hb)
  replace HB1 := Lib.hid (HB1.out.below hb)
  replace HB2 := Lib.hid (HB2.out.below hb)
  replace HN1 := Lib.hid (HN1.out.below hb)
  replace HN2 := Lib.hid (HN2.out.below hb)
  replace HN3 := Lib.hid (HN3.out.below hb)
  replace HXU := Lib.hid (HXU.out.below hb)
  replace HXW := Lib.hid (HXW.out.below hb)
  replace HH := Lib.hid (HH.out.below hb)
  replace HB := Lib.hid (Below.andThen HB.out hb)
  rw [HS.out]
  clear hb
  have hc0HT := HT.out.two.c0
  have hc1HT := HT.out.two.c1
  have hc0HT6 := HT6.out.two.c0
  have hc1HT6 := HT6.out.two.c1
  have hc0HB1 := HB1.out.c (j := 0) rfl
  have hc1HB1 := HB1.out.c (j := 1) rfl
  have hc0HB2 := HB2.out.c (j := 0) rfl
  have hc1HB2 := HB2.out.c (j := 1) rfl
  have hc0HN1 := HN1.out.c (j := 0) rfl
  have hc1HN1 := HN1.out.c (j := 1) rfl
  have hc0HN2 := HN2.out.c (j := 0) rfl
  have hc1HN2 := HN2.out.c (j := 1) rfl
  have hc0HN3 := HN3.out.c (j := 0) rfl
  have hc1HN3 := HN3.out.c (j := 1) rfl
  have hc0HH := HH.out.c (j := 0) rfl
  have hc1HH := HH.out.c (j := 1) rfl
  have hc2HH := HH.out.c (j := 2) rfl
  have hc3HH := HH.out.c (j := 3) rfl
  have hc4HH := HH.out.c (j := 4) rfl
  clear hc0HT hc1HT hc0HT6 hc1HT6 hc0HB1 hc1HB1 hc0HB2 hc1HB2 hc0HN1 hc1HN1 hc0HN2 hc1HN2 hc0HN3 hc1HN3 hc0HH hc1HH hc2HH hc3HH hc4HH
  have HMD := Lib.hid (Rx.new w12 MID #[.int .i64 S.1, .int .i64 S.2.1, .int .i64 S.2.2])
  replace HT := Lib.hid (HT.out.below (below_new _ (.cells #[.int .i64 S.1, .int .i64 S.2.1, .int .i64 S.2.2] MID)))
  replace HT6 := Lib.hid (HT6.out.below (below_new _ (.cells #[.int .i64 S.1, .int .i64 S.2.1, .int .i64 S.2.2] MID)))
  replace HX := Lib.hid (HX.out.below (below_new _ (.cells #[.int .i64 S.1, .int .i64 S.2.1, .int .i64 S.2.2] MID)))
  replace HY := Lib.hid (HY.out.below (below_new _ (.cells #[.int .i64 S.1, .int .i64 S.2.1, .int .i64 S.2.2] MID)))
  replace HV := Lib.hid (HV.out.below (below_new _ (.cells #[.int .i64 S.1, .int .i64 S.2.1, .int .i64 S.2.2] MID)))
  replace HXS := Lib.hid (HXS.out.below (below_new _ (.cells #[.int .i64 S.1, .int .i64 S.2.1, .int .i64 S.2.2] MID)))
  replace HXT := Lib.hid (HXT.out.below (below_new _ (.cells #[.int .i64 S.1, .int .i64 S.2.1, .int .i64 S.2.2] MID)))
  replace HB1 := Lib.hid (HB1.out.below (below_new _ (.cells #[.int .i64 S.1, .int .i64 S.2.1, .int .i64 S.2.2] MID)))
  replace HB2 := Lib.hid (HB2.out.below (below_new _ (.cells #[.int .i64 S.1, .int .i64 S.2.1, .int .i64 S.2.2] MID)))
  replace HN1 := Lib.hid (HN1.out.below (below_new _ (.cells #[.int .i64 S.1, .int .i64 S.2.1, .int .i64 S.2.2] MID)))
  replace HN2 := Lib.hid (HN2.out.below (below_new _ (.cells #[.int .i64 S.1, .int .i64 S.2.1, .int .i64 S.2.2] MID)))
  replace HN3 := Lib.hid (HN3.out.below (below_new _ (.cells #[.int .i64 S.1, .int .i64 S.2.1, .int .i64 S.2.2] MID)))
  replace HXU := Lib.hid (HXU.out.below (below_new _ (.cells #[.int .i64 S.1, .int .i64 S.2.1, .int .i64 S.2.2] MID)))
  replace HXW := Lib.hid (HXW.out.below (below_new _ (.cells #[.int .i64 S.1, .int .i64 S.2.1, .int .i64 S.2.2] MID)))
  replace HH := Lib.hid (HH.out.below (below_new _ (.cells #[.int .i64 S.1, .int .i64 S.2.1, .int .i64 S.2.2] MID)))
  replace HB := Lib.hid (Below.andThen HB.out (below_new _ (.cells #[.int .i64 S.1, .int .i64 S.2.1, .int .i64 S.2.2] MID)))
  have hc0HT := HT.out.two.c0
  have hc1HT := HT.out.two.c1
  have hc0HT6 := HT6.out.two.c0
  have hc1HT6 := HT6.out.two.c1
  have hc0HB1 := HB1.out.c (j := 0) rfl
  have hc1HB1 := HB1.out.c (j := 1) rfl
  have hc0HB2 := HB2.out.c (j := 0) rfl
  have hc1HB2 := HB2.out.c (j := 1) rfl
  have hc0HN1 := HN1.out.c (j := 0) rfl
  have hc1HN1 := HN1.out.c (j := 1) rfl
  have hc0HN2 := HN2.out.c (j := 0) rfl
  have hc1HN2 := HN2.out.c (j := 1) rfl
  have hc0HN3 := HN3.out.c (j := 0) rfl
  have hc1HN3 := HN3.out.c (j := 1) rfl
  have hc0HH := HH.out.c (j := 0) rfl
  have hc1HH := HH.out.c (j := 1) rfl
  have hc2HH := HH.out.c (j := 2) rfl
  have hc3HH := HH.out.c (j := 3) rfl
  have hc4HH := HH.out.c (j := 4) rfl
  have hc0HMD := HMD.out.c (j := 0) rfl
  have hc1HMD := HMD.out.c (j := 1) rfl
  have hc2HMD := HMD.out.c (j := 2) rfl
  go_wp2_with fail
  clear hc0HT hc1HT hc0HT6 hc1HT6 hc0HB1 hc1HB1 hc0HB2 hc1HB2 hc0HN1 hc1HN1 hc0HN2 hc1HN2 hc0HN3 hc1HN3 hc0HH hc1HH hc2HH hc3HH hc4HH hc0HMD hc1HMD hc2HMD
  refine (sameBox_calls _ _ R.1 R.1 _ HXS.out HXU.out).mono ?_
  rintro e w13 ⟨rfl, hb⟩
  replace HT := Lib.hid (HT.out.below hb)
  replace HT6 := Lib.hid (HT6.out.below hb)
  replace HX := Lib.hid (HX.out.below hb)
  replace HY := Lib.hid (HY.out.below hb)
  replace HV := Lib.hid (HV.out.below hb)
  replace HXS := Lib.hid (HXS.out.below hb)
  replace HXT := Lib.hid (HXT.out.below hb)
  replace HB1 := Lib.hid (HB1.out.below hb)
  replace HB2 := Lib.hid (HB2.out.below hb)
  replace HN1 := Lib.hid (HN1.out.below hb)
  replace HN2 := Lib.hid (HN2.out.below hb)
  replace HN3 := Lib.hid (HN3.out.below hb)
  replace HXU := Lib.hid (HXU.out.below hb)
  replace HXW := Lib.hid (HXW.out.below hb)
  replace HH := Lib.hid (HH.out.below hb)
  replace HMD := Lib.hid (HMD.out.below hb)
  replace HB := Lib.hid (Below.andThen HB.out hb)
  rw [show sameB R.1 R.1 = true by simp [sameB]]
  clear hb
  have hc0HT := HT.out.two.c0
  have hc1HT := HT.out.two.c1
  have hc0HT6 := HT6.out.two.c0
  have hc1HT6 := HT6.out.two.c1
  have hc0HB1 := HB1.out.c (j := 0) rfl
  have hc1HB1 := HB1.out.c (j := 1) rfl
  have hc0HB2 := HB2.out.c (j := 0) rfl
  have hc1HB2 := HB2.out.c (j := 1) rfl
  have hc0HN1 := HN1.out.c (j := 0) rfl
  have hc1HN1 := HN1.out.c (j := 1) rfl
  have hc0HN2 := HN2.out.c (j := 0) rfl
  have hc1HN2 := HN2.out.c (j := 1) rfl
  have hc0HN3 := HN3.out.c (j := 0) rfl
  have hc1HN3 := HN3.out.c (j := 1) rfl
  have hc0HH := HH.out.c (j := 0) rfl
  have hc1HH := HH.out.c (j := 1) rfl
  have hc2HH := HH.out.c (j := 2) rfl
  have hc3HH := HH.out.c (j := 3) rfl
  have hc4HH := HH.out.c (j := 4) rfl
  have hc0HMD := HMD.out.c (j := 0) rfl
  have hc1HMD := HMD.out.c (j := 1) rfl
  have hc2HMD := HMD.out.c (j := 2) rfl
  go_wp2_with fail
  clear hc0HT hc1HT hc0HT6 hc1HT6 hc0HB1 hc1HB1 hc0HB2 hc1HB2 hc0HN1 hc1HN1 hc0HN2 hc1HN2 hc0HN3 hc1HN3 hc0HH hc1HH hc2HH hc3HH hc4HH hc0HMD hc1HMD hc2HMD
  refine (sameBox_calls _ _ R.2.1 R.2.1 _ HXT.out HXW.out).mono ?_
  rintro e w14 ⟨rfl, hb⟩
  replace HT := Lib.hid (HT.out.below hb)
  replace HT6 := Lib.hid (HT6.out.below hb)
  replace HX := Lib.hid (HX.out.below hb)
  replace HY := Lib.hid (HY.out.below hb)
  replace HV := Lib.hid (HV.out.below hb)
  replace HXS := Lib.hid (HXS.out.below hb)
  replace HXT := Lib.hid (HXT.out.below hb)
  replace HB1 := Lib.hid (HB1.out.below hb)
  replace HB2 := Lib.hid (HB2.out.below hb)
  replace HN1 := Lib.hid (HN1.out.below hb)
  replace HN2 := Lib.hid (HN2.out.below hb)
  replace HN3 := Lib.hid (HN3.out.below hb)
  replace HXU := Lib.hid (HXU.out.below hb)
  replace HXW := Lib.hid (HXW.out.below hb)
  replace HH := Lib.hid (HH.out.below hb)
  replace HMD := Lib.hid (HMD.out.below hb)
  replace HB := Lib.hid (Below.andThen HB.out hb)
  rw [show sameB R.2.1 R.2.1 = true by simp [sameB]]
  clear hb
  have hc0HT := HT.out.two.c0
  have hc1HT := HT.out.two.c1
  have hc0HT6 := HT6.out.two.c0
  have hc1HT6 := HT6.out.two.c1
  have hc0HB1 := HB1.out.c (j := 0) rfl
  have hc1HB1 := HB1.out.c (j := 1) rfl
  have hc0HB2 := HB2.out.c (j := 0) rfl
  have hc1HB2 := HB2.out.c (j := 1) rfl
  have hc0HN1 := HN1.out.c (j := 0) rfl
  have hc1HN1 := HN1.out.c (j := 1) rfl
  have hc0HN2 := HN2.out.c (j := 0) rfl
  have hc1HN2 := HN2.out.c (j := 1) rfl
  have hc0HN3 := HN3.out.c (j := 0) rfl
  have hc1HN3 := HN3.out.c (j := 1) rfl
  have hc0HH := HH.out.c (j := 0) rfl
  have hc1HH := HH.out.c (j := 1) rfl
  have hc2HH := HH.out.c (j := 2) rfl
  have hc3HH := HH.out.c (j := 3) rfl
  have hc4HH := HH.out.c (j := 4) rfl
  have hc0HMD := HMD.out.c (j := 0) rfl
  have hc1HMD := HMD.out.c (j := 1) rfl
  have hc2HMD := HMD.out.c (j := 2) rfl
  obtain ⟨hs, hhs⟩ : ∃ b, has p l = b := ⟨_, rfl⟩
  have HHA := Lib.hid (fun w' (hb : Below w14.heap.size w14 w') => has_calls _ p A n c l w' (HX.out.below hb) (HV.out.below hb).is)
  have HHB := Lib.hid (fun w' (hb : Below w14.heap.size w14 w') => refhas_calls _ p A n c l w' (HX.out.below hb) (HV.out.below hb).is)
  rw [hhs] at HHA HHB
  clear hhs
  go_wp2_with fail
  clear hc0HT hc1HT hc0HT6 hc1HT6 hc0HB1 hc1HB1 hc0HB2 hc1HB2 hc0HN1 hc1HN1 hc0HN2 hc1HN2 hc0HN3 hc1HN3 hc0HH hc1HH hc2HH hc3HH hc4HH hc0HMD hc1HMD hc2HMD
  refine wk.region_tailS 17 [.is (.bool true), .is (.bool true), .is (.bool true), .is (.bool true), .is (.bool true), .is (.bool true), .is (.bool true), .is (.bool true), .is (.agg #[.slice A1 n1 c1, .slice A2 n2 c2]), .is (.slice A n c), .is (.bool hs), .is (.agg #[.slice A1 n1 c1, .slice A2 n2 c2]), .is (.slice A n c), .is (.bool hs), .is (.bool true), .is (.bool true), .is (.bool true)] [some 167, some 168, some 169, some 170, some 171, some 172, some 173, some 174, some 175, some 176, some 177, some 178, some 179, some 180, some 181, some 182, some 12] (by kernel_rfl) (by kernel_rfl) (by kernel_rfl) (by kernel_rfl) [] (by kernel_rfl) (by intro p hp; cases hp) (by kernel_rfl) (by kernel_rfl) ?hstep ?hdone
  case hstep =>
    intro i o ho hi hns E w4 hb4 D
    have hi2 : i = 0 ∨ i = 1 ∨ i = 2 ∨ i = 3 ∨ i = 4 ∨ i = 5 ∨ i = 6 ∨ i = 7 ∨ i = 8 ∨ i = 9 ∨ i = 10 ∨ i = 11 ∨ i = 12 ∨ i = 13 ∨ i = 14 ∨ i = 15 ∨ i = 16 := by omega
    clear hi
    rcases hi2 with rfl | rfl | rfl | rfl | rfl | rfl | rfl | rfl | rfl | rfl | rfl | rfl | rfl | rfl | rfl | rfl | rfl
    ·
      have ho2 := (Array.getElem?_eq_some_iff.1 ho).2
      simp only [List.getElem_toArray, List.getElem_cons_zero] at ho2
      subst ho2
      clear ho
      refine wk.does_fn (f := 6) (vs := #[]) rfl (D.fn _) (by simp []) (by go_simp) ?_
      refine (sanity_calls w4).mono ?_
      rintro e w7 ⟨rfl, hb7⟩
      exact ⟨_, rfl, hb7, rfl⟩
    ·
      have ho2 := (Array.getElem?_eq_some_iff.1 ho).2
      simp only [List.getElem_toArray, List.getElem_cons_succ, List.getElem_cons_zero] at ho2
      subst ho2
      clear ho
      have e167 := D.is { on := 0, ground := .data } (by simp) rfl rfl 167 rfl
      exact wk.does_move rfl e167
    ·
      have ho2 := (Array.getElem?_eq_some_iff.1 ho).2
      simp only [List.getElem_toArray, List.getElem_cons_succ, List.getElem_cons_zero] at ho2
      subst ho2
      clear ho
      have e30 := D.old 30 (by kernel_rfl)
      exact wk.does_move rfl (by rw [e30]; rfl)
    ·
      have ho2 := (Array.getElem?_eq_some_iff.1 ho).2
      simp only [List.getElem_toArray, List.getElem_cons_succ, List.getElem_cons_zero] at ho2
      subst ho2
      clear ho
      have e168 := D.is { on := 1, ground := .data } (by simp) rfl rfl 168 rfl
      have e169 := D.is { on := 2, ground := .data } (by simp) rfl rfl 169 rfl
      exact wk.does_pick rfl e168 e169
    ·
      have ho2 := (Array.getElem?_eq_some_iff.1 ho).2
      simp only [List.getElem_toArray, List.getElem_cons_succ, List.getElem_cons_zero] at ho2
      subst ho2
      clear ho
      have e170 := D.is { on := 3, ground := .data } (by simp) rfl rfl 170 rfl
      exact wk.does_move rfl e170
    ·
      have ho2 := (Array.getElem?_eq_some_iff.1 ho).2
      simp only [List.getElem_toArray, List.getElem_cons_succ, List.getElem_cons_zero] at ho2
      subst ho2
      clear ho
      have e31 := D.old 31 (by kernel_rfl)
      exact wk.does_move rfl (by rw [e31]; rfl)
    ·
      have ho2 := (Array.getElem?_eq_some_iff.1 ho).2
      simp only [List.getElem_toArray, List.getElem_cons_succ, List.getElem_cons_zero] at ho2
      subst ho2
      clear ho
      have e171 := D.is { on := 4, ground := .data } (by simp) rfl rfl 171 rfl
      have e172 := D.is { on := 5, ground := .data } (by simp) rfl rfl 172 rfl
      exact wk.does_pick rfl e171 e172
    ·
      have ho2 := (Array.getElem?_eq_some_iff.1 ho).2
      simp only [List.getElem_toArray, List.getElem_cons_succ, List.getElem_cons_zero] at ho2
      subst ho2
      clear ho
      have e173 := D.is { on := 6, ground := .data } (by simp) rfl rfl 173 rfl
      exact wk.does_move rfl e173
    ·
      have ho2 := (Array.getElem?_eq_some_iff.1 ho).2
      simp only [List.getElem_toArray, List.getElem_cons_succ, List.getElem_cons_zero] at ho2
      subst ho2
      clear ho
      have e6 := D.old 6 (by kernel_rfl)
      exact wk.does_load_row rfl (by rw [e6]; rfl) (HT.out.below ((Below.refl _ _).drew.trans hb4)) Try.underlying24 rfl (by kernel_rfl) rfl
    ·
      have ho2 := (Array.getElem?_eq_some_iff.1 ho).2
      simp only [List.getElem_toArray, List.getElem_cons_succ, List.getElem_cons_zero] at ho2
      subst ho2
      clear ho
      have e2 := D.old 2 (by kernel_rfl)
      exact wk.does_move rfl (by rw [e2]; rfl)
    ·
      have ho2 := (Array.getElem?_eq_some_iff.1 ho).2
      simp only [List.getElem_toArray, List.getElem_cons_succ, List.getElem_cons_zero] at ho2
      subst ho2
      clear ho
      have e175 := D.is { on := 8, ground := .data } (by simp) rfl rfl 175 rfl
      have e176 := D.is { on := 9, ground := .data } (by simp) rfl rfl 176 rfl
      refine wk.does_fn (f := 18) (vs := #[.agg #[.slice A1 n1 c1, .slice A2 n2 c2], .slice A n c]) rfl (D.fn _) (by simp [e175, e176]) (by go_simp) ?_
      refine (HHA.out w4 ((Below.refl _ _).drew.trans hb4)).mono ?_
      rintro e w7 ⟨rfl, hb7⟩
      exact ⟨_, rfl, hb7, rfl⟩
    ·
      have ho2 := (Array.getElem?_eq_some_iff.1 ho).2
      simp only [List.getElem_toArray, List.getElem_cons_succ, List.getElem_cons_zero] at ho2
      subst ho2
      clear ho
      have e6 := D.old 6 (by kernel_rfl)
      exact wk.does_load_row rfl (by rw [e6]; rfl) (HT.out.below ((Below.refl _ _).drew.trans hb4)) Try.underlying24 rfl (by kernel_rfl) rfl
    ·
      have ho2 := (Array.getElem?_eq_some_iff.1 ho).2
      simp only [List.getElem_toArray, List.getElem_cons_succ, List.getElem_cons_zero] at ho2
      subst ho2
      clear ho
      have e2 := D.old 2 (by kernel_rfl)
      exact wk.does_move rfl (by rw [e2]; rfl)
    ·
      have ho2 := (Array.getElem?_eq_some_iff.1 ho).2
      simp only [List.getElem_toArray, List.getElem_cons_succ, List.getElem_cons_zero] at ho2
      subst ho2
      clear ho
      have e178 := D.is { on := 11, ground := .data } (by simp) rfl rfl 178 rfl
      have e179 := D.is { on := 12, ground := .data } (by simp) rfl rfl 179 rfl
      refine wk.does_fn (f := 19) (vs := #[.agg #[.slice A1 n1 c1, .slice A2 n2 c2], .slice A n c]) rfl (D.fn _) (by simp [e178, e179]) (by go_simp) ?_
      refine (HHB.out w4 ((Below.refl _ _).drew.trans hb4)).mono ?_
      rintro e w7 ⟨rfl, hb7⟩
      exact ⟨_, rfl, hb7, rfl⟩
    ·
      have ho2 := (Array.getElem?_eq_some_iff.1 ho).2
      simp only [List.getElem_toArray, List.getElem_cons_succ, List.getElem_cons_zero] at ho2
      subst ho2
      clear ho
      have e177 := D.is { on := 10, ground := .data } (by simp) rfl rfl 177 rfl
      have e180 := D.is { on := 13, ground := .data } (by simp) rfl rfl 180 rfl
      exact wk.does_run (by simp only [execOp]; rw [show E (.tmp 177) = _ from e177, show E (.tmp 180) = _ from e180]; go_simp) rfl
    ·
      have ho2 := (Array.getElem?_eq_some_iff.1 ho).2
      simp only [List.getElem_toArray, List.getElem_cons_succ, List.getElem_cons_zero] at ho2
      subst ho2
      clear ho
      have e174 := D.is { on := 7, ground := .data } (by simp) rfl rfl 174 rfl
      have e181 := D.is { on := 14, ground := .data } (by simp) rfl rfl 181 rfl
      exact wk.does_pick rfl e174 e181
    ·
      have ho2 := (Array.getElem?_eq_some_iff.1 ho).2
      simp only [List.getElem_toArray, List.getElem_cons_succ, List.getElem_cons_zero] at ho2
      subst ho2
      clear ho
      have e182 := D.is { on := 15, ground := .data } (by simp) rfl rfl 182 rfl
      exact wk.does_assign rfl e182
  case hdone =>
    intro vals w4 hb4 hv
    have h16 := hv 16 (by omega)
    clear hv
    replace h16 : vals 16 = (.bool true) := h16
    simp only [List.drop_succ_cons, List.drop_zero, wpList, wk.setL, List.setIfInBounds_toArray, List.set_cons_zero, List.set_cons_succ, Nat.zero_add, Nat.reduceAdd, h16]
    generalize vals 0 = x0
    generalize vals 1 = x1
    generalize vals 2 = x2
    generalize vals 3 = x3
    generalize vals 4 = x4
    generalize vals 5 = x5
    generalize vals 6 = x6
    generalize vals 7 = x7
    generalize vals 8 = x8
    generalize vals 9 = x9
    generalize vals 10 = x10
    generalize vals 11 = x11
    generalize vals 12 = x12
    generalize vals 13 = x13
    generalize vals 14 = x14
    generalize vals 15 = x15
    have hb5 : Below w14.heap.size w14 w4 := (Below.refl _ _).drew.trans hb4
    have HBZ := Lib.hid (Below.andThen HB.out hb5)
    clear hb4 hb5
    go_wp2_with fail
    go_ret
    exact ⟨rfl, HBZ.out⟩
end Go.Proofs.Ytegoinkkcfbfaaa.boxMeasuresAsSpecified
