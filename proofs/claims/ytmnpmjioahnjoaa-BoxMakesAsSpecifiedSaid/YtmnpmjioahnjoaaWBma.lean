/- BoxMakesAsSpecified: its walk. -/
import Derived.Test.YtmnpmjioahnjoaaG16

import Derived.Test.YtmnpmjioahnjoaaG15

import Derived.Test.YtmnpmjioahnjoaaG13

import Derived.Test.YtmnpmjioahnjoaaG9

import Derived.Test.YtmnpmjioahnjoaaG12

namespace Go.Proofs.Ytmnpmjioahnjoaa.vk

open Go.ChangeShapes Go.WideShapes Go.ChangeAt Go.RowKit
theorem IsVV.below {w w' : World} {A : Option Addr} {n c : Nat} {L : List (List Int)} (h : IsVV w A n c L) (hb : Below w.heap.size w w') : IsVV w' A n c L := isVV_below h hb
end Go.Proofs.Ytmnpmjioahnjoaa.vk

namespace Go.Proofs.Ytmnpmjioahnjoaa.boxMakesAsSpecified

open Go.ChangeShapes Go.WideShapes Go.ChangeAt Go.RowKit

open Go.Proofs.Ytmnpmjioahnjoaa.bq Go.Proofs.Ytmnpmjioahnjoaa.vk Go.Proofs.Ytmnpmjioahnjoaa.wk Go.Proofs.Ytmnpmjioahnjoaa.bk

set_option linter.unusedVariables false
theorem ofF_parts (L : List (List Int)) : (ofF L).1 = (ofL L).getD ([], []) ∧ (ofF L).2.2 = if (ofL L).isSome then 0 else 1 := by
  unfold ofF
  cases ofL L <;> exact ⟨rfl, rfl⟩
theorem joinF_parts (p q : Pair) : (joinF p q).1 = (if balike p q then join p q else ([], [])) ∧ (joinF p q).2.2 = if balike p q then 0 else 1 := by
  unfold joinF
  cases balike p q <;> exact ⟨rfl, rfl⟩
set_option maxRecDepth 100000 in
set_option maxHeartbeats 16000000 in
theorem walk (w : World) {L : List (List Int)} {v u : Value} {p q : Pair} {A : Option Addr} {n c : Nat} (w0 : IsVV w A n c L) (w1 : IsX w v p) (w2 : IsX w u q) :
    Calls Try.prog 3 #[.slice A n c, v, u] w fun e w' => e = .returned (.bool true) ∧ Below w.heap.size w w' := by
  obtain ⟨A1, n1, c1, A2, n2, c2, rfl, hx1, hx2⟩ := w1
  obtain ⟨B1, m1, d1, B2, m2, d2, rfl, hy1, hy2⟩ := w2
  have HB := Lib.hid (Below.andThen (below_new w (.cells #[.slice A1 n1 c1, .slice A2 n2 c2] 25)) (below_new _ (.cells #[.slice B1 m1 d1, .slice B2 m2 d2] 25)))
  have HX : Hid (IsX ((w.alloc (.cells #[.slice A1 n1 c1, .slice A2 n2 c2] 25)).alloc (.cells #[.slice B1 m1 d1, .slice B2 m2 d2] 25)) (.agg #[.slice A1 n1 c1, .slice A2 n2 c2]) p) := IsX.below ⟨_, _, _, _, _, _, rfl, hx1, hx2⟩ HB.out
  have HY : Hid (IsX ((w.alloc (.cells #[.slice A1 n1 c1, .slice A2 n2 c2] 25)).alloc (.cells #[.slice B1 m1 d1, .slice B2 m2 d2] 25)) (.agg #[.slice B1 m1 d1, .slice B2 m2 d2]) q) := IsX.below ⟨_, _, _, _, _, _, rfl, hy1, hy2⟩ HB.out
  have HT := Lib.hid ((TwoX.new w (.slice A1 n1 c1) (.slice A2 n2 c2)).below (below_new _ (.cells #[.slice B1 m1 d1, .slice B2 m2 d2] 25)))
  have HT6 := Lib.hid (TwoX.new (w.alloc (.cells #[.slice A1 n1 c1, .slice A2 n2 c2] 25)) (.slice B1 m1 d1) (.slice B2 m2 d2))
  rw [size_new] at HT6
  have HL := Lib.hid (w0.below HB.out)
  have hnc := w0.2.1
  have hmc := w0.2.2.1
  obtain ⟨r1, hr1⟩ : ∃ r, ofF L = r := ⟨_, rfl⟩
  obtain ⟨r2, hr2⟩ : ∃ r, joinF p q = r := ⟨_, rfl⟩
  obtain ⟨r3, hr3⟩ : ∃ r, meetR p q = r := ⟨_, rfl⟩
  have H1 := Lib.hid hr1
  have H2 := Lib.hid hr2
  have H3 := Lib.hid hr3
  have P1 := Lib.hid (ofF_parts L)
  have P2 := Lib.hid (joinF_parts p q)
  rw [hr1] at P1
  rw [hr2] at P2
  clear hx1 hx2 hy1 hy2 w0 hr1 hr2 hr3
  have hc0HT := HT.out.two.c0
  have hc1HT := HT.out.two.c1
  have hc0HT6 := HT6.out.two.c0
  have hc1HT6 := HT6.out.two.c1
  go_enter Try.func3, Try.ntmps3
  go_wp2_with fail
  clear hc0HT hc1HT hc0HT6 hc1HT6
  refine (short_calls A n c L _ HL.out).mono ?_
  rintro e w' ⟨rfl, rfl⟩
  have hc0HT := HT.out.two.c0
  have hc1HT := HT.out.two.c1
  have hc0HT6 := HT6.out.two.c0
  have hc1HT6 := HT6.out.two.c1
  cases hsh : shortB L
  ·
    go_wp2_with fail
    clear hc0HT hc1HT hc0HT6 hc1HT6
    refine (sanity_calls _).mono ?_
    rintro e w' ⟨rfl, hb⟩
    have HBZ := Lib.hid (Below.andThen HB.out hb)
    clear hb
    go_wp2_with fail
    go_ret
    exact ⟨rfl, HBZ.out⟩
  go_wp2_with fail
  clear hc0HT hc1HT hc0HT6 hc1HT6
  refine (few_calls _ p _ HX.out).mono ?_
  rintro e w2 ⟨rfl, hb⟩
  replace HT := Lib.hid (HT.out.below hb)
  replace HT6 := Lib.hid (HT6.out.below hb)
  replace HX := Lib.hid (HX.out.below hb)
  replace HY := Lib.hid (HY.out.below hb)
  replace HL := Lib.hid (HL.out.below hb)
  replace HB := Lib.hid (Below.andThen HB.out hb)
  clear hb
  have hc0HT := HT.out.two.c0
  have hc1HT := HT.out.two.c1
  have hc0HT6 := HT6.out.two.c0
  have hc1HT6 := HT6.out.two.c1
  cases hfew : (decide (p.1.length ≤ 40) && decide (p.2.length ≤ 40))
  ·
    go_wp2_with fail
    clear hc0HT hc1HT hc0HT6 hc1HT6
    refine (sanity_calls _).mono ?_
    rintro e w' ⟨rfl, hb⟩
    have HBZ := Lib.hid (Below.andThen HB.out hb)
    clear hb
    go_wp2_with fail
    go_ret
    exact ⟨rfl, HBZ.out⟩
  go_wp2_with fail
  clear hc0HT hc1HT hc0HT6 hc1HT6
  refine (few_calls _ q _ HY.out).mono ?_
  rintro e w3 ⟨rfl, hb⟩
  replace HT := Lib.hid (HT.out.below hb)
  replace HT6 := Lib.hid (HT6.out.below hb)
  replace HX := Lib.hid (HX.out.below hb)
  replace HY := Lib.hid (HY.out.below hb)
  replace HL := Lib.hid (HL.out.below hb)
  replace HB := Lib.hid (Below.andThen HB.out hb)
  clear hb
  have hc0HT := HT.out.two.c0
  have hc1HT := HT.out.two.c1
  have hc0HT6 := HT6.out.two.c0
  have hc1HT6 := HT6.out.two.c1
  cases hfew2 : (decide (q.1.length ≤ 40) && decide (q.2.length ≤ 40))
  ·
    go_wp2_with fail
    clear hc0HT hc1HT hc0HT6 hc1HT6
    refine (sanity_calls _).mono ?_
    rintro e w' ⟨rfl, hb⟩
    have HBZ := Lib.hid (Below.andThen HB.out hb)
    clear hb
    go_wp2_with fail
    go_ret
    exact ⟨rfl, HBZ.out⟩
  clear hsh hfew hfew2
  go_wp2_with fail
  clear hc0HT hc1HT hc0HT6 hc1HT6
  refine (of_calls A n c L _ HL.out).mono ?_
  rintro e w4 ⟨x, rfl, hx, hb⟩
  replace HT := Lib.hid (HT.out.below hb)
  replace HT6 := Lib.hid (HT6.out.below hb)
  replace HX := Lib.hid (HX.out.below hb)
  replace HY := Lib.hid (HY.out.below hb)
  replace HL := Lib.hid (HL.out.below hb)
  replace HB := Lib.hid (Below.andThen HB.out hb)
  rw [← P1.out.1] at hx
  rw [← P1.out.2]
  obtain ⟨sa1, sa2, sa3, sa4, sa5, sa6, rfl, h1, h2⟩ := hx
  have HXs : Hid (IsX _ (.agg #[.slice sa1 sa2 sa3, .slice sa4 sa5 sa6]) r1.1) := ⟨_, _, _, _, _, _, rfl, h1, h2⟩
  clear h1 h2
  clear hb
  have hc0HT := HT.out.two.c0
  have hc1HT := HT.out.two.c1
  have hc0HT6 := HT6.out.two.c0
  have hc1HT6 := HT6.out.two.c1
  have HTs := Lib.hid (TwoX.new w4 (.slice sa1 sa2 sa3) (.slice sa4 sa5 sa6))
  replace HXs := Lib.hid (HXs.out.below (below_new _ (.cells #[.slice sa1 sa2 sa3, .slice sa4 sa5 sa6] 25)))
  replace HT := Lib.hid (HT.out.below (below_new _ (.cells #[.slice sa1 sa2 sa3, .slice sa4 sa5 sa6] 25)))
  replace HT6 := Lib.hid (HT6.out.below (below_new _ (.cells #[.slice sa1 sa2 sa3, .slice sa4 sa5 sa6] 25)))
  replace HX := Lib.hid (HX.out.below (below_new _ (.cells #[.slice sa1 sa2 sa3, .slice sa4 sa5 sa6] 25)))
  replace HY := Lib.hid (HY.out.below (below_new _ (.cells #[.slice sa1 sa2 sa3, .slice sa4 sa5 sa6] 25)))
  replace HL := Lib.hid (HL.out.below (below_new _ (.cells #[.slice sa1 sa2 sa3, .slice sa4 sa5 sa6] 25)))
  replace HB := Lib.hid (Below.andThen HB.out (below_new _ (.cells #[.slice sa1 sa2 sa3, .slice sa4 sa5 sa6] 25)))
  obtain ⟨gs, hgs⟩ : ∃ gs, w4.heap.size = gs := ⟨_, rfl⟩
  rw [hgs] at HTs
  simp only [hgs]
  clear hc0HT hc1HT hc0HT6 hc1HT6
  have hc0HT := HT.out.two.c0
  have hc1HT := HT.out.two.c1
  have hc0HT6 := HT6.out.two.c0
  have hc1HT6 := HT6.out.two.c1
  have hc0HTs := HTs.out.two.c0
  have hc1HTs := HTs.out.two.c1
  go_wp2_with fail
  clear hc0HT hc1HT hc0HT6 hc1HT6 hc0HTs hc1HTs
  refine (join_calls _ _ p q _ HX.out HY.out).mono ?_
  rintro e w5 ⟨x, rfl, hx, hb⟩
  replace HT := Lib.hid (HT.out.below hb)
  replace HT6 := Lib.hid (HT6.out.below hb)
  replace HX := Lib.hid (HX.out.below hb)
  replace HY := Lib.hid (HY.out.below hb)
  replace HL := Lib.hid (HL.out.below hb)
  replace HTs := Lib.hid (HTs.out.below hb)
  replace HXs := Lib.hid (HXs.out.below hb)
  replace HB := Lib.hid (Below.andThen HB.out hb)
  rw [← P2.out.1] at hx
  rw [← P2.out.2]
  obtain ⟨ja1, ja2, ja3, ja4, ja5, ja6, rfl, h1, h2⟩ := hx
  have HXj : Hid (IsX _ (.agg #[.slice ja1 ja2 ja3, .slice ja4 ja5 ja6]) r2.1) := ⟨_, _, _, _, _, _, rfl, h1, h2⟩
  clear h1 h2
  clear hb
  have hc0HT := HT.out.two.c0
  have hc1HT := HT.out.two.c1
  have hc0HT6 := HT6.out.two.c0
  have hc1HT6 := HT6.out.two.c1
  have hc0HTs := HTs.out.two.c0
  have hc1HTs := HTs.out.two.c1
  have HTj := Lib.hid (TwoX.new w5 (.slice ja1 ja2 ja3) (.slice ja4 ja5 ja6))
  replace HXj := Lib.hid (HXj.out.below (below_new _ (.cells #[.slice ja1 ja2 ja3, .slice ja4 ja5 ja6] 25)))
  replace HT := Lib.hid (HT.out.below (below_new _ (.cells #[.slice ja1 ja2 ja3, .slice ja4 ja5 ja6] 25)))
  replace HT6 := Lib.hid (HT6.out.below (below_new _ (.cells #[.slice ja1 ja2 ja3, .slice ja4 ja5 ja6] 25)))
  replace HX := Lib.hid (HX.out.below (below_new _ (.cells #[.slice ja1 ja2 ja3, .slice ja4 ja5 ja6] 25)))
  replace HY := Lib.hid (HY.out.below (below_new _ (.cells #[.slice ja1 ja2 ja3, .slice ja4 ja5 ja6] 25)))
  replace HL := Lib.hid (HL.out.below (below_new _ (.cells #[.slice ja1 ja2 ja3, .slice ja4 ja5 ja6] 25)))
  replace HTs := Lib.hid (HTs.out.below (below_new _ (.cells #[.slice ja1 ja2 ja3, .slice ja4 ja5 ja6] 25)))
  replace HXs := Lib.hid (HXs.out.below (below_new _ (.cells #[.slice ja1 ja2 ja3, .slice ja4 ja5 ja6] 25)))
  replace HB := Lib.hid (Below.andThen HB.out (below_new _ (.cells #[.slice ja1 ja2 ja3, .slice ja4 ja5 ja6] 25)))
  obtain ⟨gj, hgj⟩ : ∃ gj, w5.heap.size = gj := ⟨_, rfl⟩
  rw [hgj] at HTj
  simp only [hgj]
  clear hc0HT hc1HT hc0HT6 hc1HT6 hc0HTs hc1HTs
  have hc0HT := HT.out.two.c0
  have hc1HT := HT.out.two.c1
  have hc0HT6 := HT6.out.two.c0
  have hc1HT6 := HT6.out.two.c1
  have hc0HTs := HTs.out.two.c0
  have hc1HTs := HTs.out.two.c1
  have hc0HTj := HTj.out.two.c0
  have hc1HTj := HTj.out.two.c1
  go_wp2_with fail
  clear hc0HT hc1HT hc0HT6 hc1HT6 hc0HTs hc1HTs hc0HTj hc1HTj
  refine (meet_calls _ _ p q _ HX.out HY.out).mono ?_
  rintro e w6 ⟨x, rfl, hx, hb⟩
  replace HT := Lib.hid (HT.out.below hb)
  replace HT6 := Lib.hid (HT6.out.below hb)
  replace HX := Lib.hid (HX.out.below hb)
  replace HY := Lib.hid (HY.out.below hb)
  replace HL := Lib.hid (HL.out.below hb)
  replace HTs := Lib.hid (HTs.out.below hb)
  replace HXs := Lib.hid (HXs.out.below hb)
  replace HTj := Lib.hid (HTj.out.below hb)
  replace HXj := Lib.hid (HXj.out.below hb)
  replace HB := Lib.hid (Below.andThen HB.out hb)
  rw [H3.out] at hx
  rw [H3.out]
  obtain ⟨ma1, ma2, ma3, ma4, ma5, ma6, rfl, h1, h2⟩ := hx
  have HXm : Hid (IsX _ (.agg #[.slice ma1 ma2 ma3, .slice ma4 ma5 ma6]) r3.1) := ⟨_, _, _, _, _, _, rfl, h1, h2⟩
  clear h1 h2
  clear hb
  have hc0HT := HT.out.two.c0
  have hc1HT := HT.out.two.c1
  have hc0HT6 := HT6.out.two.c0
  have hc1HT6 := HT6.out.two.c1
  have hc0HTs := HTs.out.two.c0
  have hc1HTs := HTs.out.two.c1
  have hc0HTj := HTj.out.two.c0
  have hc1HTj := HTj.out.two.c1
  have HTm := Lib.hid (TwoX.new w6 (.slice ma1 ma2 ma3) (.slice ma4 ma5 ma6))
  replace HXm := Lib.hid (HXm.out.below (below_new _ (.cells #[.slice ma1 ma2 ma3, .slice ma4 ma5 ma6] 25)))
  replace HT := Lib.hid (HT.out.below (below_new _ (.cells #[.slice ma1 ma2 ma3, .slice ma4 ma5 ma6] 25)))
  replace HT6 := Lib.hid (HT6.out.below (below_new _ (.cells #[.slice ma1 ma2 ma3, .slice ma4 ma5 ma6] 25)))
  replace HX := Lib.hid (HX.out.below (below_new _ (.cells #[.slice ma1 ma2 ma3, .slice ma4 ma5 ma6] 25)))
  replace HY := Lib.hid (HY.out.below (below_new _ (.cells #[.slice ma1 ma2 ma3, .slice ma4 ma5 ma6] 25)))
  replace HL := Lib.hid (HL.out.below (below_new _ (.cells #[.slice ma1 ma2 ma3, .slice ma4 ma5 ma6] 25)))
  replace HTs := Lib.hid (HTs.out.below (below_new _ (.cells #[.slice ma1 ma2 ma3, .slice ma4 ma5 ma6] 25)))
  replace HXs := Lib.hid (HXs.out.below (below_new _ (.cells #[.slice ma1 ma2 ma3, .slice ma4 ma5 ma6] 25)))
  replace HTj := Lib.hid (HTj.out.below (below_new _ (.cells #[.slice ma1 ma2 ma3, .slice ma4 ma5 ma6] 25)))
  replace HXj := Lib.hid (HXj.out.below (below_new _ (.cells #[.slice ma1 ma2 ma3, .slice ma4 ma5 ma6] 25)))
  replace HB := Lib.hid (Below.andThen HB.out (below_new _ (.cells #[.slice ma1 ma2 ma3, .slice ma4 ma5 ma6] 25)))
  obtain ⟨gm, hgm⟩ : ∃ gm, w6.heap.size = gm := ⟨_, rfl⟩
  rw [hgm] at HTm
  simp only [hgm]
  clear hc0HT hc1HT hc0HT6 hc1HT6 hc0HTs hc1HTs hc0HTj hc1HTj
  have hc0HT := HT.out.two.c0
  have hc1HT := HT.out.two.c1
  have hc0HT6 := HT6.out.two.c0
  have hc1HT6 := HT6.out.two.c1
  have hc0HTs := HTs.out.two.c0
  have hc1HTs := HTs.out.two.c1
  have hc0HTj := HTj.out.two.c0
  have hc1HTj := HTj.out.two.c1
  have hc0HTm := HTm.out.two.c0
  have hc1HTm := HTm.out.two.c1
  go_wp2_with fail
  clear hc0HT hc1HT hc0HT6 hc1HT6 hc0HTs hc1HTs hc0HTj hc1HTj hc0HTm hc1HTm
  refine (refof_calls A n c L _ HL.out).mono ?_
  rintro e w7 ⟨x, rfl, hx, hb⟩
  replace HT := Lib.hid (HT.out.below hb)
  replace HT6 := Lib.hid (HT6.out.below hb)
  replace HX := Lib.hid (HX.out.below hb)
  replace HY := Lib.hid (HY.out.below hb)
  replace HL := Lib.hid (HL.out.below hb)
  replace HTs := Lib.hid (HTs.out.below hb)
  replace HXs := Lib.hid (HXs.out.below hb)
  replace HTj := Lib.hid (HTj.out.below hb)
  replace HXj := Lib.hid (HXj.out.below hb)
  replace HTm := Lib.hid (HTm.out.below hb)
  replace HXm := Lib.hid (HXm.out.below hb)
  replace HB := Lib.hid (Below.andThen HB.out hb)
  rw [H1.out] at hx
  obtain ⟨ta1, ta2, ta3, ta4, ta5, ta6, rfl, h1, h2, _, _⟩ := hx
  have HXt : Hid (IsX _ (.agg #[.slice ta1 ta2 ta3, .slice ta4 ta5 ta6]) r1.1) := ⟨_, _, _, _, _, _, rfl, h1, h2⟩
  clear h1 h2
  clear hb
  have hc0HT := HT.out.two.c0
  have hc1HT := HT.out.two.c1
  have hc0HT6 := HT6.out.two.c0
  have hc1HT6 := HT6.out.two.c1
  have hc0HTs := HTs.out.two.c0
  have hc1HTs := HTs.out.two.c1
  have hc0HTj := HTj.out.two.c0
  have hc1HTj := HTj.out.two.c1
  have hc0HTm := HTm.out.two.c0
  have hc1HTm := HTm.out.two.c1
  have HTt := Lib.hid (FourX.new w7 (.slice ta1 ta2 ta3) (.slice ta4 ta5 ta6) (.bool r1.2.1) (.int .i64 r1.2.2))
  replace HXt := Lib.hid (HXt.out.below (below_new _ (.cells #[.slice ta1 ta2 ta3, .slice ta4 ta5 ta6, .bool r1.2.1, .int .i64 r1.2.2] 36)))
  replace HT := Lib.hid (HT.out.below (below_new _ (.cells #[.slice ta1 ta2 ta3, .slice ta4 ta5 ta6, .bool r1.2.1, .int .i64 r1.2.2] 36)))
  replace HT6 := Lib.hid (HT6.out.below (below_new _ (.cells #[.slice ta1 ta2 ta3, .slice ta4 ta5 ta6, .bool r1.2.1, .int .i64 r1.2.2] 36)))
  replace HX := Lib.hid (HX.out.below (below_new _ (.cells #[.slice ta1 ta2 ta3, .slice ta4 ta5 ta6, .bool r1.2.1, .int .i64 r1.2.2] 36)))
  replace HY := Lib.hid (HY.out.below (below_new _ (.cells #[.slice ta1 ta2 ta3, .slice ta4 ta5 ta6, .bool r1.2.1, .int .i64 r1.2.2] 36)))
  replace HL := Lib.hid (HL.out.below (below_new _ (.cells #[.slice ta1 ta2 ta3, .slice ta4 ta5 ta6, .bool r1.2.1, .int .i64 r1.2.2] 36)))
  replace HTs := Lib.hid (HTs.out.below (below_new _ (.cells #[.slice ta1 ta2 ta3, .slice ta4 ta5 ta6, .bool r1.2.1, .int .i64 r1.2.2] 36)))
  replace HXs := Lib.hid (HXs.out.below (below_new _ (.cells #[.slice ta1 ta2 ta3, .slice ta4 ta5 ta6, .bool r1.2.1, .int .i64 r1.2.2] 36)))
  replace HTj := Lib.hid (HTj.out.below (below_new _ (.cells #[.slice ta1 ta2 ta3, .slice ta4 ta5 ta6, .bool r1.2.1, .int .i64 r1.2.2] 36)))
  replace HXj := Lib.hid (HXj.out.below (below_new _ (.cells #[.slice ta1 ta2 ta3, .slice ta4 ta5 ta6, .bool r1.2.1, .int .i64 r1.2.2] 36)))
  replace HTm := Lib.hid (HTm.out.below (below_new _ (.cells #[.slice ta1 ta2 ta3, .slice ta4 ta5 ta6, .bool r1.2.1, .int .i64 r1.2.2] 36)))
  replace HXm := Lib.hid (HXm.out.below (below_new _ (.cells #[.slice ta1 ta2 ta3, .slice ta4 ta5 ta6, .bool r1.2.1, .int .i64 r1.2.2] 36)))
  replace HB := Lib.hid (Below.andThen HB.out (below_new _ (.cells #[.slice ta1 ta2 ta3, .slice ta4 ta5 ta6, .bool r1.2.1, .int .i64 r1.2.2] 36)))
  obtain ⟨gt, hgt⟩ : ∃ gt, w7.heap.size = gt := ⟨_, rfl⟩
  rw [hgt] at HTt
  simp only [hgt]
  clear hc0HT hc1HT hc0HT6 hc1HT6 hc0HTs hc1HTs hc0HTj hc1HTj hc0HTm hc1HTm
  have hc0HT := HT.out.two.c0
  have hc1HT := HT.out.two.c1
  have hc0HT6 := HT6.out.two.c0
  have hc1HT6 := HT6.out.two.c1
  have hc0HTs := HTs.out.two.c0
  have hc1HTs := HTs.out.two.c1
  have hc0HTj := HTj.out.two.c0
  have hc1HTj := HTj.out.two.c1
  have hc0HTm := HTm.out.two.c0
  have hc1HTm := HTm.out.two.c1
  have hk0HTt := HTt.out.c0
  have hk1HTt := HTt.out.c1
  have hk2HTt := HTt.out.c2
  have hk3HTt := HTt.out.c3
  go_wp2_with fail
  clear hc0HT hc1HT hc0HT6 hc1HT6 hc0HTs hc1HTs hc0HTj hc1HTj hc0HTm hc1HTm hk0HTt hk1HTt hk2HTt hk3HTt
  refine (refjoin_calls _ _ p q _ HX.out HY.out).mono ?_
  rintro e w8 ⟨x, rfl, hx, hb⟩
  replace HT := Lib.hid (HT.out.below hb)
  replace HT6 := Lib.hid (HT6.out.below hb)
  replace HX := Lib.hid (HX.out.below hb)
  replace HY := Lib.hid (HY.out.below hb)
  replace HL := Lib.hid (HL.out.below hb)
  replace HTs := Lib.hid (HTs.out.below hb)
  replace HXs := Lib.hid (HXs.out.below hb)
  replace HTj := Lib.hid (HTj.out.below hb)
  replace HXj := Lib.hid (HXj.out.below hb)
  replace HTm := Lib.hid (HTm.out.below hb)
  replace HXm := Lib.hid (HXm.out.below hb)
  replace HTt := Lib.hid (HTt.out.below hb)
  replace HXt := Lib.hid (HXt.out.below hb)
  replace HB := Lib.hid (Below.andThen HB.out hb)
  rw [H2.out] at hx
  obtain ⟨ka1, ka2, ka3, ka4, ka5, ka6, rfl, h1, h2, _, _⟩ := hx
  have HXk : Hid (IsX _ (.agg #[.slice ka1 ka2 ka3, .slice ka4 ka5 ka6]) r2.1) := ⟨_, _, _, _, _, _, rfl, h1, h2⟩
  clear h1 h2
  clear hb
  have hc0HT := HT.out.two.c0
  have hc1HT := HT.out.two.c1
  have hc0HT6 := HT6.out.two.c0
  have hc1HT6 := HT6.out.two.c1
  have hc0HTs := HTs.out.two.c0
  have hc1HTs := HTs.out.two.c1
  have hc0HTj := HTj.out.two.c0
  have hc1HTj := HTj.out.two.c1
  have hc0HTm := HTm.out.two.c0
  have hc1HTm := HTm.out.two.c1
  have hk0HTt := HTt.out.c0
  have hk1HTt := HTt.out.c1
  have hk2HTt := HTt.out.c2
  have hk3HTt := HTt.out.c3
  have HTk := Lib.hid (FourX.new w8 (.slice ka1 ka2 ka3) (.slice ka4 ka5 ka6) (.bool r2.2.1) (.int .i64 r2.2.2))
  replace HXk := Lib.hid (HXk.out.below (below_new _ (.cells #[.slice ka1 ka2 ka3, .slice ka4 ka5 ka6, .bool r2.2.1, .int .i64 r2.2.2] 36)))
  replace HT := Lib.hid (HT.out.below (below_new _ (.cells #[.slice ka1 ka2 ka3, .slice ka4 ka5 ka6, .bool r2.2.1, .int .i64 r2.2.2] 36)))
  replace HT6 := Lib.hid (HT6.out.below (below_new _ (.cells #[.slice ka1 ka2 ka3, .slice ka4 ka5 ka6, .bool r2.2.1, .int .i64 r2.2.2] 36)))
  replace HX := Lib.hid (HX.out.below (below_new _ (.cells #[.slice ka1 ka2 ka3, .slice ka4 ka5 ka6, .bool r2.2.1, .int .i64 r2.2.2] 36)))
  replace HY := Lib.hid (HY.out.below (below_new _ (.cells #[.slice ka1 ka2 ka3, .slice ka4 ka5 ka6, .bool r2.2.1, .int .i64 r2.2.2] 36)))
  replace HL := Lib.hid (HL.out.below (below_new _ (.cells #[.slice ka1 ka2 ka3, .slice ka4 ka5 ka6, .bool r2.2.1, .int .i64 r2.2.2] 36)))
  replace HTs := Lib.hid (HTs.out.below (below_new _ (.cells #[.slice ka1 ka2 ka3, .slice ka4 ka5 ka6, .bool r2.2.1, .int .i64 r2.2.2] 36)))
  replace HXs := Lib.hid (HXs.out.below (below_new _ (.cells #[.slice ka1 ka2 ka3, .slice ka4 ka5 ka6, .bool r2.2.1, .int .i64 r2.2.2] 36)))
  replace HTj := Lib.hid (HTj.out.below (below_new _ (.cells #[.slice ka1 ka2 ka3, .slice ka4 ka5 ka6, .bool r2.2.1, .int .i64 r2.2.2] 36)))
  replace HXj := Lib.hid (HXj.out.below (below_new _ (.cells #[.slice ka1 ka2 ka3, .slice ka4 ka5 ka6, .bool r2.2.1, .int .i64 r2.2.2] 36)))
  replace HTm := Lib.hid (HTm.out.below (below_new _ (.cells #[.slice ka1 ka2 ka3, .slice ka4 ka5 ka6, .bool r2.2.1, .int .i64 r2.2.2] 36)))
  replace HXm := Lib.hid (HXm.out.below (below_new _ (.cells #[.slice ka1 ka2 ka3, .slice ka4 ka5 ka6, .bool r2.2.1, .int .i64 r2.2.2] 36)))
  replace HTt := Lib.hid (HTt.out.below (below_new _ (.cells #[.slice ka1 ka2 ka3, .slice ka4 ka5 ka6, .bool r2.2.1, .int .i64 r2.2.2] 36)))
  replace HXt := Lib.hid (HXt.out.below (below_new _ (.cells #[.slice ka1 ka2 ka3, .slice ka4 ka5 ka6, .bool r2.2.1, .int .i64 r2.2.2] 36)))
  replace HB := Lib.hid (Below.andThen HB.out (below_new _ (.cells #[.slice ka1 ka2 ka3, .slice ka4 ka5 ka6, .bool r2.2.1, .int .i64 r2.2.2] 36)))
  obtain ⟨gk, hgk⟩ : ∃ gk, w8.heap.size = gk := ⟨_, rfl⟩
  rw [hgk] at HTk
  simp only [hgk]
  clear hc0HT hc1HT hc0HT6 hc1HT6 hc0HTs hc1HTs hc0HTj hc1HTj hc0HTm hc1HTm hk0HTt hk1HTt hk2HTt hk3HTt
  have hc0HT := HT.out.two.c0
  have hc1HT := HT.out.two.c1
  have hc0HT6 := HT6.out.two.c0
  have hc1HT6 := HT6.out.two.c1
  have hc0HTs := HTs.out.two.c0
  have hc1HTs := HTs.out.two.c1
  have hc0HTj := HTj.out.two.c0
  have hc1HTj := HTj.out.two.c1
  have hc0HTm := HTm.out.two.c0
  have hc1HTm := HTm.out.two.c1
  have hk0HTt := HTt.out.c0
  have hk1HTt := HTt.out.c1
  have hk2HTt := HTt.out.c2
  have hk3HTt := HTt.out.c3
  have hk0HTk := HTk.out.c0
  have hk1HTk := HTk.out.c1
  have hk2HTk := HTk.out.c2
  have hk3HTk := HTk.out.c3
  go_wp2_with fail
  clear hc0HT hc1HT hc0HT6 hc1HT6 hc0HTs hc1HTs hc0HTj hc1HTj hc0HTm hc1HTm hk0HTt hk1HTt hk2HTt hk3HTt hk0HTk hk1HTk hk2HTk hk3HTk
  refine (refmeet_calls _ _ p q _ HX.out HY.out).mono ?_
  rintro e w9 ⟨x, rfl, hx, hb⟩
  replace HT := Lib.hid (HT.out.below hb)
  replace HT6 := Lib.hid (HT6.out.below hb)
  replace HX := Lib.hid (HX.out.below hb)
  replace HY := Lib.hid (HY.out.below hb)
  replace HL := Lib.hid (HL.out.below hb)
  replace HTs := Lib.hid (HTs.out.below hb)
  replace HXs := Lib.hid (HXs.out.below hb)
  replace HTj := Lib.hid (HTj.out.below hb)
  replace HXj := Lib.hid (HXj.out.below hb)
  replace HTm := Lib.hid (HTm.out.below hb)
  replace HXm := Lib.hid (HXm.out.below hb)
  replace HTt := Lib.hid (HTt.out.below hb)
  replace HXt := Lib.hid (HXt.out.below hb)
  replace HTk := Lib.hid (HTk.out.below hb)
  replace HXk := Lib.hid (HXk.out.below hb)
  replace HB := Lib.hid (Below.andThen HB.out hb)
  rw [H3.out] at hx
  obtain ⟨na1, na2, na3, na4, na5, na6, rfl, h1, h2, _, _⟩ := hx
  have HXn : Hid (IsX _ (.agg #[.slice na1 na2 na3, .slice na4 na5 na6]) r3.1) := ⟨_, _, _, _, _, _, rfl, h1, h2⟩
  clear h1 h2
  clear hb
  have hc0HT := HT.out.two.c0
  have hc1HT := HT.out.two.c1
  have hc0HT6 := HT6.out.two.c0
  have hc1HT6 := HT6.out.two.c1
  have hc0HTs := HTs.out.two.c0
  have hc1HTs := HTs.out.two.c1
  have hc0HTj := HTj.out.two.c0
  have hc1HTj := HTj.out.two.c1
  have hc0HTm := HTm.out.two.c0
  have hc1HTm := HTm.out.two.c1
  have hk0HTt := HTt.out.c0
  have hk1HTt := HTt.out.c1
  have hk2HTt := HTt.out.c2
  have hk3HTt := HTt.out.c3
  have hk0HTk := HTk.out.c0
  have hk1HTk := HTk.out.c1
  have hk2HTk := HTk.out.c2
  have hk3HTk := HTk.out.c3
  have HTn := Lib.hid (FourX.new w9 (.slice na1 na2 na3) (.slice na4 na5 na6) (.bool r3.2.1) (.int .i64 r3.2.2))
  replace HXn := Lib.hid (HXn.out.below (below_new _ (.cells #[.slice na1 na2 na3, .slice na4 na5 na6, .bool r3.2.1, .int .i64 r3.2.2] 36)))
  replace HT := Lib.hid (HT.out.below (below_new _ (.cells #[.slice na1 na2 na3, .slice na4 na5 na6, .bool r3.2.1, .int .i64 r3.2.2] 36)))
  replace HT6 := Lib.hid (HT6.out.below (below_new _ (.cells #[.slice na1 na2 na3, .slice na4 na5 na6, .bool r3.2.1, .int .i64 r3.2.2] 36)))
  replace HX := Lib.hid (HX.out.below (below_new _ (.cells #[.slice na1 na2 na3, .slice na4 na5 na6, .bool r3.2.1, .int .i64 r3.2.2] 36)))
  replace HY := Lib.hid (HY.out.below (below_new _ (.cells #[.slice na1 na2 na3, .slice na4 na5 na6, .bool r3.2.1, .int .i64 r3.2.2] 36)))
  replace HL := Lib.hid (HL.out.below (below_new _ (.cells #[.slice na1 na2 na3, .slice na4 na5 na6, .bool r3.2.1, .int .i64 r3.2.2] 36)))
  replace HTs := Lib.hid (HTs.out.below (below_new _ (.cells #[.slice na1 na2 na3, .slice na4 na5 na6, .bool r3.2.1, .int .i64 r3.2.2] 36)))
  replace HXs := Lib.hid (HXs.out.below (below_new _ (.cells #[.slice na1 na2 na3, .slice na4 na5 na6, .bool r3.2.1, .int .i64 r3.2.2] 36)))
  replace HTj := Lib.hid (HTj.out.below (below_new _ (.cells #[.slice na1 na2 na3, .slice na4 na5 na6, .bool r3.2.1, .int .i64 r3.2.2] 36)))
  replace HXj := Lib.hid (HXj.out.below (below_new _ (.cells #[.slice na1 na2 na3, .slice na4 na5 na6, .bool r3.2.1, .int .i64 r3.2.2] 36)))
  replace HTm := Lib.hid (HTm.out.below (below_new _ (.cells #[.slice na1 na2 na3, .slice na4 na5 na6, .bool r3.2.1, .int .i64 r3.2.2] 36)))
  replace HXm := Lib.hid (HXm.out.below (below_new _ (.cells #[.slice na1 na2 na3, .slice na4 na5 na6, .bool r3.2.1, .int .i64 r3.2.2] 36)))
  replace HTt := Lib.hid (HTt.out.below (below_new _ (.cells #[.slice na1 na2 na3, .slice na4 na5 na6, .bool r3.2.1, .int .i64 r3.2.2] 36)))
  replace HXt := Lib.hid (HXt.out.below (below_new _ (.cells #[.slice na1 na2 na3, .slice na4 na5 na6, .bool r3.2.1, .int .i64 r3.2.2] 36)))
  replace HTk := Lib.hid (HTk.out.below (below_new _ (.cells #[.slice na1 na2 na3, .slice na4 na5 na6, .bool r3.2.1, .int .i64 r3.2.2] 36)))
  replace HXk := Lib.hid (HXk.out.below (below_new _ (.cells #[.slice na1 na2 na3, .slice na4 na5 na6, .bool r3.2.1, .int .i64 r3.2.2] 36)))
  replace HB := Lib.hid (Below.andThen HB.out (below_new _ (.cells #[.slice na1 na2 na3, .slice na4 na5 na6, .bool r3.2.1, .int .i64 r3.2.2] 36)))
  obtain ⟨gn, hgn⟩ : ∃ gn, w9.heap.size = gn := ⟨_, rfl⟩
  rw [hgn] at HTn
  simp only [hgn]
  clear hc0HT hc1HT hc0HT6 hc1HT6 hc0HTs hc1HTs hc0HTj hc1HTj hc0HTm hc1HTm hk0HTt hk1HTt hk2HTt hk3HTt hk0HTk hk1HTk hk2HTk hk3HTk
  have hc0HT := HT.out.two.c0
  have hc1HT := HT.out.two.c1
  have hc0HT6 := HT6.out.two.c0
  have hc1HT6 := HT6.out.two.c1
  have hc0HTs := HTs.out.two.c0
  have hc1HTs := HTs.out.two.c1
  have hc0HTj := HTj.out.two.c0
  have hc1HTj := HTj.out.two.c1
  have hc0HTm := HTm.out.two.c0
  have hc1HTm := HTm.out.two.c1
  have hk0HTt := HTt.out.c0
  have hk1HTt := HTt.out.c1
  have hk2HTt := HTt.out.c2
  have hk3HTt := HTt.out.c3
  have hk0HTk := HTk.out.c0
  have hk1HTk := HTk.out.c1
  have hk2HTk := HTk.out.c2
  have hk3HTk := HTk.out.c3
  have hk0HTn := HTn.out.c0
  have hk1HTn := HTn.out.c1
  have hk2HTn := HTn.out.c2
  have hk3HTn := HTn.out.c3
  go_wp2_with fail
  clear hc0HT hc1HT hc0HT6 hc1HT6 hc0HTs hc1HTs hc0HTj hc1HTj hc0HTm hc1HTm hk0HTt hk1HTt hk2HTt hk3HTt hk0HTk hk1HTk hk2HTk hk3HTk hk0HTn hk1HTn hk2HTn hk3HTn
  refine (sameBox_calls _ _ r1.1 r1.1 _ HXs.out HXt.out).mono ?_
  rintro e w10 ⟨rfl, hb⟩
  replace HT := Lib.hid (HT.out.below hb)
  replace HT6 := Lib.hid (HT6.out.below hb)
  replace HX := Lib.hid (HX.out.below hb)
  replace HY := Lib.hid (HY.out.below hb)
  replace HL := Lib.hid (HL.out.below hb)
  replace HTs := Lib.hid (HTs.out.below hb)
  replace HXs := Lib.hid (HXs.out.below hb)
  replace HTj := Lib.hid (HTj.out.below hb)
  replace HXj := Lib.hid (HXj.out.below hb)
  replace HTm := Lib.hid (HTm.out.below hb)
  replace HXm := Lib.hid (HXm.out.below hb)
  replace HTt := Lib.hid (HTt.out.below hb)
  replace HXt := Lib.hid (HXt.out.below hb)
  replace HTk := Lib.hid (HTk.out.below hb)
  replace HXk := Lib.hid (HXk.out.below hb)
  replace HTn := Lib.hid (HTn.out.below hb)
  replace HXn := Lib.hid (HXn.out.below hb)
  replace HB := Lib.hid (Below.andThen HB.out hb)
  rw [show sameB r1.1 r1.1 = true by simp [sameB]]
  clear hb
  have hc0HT := HT.out.two.c0
  have hc1HT := HT.out.two.c1
  have hc0HT6 := HT6.out.two.c0
  have hc1HT6 := HT6.out.two.c1
  have hc0HTs := HTs.out.two.c0
  have hc1HTs := HTs.out.two.c1
  have hc0HTj := HTj.out.two.c0
  have hc1HTj := HTj.out.two.c1
  have hc0HTm := HTm.out.two.c0
  have hc1HTm := HTm.out.two.c1
  have hk0HTt := HTt.out.c0
  have hk1HTt := HTt.out.c1
  have hk2HTt := HTt.out.c2
  have hk3HTt := HTt.out.c3
  have hk0HTk := HTk.out.c0
  have hk1HTk := HTk.out.c1
  have hk2HTk := HTk.out.c2
  have hk3HTk := HTk.out.c3
  have hk0HTn := HTn.out.c0
  have hk1HTn := HTn.out.c1
  have hk2HTn := HTn.out.c2
  have hk3HTn := HTn.out.c3
  go_wp2_with fail
  clear hc0HT hc1HT hc0HT6 hc1HT6 hc0HTs hc1HTs hc0HTj hc1HTj hc0HTm hc1HTm hk0HTt hk1HTt hk2HTt hk3HTt hk0HTk hk1HTk hk2HTk hk3HTk hk0HTn hk1HTn hk2HTn hk3HTn
  refine (sameBox_calls _ _ r2.1 r2.1 _ HXj.out HXk.out).mono ?_
  rintro e w11 ⟨rfl, hb⟩
  replace HT := Lib.hid (HT.out.below hb)
  replace HT6 := Lib.hid (HT6.out.below hb)
  replace HX := Lib.hid (HX.out.below hb)
  replace HY := Lib.hid (HY.out.below hb)
  replace HL := Lib.hid (HL.out.below hb)
  replace HTs := Lib.hid (HTs.out.below hb)
  replace HXs := Lib.hid (HXs.out.below hb)
  replace HTj := Lib.hid (HTj.out.below hb)
  replace HXj := Lib.hid (HXj.out.below hb)
  replace HTm := Lib.hid (HTm.out.below hb)
  replace HXm := Lib.hid (HXm.out.below hb)
  replace HTt := Lib.hid (HTt.out.below hb)
  replace HXt := Lib.hid (HXt.out.below hb)
  replace HTk := Lib.hid (HTk.out.below hb)
  replace HXk := Lib.hid (HXk.out.below hb)
  replace HTn := Lib.hid (HTn.out.below hb)
  replace HXn := Lib.hid (HXn.out.below hb)
  replace HB := Lib.hid (Below.andThen HB.out hb)
  rw [show sameB r2.1 r2.1 = true by simp [sameB]]
  clear hb
  have hc0HT := HT.out.two.c0
  have hc1HT := HT.out.two.c1
  have hc0HT6 := HT6.out.two.c0
  have hc1HT6 := HT6.out.two.c1
  have hc0HTs := HTs.out.two.c0
  have hc1HTs := HTs.out.two.c1
  have hc0HTj := HTj.out.two.c0
  have hc1HTj := HTj.out.two.c1
  have hc0HTm := HTm.out.two.c0
  have hc1HTm := HTm.out.two.c1
  have hk0HTt := HTt.out.c0
  have hk1HTt := HTt.out.c1
  have hk2HTt := HTt.out.c2
  have hk3HTt := HTt.out.c3
  have hk0HTk := HTk.out.c0
  have hk1HTk := HTk.out.c1
  have hk2HTk := HTk.out.c2
  have hk3HTk := HTk.out.c3
  have hk0HTn := HTn.out.c0
  have hk1HTn := HTn.out.c1
  have hk2HTn := HTn.out.c2
  have hk3HTn := HTn.out.c3
  go_wp2_with fail
  clear hc0HT hc1HT hc0HT6 hc1HT6 hc0HTs hc1HTs hc0HTj hc1HTj hc0HTm hc1HTm hk0HTt hk1HTt hk2HTt hk3HTt hk0HTk hk1HTk hk2HTk hk3HTk hk0HTn hk1HTn hk2HTn hk3HTn
  refine (sameBox_calls _ _ r3.1 r3.1 _ HXm.out HXn.out).mono ?_
  rintro e w12 ⟨rfl, hb⟩
  replace HT := Lib.hid (HT.out.below hb)
  replace HT6 := Lib.hid (HT6.out.below hb)
  replace HX := Lib.hid (HX.out.below hb)
  replace HY := Lib.hid (HY.out.below hb)
  replace HL := Lib.hid (HL.out.below hb)
  replace HTs := Lib.hid (HTs.out.below hb)
  replace HXs := Lib.hid (HXs.out.below hb)
  replace HTj := Lib.hid (HTj.out.below hb)
  replace HXj := Lib.hid (HXj.out.below hb)
  replace HTm := Lib.hid (HTm.out.below hb)
  replace HXm := Lib.hid (HXm.out.below hb)
  replace HTt := Lib.hid (HTt.out.below hb)
  replace HXt := Lib.hid (HXt.out.below hb)
  replace HTk := Lib.hid (HTk.out.below hb)
  replace HXk := Lib.hid (HXk.out.below hb)
  replace HTn := Lib.hid (HTn.out.below hb)
  replace HXn := Lib.hid (HXn.out.below hb)
  replace HB := Lib.hid (Below.andThen HB.out hb)
  rw [show sameB r3.1 r3.1 = true by simp [sameB]]
  clear hb
  have hc0HT := HT.out.two.c0
  have hc1HT := HT.out.two.c1
  have hc0HT6 := HT6.out.two.c0
  have hc1HT6 := HT6.out.two.c1
  have hc0HTs := HTs.out.two.c0
  have hc1HTs := HTs.out.two.c1
  have hc0HTj := HTj.out.two.c0
  have hc1HTj := HTj.out.two.c1
  have hc0HTm := HTm.out.two.c0
  have hc1HTm := HTm.out.two.c1
  have hk0HTt := HTt.out.c0
  have hk1HTt := HTt.out.c1
  have hk2HTt := HTt.out.c2
  have hk3HTt := HTt.out.c3
  have hk0HTk := HTk.out.c0
  have hk1HTk := HTk.out.c1
  have hk2HTk := HTk.out.c2
  have hk3HTk := HTk.out.c3
  have hk0HTn := HTn.out.c0
  have hk1HTn := HTn.out.c1
  have hk2HTn := HTn.out.c2
  have hk3HTn := HTn.out.c3
  obtain ⟨vp, hvp⟩ : ∃ b, bvalid p = b := ⟨_, rfl⟩
  obtain ⟨ii, hii⟩ : ∃ b, inside p q = b := ⟨_, rfl⟩
  have HV := Lib.hid (fun w' (hb : Below w12.heap.size w12 w') => valid_calls _ p w' (HX.out.below hb))
  have HRV := Lib.hid (fun w' (hb : Below w12.heap.size w12 w') => refvalid_calls _ p w' (HX.out.below hb))
  have HI := Lib.hid (fun w' (hb : Below w12.heap.size w12 w') => inside_calls _ _ p q w' (HX.out.below hb) (HY.out.below hb))
  have HRI := Lib.hid (fun w' (hb : Below w12.heap.size w12 w') => refinside_calls _ _ p q w' (HX.out.below hb) (HY.out.below hb))
  rw [hvp] at HV HRV
  rw [hii] at HI HRI
  clear hvp hii
  go_wp2_with fail
  clear hc0HT hc1HT hc0HT6 hc1HT6 hc0HTs hc1HTs hc0HTj hc1HTj hc0HTm hc1HTm hk0HTt hk1HTt hk2HTt hk3HTt hk0HTk hk1HTk hk2HTk hk3HTk hk0HTn hk1HTn hk2HTn hk3HTn
  refine wk.region_tailS 21 [.is (.bool true), .is (.bool true), .is (.bool true), .is (.bool true), .is (.bool true), .is (.agg #[.slice A1 n1 c1, .slice A2 n2 c2]), .is (.bool vp), .is (.agg #[.slice A1 n1 c1, .slice A2 n2 c2]), .is (.bool vp), .is (.bool true), .is (.bool true), .is (.bool true), .is (.agg #[.slice A1 n1 c1, .slice A2 n2 c2]), .is (.agg #[.slice B1 m1 d1, .slice B2 m2 d2]), .is (.bool ii), .is (.agg #[.slice A1 n1 c1, .slice A2 n2 c2]), .is (.agg #[.slice B1 m1 d1, .slice B2 m2 d2]), .is (.bool ii), .is (.bool true), .is (.bool true), .is (.bool true)] [some 98, some 99, some 100, some 101, some 102, some 103, some 104, some 105, some 106, some 107, some 108, some 109, some 110, some 111, some 112, some 113, some 114, some 115, some 116, some 117, some 6] (by kernel_rfl) (by kernel_rfl) (by kernel_rfl) (by kernel_rfl) [] (by kernel_rfl) (by intro p hp; cases hp) (by kernel_rfl) (by kernel_rfl) ?hstep ?hdone
  case hstep =>
    intro i o ho hi hns E w4 hb4 D
    have hi2 : i = 0 ∨ i = 1 ∨ i = 2 ∨ i = 3 ∨ i = 4 ∨ i = 5 ∨ i = 6 ∨ i = 7 ∨ i = 8 ∨ i = 9 ∨ i = 10 ∨ i = 11 ∨ i = 12 ∨ i = 13 ∨ i = 14 ∨ i = 15 ∨ i = 16 ∨ i = 17 ∨ i = 18 ∨ i = 19 ∨ i = 20 := by omega
    clear hi
    rcases hi2 with rfl | rfl | rfl | rfl | rfl | rfl | rfl | rfl | rfl | rfl | rfl | rfl | rfl | rfl | rfl | rfl | rfl | rfl | rfl | rfl | rfl
    ·
      have ho2 := (Array.getElem?_eq_some_iff.1 ho).2
      simp only [List.getElem_toArray, List.getElem_cons_zero] at ho2
      subst ho2
      clear ho
      refine wk.does_fn (f := 7) (vs := #[]) rfl (D.fn _) (by simp) (by go_simp) ?_
      refine (sanity_calls w4).mono ?_
      rintro e w7 ⟨rfl, hb7⟩
      exact ⟨_, rfl, hb7, rfl⟩
    ·
      have ho2 := (Array.getElem?_eq_some_iff.1 ho).2
      simp only [List.getElem_toArray, List.getElem_cons_succ, List.getElem_cons_zero] at ho2
      subst ho2
      clear ho
      have e98 := D.is { on := 0, ground := .data } (by simp) rfl rfl 98 rfl
      exact wk.does_move rfl e98
    ·
      have ho2 := (Array.getElem?_eq_some_iff.1 ho).2
      simp only [List.getElem_toArray, List.getElem_cons_succ, List.getElem_cons_zero] at ho2
      subst ho2
      clear ho
      have e17 := D.old 17 (by kernel_rfl)
      exact wk.does_move rfl (by rw [e17]; rfl)
    ·
      have ho2 := (Array.getElem?_eq_some_iff.1 ho).2
      simp only [List.getElem_toArray, List.getElem_cons_succ, List.getElem_cons_zero] at ho2
      subst ho2
      clear ho
      have e99 := D.is { on := 1, ground := .data } (by simp) rfl rfl 99 rfl
      have e100 := D.is { on := 2, ground := .data } (by simp) rfl rfl 100 rfl
      exact wk.does_pick rfl e99 e100
    ·
      have ho2 := (Array.getElem?_eq_some_iff.1 ho).2
      simp only [List.getElem_toArray, List.getElem_cons_succ, List.getElem_cons_zero] at ho2
      subst ho2
      clear ho
      have e101 := D.is { on := 3, ground := .data } (by simp) rfl rfl 101 rfl
      exact wk.does_move rfl e101
    ·
      have ho2 := (Array.getElem?_eq_some_iff.1 ho).2
      simp only [List.getElem_toArray, List.getElem_cons_succ, List.getElem_cons_zero] at ho2
      subst ho2
      clear ho
      have e4 := D.old 4 (by kernel_rfl)
      exact wk.does_load_row rfl (by rw [e4]; rfl) (HT.out.below ((Below.refl _ _).drew.trans hb4)) Try.underlying25 rfl (by kernel_rfl) rfl
    ·
      have ho2 := (Array.getElem?_eq_some_iff.1 ho).2
      simp only [List.getElem_toArray, List.getElem_cons_succ, List.getElem_cons_zero] at ho2
      subst ho2
      clear ho
      have e103 := D.is { on := 5, ground := .data } (by simp) rfl rfl 103 rfl
      refine wk.does_fn (f := 15) (vs := #[.agg #[.slice A1 n1 c1, .slice A2 n2 c2]]) rfl (D.fn _) (by simp [e103]) (by go_simp) ?_
      refine (HV.out w4 ((Below.refl _ _).drew.trans hb4)).mono ?_
      rintro e w7 ⟨rfl, hb7⟩
      exact ⟨_, rfl, hb7, rfl⟩
    ·
      have ho2 := (Array.getElem?_eq_some_iff.1 ho).2
      simp only [List.getElem_toArray, List.getElem_cons_succ, List.getElem_cons_zero] at ho2
      subst ho2
      clear ho
      have e4 := D.old 4 (by kernel_rfl)
      exact wk.does_load_row rfl (by rw [e4]; rfl) (HT.out.below ((Below.refl _ _).drew.trans hb4)) Try.underlying25 rfl (by kernel_rfl) rfl
    ·
      have ho2 := (Array.getElem?_eq_some_iff.1 ho).2
      simp only [List.getElem_toArray, List.getElem_cons_succ, List.getElem_cons_zero] at ho2
      subst ho2
      clear ho
      have e105 := D.is { on := 7, ground := .data } (by simp) rfl rfl 105 rfl
      refine wk.does_fn (f := 16) (vs := #[.agg #[.slice A1 n1 c1, .slice A2 n2 c2]]) rfl (D.fn _) (by simp [e105]) (by go_simp) ?_
      refine (HRV.out w4 ((Below.refl _ _).drew.trans hb4)).mono ?_
      rintro e w7 ⟨rfl, hb7⟩
      exact ⟨_, rfl, hb7, rfl⟩
    ·
      have ho2 := (Array.getElem?_eq_some_iff.1 ho).2
      simp only [List.getElem_toArray, List.getElem_cons_succ, List.getElem_cons_zero] at ho2
      subst ho2
      clear ho
      have e104 := D.is { on := 6, ground := .data } (by simp) rfl rfl 104 rfl
      have e106 := D.is { on := 8, ground := .data } (by simp) rfl rfl 106 rfl
      exact wk.does_bin rfl (by rw [e104, e106]; go_simp) rfl
    ·
      have ho2 := (Array.getElem?_eq_some_iff.1 ho).2
      simp only [List.getElem_toArray, List.getElem_cons_succ, List.getElem_cons_zero] at ho2
      subst ho2
      clear ho
      have e102 := D.is { on := 4, ground := .data } (by simp) rfl rfl 102 rfl
      have e107 := D.is { on := 9, ground := .data } (by simp) rfl rfl 107 rfl
      exact wk.does_pick rfl e102 e107
    ·
      have ho2 := (Array.getElem?_eq_some_iff.1 ho).2
      simp only [List.getElem_toArray, List.getElem_cons_succ, List.getElem_cons_zero] at ho2
      subst ho2
      clear ho
      have e108 := D.is { on := 10, ground := .data } (by simp) rfl rfl 108 rfl
      exact wk.does_move rfl e108
    ·
      have ho2 := (Array.getElem?_eq_some_iff.1 ho).2
      simp only [List.getElem_toArray, List.getElem_cons_succ, List.getElem_cons_zero] at ho2
      subst ho2
      clear ho
      have e4 := D.old 4 (by kernel_rfl)
      exact wk.does_load_row rfl (by rw [e4]; rfl) (HT.out.below ((Below.refl _ _).drew.trans hb4)) Try.underlying25 rfl (by kernel_rfl) rfl
    ·
      have ho2 := (Array.getElem?_eq_some_iff.1 ho).2
      simp only [List.getElem_toArray, List.getElem_cons_succ, List.getElem_cons_zero] at ho2
      subst ho2
      clear ho
      have e5 := D.old 5 (by kernel_rfl)
      exact wk.does_load_row rfl (by rw [e5]; rfl) (HT6.out.below ((Below.refl _ _).drew.trans hb4)) Try.underlying25 rfl (by kernel_rfl) rfl
    ·
      have ho2 := (Array.getElem?_eq_some_iff.1 ho).2
      simp only [List.getElem_toArray, List.getElem_cons_succ, List.getElem_cons_zero] at ho2
      subst ho2
      clear ho
      have e110 := D.is { on := 12, ground := .data } (by simp) rfl rfl 110 rfl
      have e111 := D.is { on := 13, ground := .data } (by simp) rfl rfl 111 rfl
      refine wk.does_fn (f := 17) (vs := #[.agg #[.slice A1 n1 c1, .slice A2 n2 c2], .agg #[.slice B1 m1 d1, .slice B2 m2 d2]]) rfl (D.fn _) (by simp [e110, e111]) (by go_simp) ?_
      refine (HI.out w4 ((Below.refl _ _).drew.trans hb4)).mono ?_
      rintro e w7 ⟨rfl, hb7⟩
      exact ⟨_, rfl, hb7, rfl⟩
    ·
      have ho2 := (Array.getElem?_eq_some_iff.1 ho).2
      simp only [List.getElem_toArray, List.getElem_cons_succ, List.getElem_cons_zero] at ho2
      subst ho2
      clear ho
      have e4 := D.old 4 (by kernel_rfl)
      exact wk.does_load_row rfl (by rw [e4]; rfl) (HT.out.below ((Below.refl _ _).drew.trans hb4)) Try.underlying25 rfl (by kernel_rfl) rfl
    ·
      have ho2 := (Array.getElem?_eq_some_iff.1 ho).2
      simp only [List.getElem_toArray, List.getElem_cons_succ, List.getElem_cons_zero] at ho2
      subst ho2
      clear ho
      have e5 := D.old 5 (by kernel_rfl)
      exact wk.does_load_row rfl (by rw [e5]; rfl) (HT6.out.below ((Below.refl _ _).drew.trans hb4)) Try.underlying25 rfl (by kernel_rfl) rfl
    ·
      have ho2 := (Array.getElem?_eq_some_iff.1 ho).2
      simp only [List.getElem_toArray, List.getElem_cons_succ, List.getElem_cons_zero] at ho2
      subst ho2
      clear ho
      have e113 := D.is { on := 15, ground := .data } (by simp) rfl rfl 113 rfl
      have e114 := D.is { on := 16, ground := .data } (by simp) rfl rfl 114 rfl
      refine wk.does_fn (f := 18) (vs := #[.agg #[.slice A1 n1 c1, .slice A2 n2 c2], .agg #[.slice B1 m1 d1, .slice B2 m2 d2]]) rfl (D.fn _) (by simp [e113, e114]) (by go_simp) ?_
      refine (HRI.out w4 ((Below.refl _ _).drew.trans hb4)).mono ?_
      rintro e w7 ⟨rfl, hb7⟩
      exact ⟨_, rfl, hb7, rfl⟩
    ·
      have ho2 := (Array.getElem?_eq_some_iff.1 ho).2
      simp only [List.getElem_toArray, List.getElem_cons_succ, List.getElem_cons_zero] at ho2
      subst ho2
      clear ho
      have e112 := D.is { on := 14, ground := .data } (by simp) rfl rfl 112 rfl
      have e115 := D.is { on := 17, ground := .data } (by simp) rfl rfl 115 rfl
      exact wk.does_bin rfl (by rw [e112, e115]; go_simp) rfl
    ·
      have ho2 := (Array.getElem?_eq_some_iff.1 ho).2
      simp only [List.getElem_toArray, List.getElem_cons_succ, List.getElem_cons_zero] at ho2
      subst ho2
      clear ho
      have e109 := D.is { on := 11, ground := .data } (by simp) rfl rfl 109 rfl
      have e116 := D.is { on := 18, ground := .data } (by simp) rfl rfl 116 rfl
      exact wk.does_pick rfl e109 e116
    ·
      have ho2 := (Array.getElem?_eq_some_iff.1 ho).2
      simp only [List.getElem_toArray, List.getElem_cons_succ, List.getElem_cons_zero] at ho2
      subst ho2
      clear ho
      have e117 := D.is { on := 19, ground := .data } (by simp) rfl rfl 117 rfl
      exact wk.does_assign rfl e117
  case hdone =>
    intro vals w4 hb4 hv
    have h20 := hv 20 (by omega)
    clear hv
    replace h20 : vals 20 = (.bool true) := h20
    simp only [List.drop_succ_cons, List.drop_zero, wpList, wk.setL, List.setIfInBounds_toArray, List.set_cons_zero, List.set_cons_succ, Nat.zero_add, Nat.reduceAdd, h20]
    generalize vals 0 = x0
    generalize vals 1 = x1
    generalize vals 2 = x2
    generalize vals 3 = x3
    generalize vals 4 = x4
    generalize vals 5 = x5
    generalize vals 6 = x6
    generalize vals 7 = x7
    generalize vals 8 = x8
    generalize vals 9 = x9
    generalize vals 10 = x10
    generalize vals 11 = x11
    generalize vals 12 = x12
    generalize vals 13 = x13
    generalize vals 14 = x14
    generalize vals 15 = x15
    generalize vals 16 = x16
    generalize vals 17 = x17
    generalize vals 18 = x18
    generalize vals 19 = x19
    have hb := ((Below.refl _ _).drew.trans hb4 : Below w12.heap.size w12 w4)
    have HBZ := Lib.hid (Below.andThen HB.out hb)
    clear hb4 hb
    go_wp2_with fail
    go_ret
    exact ⟨rfl, HBZ.out⟩
end Go.Proofs.Ytmnpmjioahnjoaa.boxMakesAsSpecified
