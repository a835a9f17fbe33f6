/- BitsFollowAlgebra. -/
import Derived.Test.YtieipbobijnmlaaG12

namespace Go.Proofs.Ytieipbobijnmlaa.bitsFollowAlgebra

open Go.ChangeShapes Go.WideShapes Go.ChangeAt Go.RowKit

open Go.Proofs.Ytieipbobijnmlaa.tk Go.Proofs.Ytieipbobijnmlaa.tq Go.Proofs.Ytieipbobijnmlaa.vk Go.Proofs.Ytieipbobijnmlaa.wk

set_option linter.unusedVariables false
attribute [local go_sem] Oper.semAt_some
theorem same_of {a b : List Int} (ha : Ok a) (hb : Ok b) (h : ∀ x, has a x = has b x) : (a == b) = true := by
  rw [ok_ext ha hb fun x _ _ => h x]
  simp
theorem cRValid {a : List Int} {v : Value} (w : World) (h : SI a w v) : Calls Try.prog 15 #[v] w fun e w' => e = .returned (.bool (vs a)) ∧ Below w.heap.size w w' := by
  obtain ⟨A, n, c, rfl, h⟩ := h
  exact rvalid_calls w h
set_option maxRecDepth 100000 in
set_option maxHeartbeats 16000000 in
theorem walk (w : World) {A1 A2 A3 : Option Addr} {n1 c1 n2 c2 n3 c3 : Nat} {a b c : List Int} (w0 : wo.IsI w A1 n1 c1 a) (w1 : wo.IsI w A2 n2 c2 b) (w2 : wo.IsI w A3 n3 c3 c) :
    Calls Try.prog 8 #[.slice A1 n1 c1, .slice A2 n2 c2, .slice A3 n3 c3] w fun e w' => e = .returned (.bool true) ∧ Below w.heap.size w w' := by
  have HSa : Hid (SI a w (.slice A1 n1 c1)) := ⟨_, _, _, rfl, w0⟩
  have HSb : Hid (SI b w (.slice A2 n2 c2)) := ⟨_, _, _, rfl, w1⟩
  have HSc : Hid (SI c w (.slice A3 n3 c3)) := ⟨_, _, _, rfl, w2⟩
  have HB : Hid (Below w.heap.size w w) := Below.refl _ _
  clear w0 w1 w2
  go_enter Try.func8, Try.ntmps8
  go_wp2_with fail
  refine (lvalid_calls _ HSa.out HSb.out).mono ?_
  rintro e w1 ⟨rfl, hb1⟩
  replace HSa := Lib.hid (HSa.out.below hb1)
  replace HSb := Lib.hid (HSb.out.below hb1)
  replace HSc := Lib.hid (HSc.out.below hb1)
  replace HB := Lib.hid (HB.out.trans (hb1.mono HB.out.size))
  clear hb1
  cases hv : (vs a && vs b) with
  | false =>
    clear hv
    go_wp2_with fail
    refine (san11_calls _).mono ?_
    rintro e w2 ⟨rfl, hb2⟩
    replace HB := Lib.hid (HB.out.trans (hb2.mono HB.out.size))
    clear hb2
    go_wp2_with fail
    go_ret
    exact ⟨rfl, HB.out⟩
  | true =>
    rw [Bool.and_eq_true] at hv
    have HOa := Lib.hid (vs_iff.1 hv.1)
    have HOb := Lib.hid (vs_iff.1 hv.2)
    clear hv
    go_wp2_with fail
    refine (cRValid _ HSc.out).mono ?_
    rintro e w3 ⟨rfl, hb1⟩
    replace HSa := Lib.hid (HSa.out.below hb1)
    replace HSb := Lib.hid (HSb.out.below hb1)
    replace HSc := Lib.hid (HSc.out.below hb1)
    replace HB := Lib.hid (HB.out.trans (hb1.mono HB.out.size))
    clear hb1
    cases hv : vs c with
    | false =>
      clear hv
      go_wp2_with fail
      refine (san11_calls _).mono ?_
      rintro e w2 ⟨rfl, hb2⟩
      replace HB := Lib.hid (HB.out.trans (hb2.mono HB.out.size))
      clear hb2
      go_wp2_with fail
      go_ret
      exact ⟨rfl, HB.out⟩
    | true =>
      have HOc := Lib.hid (vs_iff.1 hv)
      clear hv
      go_wp2_with fail
      refine (gAnd _ HSa.out HSb.out HOa.out HOb.out).mono ?_
      rintro e w30 ⟨v1, D1, rfl, hs1, ho1, hx1, hb30⟩
      replace HSa := Lib.hid (HSa.out.below hb30)
      replace HSb := Lib.hid (HSb.out.below hb30)
      replace HSc := Lib.hid (HSc.out.below hb30)
      replace HB := Lib.hid (HB.out.trans (hb30.mono HB.out.size))
      have HS1 := Lib.hid hs1
      have HO1 := Lib.hid ho1
      have HX1 := Lib.hid hx1
      clear hb30 hs1 ho1 hx1
      go_wp2_with fail
      refine (gOr _ HSa.out HSb.out HOa.out HOb.out).mono ?_
      rintro e w31 ⟨v2, D2, rfl, hs2, ho2, hx2, hb31⟩
      replace HSa := Lib.hid (HSa.out.below hb31)
      replace HSb := Lib.hid (HSb.out.below hb31)
      replace HSc := Lib.hid (HSc.out.below hb31)
      replace HS1 := Lib.hid (HS1.out.below hb31)
      replace HB := Lib.hid (HB.out.trans (hb31.mono HB.out.size))
      have HS2 := Lib.hid hs2
      have HO2 := Lib.hid ho2
      have HX2 := Lib.hid hx2
      clear hb31 hs2 ho2 hx2
      go_wp2_with fail
      refine (cValid _ HS1.out (vs_iff.2 HO1.out)).mono ?_
      rintro e w32 ⟨rfl, hb32⟩
      replace HSa := Lib.hid (HSa.out.below hb32)
      replace HSb := Lib.hid (HSb.out.below hb32)
      replace HSc := Lib.hid (HSc.out.below hb32)
      replace HS1 := Lib.hid (HS1.out.below hb32)
      replace HS2 := Lib.hid (HS2.out.below hb32)
      replace HB := Lib.hid (HB.out.trans (hb32.mono HB.out.size))
      clear hb32
      go_wp2_with fail
      refine (cValid _ HS2.out (vs_iff.2 HO2.out)).mono ?_
      rintro e w33 ⟨rfl, hb33⟩
      replace HSa := Lib.hid (HSa.out.below hb33)
      replace HSb := Lib.hid (HSb.out.below hb33)
      replace HSc := Lib.hid (HSc.out.below hb33)
      replace HS1 := Lib.hid (HS1.out.below hb33)
      replace HS2 := Lib.hid (HS2.out.below hb33)
      replace HB := Lib.hid (HB.out.trans (hb33.mono HB.out.size))
      clear hb33
      go_wp2_with fail
      refine (gMinus _ HSa.out HSb.out HOa.out HOb.out).mono ?_
      rintro e w34 ⟨v3, D3, rfl, hs3, ho3, hx3, hb34⟩
      replace HSa := Lib.hid (HSa.out.below hb34)
      replace HSb := Lib.hid (HSb.out.below hb34)
      replace HSc := Lib.hid (HSc.out.below hb34)
      replace HS1 := Lib.hid (HS1.out.below hb34)
      replace HS2 := Lib.hid (HS2.out.below hb34)
      replace HB := Lib.hid (HB.out.trans (hb34.mono HB.out.size))
      have HS3 := Lib.hid hs3
      have HO3 := Lib.hid ho3
      have HX3 := Lib.hid hx3
      clear hb34 hs3 ho3 hx3
      go_wp2_with fail
      refine (cValid _ HS3.out (vs_iff.2 HO3.out)).mono ?_
      rintro e w35 ⟨rfl, hb35⟩
      clear HS3
      replace HSa := Lib.hid (HSa.out.below hb35)
      replace HSb := Lib.hid (HSb.out.below hb35)
      replace HSc := Lib.hid (HSc.out.below hb35)
      replace HS1 := Lib.hid (HS1.out.below hb35)
      replace HS2 := Lib.hid (HS2.out.below hb35)
      replace HB := Lib.hid (HB.out.trans (hb35.mono HB.out.size))
      clear hb35
      go_wp2_with fail
      refine (gAnd _ HSb.out HSa.out HOb.out HOa.out).mono ?_
      rintro e w36 ⟨v4, D4, rfl, hs4, ho4, hx4, hb36⟩
      replace HSa := Lib.hid (HSa.out.below hb36)
      replace HSb := Lib.hid (HSb.out.below hb36)
      replace HSc := Lib.hid (HSc.out.below hb36)
      replace HS1 := Lib.hid (HS1.out.below hb36)
      replace HS2 := Lib.hid (HS2.out.below hb36)
      replace HB := Lib.hid (HB.out.trans (hb36.mono HB.out.size))
      have HS4 := Lib.hid hs4
      have HO4 := Lib.hid ho4
      have HX4 := Lib.hid hx4
      clear hb36 hs4 ho4 hx4
      go_wp2_with fail
      refine (cSame (r := true) _ HS1.out HS4.out (same_of HO1.out HO4.out fun x => by simp only [HX1.out, HX4.out]; cases has a x <;> cases has b x <;> cases has c x <;> rfl)).mono ?_
      rintro e w37 ⟨rfl, hb37⟩
      clear HS4
      replace HSa := Lib.hid (HSa.out.below hb37)
      replace HSb := Lib.hid (HSb.out.below hb37)
      replace HSc := Lib.hid (HSc.out.below hb37)
      replace HS1 := Lib.hid (HS1.out.below hb37)
      replace HS2 := Lib.hid (HS2.out.below hb37)
      replace HB := Lib.hid (HB.out.trans (hb37.mono HB.out.size))
      clear hb37
      go_wp2_with fail
      refine (gOr _ HSb.out HSa.out HOb.out HOa.out).mono ?_
      rintro e w38 ⟨v5, D5, rfl, hs5, ho5, hx5, hb38⟩
      replace HSa := Lib.hid (HSa.out.below hb38)
      replace HSb := Lib.hid (HSb.out.below hb38)
      replace HSc := Lib.hid (HSc.out.below hb38)
      replace HS1 := Lib.hid (HS1.out.below hb38)
      replace HS2 := Lib.hid (HS2.out.below hb38)
      replace HB := Lib.hid (HB.out.trans (hb38.mono HB.out.size))
      have HS5 := Lib.hid hs5
      have HO5 := Lib.hid ho5
      have HX5 := Lib.hid hx5
      clear hb38 hs5 ho5 hx5
      go_wp2_with fail
      refine (cSame (r := true) _ HS2.out HS5.out (same_of HO2.out HO5.out fun x => by simp only [HX2.out, HX5.out]; cases has a x <;> cases has b x <;> cases has c x <;> rfl)).mono ?_
      rintro e w39 ⟨rfl, hb39⟩
      clear HS5
      replace HSa := Lib.hid (HSa.out.below hb39)
      replace HSb := Lib.hid (HSb.out.below hb39)
      replace HSc := Lib.hid (HSc.out.below hb39)
      replace HS1 := Lib.hid (HS1.out.below hb39)
      replace HS2 := Lib.hid (HS2.out.below hb39)
      replace HB := Lib.hid (HB.out.trans (hb39.mono HB.out.size))
      clear hb39
      go_wp2_with fail
      refine (gAnd _ HS1.out HSc.out HO1.out HOc.out).mono ?_
      rintro e w40 ⟨v6, D6, rfl, hs6, ho6, hx6, hb40⟩
      replace HSa := Lib.hid (HSa.out.below hb40)
      replace HSb := Lib.hid (HSb.out.below hb40)
      replace HSc := Lib.hid (HSc.out.below hb40)
      replace HS1 := Lib.hid (HS1.out.below hb40)
      replace HS2 := Lib.hid (HS2.out.below hb40)
      replace HB := Lib.hid (HB.out.trans (hb40.mono HB.out.size))
      have HS6 := Lib.hid hs6
      have HO6 := Lib.hid ho6
      have HX6 := Lib.hid hx6
      clear hb40 hs6 ho6 hx6
      go_wp2_with fail
      refine (gAnd _ HSb.out HSc.out HOb.out HOc.out).mono ?_
      rintro e w41 ⟨v7, D7, rfl, hs7, ho7, hx7, hb41⟩
      replace HSa := Lib.hid (HSa.out.below hb41)
      replace HSb := Lib.hid (HSb.out.below hb41)
      replace HSc := Lib.hid (HSc.out.below hb41)
      replace HS1 := Lib.hid (HS1.out.below hb41)
      replace HS2 := Lib.hid (HS2.out.below hb41)
      replace HS6 := Lib.hid (HS6.out.below hb41)
      replace HB := Lib.hid (HB.out.trans (hb41.mono HB.out.size))
      have HS7 := Lib.hid hs7
      have HO7 := Lib.hid ho7
      have HX7 := Lib.hid hx7
      clear hb41 hs7 ho7 hx7
      go_wp2_with fail
      refine (gAnd _ HSa.out HS7.out HOa.out HO7.out).mono ?_
      rintro e w42 ⟨v8, D8, rfl, hs8, ho8, hx8, hb42⟩
      clear HS7
      replace HSa := Lib.hid (HSa.out.below hb42)
      replace HSb := Lib.hid (HSb.out.below hb42)
      replace HSc := Lib.hid (HSc.out.below hb42)
      replace HS1 := Lib.hid (HS1.out.below hb42)
      replace HS2 := Lib.hid (HS2.out.below hb42)
      replace HS6 := Lib.hid (HS6.out.below hb42)
      replace HB := Lib.hid (HB.out.trans (hb42.mono HB.out.size))
      have HS8 := Lib.hid hs8
      have HO8 := Lib.hid ho8
      have HX8 := Lib.hid hx8
      clear hb42 hs8 ho8 hx8
      go_wp2_with fail
      refine (cSame (r := true) _ HS6.out HS8.out (same_of HO6.out HO8.out fun x => by simp only [HX6.out, HX1.out, HX8.out, HX7.out]; cases has a x <;> cases has b x <;> cases has c x <;> rfl)).mono ?_
      rintro e w43 ⟨rfl, hb43⟩
      clear HS6 HS8
      replace HSa := Lib.hid (HSa.out.below hb43)
      replace HSb := Lib.hid (HSb.out.below hb43)
      replace HSc := Lib.hid (HSc.out.below hb43)
      replace HS1 := Lib.hid (HS1.out.below hb43)
      replace HS2 := Lib.hid (HS2.out.below hb43)
      replace HB := Lib.hid (HB.out.trans (hb43.mono HB.out.size))
      clear hb43
      go_wp2_with fail
      refine (gOr _ HS2.out HSc.out HO2.out HOc.out).mono ?_
      rintro e w44 ⟨v9, D9, rfl, hs9, ho9, hx9, hb44⟩
      replace HSa := Lib.hid (HSa.out.below hb44)
      replace HSb := Lib.hid (HSb.out.below hb44)
      replace HSc := Lib.hid (HSc.out.below hb44)
      replace HS1 := Lib.hid (HS1.out.below hb44)
      replace HS2 := Lib.hid (HS2.out.below hb44)
      replace HB := Lib.hid (HB.out.trans (hb44.mono HB.out.size))
      have HS9 := Lib.hid hs9
      have HO9 := Lib.hid ho9
      have HX9 := Lib.hid hx9
      clear hb44 hs9 ho9 hx9
      go_wp2_with fail
      refine (gOr _ HSb.out HSc.out HOb.out HOc.out).mono ?_
      rintro e w45 ⟨v10, D10, rfl, hs10, ho10, hx10, hb45⟩
      replace HSa := Lib.hid (HSa.out.below hb45)
      replace HSb := Lib.hid (HSb.out.below hb45)
      replace HSc := Lib.hid (HSc.out.below hb45)
      replace HS1 := Lib.hid (HS1.out.below hb45)
      replace HS2 := Lib.hid (HS2.out.below hb45)
      replace HS9 := Lib.hid (HS9.out.below hb45)
      replace HB := Lib.hid (HB.out.trans (hb45.mono HB.out.size))
      have HS10 := Lib.hid hs10
      have HO10 := Lib.hid ho10
      have HX10 := Lib.hid hx10
      clear hb45 hs10 ho10 hx10
      go_wp2_with fail
      refine (gOr _ HSa.out HS10.out HOa.out HO10.out).mono ?_
      rintro e w46 ⟨v11, D11, rfl, hs11, ho11, hx11, hb46⟩
      clear HS10
      replace HSa := Lib.hid (HSa.out.below hb46)
      replace HSb := Lib.hid (HSb.out.below hb46)
      replace HSc := Lib.hid (HSc.out.below hb46)
      replace HS1 := Lib.hid (HS1.out.below hb46)
      replace HS2 := Lib.hid (HS2.out.below hb46)
      replace HS9 := Lib.hid (HS9.out.below hb46)
      replace HB := Lib.hid (HB.out.trans (hb46.mono HB.out.size))
      have HS11 := Lib.hid hs11
      have HO11 := Lib.hid ho11
      have HX11 := Lib.hid hx11
      clear hb46 hs11 ho11 hx11
      go_wp2_with fail
      refine (cSame (r := true) _ HS9.out HS11.out (same_of HO9.out HO11.out fun x => by simp only [HX9.out, HX2.out, HX11.out, HX10.out]; cases has a x <;> cases has b x <;> cases has c x <;> rfl)).mono ?_
      rintro e w47 ⟨rfl, hb47⟩
      clear HS9 HS11
      replace HSa := Lib.hid (HSa.out.below hb47)
      replace HSb := Lib.hid (HSb.out.below hb47)
      replace HSc := Lib.hid (HSc.out.below hb47)
      replace HS1 := Lib.hid (HS1.out.below hb47)
      replace HS2 := Lib.hid (HS2.out.below hb47)
      replace HB := Lib.hid (HB.out.trans (hb47.mono HB.out.size))
      clear hb47
      go_wp2_with fail
      refine (gAnd _ HS2.out HSc.out HO2.out HOc.out).mono ?_
      rintro e w48 ⟨v12, D12, rfl, hs12, ho12, hx12, hb48⟩
      clear HS2
      replace HSa := Lib.hid (HSa.out.below hb48)
      replace HSb := Lib.hid (HSb.out.below hb48)
      replace HSc := Lib.hid (HSc.out.below hb48)
      replace HS1 := Lib.hid (HS1.out.below hb48)
      replace HB := Lib.hid (HB.out.trans (hb48.mono HB.out.size))
      have HS12 := Lib.hid hs12
      have HO12 := Lib.hid ho12
      have HX12 := Lib.hid hx12
      clear hb48 hs12 ho12 hx12
      go_wp2_with fail
      refine (gAnd _ HSa.out HSc.out HOa.out HOc.out).mono ?_
      rintro e w49 ⟨v13, D13, rfl, hs13, ho13, hx13, hb49⟩
      replace HSa := Lib.hid (HSa.out.below hb49)
      replace HSb := Lib.hid (HSb.out.below hb49)
      replace HSc := Lib.hid (HSc.out.below hb49)
      replace HS1 := Lib.hid (HS1.out.below hb49)
      replace HS12 := Lib.hid (HS12.out.below hb49)
      replace HB := Lib.hid (HB.out.trans (hb49.mono HB.out.size))
      have HS13 := Lib.hid hs13
      have HO13 := Lib.hid ho13
      have HX13 := Lib.hid hx13
      clear hb49 hs13 ho13 hx13
      go_wp2_with fail
      refine (gAnd _ HSb.out HSc.out HOb.out HOc.out).mono ?_
      rintro e w50 ⟨v14, D14, rfl, hs14, ho14, hx14, hb50⟩
      replace HSa := Lib.hid (HSa.out.below hb50)
      replace HSb := Lib.hid (HSb.out.below hb50)
      replace HSc := Lib.hid (HSc.out.below hb50)
      replace HS1 := Lib.hid (HS1.out.below hb50)
      replace HS12 := Lib.hid (HS12.out.below hb50)
      replace HS13 := Lib.hid (HS13.out.below hb50)
      replace HB := Lib.hid (HB.out.trans (hb50.mono HB.out.size))
      have HS14 := Lib.hid hs14
      have HO14 := Lib.hid ho14
      have HX14 := Lib.hid hx14
      clear hb50 hs14 ho14 hx14
      go_wp2_with fail
      refine (gOr _ HS13.out HS14.out HO13.out HO14.out).mono ?_
      rintro e w51 ⟨v15, D15, rfl, hs15, ho15, hx15, hb51⟩
      clear HS13 HS14
      replace HSa := Lib.hid (HSa.out.below hb51)
      replace HSb := Lib.hid (HSb.out.below hb51)
      replace HSc := Lib.hid (HSc.out.below hb51)
      replace HS1 := Lib.hid (HS1.out.below hb51)
      replace HS12 := Lib.hid (HS12.out.below hb51)
      replace HB := Lib.hid (HB.out.trans (hb51.mono HB.out.size))
      have HS15 := Lib.hid hs15
      have HO15 := Lib.hid ho15
      have HX15 := Lib.hid hx15
      clear hb51 hs15 ho15 hx15
      go_wp2_with fail
      refine (cSame (r := true) _ HS12.out HS15.out (same_of HO12.out HO15.out fun x => by simp only [HX12.out, HX2.out, HX15.out, HX13.out, HX14.out]; cases has a x <;> cases has b x <;> cases has c x <;> rfl)).mono ?_
      rintro e w52 ⟨rfl, hb52⟩
      clear HS12 HS15
      replace HSa := Lib.hid (HSa.out.below hb52)
      replace HSb := Lib.hid (HSb.out.below hb52)
      replace HSc := Lib.hid (HSc.out.below hb52)
      replace HS1 := Lib.hid (HS1.out.below hb52)
      replace HB := Lib.hid (HB.out.trans (hb52.mono HB.out.size))
      clear hb52
      go_wp2_with fail
      refine (gOr _ HS1.out HSc.out HO1.out HOc.out).mono ?_
      rintro e w53 ⟨v16, D16, rfl, hs16, ho16, hx16, hb53⟩
      replace HSa := Lib.hid (HSa.out.below hb53)
      replace HSb := Lib.hid (HSb.out.below hb53)
      replace HSc := Lib.hid (HSc.out.below hb53)
      replace HS1 := Lib.hid (HS1.out.below hb53)
      replace HB := Lib.hid (HB.out.trans (hb53.mono HB.out.size))
      have HS16 := Lib.hid hs16
      have HO16 := Lib.hid ho16
      have HX16 := Lib.hid hx16
      clear hb53 hs16 ho16 hx16
      go_wp2_with fail
      refine (gOr _ HSa.out HSc.out HOa.out HOc.out).mono ?_
      rintro e w54 ⟨v17, D17, rfl, hs17, ho17, hx17, hb54⟩
      replace HSa := Lib.hid (HSa.out.below hb54)
      replace HSb := Lib.hid (HSb.out.below hb54)
      replace HSc := Lib.hid (HSc.out.below hb54)
      replace HS1 := Lib.hid (HS1.out.below hb54)
      replace HS16 := Lib.hid (HS16.out.below hb54)
      replace HB := Lib.hid (HB.out.trans (hb54.mono HB.out.size))
      have HS17 := Lib.hid hs17
      have HO17 := Lib.hid ho17
      have HX17 := Lib.hid hx17
      clear hb54 hs17 ho17 hx17
      go_wp2_with fail
      refine (gOr _ HSb.out HSc.out HOb.out HOc.out).mono ?_
      rintro e w55 ⟨v18, D18, rfl, hs18, ho18, hx18, hb55⟩
      clear HSc
      replace HSa := Lib.hid (HSa.out.below hb55)
      replace HSb := Lib.hid (HSb.out.below hb55)
      replace HS1 := Lib.hid (HS1.out.below hb55)
      replace HS16 := Lib.hid (HS16.out.below hb55)
      replace HS17 := Lib.hid (HS17.out.below hb55)
      replace HB := Lib.hid (HB.out.trans (hb55.mono HB.out.size))
      have HS18 := Lib.hid hs18
      have HO18 := Lib.hid ho18
      have HX18 := Lib.hid hx18
      clear hb55 hs18 ho18 hx18
      go_wp2_with fail
      refine (gAnd _ HS17.out HS18.out HO17.out HO18.out).mono ?_
      rintro e w56 ⟨v19, D19, rfl, hs19, ho19, hx19, hb56⟩
      clear HS17 HS18
      replace HSa := Lib.hid (HSa.out.below hb56)
      replace HSb := Lib.hid (HSb.out.below hb56)
      replace HS1 := Lib.hid (HS1.out.below hb56)
      replace HS16 := Lib.hid (HS16.out.below hb56)
      replace HB := Lib.hid (HB.out.trans (hb56.mono HB.out.size))
      have HS19 := Lib.hid hs19
      have HO19 := Lib.hid ho19
      have HX19 := Lib.hid hx19
      clear hb56 hs19 ho19 hx19
      go_wp2_with fail
      refine (cSame (r := true) _ HS16.out HS19.out (same_of HO16.out HO19.out fun x => by simp only [HX16.out, HX1.out, HX19.out, HX17.out, HX18.out]; cases has a x <;> cases has b x <;> cases has c x <;> rfl)).mono ?_
      rintro e w57 ⟨rfl, hb57⟩
      clear HS16 HS19
      replace HSa := Lib.hid (HSa.out.below hb57)
      replace HSb := Lib.hid (HSb.out.below hb57)
      replace HS1 := Lib.hid (HS1.out.below hb57)
      replace HB := Lib.hid (HB.out.trans (hb57.mono HB.out.size))
      clear hb57
      go_wp2_with fail
      refine (san11_calls _).mono ?_
      rintro e w58 ⟨rfl, hb58⟩
      replace HSa := Lib.hid (HSa.out.below hb58)
      replace HSb := Lib.hid (HSb.out.below hb58)
      replace HS1 := Lib.hid (HS1.out.below hb58)
      replace HB := Lib.hid (HB.out.trans (hb58.mono HB.out.size))
      clear hb58
      go_wp2_with fail
      refine (gMinus _ HSa.out HSb.out HOa.out HOb.out).mono ?_
      rintro e w59 ⟨v20, D20, rfl, hs20, ho20, hx20, hb59⟩
      clear HSb
      replace HSa := Lib.hid (HSa.out.below hb59)
      replace HS1 := Lib.hid (HS1.out.below hb59)
      replace HB := Lib.hid (HB.out.trans (hb59.mono HB.out.size))
      have HS20 := Lib.hid hs20
      have HO20 := Lib.hid ho20
      have HX20 := Lib.hid hx20
      clear hb59 hs20 ho20 hx20
      go_wp2_with fail
      refine (gMinus _ HSa.out HS20.out HOa.out HO20.out).mono ?_
      rintro e w60 ⟨v21, D21, rfl, hs21, ho21, hx21, hb60⟩
      clear HSa HS20
      replace HS1 := Lib.hid (HS1.out.below hb60)
      replace HB := Lib.hid (HB.out.trans (hb60.mono HB.out.size))
      have HS21 := Lib.hid hs21
      have HO21 := Lib.hid ho21
      have HX21 := Lib.hid hx21
      clear hb60 hs21 ho21 hx21
      go_wp2_with fail
      refine (cSame (r := true) _ HS21.out HS1.out (same_of HO21.out HO1.out fun x => by simp only [HX21.out, HX20.out, HX1.out]; cases has a x <;> cases has b x <;> cases has c x <;> rfl)).mono ?_
      rintro e w61 ⟨rfl, hb61⟩
      clear HS1 HS21
      replace HB := Lib.hid (HB.out.trans (hb61.mono HB.out.size))
      clear hb61
      go_wp2_with fail
      go_ret
      exact ⟨rfl, HB.out⟩
end Go.Proofs.Ytieipbobijnmlaa.bitsFollowAlgebra
