/- BitsFollowLogic. -/
import Derived.Test.YtieipbobijnmlaaG12

namespace Go.Proofs.Ytieipbobijnmlaa.bitsFollowLogic

open Go.ChangeShapes Go.WideShapes Go.ChangeAt Go.RowKit

open Go.Proofs.Ytieipbobijnmlaa.tk Go.Proofs.Ytieipbobijnmlaa.tq Go.Proofs.Ytieipbobijnmlaa.vk Go.Proofs.Ytieipbobijnmlaa.wk

set_option linter.unusedVariables false
attribute [local go_sem] Oper.semAt_some
set_option maxRecDepth 100000 in
set_option maxHeartbeats 16000000 in
theorem walk (w : World) {A1 A2 : Option Addr} {n1 c1 n2 c2 : Nat} {a b : List Int} {k : Int} (w0 : wo.IsI w A1 n1 c1 a) (w1 : wo.IsI w A2 n2 c2 b) (w2 : (Lit.int .i64 k).wf = true) :
    Calls Try.prog 7 #[.slice A1 n1 c1, .slice A2 n2 c2, .int .i64 k] w fun e w' => e = .returned (.bool true) ∧ Below w.heap.size w w' := by
  have HA : Hid (SI a w (.slice A1 n1 c1)) := ⟨_, _, _, rfl, w0⟩
  have HB0 : Hid (SI b w (.slice A2 n2 c2)) := ⟨_, _, _, rfl, w1⟩
  have HB : Hid (Below w.heap.size w w) := Below.refl _ _
  clear w0 w1
  go_enter Try.func7, Try.ntmps7
  go_wp2_with fail
  refine (lvalid_calls _ HA.out HB0.out).mono ?_
  rintro e w1 ⟨rfl, hb1⟩
  replace HA := Lib.hid (HA.out.below hb1)
  replace HB0 := Lib.hid (HB0.out.below hb1)
  replace HB := Lib.hid (HB.out.trans (hb1.mono HB.out.size))
  clear hb1
  cases hv : (vs a && vs b) with
  | false =>
    clear hv
    go_wp2_with fail
    refine (san11_calls _).mono ?_
    rintro e w2 ⟨rfl, hb2⟩
    replace HB := Lib.hid (HB.out.trans (hb2.mono HB.out.size))
    clear hb2
    go_wp2_with fail
    go_ret
    exact ⟨rfl, HB.out⟩
  | true =>
    rw [Bool.and_eq_true] at hv
    have HOA := Lib.hid (vs_iff.1 hv.1)
    have HOB := Lib.hid (vs_iff.1 hv.2)
    clear hv
    go_wp2_with fail
    refine (gAnd _ HA.out HB0.out HOA.out HOB.out).mono ?_
    rintro e w21 ⟨v3, D3, rfl, hs3, ho3, hx3, hb21⟩
    replace HA := Lib.hid (HA.out.below hb21)
    replace HB0 := Lib.hid (HB0.out.below hb21)
    replace HB := Lib.hid (HB.out.trans (hb21.mono HB.out.size))
    have HS3 := Lib.hid hs3
    have HO3 := Lib.hid ho3
    have HX3 := Lib.hid hx3
    clear hb21 hs3 ho3 hx3
    go_wp2_with fail
    refine (gOr _ HA.out HB0.out HOA.out HOB.out).mono ?_
    rintro e w2 ⟨v4, D4, rfl, hs4, ho4, hx4, hb2⟩
    replace HA := Lib.hid (HA.out.below hb2)
    replace HB0 := Lib.hid (HB0.out.below hb2)
    replace HS3 := Lib.hid (HS3.out.below hb2)
    replace HB := Lib.hid (HB.out.trans (hb2.mono HB.out.size))
    have HS4 := Lib.hid hs4
    have HO4 := Lib.hid ho4
    have HX4 := Lib.hid hx4
    clear hb2 hs4 ho4 hx4
    go_wp2_with fail
    refine (gMinus _ HA.out HB0.out HOA.out HOB.out).mono ?_
    rintro e w3 ⟨v5, D5, rfl, hs5, ho5, hx5, hb3⟩
    replace HA := Lib.hid (HA.out.below hb3)
    replace HB0 := Lib.hid (HB0.out.below hb3)
    replace HS3 := Lib.hid (HS3.out.below hb3)
    replace HS4 := Lib.hid (HS4.out.below hb3)
    replace HB := Lib.hid (HB.out.trans (hb3.mono HB.out.size))
    have HS5 := Lib.hid hs5
    have HO5 := Lib.hid ho5
    have HX5 := Lib.hid hx5
    clear hb3 hs5 ho5 hx5
    go_wp2_with fail
    obtain ⟨ca, hca⟩ : ∃ r, N a = r := ⟨_, rfl⟩
    obtain ⟨cb, hcb⟩ : ∃ r, N b = r := ⟨_, rfl⟩
    obtain ⟨cn, hcn⟩ : ∃ r, N D3 = r := ⟨_, rfl⟩
    obtain ⟨co, hco⟩ : ∃ r, N D4 = r := ⟨_, rfl⟩
    obtain ⟨cm, hcm⟩ : ∃ r, N D5 = r := ⟨_, rfl⟩
    have h1 := N_or HOA.out HOB.out HO4.out HO3.out HX4.out HX3.out
    have h2 := N_minus HOA.out HO5.out HO3.out HX5.out HX3.out
    have ba := N_bd HOA.out
    have bb := N_bd HOB.out
    have bn := N_bd HO3.out
    have bo := N_bd HO4.out
    have bm := N_bd HO5.out
    rw [hca, hcb, hcn, hco] at h1
    rw [hca, hcn, hcm] at h2
    rw [hca] at ba
    rw [hcb] at bb
    rw [hcn] at bn
    rw [hco] at bo
    rw [hcm] at bm
    have HCA : Hid (((slots a).length : Int) = ca) := hca
    have HCB : Hid (((slots b).length : Int) = cb) := hcb
    have HC3 : Hid (((slots D3).length : Int) = cn) := hcn
    have HC4 : Hid (((slots D4).length : Int) = co) := hco
    have HC5 : Hid (((slots D5).length : Int) = cm) := hcm
    have hw1 : IntKind.i64.wrap (ca + cb) = ca + cb := by rw [IntKind.wrap_i64]; omega
    have hw2 : IntKind.i64.wrap (ca + cb - cn) = co := by rw [IntKind.wrap_i64]; omega
    have hw3 : IntKind.i64.wrap (cm + cn) = ca := by rw [IntKind.wrap_i64]; omega
    clear hca hcb hcn hco hcm h1 h2 ba bb bn bo bm
    cases hx : has a k with
    | false =>
      have HXA : Hid (has a k = false) := hx
      clear hx
      cases hy : has b k with
      | false =>
        have HXB : Hid (has b k = false) := hy
        clear hy
        refine (cHas k _ HA.out HOA.out HXA.out).mono ?_
        rintro e w11 ⟨rfl, hb11⟩
        replace HA := Lib.hid (HA.out.below hb11)
        replace HB0 := Lib.hid (HB0.out.below hb11)
        replace HS3 := Lib.hid (HS3.out.below hb11)
        replace HS4 := Lib.hid (HS4.out.below hb11)
        replace HS5 := Lib.hid (HS5.out.below hb11)
        replace HB := Lib.hid (HB.out.trans (hb11.mono HB.out.size))
        clear hb11
        go_wp2_with fail
        refine (cHas k _ HB0.out HOB.out HXB.out).mono ?_
        rintro e w12 ⟨rfl, hb12⟩
        replace HA := Lib.hid (HA.out.below hb12)
        replace HB0 := Lib.hid (HB0.out.below hb12)
        replace HS3 := Lib.hid (HS3.out.below hb12)
        replace HS4 := Lib.hid (HS4.out.below hb12)
        replace HS5 := Lib.hid (HS5.out.below hb12)
        replace HB := Lib.hid (HB.out.trans (hb12.mono HB.out.size))
        clear hb12
        go_wp2_with fail
        refine (cHas k _ HS3.out HO3.out (show has D3 k = false by rw [HX3.out, HXA.out, HXB.out]; rfl)).mono ?_
        rintro e w13 ⟨rfl, hb13⟩
        replace HA := Lib.hid (HA.out.below hb13)
        replace HB0 := Lib.hid (HB0.out.below hb13)
        replace HS3 := Lib.hid (HS3.out.below hb13)
        replace HS4 := Lib.hid (HS4.out.below hb13)
        replace HS5 := Lib.hid (HS5.out.below hb13)
        replace HB := Lib.hid (HB.out.trans (hb13.mono HB.out.size))
        clear hb13
        go_wp2_with fail
        refine (cHas k _ HS4.out HO4.out (show has D4 k = false by rw [HX4.out, HXA.out, HXB.out]; rfl)).mono ?_
        rintro e w14 ⟨rfl, hb14⟩
        replace HA := Lib.hid (HA.out.below hb14)
        replace HB0 := Lib.hid (HB0.out.below hb14)
        replace HS3 := Lib.hid (HS3.out.below hb14)
        replace HS4 := Lib.hid (HS4.out.below hb14)
        replace HS5 := Lib.hid (HS5.out.below hb14)
        replace HB := Lib.hid (HB.out.trans (hb14.mono HB.out.size))
        clear hb14
        go_wp2_with fail
        refine (cHas k _ HS5.out HO5.out (show has D5 k = false by rw [HX5.out, HXA.out, HXB.out]; rfl)).mono ?_
        rintro e w15 ⟨rfl, hb15⟩
        replace HA := Lib.hid (HA.out.below hb15)
        replace HB0 := Lib.hid (HB0.out.below hb15)
        replace HS3 := Lib.hid (HS3.out.below hb15)
        replace HS4 := Lib.hid (HS4.out.below hb15)
        replace HS5 := Lib.hid (HS5.out.below hb15)
        replace HB := Lib.hid (HB.out.trans (hb15.mono HB.out.size))
        clear hb15
        go_wp2_with fail
        refine (san11_calls _).mono ?_
        rintro e w16 ⟨rfl, hb16⟩
        replace HA := Lib.hid (HA.out.below hb16)
        replace HB0 := Lib.hid (HB0.out.below hb16)
        replace HS3 := Lib.hid (HS3.out.below hb16)
        replace HS4 := Lib.hid (HS4.out.below hb16)
        replace HS5 := Lib.hid (HS5.out.below hb16)
        replace HB := Lib.hid (HB.out.trans (hb16.mono HB.out.size))
        clear hb16
        go_wp2_with fail
        refine (cCount _ HS4.out HO4.out HC4.out).mono ?_
        rintro e w17 ⟨rfl, hb17⟩
        replace HA := Lib.hid (HA.out.below hb17)
        replace HB0 := Lib.hid (HB0.out.below hb17)
        replace HS3 := Lib.hid (HS3.out.below hb17)
        replace HS4 := Lib.hid (HS4.out.below hb17)
        replace HS5 := Lib.hid (HS5.out.below hb17)
        replace HB := Lib.hid (HB.out.trans (hb17.mono HB.out.size))
        clear hb17
        go_wp2_with fail
        refine (cCount _ HA.out HOA.out HCA.out).mono ?_
        rintro e w18 ⟨rfl, hb18⟩
        replace HA := Lib.hid (HA.out.below hb18)
        replace HB0 := Lib.hid (HB0.out.below hb18)
        replace HS3 := Lib.hid (HS3.out.below hb18)
        replace HS4 := Lib.hid (HS4.out.below hb18)
        replace HS5 := Lib.hid (HS5.out.below hb18)
        replace HB := Lib.hid (HB.out.trans (hb18.mono HB.out.size))
        clear hb18
        go_wp2_with fail
        refine (cCount _ HB0.out HOB.out HCB.out).mono ?_
        rintro e w19 ⟨rfl, hb19⟩
        replace HA := Lib.hid (HA.out.below hb19)
        replace HB0 := Lib.hid (HB0.out.below hb19)
        replace HS3 := Lib.hid (HS3.out.below hb19)
        replace HS4 := Lib.hid (HS4.out.below hb19)
        replace HS5 := Lib.hid (HS5.out.below hb19)
        replace HB := Lib.hid (HB.out.trans (hb19.mono HB.out.size))
        clear hb19
        go_wp2_with fail
        refine (cCount _ HS3.out HO3.out HC3.out).mono ?_
        rintro e w20 ⟨rfl, hb20⟩
        replace HA := Lib.hid (HA.out.below hb20)
        replace HB0 := Lib.hid (HB0.out.below hb20)
        replace HS3 := Lib.hid (HS3.out.below hb20)
        replace HS4 := Lib.hid (HS4.out.below hb20)
        replace HS5 := Lib.hid (HS5.out.below hb20)
        replace HB := Lib.hid (HB.out.trans (hb20.mono HB.out.size))
        clear hb20
        go_wp2_with fail
        refine (cCount _ HS5.out HO5.out HC5.out).mono ?_
        rintro e w21 ⟨rfl, hb21⟩
        replace HA := Lib.hid (HA.out.below hb21)
        replace HB0 := Lib.hid (HB0.out.below hb21)
        replace HS3 := Lib.hid (HS3.out.below hb21)
        replace HS4 := Lib.hid (HS4.out.below hb21)
        replace HS5 := Lib.hid (HS5.out.below hb21)
        replace HB := Lib.hid (HB.out.trans (hb21.mono HB.out.size))
        clear hb21
        go_wp2_with fail
        refine (cCount _ HS3.out HO3.out HC3.out).mono ?_
        rintro e w22 ⟨rfl, hb22⟩
        replace HA := Lib.hid (HA.out.below hb22)
        replace HB0 := Lib.hid (HB0.out.below hb22)
        replace HS3 := Lib.hid (HS3.out.below hb22)
        replace HS4 := Lib.hid (HS4.out.below hb22)
        replace HS5 := Lib.hid (HS5.out.below hb22)
        replace HB := Lib.hid (HB.out.trans (hb22.mono HB.out.size))
        clear hb22
        go_wp2_with fail
        refine (cCount _ HA.out HOA.out HCA.out).mono ?_
        rintro e w23 ⟨rfl, hb23⟩
        replace HA := Lib.hid (HA.out.below hb23)
        replace HB0 := Lib.hid (HB0.out.below hb23)
        replace HS3 := Lib.hid (HS3.out.below hb23)
        replace HS4 := Lib.hid (HS4.out.below hb23)
        replace HS5 := Lib.hid (HS5.out.below hb23)
        replace HB := Lib.hid (HB.out.trans (hb23.mono HB.out.size))
        clear hb23
        go_wp2_with fail
        go_ret
        exact ⟨rfl, HB.out⟩
      | true =>
        have HXB : Hid (has b k = true) := hy
        clear hy
        refine (cHas k _ HA.out HOA.out HXA.out).mono ?_
        rintro e w11 ⟨rfl, hb11⟩
        replace HA := Lib.hid (HA.out.below hb11)
        replace HB0 := Lib.hid (HB0.out.below hb11)
        replace HS3 := Lib.hid (HS3.out.below hb11)
        replace HS4 := Lib.hid (HS4.out.below hb11)
        replace HS5 := Lib.hid (HS5.out.below hb11)
        replace HB := Lib.hid (HB.out.trans (hb11.mono HB.out.size))
        clear hb11
        go_wp2_with fail
        refine (cHas k _ HB0.out HOB.out HXB.out).mono ?_
        rintro e w12 ⟨rfl, hb12⟩
        replace HA := Lib.hid (HA.out.below hb12)
        replace HB0 := Lib.hid (HB0.out.below hb12)
        replace HS3 := Lib.hid (HS3.out.below hb12)
        replace HS4 := Lib.hid (HS4.out.below hb12)
        replace HS5 := Lib.hid (HS5.out.below hb12)
        replace HB := Lib.hid (HB.out.trans (hb12.mono HB.out.size))
        clear hb12
        go_wp2_with fail
        refine (cHas k _ HS3.out HO3.out (show has D3 k = false by rw [HX3.out, HXA.out, HXB.out]; rfl)).mono ?_
        rintro e w13 ⟨rfl, hb13⟩
        replace HA := Lib.hid (HA.out.below hb13)
        replace HB0 := Lib.hid (HB0.out.below hb13)
        replace HS3 := Lib.hid (HS3.out.below hb13)
        replace HS4 := Lib.hid (HS4.out.below hb13)
        replace HS5 := Lib.hid (HS5.out.below hb13)
        replace HB := Lib.hid (HB.out.trans (hb13.mono HB.out.size))
        clear hb13
        go_wp2_with fail
        refine (cHas k _ HS4.out HO4.out (show has D4 k = true by rw [HX4.out, HXA.out, HXB.out]; rfl)).mono ?_
        rintro e w14 ⟨rfl, hb14⟩
        replace HA := Lib.hid (HA.out.below hb14)
        replace HB0 := Lib.hid (HB0.out.below hb14)
        replace HS3 := Lib.hid (HS3.out.below hb14)
        replace HS4 := Lib.hid (HS4.out.below hb14)
        replace HS5 := Lib.hid (HS5.out.below hb14)
        replace HB := Lib.hid (HB.out.trans (hb14.mono HB.out.size))
        clear hb14
        go_wp2_with fail
        refine (cHas k _ HS5.out HO5.out (show has D5 k = false by rw [HX5.out, HXA.out, HXB.out]; rfl)).mono ?_
        rintro e w15 ⟨rfl, hb15⟩
        replace HA := Lib.hid (HA.out.below hb15)
        replace HB0 := Lib.hid (HB0.out.below hb15)
        replace HS3 := Lib.hid (HS3.out.below hb15)
        replace HS4 := Lib.hid (HS4.out.below hb15)
        replace HS5 := Lib.hid (HS5.out.below hb15)
        replace HB := Lib.hid (HB.out.trans (hb15.mono HB.out.size))
        clear hb15
        go_wp2_with fail
        refine (san11_calls _).mono ?_
        rintro e w16 ⟨rfl, hb16⟩
        replace HA := Lib.hid (HA.out.below hb16)
        replace HB0 := Lib.hid (HB0.out.below hb16)
        replace HS3 := Lib.hid (HS3.out.below hb16)
        replace HS4 := Lib.hid (HS4.out.below hb16)
        replace HS5 := Lib.hid (HS5.out.below hb16)
        replace HB := Lib.hid (HB.out.trans (hb16.mono HB.out.size))
        clear hb16
        go_wp2_with fail
        refine (cCount _ HS4.out HO4.out HC4.out).mono ?_
        rintro e w17 ⟨rfl, hb17⟩
        replace HA := Lib.hid (HA.out.below hb17)
        replace HB0 := Lib.hid (HB0.out.below hb17)
        replace HS3 := Lib.hid (HS3.out.below hb17)
        replace HS4 := Lib.hid (HS4.out.below hb17)
        replace HS5 := Lib.hid (HS5.out.below hb17)
        replace HB := Lib.hid (HB.out.trans (hb17.mono HB.out.size))
        clear hb17
        go_wp2_with fail
        refine (cCount _ HA.out HOA.out HCA.out).mono ?_
        rintro e w18 ⟨rfl, hb18⟩
        replace HA := Lib.hid (HA.out.below hb18)
        replace HB0 := Lib.hid (HB0.out.below hb18)
        replace HS3 := Lib.hid (HS3.out.below hb18)
        replace HS4 := Lib.hid (HS4.out.below hb18)
        replace HS5 := Lib.hid (HS5.out.below hb18)
        replace HB := Lib.hid (HB.out.trans (hb18.mono HB.out.size))
        clear hb18
        go_wp2_with fail
        refine (cCount _ HB0.out HOB.out HCB.out).mono ?_
        rintro e w19 ⟨rfl, hb19⟩
        replace HA := Lib.hid (HA.out.below hb19)
        replace HB0 := Lib.hid (HB0.out.below hb19)
        replace HS3 := Lib.hid (HS3.out.below hb19)
        replace HS4 := Lib.hid (HS4.out.below hb19)
        replace HS5 := Lib.hid (HS5.out.below hb19)
        replace HB := Lib.hid (HB.out.trans (hb19.mono HB.out.size))
        clear hb19
        go_wp2_with fail
        refine (cCount _ HS3.out HO3.out HC3.out).mono ?_
        rintro e w20 ⟨rfl, hb20⟩
        replace HA := Lib.hid (HA.out.below hb20)
        replace HB0 := Lib.hid (HB0.out.below hb20)
        replace HS3 := Lib.hid (HS3.out.below hb20)
        replace HS4 := Lib.hid (HS4.out.below hb20)
        replace HS5 := Lib.hid (HS5.out.below hb20)
        replace HB := Lib.hid (HB.out.trans (hb20.mono HB.out.size))
        clear hb20
        go_wp2_with fail
        refine (cCount _ HS5.out HO5.out HC5.out).mono ?_
        rintro e w21 ⟨rfl, hb21⟩
        replace HA := Lib.hid (HA.out.below hb21)
        replace HB0 := Lib.hid (HB0.out.below hb21)
        replace HS3 := Lib.hid (HS3.out.below hb21)
        replace HS4 := Lib.hid (HS4.out.below hb21)
        replace HS5 := Lib.hid (HS5.out.below hb21)
        replace HB := Lib.hid (HB.out.trans (hb21.mono HB.out.size))
        clear hb21
        go_wp2_with fail
        refine (cCount _ HS3.out HO3.out HC3.out).mono ?_
        rintro e w22 ⟨rfl, hb22⟩
        replace HA := Lib.hid (HA.out.below hb22)
        replace HB0 := Lib.hid (HB0.out.below hb22)
        replace HS3 := Lib.hid (HS3.out.below hb22)
        replace HS4 := Lib.hid (HS4.out.below hb22)
        replace HS5 := Lib.hid (HS5.out.below hb22)
        replace HB := Lib.hid (HB.out.trans (hb22.mono HB.out.size))
        clear hb22
        go_wp2_with fail
        refine (cCount _ HA.out HOA.out HCA.out).mono ?_
        rintro e w23 ⟨rfl, hb23⟩
        replace HA := Lib.hid (HA.out.below hb23)
        replace HB0 := Lib.hid (HB0.out.below hb23)
        replace HS3 := Lib.hid (HS3.out.below hb23)
        replace HS4 := Lib.hid (HS4.out.below hb23)
        replace HS5 := Lib.hid (HS5.out.below hb23)
        replace HB := Lib.hid (HB.out.trans (hb23.mono HB.out.size))
        clear hb23
        go_wp2_with fail
        go_ret
        exact ⟨rfl, HB.out⟩
    | true =>
      have HXA : Hid (has a k = true) := hx
      clear hx
      cases hy : has b k with
      | false =>
        have HXB : Hid (has b k = false) := hy
        clear hy
        refine (cHas k _ HA.out HOA.out HXA.out).mono ?_
        rintro e w11 ⟨rfl, hb11⟩
        replace HA := Lib.hid (HA.out.below hb11)
        replace HB0 := Lib.hid (HB0.out.below hb11)
        replace HS3 := Lib.hid (HS3.out.below hb11)
        replace HS4 := Lib.hid (HS4.out.below hb11)
        replace HS5 := Lib.hid (HS5.out.below hb11)
        replace HB := Lib.hid (HB.out.trans (hb11.mono HB.out.size))
        clear hb11
        go_wp2_with fail
        refine (cHas k _ HB0.out HOB.out HXB.out).mono ?_
        rintro e w12 ⟨rfl, hb12⟩
        replace HA := Lib.hid (HA.out.below hb12)
        replace HB0 := Lib.hid (HB0.out.below hb12)
        replace HS3 := Lib.hid (HS3.out.below hb12)
        replace HS4 := Lib.hid (HS4.out.below hb12)
        replace HS5 := Lib.hid (HS5.out.below hb12)
        replace HB := Lib.hid (HB.out.trans (hb12.mono HB.out.size))
        clear hb12
        go_wp2_with fail
        refine (cHas k _ HS3.out HO3.out (show has D3 k = false by rw [HX3.out, HXA.out, HXB.out]; rfl)).mono ?_
        rintro e w13 ⟨rfl, hb13⟩
        replace HA := Lib.hid (HA.out.below hb13)
        replace HB0 := Lib.hid (HB0.out.below hb13)
        replace HS3 := Lib.hid (HS3.out.below hb13)
        replace HS4 := Lib.hid (HS4.out.below hb13)
        replace HS5 := Lib.hid (HS5.out.below hb13)
        replace HB := Lib.hid (HB.out.trans (hb13.mono HB.out.size))
        clear hb13
        go_wp2_with fail
        refine (cHas k _ HS4.out HO4.out (show has D4 k = true by rw [HX4.out, HXA.out, HXB.out]; rfl)).mono ?_
        rintro e w14 ⟨rfl, hb14⟩
        replace HA := Lib.hid (HA.out.below hb14)
        replace HB0 := Lib.hid (HB0.out.below hb14)
        replace HS3 := Lib.hid (HS3.out.below hb14)
        replace HS4 := Lib.hid (HS4.out.below hb14)
        replace HS5 := Lib.hid (HS5.out.below hb14)
        replace HB := Lib.hid (HB.out.trans (hb14.mono HB.out.size))
        clear hb14
        go_wp2_with fail
        refine (cHas k _ HS5.out HO5.out (show has D5 k = true by rw [HX5.out, HXA.out, HXB.out]; rfl)).mono ?_
        rintro e w15 ⟨rfl, hb15⟩
        replace HA := Lib.hid (HA.out.below hb15)
        replace HB0 := Lib.hid (HB0.out.below hb15)
        replace HS3 := Lib.hid (HS3.out.below hb15)
        replace HS4 := Lib.hid (HS4.out.below hb15)
        replace HS5 := Lib.hid (HS5.out.below hb15)
        replace HB := Lib.hid (HB.out.trans (hb15.mono HB.out.size))
        clear hb15
        go_wp2_with fail
        refine (san11_calls _).mono ?_
        rintro e w16 ⟨rfl, hb16⟩
        replace HA := Lib.hid (HA.out.below hb16)
        replace HB0 := Lib.hid (HB0.out.below hb16)
        replace HS3 := Lib.hid (HS3.out.below hb16)
        replace HS4 := Lib.hid (HS4.out.below hb16)
        replace HS5 := Lib.hid (HS5.out.below hb16)
        replace HB := Lib.hid (HB.out.trans (hb16.mono HB.out.size))
        clear hb16
        go_wp2_with fail
        refine (cCount _ HS4.out HO4.out HC4.out).mono ?_
        rintro e w17 ⟨rfl, hb17⟩
        replace HA := Lib.hid (HA.out.below hb17)
        replace HB0 := Lib.hid (HB0.out.below hb17)
        replace HS3 := Lib.hid (HS3.out.below hb17)
        replace HS4 := Lib.hid (HS4.out.below hb17)
        replace HS5 := Lib.hid (HS5.out.below hb17)
        replace HB := Lib.hid (HB.out.trans (hb17.mono HB.out.size))
        clear hb17
        go_wp2_with fail
        refine (cCount _ HA.out HOA.out HCA.out).mono ?_
        rintro e w18 ⟨rfl, hb18⟩
        replace HA := Lib.hid (HA.out.below hb18)
        replace HB0 := Lib.hid (HB0.out.below hb18)
        replace HS3 := Lib.hid (HS3.out.below hb18)
        replace HS4 := Lib.hid (HS4.out.below hb18)
        replace HS5 := Lib.hid (HS5.out.below hb18)
        replace HB := Lib.hid (HB.out.trans (hb18.mono HB.out.size))
        clear hb18
        go_wp2_with fail
        refine (cCount _ HB0.out HOB.out HCB.out).mono ?_
        rintro e w19 ⟨rfl, hb19⟩
        replace HA := Lib.hid (HA.out.below hb19)
        replace HB0 := Lib.hid (HB0.out.below hb19)
        replace HS3 := Lib.hid (HS3.out.below hb19)
        replace HS4 := Lib.hid (HS4.out.below hb19)
        replace HS5 := Lib.hid (HS5.out.below hb19)
        replace HB := Lib.hid (HB.out.trans (hb19.mono HB.out.size))
        clear hb19
        go_wp2_with fail
        refine (cCount _ HS3.out HO3.out HC3.out).mono ?_
        rintro e w20 ⟨rfl, hb20⟩
        replace HA := Lib.hid (HA.out.below hb20)
        replace HB0 := Lib.hid (HB0.out.below hb20)
        replace HS3 := Lib.hid (HS3.out.below hb20)
        replace HS4 := Lib.hid (HS4.out.below hb20)
        replace HS5 := Lib.hid (HS5.out.below hb20)
        replace HB := Lib.hid (HB.out.trans (hb20.mono HB.out.size))
        clear hb20
        go_wp2_with fail
        refine (cCount _ HS5.out HO5.out HC5.out).mono ?_
        rintro e w21 ⟨rfl, hb21⟩
        replace HA := Lib.hid (HA.out.below hb21)
        replace HB0 := Lib.hid (HB0.out.below hb21)
        replace HS3 := Lib.hid (HS3.out.below hb21)
        replace HS4 := Lib.hid (HS4.out.below hb21)
        replace HS5 := Lib.hid (HS5.out.below hb21)
        replace HB := Lib.hid (HB.out.trans (hb21.mono HB.out.size))
        clear hb21
        go_wp2_with fail
        refine (cCount _ HS3.out HO3.out HC3.out).mono ?_
        rintro e w22 ⟨rfl, hb22⟩
        replace HA := Lib.hid (HA.out.below hb22)
        replace HB0 := Lib.hid (HB0.out.below hb22)
        replace HS3 := Lib.hid (HS3.out.below hb22)
        replace HS4 := Lib.hid (HS4.out.below hb22)
        replace HS5 := Lib.hid (HS5.out.below hb22)
        replace HB := Lib.hid (HB.out.trans (hb22.mono HB.out.size))
        clear hb22
        go_wp2_with fail
        refine (cCount _ HA.out HOA.out HCA.out).mono ?_
        rintro e w23 ⟨rfl, hb23⟩
        replace HA := Lib.hid (HA.out.below hb23)
        replace HB0 := Lib.hid (HB0.out.below hb23)
        replace HS3 := Lib.hid (HS3.out.below hb23)
        replace HS4 := Lib.hid (HS4.out.below hb23)
        replace HS5 := Lib.hid (HS5.out.below hb23)
        replace HB := Lib.hid (HB.out.trans (hb23.mono HB.out.size))
        clear hb23
        go_wp2_with fail
        go_ret
        exact ⟨rfl, HB.out⟩
      | true =>
        have HXB : Hid (has b k = true) := hy
        clear hy
        refine (cHas k _ HA.out HOA.out HXA.out).mono ?_
        rintro e w11 ⟨rfl, hb11⟩
        replace HA := Lib.hid (HA.out.below hb11)
        replace HB0 := Lib.hid (HB0.out.below hb11)
        replace HS3 := Lib.hid (HS3.out.below hb11)
        replace HS4 := Lib.hid (HS4.out.below hb11)
        replace HS5 := Lib.hid (HS5.out.below hb11)
        replace HB := Lib.hid (HB.out.trans (hb11.mono HB.out.size))
        clear hb11
        go_wp2_with fail
        refine (cHas k _ HB0.out HOB.out HXB.out).mono ?_
        rintro e w12 ⟨rfl, hb12⟩
        replace HA := Lib.hid (HA.out.below hb12)
        replace HB0 := Lib.hid (HB0.out.below hb12)
        replace HS3 := Lib.hid (HS3.out.below hb12)
        replace HS4 := Lib.hid (HS4.out.below hb12)
        replace HS5 := Lib.hid (HS5.out.below hb12)
        replace HB := Lib.hid (HB.out.trans (hb12.mono HB.out.size))
        clear hb12
        go_wp2_with fail
        refine (cHas k _ HS3.out HO3.out (show has D3 k = true by rw [HX3.out, HXA.out, HXB.out]; rfl)).mono ?_
        rintro e w13 ⟨rfl, hb13⟩
        replace HA := Lib.hid (HA.out.below hb13)
        replace HB0 := Lib.hid (HB0.out.below hb13)
        replace HS3 := Lib.hid (HS3.out.below hb13)
        replace HS4 := Lib.hid (HS4.out.below hb13)
        replace HS5 := Lib.hid (HS5.out.below hb13)
        replace HB := Lib.hid (HB.out.trans (hb13.mono HB.out.size))
        clear hb13
        go_wp2_with fail
        refine (cHas k _ HS4.out HO4.out (show has D4 k = true by rw [HX4.out, HXA.out, HXB.out]; rfl)).mono ?_
        rintro e w14 ⟨rfl, hb14⟩
        replace HA := Lib.hid (HA.out.below hb14)
        replace HB0 := Lib.hid (HB0.out.below hb14)
        replace HS3 := Lib.hid (HS3.out.below hb14)
        replace HS4 := Lib.hid (HS4.out.below hb14)
        replace HS5 := Lib.hid (HS5.out.below hb14)
        replace HB := Lib.hid (HB.out.trans (hb14.mono HB.out.size))
        clear hb14
        go_wp2_with fail
        refine (cHas k _ HS5.out HO5.out (show has D5 k = false by rw [HX5.out, HXA.out, HXB.out]; rfl)).mono ?_
        rintro e w15 ⟨rfl, hb15⟩
        replace HA := Lib.hid (HA.out.below hb15)
        replace HB0 := Lib.hid (HB0.out.below hb15)
        replace HS3 := Lib.hid (HS3.out.below hb15)
        replace HS4 := Lib.hid (HS4.out.below hb15)
        replace HS5 := Lib.hid (HS5.out.below hb15)
        replace HB := Lib.hid (HB.out.trans (hb15.mono HB.out.size))
        clear hb15
        go_wp2_with fail
        refine (san11_calls _).mono ?_
        rintro e w16 ⟨rfl, hb16⟩
        replace HA := Lib.hid (HA.out.below hb16)
        replace HB0 := Lib.hid (HB0.out.below hb16)
        replace HS3 := Lib.hid (HS3.out.below hb16)
        replace HS4 := Lib.hid (HS4.out.below hb16)
        replace HS5 := Lib.hid (HS5.out.below hb16)
        replace HB := Lib.hid (HB.out.trans (hb16.mono HB.out.size))
        clear hb16
        go_wp2_with fail
        refine (cCount _ HS4.out HO4.out HC4.out).mono ?_
        rintro e w17 ⟨rfl, hb17⟩
        replace HA := Lib.hid (HA.out.below hb17)
        replace HB0 := Lib.hid (HB0.out.below hb17)
        replace HS3 := Lib.hid (HS3.out.below hb17)
        replace HS4 := Lib.hid (HS4.out.below hb17)
        replace HS5 := Lib.hid (HS5.out.below hb17)
        replace HB := Lib.hid (HB.out.trans (hb17.mono HB.out.size))
        clear hb17
        go_wp2_with fail
        refine (cCount _ HA.out HOA.out HCA.out).mono ?_
        rintro e w18 ⟨rfl, hb18⟩
        replace HA := Lib.hid (HA.out.below hb18)
        replace HB0 := Lib.hid (HB0.out.below hb18)
        replace HS3 := Lib.hid (HS3.out.below hb18)
        replace HS4 := Lib.hid (HS4.out.below hb18)
        replace HS5 := Lib.hid (HS5.out.below hb18)
        replace HB := Lib.hid (HB.out.trans (hb18.mono HB.out.size))
        clear hb18
        go_wp2_with fail
        refine (cCount _ HB0.out HOB.out HCB.out).mono ?_
        rintro e w19 ⟨rfl, hb19⟩
        replace HA := Lib.hid (HA.out.below hb19)
        replace HB0 := Lib.hid (HB0.out.below hb19)
        replace HS3 := Lib.hid (HS3.out.below hb19)
        replace HS4 := Lib.hid (HS4.out.below hb19)
        replace HS5 := Lib.hid (HS5.out.below hb19)
        replace HB := Lib.hid (HB.out.trans (hb19.mono HB.out.size))
        clear hb19
        go_wp2_with fail
        refine (cCount _ HS3.out HO3.out HC3.out).mono ?_
        rintro e w20 ⟨rfl, hb20⟩
        replace HA := Lib.hid (HA.out.below hb20)
        replace HB0 := Lib.hid (HB0.out.below hb20)
        replace HS3 := Lib.hid (HS3.out.below hb20)
        replace HS4 := Lib.hid (HS4.out.below hb20)
        replace HS5 := Lib.hid (HS5.out.below hb20)
        replace HB := Lib.hid (HB.out.trans (hb20.mono HB.out.size))
        clear hb20
        go_wp2_with fail
        refine (cCount _ HS5.out HO5.out HC5.out).mono ?_
        rintro e w21 ⟨rfl, hb21⟩
        replace HA := Lib.hid (HA.out.below hb21)
        replace HB0 := Lib.hid (HB0.out.below hb21)
        replace HS3 := Lib.hid (HS3.out.below hb21)
        replace HS4 := Lib.hid (HS4.out.below hb21)
        replace HS5 := Lib.hid (HS5.out.below hb21)
        replace HB := Lib.hid (HB.out.trans (hb21.mono HB.out.size))
        clear hb21
        go_wp2_with fail
        refine (cCount _ HS3.out HO3.out HC3.out).mono ?_
        rintro e w22 ⟨rfl, hb22⟩
        replace HA := Lib.hid (HA.out.below hb22)
        replace HB0 := Lib.hid (HB0.out.below hb22)
        replace HS3 := Lib.hid (HS3.out.below hb22)
        replace HS4 := Lib.hid (HS4.out.below hb22)
        replace HS5 := Lib.hid (HS5.out.below hb22)
        replace HB := Lib.hid (HB.out.trans (hb22.mono HB.out.size))
        clear hb22
        go_wp2_with fail
        refine (cCount _ HA.out HOA.out HCA.out).mono ?_
        rintro e w23 ⟨rfl, hb23⟩
        replace HA := Lib.hid (HA.out.below hb23)
        replace HB0 := Lib.hid (HB0.out.below hb23)
        replace HS3 := Lib.hid (HS3.out.below hb23)
        replace HS4 := Lib.hid (HS4.out.below hb23)
        replace HS5 := Lib.hid (HS5.out.below hb23)
        replace HB := Lib.hid (HB.out.trans (hb23.mono HB.out.size))
        clear hb23
        go_wp2_with fail
        go_ret
        exact ⟨rfl, HB.out⟩
end Go.Proofs.Ytieipbobijnmlaa.bitsFollowLogic
