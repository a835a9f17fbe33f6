/- ProjectBoundsAsSpecified: its walk. -/
import Derived.Test.YtjhagfggelhpkaaDoorJl

namespace Go.Proofs.YtjhagfggelhpkaaDoor.projectBoundsAsSpecified

open Go.ChangeShapes Go.WideShapes Go.ChangeAt Go.RowKit

open Go.Proofs.YtjhagfggelhpkaaDoor.jq Go.Proofs.YtjhagfggelhpkaaDoor.vk Go.Proofs.YtjhagfggelhpkaaDoor.wk Go.Proofs.YtjhagfggelhpkaaDoor.jk

set_option linter.unusedVariables false
structure E (w0 : World) (A1 A2 A4 : Option Addr) (n1 c1 n2 c2 n4 c4 : Nat) (L : List (List Int)) (a : List R) (q : List Int) (w : World) : Prop where
  lines : IsVV w A1 n1 c1 L
  ra : IsR w A2 n2 c2 a
  q : wo.IsI w A4 n4 c4 q
  tab : hi.TabK w
  bel : Below w0.heap.size w0 w
theorem E.next {w0 : World} {A1 A2 A4 : Option Addr} {n1 c1 n2 c2 n4 c4 : Nat} {L : List (List Int)} {a : List R} {q : List Int} {w w' : World} (h : E w0 A1 A2 A4 n1 c1 n2 c2 n4 c4 L a q w) (hb : Below w.heap.size w w') : E w0 A1 A2 A4 n1 c1 n2 c2 n4 c4 L a q w' :=
  ⟨isVV_below h.lines hb, isR_below h.ra hb, isI_below h.q hb, tab_below h.tab hb, Below.andThen h.bel hb⟩
theorem E.drew {w0 : World} {A1 A2 A4 : Option Addr} {n1 c1 n2 c2 n4 c4 : Nat} {L : List (List Int)} {a : List R} {q : List Int} {w : World} (h : E w0 A1 A2 A4 n1 c1 n2 c2 n4 c4 L a q w) (q9 : Nat) : E w0 A1 A2 A4 n1 c1 n2 c2 n4 c4 L a q (w.drewN q9) :=
  ⟨h.lines, h.ra, h.q, h.tab, below_drewN h.bel q9⟩
set_option maxRecDepth 100000 in
set_option maxHeartbeats 8000000 in
theorem walk (w : World) (hT : hi.TabK w) {m : Int} {A1 A2 A4 : Option Addr} {n1 c1 n2 c2 n4 c4 : Nat} {L : List (List Int)} {a : List R} {q : List Int} (w0 : (Lit.int .i64 m).wf = true) (w1 : IsVV w A1 n1 c1 L) (w2 : IsR w A2 n2 c2 a) (w4 : wo.IsI w A4 n4 c4 q) :
    Calls Tryd.prog 5 #[.int .i64 m, .slice A1 n1 c1, .slice A2 n2 c2, .slice A4 n4 c4] w fun e w' => e = .returned (.bool true) ∧ Below w.heap.size w w' := by
  have HE : Hid (E w A1 A2 A4 n1 c1 n2 c2 n4 c4 L a q w) := ⟨w1, w2, w4, hT, Below.refl _ _⟩
  have HNL := Lib.hid w1.1
  have HNA := Lib.hid w2.1
  have HNQ := Lib.hid w4.1
  have hm4 := w4.2.2.1
  have hn4 := w4.2.1
  have hm1 := w1.2.2.1
  have hn1 := w1.2.1
  clear w0 w1 w2 w4 hT
  go_enter Tryd.func5, Tryd.ntmps5
  have HN := Lib.hid (rvalid_calls A4 n4 c4 q w HE.out.q)
  go_wp2_with fail
  refine HN.out.mono ?_
  rintro e w' ⟨rfl, hw⟩
  replace hw := hw.symm
  subst hw
  clear HN
  cases hvq : vq.valid q
  ·
    go_wp2_with fail
    refine (san7_calls _ HE.out.tab).mono ?_
    rintro e w' ⟨rfl, hb⟩
    have HBZ := Lib.hid (Below.andThen HE.out.bel hb)
    clear hb
    go_wp2_with fail
    go_ret
    exact ⟨rfl, HBZ.out⟩
  ·
    have HN := Lib.hid (refvalid_calls (n4 : Int) A1 n1 c1 L w HE.out.lines)
    go_wp2_with fail
    refine HN.out.mono ?_
    rintro e w' ⟨rfl, hw⟩
    replace hw := hw.symm
    subst hw
    clear HN
    cases hvl : validL L (n4 : Int)
    ·
      go_wp2_with fail
      refine (san7_calls _ HE.out.tab).mono ?_
      rintro e w' ⟨rfl, hb⟩
      have HBZ := Lib.hid (Below.andThen HE.out.bel hb)
      clear hb
      go_wp2_with fail
      go_ret
      exact ⟨rfl, HBZ.out⟩
    ·
      have HN := Lib.hid (ranges_calls (n1 : Int) w HE.out.ra)
      go_wp2_with fail
      refine HN.out.mono ?_
      rintro e w' ⟨rfl, q3, rfl⟩
      replace HE := Lib.hid (HE.out.drew q3)
      generalize (w.drewN q3) = v3 at *
      clear HN
      cases hva : ranges a (n1 : Int)
      ·
        go_wp2_with fail
        refine (san7_calls _ HE.out.tab).mono ?_
        rintro e w' ⟨rfl, hb⟩
        have HBZ := Lib.hid (Below.andThen HE.out.bel hb)
        clear hb
        go_wp2_with fail
        go_ret
        exact ⟨rfl, HBZ.out⟩
      ·
        have HN := Lib.hid (metric_calls m v3)
        go_wp2_with fail
        refine HN.out.mono ?_
        rintro e w' ⟨rfl, hw⟩
        replace hw := hw.symm
        subst hw
        clear HN
        cases hmet : decide (1 ≤ m ∧ m ≤ 3)
        ·
          go_wp2_with fail
          refine (san7_calls _ HE.out.tab).mono ?_
          rintro e w' ⟨rfl, hb⟩
          have HBZ := Lib.hid (Below.andThen HE.out.bel hb)
          clear hb
          go_wp2_with fail
          go_ret
          exact ⟨rfl, HBZ.out⟩
        ·
          obtain ⟨hla, hia, hor⟩ := in_ok hva
          have HOR := Lib.hid hor
          have HM3 := Lib.hid (metric3 hmet)
          have HQV := Lib.hid (vq.valid_iff.1 hvq)
          have HF : Hid (Fit L n4) := valid_iff.1 hvl
          have HIA := Lib.hid hia
          obtain rfl : n1 = n2 := by have := HNA.out; omega
          clear hvq hvl hva hmet hla hia hor
          go_wp2_with fail
          refine (san7_calls _ HE.out.tab).mono ?_
          rintro e u1 ⟨rfl, hb⟩
          replace HE := Lib.hid (HE.out.next hb)
          clear hb
          have HN := Lib.hid (bound_calls m HM3.out u1 ⟨HE.out.lines, HE.out.ra, HE.out.q, HF.out, HQV.out, in_rng HIA.out (by omega)⟩)
          go_wp2_with fail
          refine HN.out.mono ?_
          rintro e v5 ⟨rfl, hb⟩
          replace HE := Lib.hid (HE.out.next hb)
          clear hb
          clear HN
          have HN := Lib.hid (refbound_calls m HM3.out v5 ⟨HE.out.lines, HE.out.ra, HE.out.q, HF.out, HQV.out, in_rng HIA.out (by omega)⟩ HOR.out)
          go_wp2_with fail
          refine HN.out.mono ?_
          rintro e v6 ⟨rfl, hb⟩
          replace HE := Lib.hid (HE.out.next hb)
          clear hb
          clear HN
          go_wp2_with fail
          go_ret
          exact ⟨by simp, HE.out.bel⟩
end Go.Proofs.YtjhagfggelhpkaaDoor.projectBoundsAsSpecified
