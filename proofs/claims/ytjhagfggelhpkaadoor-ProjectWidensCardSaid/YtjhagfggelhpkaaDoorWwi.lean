/- ProjectWidens: its walk. -/
import Derived.Test.YtjhagfggelhpkaaDoorG10

namespace Go.Proofs.YtjhagfggelhpkaaDoor.projectWidens

open Go.ChangeShapes Go.WideShapes Go.ChangeAt Go.RowKit

open Go.Proofs.YtjhagfggelhpkaaDoor.jq Go.Proofs.YtjhagfggelhpkaaDoor.vk Go.Proofs.YtjhagfggelhpkaaDoor.wk Go.Proofs.YtjhagfggelhpkaaDoor.jk

set_option linter.unusedVariables false
structure E (w0 : World) (A1 A2 A3 A4 : Option Addr) (n1 c1 n2 c2 n3 c3 n4 c4 : Nat) (L : List (List Int)) (a b : List R) (q : List Int) (w : World) : Prop where
  lines : IsVV w A1 n1 c1 L
  ra : IsR w A2 n2 c2 a
  rb : IsR w A3 n3 c3 b
  q : wo.IsI w A4 n4 c4 q
  tab : hi.TabK w
  bel : Below w0.heap.size w0 w
theorem E.next {w0 : World} {A1 A2 A3 A4 : Option Addr} {n1 c1 n2 c2 n3 c3 n4 c4 : Nat} {L : List (List Int)} {a b : List R} {q : List Int} {w w' : World} (h : E w0 A1 A2 A3 A4 n1 c1 n2 c2 n3 c3 n4 c4 L a b q w) (hb : Below w.heap.size w w') : E w0 A1 A2 A3 A4 n1 c1 n2 c2 n3 c3 n4 c4 L a b q w' :=
  ⟨isVV_below h.lines hb, isR_below h.ra hb, isR_below h.rb hb, isI_below h.q hb, tab_below h.tab hb, Below.andThen h.bel hb⟩
theorem E.drew {w0 : World} {A1 A2 A3 A4 : Option Addr} {n1 c1 n2 c2 n3 c3 n4 c4 : Nat} {L : List (List Int)} {a b : List R} {q : List Int} {w : World} (h : E w0 A1 A2 A3 A4 n1 c1 n2 c2 n3 c3 n4 c4 L a b q w) (q9 : Nat) : E w0 A1 A2 A3 A4 n1 c1 n2 c2 n3 c3 n4 c4 L a b q (w.drewN q9) :=
  ⟨h.lines, h.ra, h.rb, h.q, h.tab, below_drewN h.bel q9⟩
set_option maxRecDepth 100000 in
set_option maxHeartbeats 8000000 in
theorem walk (w : World) (hT : hi.TabK w) {m : Int} {A1 A2 A3 A4 : Option Addr} {n1 c1 n2 c2 n3 c3 n4 c4 : Nat} {L : List (List Int)} {a b : List R} {q : List Int} (w0 : (Lit.int .i64 m).wf = true) (w1 : IsVV w A1 n1 c1 L) (w2 : IsR w A2 n2 c2 a) (w3 : IsR w A3 n3 c3 b) (w4 : wo.IsI w A4 n4 c4 q) :
    Calls Tryd.prog 7 #[.int .i64 m, .slice A1 n1 c1, .slice A2 n2 c2, .slice A3 n3 c3, .slice A4 n4 c4] w fun e w' => e = .returned (.bool true) ∧ Below w.heap.size w w' := by
  have HE : Hid (E w A1 A2 A3 A4 n1 c1 n2 c2 n3 c3 n4 c4 L a b q w) := ⟨w1, w2, w3, w4, hT, Below.refl _ _⟩
  have HNL := Lib.hid w1.1
  have HNA := Lib.hid w2.1
  have HNB := Lib.hid w3.1
  have HNQ := Lib.hid w4.1
  have hm4 := w4.2.2.1
  have hn4 := w4.2.1
  have hm1 := w1.2.2.1
  have hn1 := w1.2.1
  clear w0 w1 w2 w3 w4 hT
  go_enter Tryd.func7, Tryd.ntmps7
  have HN := Lib.hid (rvalid_calls A4 n4 c4 q w HE.out.q)
  go_wp2_with fail
  refine HN.out.mono ?_
  rintro e w' ⟨rfl, hw⟩
  replace hw := hw.symm
  subst hw
  clear HN
  cases hvq : vq.valid q
  ·
    go_wp2_with fail
    refine (san7_calls _ HE.out.tab).mono ?_
    rintro e w' ⟨rfl, hb⟩
    have HBZ := Lib.hid (Below.andThen HE.out.bel hb)
    clear hb
    go_wp2_with fail
    go_ret
    exact ⟨rfl, HBZ.out⟩
  ·
    have HN := Lib.hid (refvalid_calls (n4 : Int) A1 n1 c1 L w HE.out.lines)
    go_wp2_with fail
    refine HN.out.mono ?_
    rintro e w' ⟨rfl, hw⟩
    replace hw := hw.symm
    subst hw
    clear HN
    cases hvl : validL L (n4 : Int)
    ·
      go_wp2_with fail
      refine (san7_calls _ HE.out.tab).mono ?_
      rintro e w' ⟨rfl, hb⟩
      have HBZ := Lib.hid (Below.andThen HE.out.bel hb)
      clear hb
      go_wp2_with fail
      go_ret
      exact ⟨rfl, HBZ.out⟩
    ·
      have HN := Lib.hid (ranges_calls (n1 : Int) w HE.out.ra)
      go_wp2_with fail
      refine HN.out.mono ?_
      rintro e w' ⟨rfl, q3, rfl⟩
      replace HE := Lib.hid (HE.out.drew q3)
      generalize (w.drewN q3) = v3 at *
      clear HN
      cases hva : ranges a (n1 : Int)
      ·
        go_wp2_with fail
        refine (san7_calls _ HE.out.tab).mono ?_
        rintro e w' ⟨rfl, hb⟩
        have HBZ := Lib.hid (Below.andThen HE.out.bel hb)
        clear hb
        go_wp2_with fail
        go_ret
        exact ⟨rfl, HBZ.out⟩
      ·
        have HN := Lib.hid (ranges_calls (n1 : Int) v3 HE.out.rb)
        go_wp2_with fail
        refine HN.out.mono ?_
        rintro e w' ⟨rfl, q4, rfl⟩
        replace HE := Lib.hid (HE.out.drew q4)
        generalize (v3.drewN q4) = v4 at *
        clear HN
        cases hvb : ranges b (n1 : Int)
        ·
          go_wp2_with fail
          refine (san7_calls _ HE.out.tab).mono ?_
          rintro e w' ⟨rfl, hb⟩
          have HBZ := Lib.hid (Below.andThen HE.out.bel hb)
          clear hb
          go_wp2_with fail
          go_ret
          exact ⟨rfl, HBZ.out⟩
        ·
          have HN := Lib.hid (metric_calls m v4)
          go_wp2_with fail
          refine HN.out.mono ?_
          rintro e w' ⟨rfl, hw⟩
          replace hw := hw.symm
          subst hw
          clear HN
          cases hmet : decide (1 ≤ m ∧ m ≤ 3)
          ·
            go_wp2_with fail
            refine (san7_calls _ HE.out.tab).mono ?_
            rintro e w' ⟨rfl, hb⟩
            have HBZ := Lib.hid (Below.andThen HE.out.bel hb)
            clear hb
            go_wp2_with fail
            go_ret
            exact ⟨rfl, HBZ.out⟩
          ·
            obtain ⟨hla, hia, -⟩ := in_ok hva
            obtain ⟨hlb, hib, -⟩ := in_ok hvb
            have HM3 := Lib.hid (metric3 hmet)
            have HQV := Lib.hid (vq.valid_iff.1 hvq)
            have HF : Hid (Fit L n4) := valid_iff.1 hvl
            have HIA := Lib.hid hia
            have HIB := Lib.hid hib
            obtain rfl : n1 = n2 := by have := HNA.out; omega
            obtain rfl : n1 = n3 := by have := HNB.out; omega
            have HAB : Hid (a.length = b.length) := by show _ = _; rw [HNA.out, HNB.out]
            have HIJ := Lib.hid (in_join hia hib)
            have hn18 : n1 ≤ 8 := by rw [← HNL.out]; exact HF.out.l8
            clear hvq hvl hva hvb hmet hla hlb hia hib
            have HN := Lib.hid (pjoin_calls v4 HE.out.ra HE.out.rb (by omega))
            go_wp2_with fail
            refine HN.out.mono ?_
            rintro e v6 ⟨v7, rfl, ho, hb⟩
            replace HE := Lib.hid (HE.out.next hb)
            obtain ⟨A6, c6, rfl, hR6⟩ := isR_of_own ho (join_wd HE.out.ra.2.2.2.2 HE.out.rb.2.2.2.2)
            have HJ := Lib.hid hR6
            clear ho hR6
            clear hb
            clear HN
            have HN := Lib.hid (apply_calls v6 HE.out.lines HE.out.q HF.out HQV.out)
            go_wp2_with fail
            refine HN.out.mono ?_
            rintro e v7 ⟨v8, rfl, ho, hb⟩
            replace HE := Lib.hid (HE.out.next hb)
            replace HJ := Lib.hid (isR_below HJ.out hb)
            obtain ⟨A7, c7, rfl, hI7⟩ := apply_is HF.out HQV.out ho
            have HS := Lib.hid hI7
            clear hI7 ho
            clear hb
            clear HN
            have HN := Lib.hid (bound_calls m HM3.out v7 ⟨HE.out.lines, HJ.out, HE.out.q, HF.out, HQV.out, in_rng HIJ.out (by omega)⟩)
            go_wp2_with fail
            refine HN.out.mono ?_
            rintro e v8 ⟨rfl, hb⟩
            replace HE := Lib.hid (HE.out.next hb)
            replace HJ := Lib.hid (isR_below HJ.out hb)
            replace HS := Lib.hid (isI_below HS.out hb)
            obtain ⟨bj, hbj⟩ : ∃ z, bound m L (join a b) q = z := ⟨_, rfl⟩
            rw [hbj]
            have Hbj := Lib.hid hbj
            clear hbj
            clear hb
            clear HN
            have HN := Lib.hid (bound_calls m HM3.out v8 ⟨HE.out.lines, HE.out.ra, HE.out.q, HF.out, HQV.out, in_rng HIA.out (by omega)⟩)
            go_wp2_with fail
            refine HN.out.mono ?_
            rintro e v9 ⟨rfl, hb⟩
            replace HE := Lib.hid (HE.out.next hb)
            replace HJ := Lib.hid (isR_below HJ.out hb)
            replace HS := Lib.hid (isI_below HS.out hb)
            obtain ⟨ba, hba⟩ : ∃ z, bound m L a q = z := ⟨_, rfl⟩
            rw [hba]
            have Hba := Lib.hid hba
            clear hba
            clear hb
            clear HN
            have HN := Lib.hid (bound_calls m HM3.out v9 ⟨HE.out.lines, HE.out.rb, HE.out.q, HF.out, HQV.out, in_rng HIB.out (by omega)⟩)
            go_wp2_with fail
            refine HN.out.mono ?_
            rintro e v10 ⟨rfl, hb⟩
            replace HE := Lib.hid (HE.out.next hb)
            replace HJ := Lib.hid (isR_below HJ.out hb)
            replace HS := Lib.hid (isI_below HS.out hb)
            obtain ⟨bb, hbb⟩ : ∃ z, bound m L b q = z := ⟨_, rfl⟩
            rw [hbb]
            have Hbb := Lib.hid hbb
            clear hbb
            have hle : bj ≤ min ba bb := by rw [← Hbj.out, ← Hba.out, ← Hbb.out]; exact bound_join HAB.out
            have hle1 : bj ≤ ba := by omega
            have hle2 : bj ≤ bb := by omega
            have hdc : decide (min ba bb < bj) = false := decide_eq_false (by omega)
            clear hb
            clear HN
            have HN := Lib.hid (has_calls v10 HE.out.ra HS.out)
            go_wp2_with fail
            refine HN.out.mono ?_
            rintro e w' ⟨rfl, q11, rfl⟩
            replace HE := Lib.hid (HE.out.drew q11)
            replace HJ := Lib.hid (isR_drewN HJ.out q11)
            replace HS := Lib.hid (isI_drewN HS.out q11)
            generalize (v10.drewN q11) = v11 at *
            clear HN
            have hz := bound_has (m := m) (L := L) (a := a) (q := q)
            have hj1 := has_join (s := apply L q) HAB.out
            have HZ := Lib.hid hz
            have HJ1 := Lib.hid hj1
            clear hz hj1 hle hle1 hle2 hdc
            cases hha : has a (apply L q)
            ·
              have HN := Lib.hid (has_calls v11 HE.out.rb HS.out)
              go_wp2_with fail
              refine HN.out.mono ?_
              rintro e w' ⟨rfl, q12, rfl⟩
              replace HE := Lib.hid (HE.out.drew q12)
              replace HJ := Lib.hid (isR_drewN HJ.out q12)
              replace HS := Lib.hid (isI_drewN HS.out q12)
              generalize (v11.drewN q12) = v12 at *
              clear HN
              cases hhb : has b (apply L q)
              ·
                go_wp2_with fail
                refine (san7_calls _ HE.out.tab).mono ?_
                rintro e v13 ⟨rfl, hb⟩
                replace HE := Lib.hid (HE.out.next hb)
                replace HJ := Lib.hid (isR_below HJ.out hb)
                replace HS := Lib.hid (isI_below HS.out hb)
                clear hb
                have HN := Lib.hid (has_calls v13 HE.out.ra HS.out)
                go_wp2_with fail
                refine HN.out.mono ?_
                rintro e w' ⟨rfl, q14, rfl⟩
                replace HE := Lib.hid (HE.out.drew q14)
                replace HJ := Lib.hid (isR_drewN HJ.out q14)
                replace HS := Lib.hid (isI_drewN HS.out q14)
                generalize (v13.drewN q14) = v14 at *
                clear HN
                rw [hha]
                have HN := Lib.hid (pjoin_calls v14 HE.out.ra HE.out.ra (by omega))
                go_wp2_with fail
                refine HN.out.mono ?_
                rintro e v15 ⟨v7, rfl, ho, hb⟩
                replace HE := Lib.hid (HE.out.next hb)
                replace HJ := Lib.hid (isR_below HJ.out hb)
                replace HS := Lib.hid (isI_below HS.out hb)
                rw [join_self] at ho
                obtain ⟨A9, c9, rfl, hR9⟩ := isR_of_own ho HE.out.ra.2.2.2.2
                have H9 := Lib.hid hR9
                clear ho hR9
                clear hb
                clear HN
                have HN := Lib.hid (rsame_calls v15 H9.out HE.out.ra)
                go_wp2_with fail
                refine HN.out.mono ?_
                rintro e w' ⟨rfl, q16, rfl⟩
                replace HE := Lib.hid (HE.out.drew q16)
                replace HJ := Lib.hid (isR_drewN HJ.out q16)
                replace HS := Lib.hid (isI_drewN HS.out q16)
                generalize (v15.drewN q16) = v16 at *
                clear HN
                rw [beq_self_eq_true]
                go_wp2_with fail
                go_ret
                exact ⟨rfl, HE.out.bel⟩
              ·
                go_wp2_with fail
                refine (san7_calls _ HE.out.tab).mono ?_
                rintro e v17 ⟨rfl, hb⟩
                replace HE := Lib.hid (HE.out.next hb)
                replace HJ := Lib.hid (isR_below HJ.out hb)
                replace HS := Lib.hid (isI_below HS.out hb)
                clear hb
                have HN := Lib.hid (has_calls v17 HJ.out HS.out)
                go_wp2_with fail
                refine HN.out.mono ?_
                rintro e w' ⟨rfl, q18, rfl⟩
                replace HE := Lib.hid (HE.out.drew q18)
                replace HJ := Lib.hid (isR_drewN HJ.out q18)
                replace HS := Lib.hid (isI_drewN HS.out q18)
                generalize (v17.drewN q18) = v18 at *
                clear HN
                rw [HJ1.out (.inr hhb)]
                have HN := Lib.hid (has_calls v18 HE.out.ra HS.out)
                go_wp2_with fail
                refine HN.out.mono ?_
                rintro e w' ⟨rfl, q19, rfl⟩
                replace HE := Lib.hid (HE.out.drew q19)
                replace HJ := Lib.hid (isR_drewN HJ.out q19)
                replace HS := Lib.hid (isI_drewN HS.out q19)
                generalize (v18.drewN q19) = v19 at *
                clear HN
                rw [hha]
                have HN := Lib.hid (pjoin_calls v19 HE.out.ra HE.out.ra (by omega))
                go_wp2_with fail
                refine HN.out.mono ?_
                rintro e v20 ⟨v7, rfl, ho, hb⟩
                replace HE := Lib.hid (HE.out.next hb)
                replace HJ := Lib.hid (isR_below HJ.out hb)
                replace HS := Lib.hid (isI_below HS.out hb)
                rw [join_self] at ho
                obtain ⟨A9, c9, rfl, hR9⟩ := isR_of_own ho HE.out.ra.2.2.2.2
                have H9 := Lib.hid hR9
                clear ho hR9
                clear hb
                clear HN
                have HN := Lib.hid (rsame_calls v20 H9.out HE.out.ra)
                go_wp2_with fail
                refine HN.out.mono ?_
                rintro e w' ⟨rfl, q21, rfl⟩
                replace HE := Lib.hid (HE.out.drew q21)
                replace HJ := Lib.hid (isR_drewN HJ.out q21)
                replace HS := Lib.hid (isI_drewN HS.out q21)
                generalize (v20.drewN q21) = v21 at *
                clear HN
                rw [beq_self_eq_true]
                go_wp2_with fail
                go_ret
                exact ⟨rfl, HE.out.bel⟩
            ·
              go_wp2_with fail
              refine (san7_calls _ HE.out.tab).mono ?_
              rintro e v22 ⟨rfl, hb⟩
              replace HE := Lib.hid (HE.out.next hb)
              replace HJ := Lib.hid (isR_below HJ.out hb)
              replace HS := Lib.hid (isI_below HS.out hb)
              clear hb
              have HN := Lib.hid (has_calls v22 HJ.out HS.out)
              go_wp2_with fail
              refine HN.out.mono ?_
              rintro e w' ⟨rfl, q23, rfl⟩
              replace HE := Lib.hid (HE.out.drew q23)
              replace HJ := Lib.hid (isR_drewN HJ.out q23)
              replace HS := Lib.hid (isI_drewN HS.out q23)
              generalize (v22.drewN q23) = v23 at *
              clear HN
              rw [HJ1.out (.inl hha)]
              have HN := Lib.hid (has_calls v23 HE.out.ra HS.out)
              go_wp2_with fail
              refine HN.out.mono ?_
              rintro e w' ⟨rfl, q24, rfl⟩
              replace HE := Lib.hid (HE.out.drew q24)
              replace HJ := Lib.hid (isR_drewN HJ.out q24)
              replace HS := Lib.hid (isI_drewN HS.out q24)
              generalize (v23.drewN q24) = v24 at *
              clear HN
              rw [hha]
              have HN := Lib.hid (bound_calls m HM3.out v24 ⟨HE.out.lines, HE.out.ra, HE.out.q, HF.out, HQV.out, in_rng HIA.out (by omega)⟩)
              go_wp2_with fail
              refine HN.out.mono ?_
              rintro e v25 ⟨rfl, hb⟩
              replace HE := Lib.hid (HE.out.next hb)
              replace HJ := Lib.hid (isR_below HJ.out hb)
              replace HS := Lib.hid (isI_below HS.out hb)
              rw [HZ.out hha]
              clear hb
              clear HN
              have HN := Lib.hid (pjoin_calls v25 HE.out.ra HE.out.ra (by omega))
              go_wp2_with fail
              refine HN.out.mono ?_
              rintro e v26 ⟨v7, rfl, ho, hb⟩
              replace HE := Lib.hid (HE.out.next hb)
              replace HJ := Lib.hid (isR_below HJ.out hb)
              replace HS := Lib.hid (isI_below HS.out hb)
              rw [join_self] at ho
              obtain ⟨A9, c9, rfl, hR9⟩ := isR_of_own ho HE.out.ra.2.2.2.2
              have H9 := Lib.hid hR9
              clear ho hR9
              clear hb
              clear HN
              have HN := Lib.hid (rsame_calls v26 H9.out HE.out.ra)
              go_wp2_with fail
              refine HN.out.mono ?_
              rintro e w' ⟨rfl, q27, rfl⟩
              replace HE := Lib.hid (HE.out.drew q27)
              replace HJ := Lib.hid (isR_drewN HJ.out q27)
              replace HS := Lib.hid (isI_drewN HS.out q27)
              generalize (v26.drewN q27) = v27 at *
              clear HN
              rw [beq_self_eq_true]
              go_wp2_with fail
              go_ret
              exact ⟨rfl, HE.out.bel⟩
end Go.Proofs.YtjhagfggelhpkaaDoor.projectWidens
