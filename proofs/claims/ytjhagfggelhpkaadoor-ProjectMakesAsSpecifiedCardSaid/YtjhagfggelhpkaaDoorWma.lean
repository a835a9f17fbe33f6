/- ProjectMakesAsSpecified: its walk. -/
import Derived.Test.YtjhagfggelhpkaaDoorJo

namespace Go.Proofs.YtjhagfggelhpkaaDoor.projectMakesAsSpecified

open Go.ChangeShapes Go.WideShapes Go.ChangeAt Go.RowKit

open Go.Proofs.YtjhagfggelhpkaaDoor.jq Go.Proofs.YtjhagfggelhpkaaDoor.vk Go.Proofs.YtjhagfggelhpkaaDoor.wk Go.Proofs.YtjhagfggelhpkaaDoor.jk

set_option linter.unusedVariables false
structure E (w0 : World) (A1 : Option Addr) (n1 c1 : Nat) (L : List (List Int)) (w : World) : Prop where
  lines : IsVV w A1 n1 c1 L
  tab : hi.TabK w
  tab2 : Tab2 w
  bel : Below w0.heap.size w0 w
theorem E.next {w0 : World} {A1 : Option Addr} {n1 c1 : Nat} {L : List (List Int)} {w w' : World} (h : E w0 A1 n1 c1 L w) (hb : Below w.heap.size w w') : E w0 A1 n1 c1 L w' :=
  ⟨isVV_below h.lines hb, tab_below h.tab hb, tab2_below h.tab2 hb, Below.andThen h.bel hb⟩
theorem E.drew {w0 : World} {A1 : Option Addr} {n1 c1 : Nat} {L : List (List Int)} {w : World} (h : E w0 A1 n1 c1 L w) (q9 : Nat) : E w0 A1 n1 c1 L (w.drewN q9) := ⟨h.lines, h.tab, h.tab2, below_drewN h.bel q9⟩
set_option maxRecDepth 100000 in
set_option maxHeartbeats 8000000 in
theorem walk (w : World) (hT : hi.TabK w ∧ hi.TabC w) {seed n d : Int} {A1 : Option Addr} {n1 c1 : Nat} {L : List (List Int)} (w0 : (Lit.int .i64 seed).wf = true) (w1 : (Lit.int .i64 n).wf = true) (w2 : (Lit.int .i64 d).wf = true) (w3 : IsVV w A1 n1 c1 L) :
    Calls Tryd.prog 3 #[.int .i64 seed, .int .i64 n, .int .i64 d, .slice A1 n1 c1] w fun e w' => e = .returned (.bool true) ∧ Below w.heap.size w w' := by
  have HE : Hid (E w A1 n1 c1 L w) := ⟨w3, hT.1, hT, Below.refl _ _⟩
  have hsd : -9223372036854775808 ≤ seed ∧ seed ≤ 9223372036854775807 := by simpa [Lit.wf, IntKind.min, IntKind.max, IntKind.signed, IntKind.bits] using w0
  have HSD := Lib.hid hsd
  have HNL := Lib.hid w3.1
  have hm1 := w3.2.2.1
  have hn1 := w3.2.1
  clear w0 w1 w2 w3 hT hsd
  by_cases h12 : n1 > 12
  ·
    have h12' : (n1 : Int) > 12 := by omega
    go_enter Tryd.func3, Tryd.ntmps3
    go_wp2_with fail
    refine (san7_calls _ HE.out.tab).mono ?_
    rintro e w' ⟨rfl, hb⟩
    have HBZ := Lib.hid (Below.andThen HE.out.bel hb)
    clear hb
    go_wp2_with fail
    go_ret
    exact ⟨rfl, HBZ.out⟩
  have h12' : ¬ (n1 : Int) > 12 := by omega
  go_enter Tryd.func3, Tryd.ntmps3
  go_wp2_with fail
  go_loopg [18] n1 (fun g x wr => ∃ k : Nat, k + g = n1 ∧ x = .int .i64 (k : Int) ∧ wr = w)
  case atStart => exact ⟨0, by omega, rfl, rfl⟩
  case round =>
    obtain ⟨k, hk, rfl, hww⟩ := hrel
    replace hww := hww.symm
    subst hww
    have HK := Lib.hid hk
    have hkn : k ≤ n1 := by omega
    clear hk
    by_cases hlt : k < n1
    · obtain ⟨b, o, A', n', c', l, rfl, hb, hc, hI, hx0⟩ := isVV_get HE.out.lines hlt
      have hlt0 : (k : Int) < (n1 : Int) := by omega
      clear hx0 hI hb
      by_cases h40 : n' > 40
      · have h40' : (n' : Int) > 40 := by omega
        go_wp2_with fail
        refine (san7_calls _ HE.out.tab).mono ?_
        rintro e w' ⟨rfl, hb⟩
        have HBZ := Lib.hid (Below.andThen HE.out.bel hb)
        clear hb
        go_wp2_with fail
        go_ret
        exact ⟨rfl, HBZ.out⟩
      · have h40' : ¬ (n' : Int) > 40 := by omega
        go_wp2_with fail
        go_roundg (gk - 1)
        case measure => have := HK.out; omega
        case rel => exact ⟨k + 1, by have := HK.out; omega, by go_num, rfl⟩
    ·
      have HN := Lib.hid (pvalid_calls d A1 n1 c1 L w HE.out.lines)
      go_wp2_with fail
      refine HN.out.mono ?_
      rintro e v1 ⟨rfl, hb⟩
      replace HE := Lib.hid (HE.out.next hb)
      clear hb
      clear HN
      have HN := Lib.hid (refvalid_calls d A1 n1 c1 L v1 HE.out.lines)
      go_wp2_with fail
      refine HN.out.mono ?_
      rintro e w' ⟨rfl, hw⟩
      replace hw := hw.symm
      subst hw
      clear HN
      generalize validL L d = vb at *
      by_cases hn1a : 1 ≤ n
      rotate_left
      ·
        cases vb
        ·
          go_wp2_with fail
          refine (san7_calls _ HE.out.tab).mono ?_
          rintro e w' ⟨rfl, hb⟩
          have HBZ := Lib.hid (Below.andThen HE.out.bel hb)
          clear hb
          go_wp2_with fail
          go_ret
          exact ⟨rfl, HBZ.out⟩
        ·
          go_wp2_with fail
          refine (san7_calls _ HE.out.tab).mono ?_
          rintro e w' ⟨rfl, hb⟩
          have HBZ := Lib.hid (Below.andThen HE.out.bel hb)
          clear hb
          go_wp2_with fail
          go_ret
          exact ⟨rfl, HBZ.out⟩
      by_cases hn1b : n ≤ 8
      rotate_left
      ·
        cases vb
        ·
          go_wp2_with fail
          refine (san7_calls _ HE.out.tab).mono ?_
          rintro e w' ⟨rfl, hb⟩
          have HBZ := Lib.hid (Below.andThen HE.out.bel hb)
          clear hb
          go_wp2_with fail
          go_ret
          exact ⟨rfl, HBZ.out⟩
        ·
          go_wp2_with fail
          refine (san7_calls _ HE.out.tab).mono ?_
          rintro e w' ⟨rfl, hb⟩
          have HBZ := Lib.hid (Below.andThen HE.out.bel hb)
          clear hb
          go_wp2_with fail
          go_ret
          exact ⟨rfl, HBZ.out⟩
      by_cases hd1 : 1 ≤ d
      rotate_left
      ·
        cases vb
        ·
          go_wp2_with fail
          refine (san7_calls _ HE.out.tab).mono ?_
          rintro e w' ⟨rfl, hb⟩
          have HBZ := Lib.hid (Below.andThen HE.out.bel hb)
          clear hb
          go_wp2_with fail
          go_ret
          exact ⟨rfl, HBZ.out⟩
        ·
          go_wp2_with fail
          refine (san7_calls _ HE.out.tab).mono ?_
          rintro e w' ⟨rfl, hb⟩
          have HBZ := Lib.hid (Below.andThen HE.out.bel hb)
          clear hb
          go_wp2_with fail
          go_ret
          exact ⟨rfl, HBZ.out⟩
      by_cases hd2 : d ≤ 32
      rotate_left
      ·
        cases vb
        ·
          go_wp2_with fail
          refine (san7_calls _ HE.out.tab).mono ?_
          rintro e w' ⟨rfl, hb⟩
          have HBZ := Lib.hid (Below.andThen HE.out.bel hb)
          clear hb
          go_wp2_with fail
          go_ret
          exact ⟨rfl, HBZ.out⟩
        ·
          go_wp2_with fail
          refine (san7_calls _ HE.out.tab).mono ?_
          rintro e w' ⟨rfl, hb⟩
          have HBZ := Lib.hid (Below.andThen HE.out.bel hb)
          clear hb
          go_wp2_with fail
          go_ret
          exact ⟨rfl, HBZ.out⟩
      obtain ⟨nn, rfl⟩ : ∃ nn : Nat, n = (nn : Int) := ⟨n.toNat, by omega⟩
      obtain ⟨dd, rfl⟩ : ∃ dd : Nat, d = (dd : Int) := ⟨d.toNat, by omega⟩
      have HNN : Hid (1 ≤ nn ∧ nn ≤ 8) := ⟨by omega, by omega⟩
      have HDD : Hid (1 ≤ dd ∧ dd ≤ 32) := ⟨by omega, by omega⟩
      cases vb
      ·
        have HN := Lib.hid (lines_calls seed nn dd v1 HSD.out HNN.out.1 HNN.out.2 HDD.out.1 HDD.out.2 HE.out.tab)
        go_wp2_with fail
        refine HN.out.mono ?_
        rintro e v3 ⟨A5, c5, rfl, hV5, hb⟩
        replace HE := Lib.hid (HE.out.next hb)
        have HV := Lib.hid hV5
        clear hV5
        clear hb
        clear HN
        go_wp2_with fail
        refine (san7_calls _ HE.out.tab).mono ?_
        rintro e v4 ⟨rfl, hb⟩
        replace HE := Lib.hid (HE.out.next hb)
        replace HV := Lib.hid (isVV_below HV.out hb)
        clear hb
        have HN := Lib.hid (reflines_calls seed nn dd v4 HSD.out HNN.out.2 HDD.out.1 HDD.out.2 HE.out.tab2)
        go_wp2_with fail
        refine HN.out.mono ?_
        rintro e v5 ⟨A6, c6, rfl, hV6, hb⟩
        replace HE := Lib.hid (HE.out.next hb)
        replace HV := Lib.hid (isVV_below HV.out hb)
        have HV6 := Lib.hid hV6
        clear hV6
        clear hb
        clear HN
        have HN := Lib.hid (samelines_calls v5 HV.out HV6.out)
        go_wp2_with fail
        refine HN.out.mono ?_
        rintro e w' ⟨rfl, q6, rfl⟩
        replace HE := Lib.hid (HE.out.drew q6)
        replace HV := Lib.hid (isVV_drewN HV.out q6)
        generalize (v5.drewN q6) = v6 at *
        rw [beq_self_eq_true]
        clear HV6
        clear HN
        have HN := Lib.hid (pvalid_calls (dd : Int) A5 nn c5 _ v6 HV.out)
        go_wp2_with fail
        refine HN.out.mono ?_
        rintro e v7 ⟨rfl, hb⟩
        replace HE := Lib.hid (HE.out.next hb)
        replace HV := Lib.hid (isVV_below HV.out hb)
        rw [linesL_valid HNN.out.1 HNN.out.2 HDD.out.1 HDD.out.2]
        clear hb
        clear HN
        go_wp2_with fail
        go_ret
        exact ⟨rfl, HE.out.bel⟩
      ·
        have HN := Lib.hid (lines_calls seed nn dd v1 HSD.out HNN.out.1 HNN.out.2 HDD.out.1 HDD.out.2 HE.out.tab)
        go_wp2_with fail
        refine HN.out.mono ?_
        rintro e v8 ⟨A5, c5, rfl, hV5, hb⟩
        replace HE := Lib.hid (HE.out.next hb)
        have HV := Lib.hid hV5
        clear hV5
        clear hb
        clear HN
        go_wp2_with fail
        refine (san7_calls _ HE.out.tab).mono ?_
        rintro e v9 ⟨rfl, hb⟩
        replace HE := Lib.hid (HE.out.next hb)
        replace HV := Lib.hid (isVV_below HV.out hb)
        clear hb
        have HN := Lib.hid (reflines_calls seed nn dd v9 HSD.out HNN.out.2 HDD.out.1 HDD.out.2 HE.out.tab2)
        go_wp2_with fail
        refine HN.out.mono ?_
        rintro e v10 ⟨A6, c6, rfl, hV6, hb⟩
        replace HE := Lib.hid (HE.out.next hb)
        replace HV := Lib.hid (isVV_below HV.out hb)
        have HV6 := Lib.hid hV6
        clear hV6
        clear hb
        clear HN
        have HN := Lib.hid (samelines_calls v10 HV.out HV6.out)
        go_wp2_with fail
        refine HN.out.mono ?_
        rintro e w' ⟨rfl, q11, rfl⟩
        replace HE := Lib.hid (HE.out.drew q11)
        replace HV := Lib.hid (isVV_drewN HV.out q11)
        generalize (v10.drewN q11) = v11 at *
        rw [beq_self_eq_true]
        clear HV6
        clear HN
        have HN := Lib.hid (pvalid_calls (dd : Int) A5 nn c5 _ v11 HV.out)
        go_wp2_with fail
        refine HN.out.mono ?_
        rintro e v12 ⟨rfl, hb⟩
        replace HE := Lib.hid (HE.out.next hb)
        replace HV := Lib.hid (isVV_below HV.out hb)
        rw [linesL_valid HNN.out.1 HNN.out.2 HDD.out.1 HDD.out.2]
        clear hb
        clear HN
        go_wp2_with fail
        go_ret
        exact ⟨rfl, HE.out.bel⟩
end Go.Proofs.YtjhagfggelhpkaaDoor.projectMakesAsSpecified
