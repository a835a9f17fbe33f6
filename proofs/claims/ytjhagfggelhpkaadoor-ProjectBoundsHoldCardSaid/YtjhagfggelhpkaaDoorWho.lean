/- ProjectBoundsHold: its walk. -/
import Derived.Test.YtjhagfggelhpkaaDoorG10

namespace Go.Proofs.YtjhagfggelhpkaaDoor.projectBoundsHold

open Go.ChangeShapes Go.WideShapes Go.ChangeAt Go.RowKit

open Go.Proofs.YtjhagfggelhpkaaDoor.jq Go.Proofs.YtjhagfggelhpkaaDoor.vk Go.Proofs.YtjhagfggelhpkaaDoor.wk Go.Proofs.YtjhagfggelhpkaaDoor.jk

set_option linter.unusedVariables false
structure E (w0 : World) (A1 A2 A3 A4 : Option Addr) (n1 c1 n2 c2 n3 c3 n4 c4 : Nat) (L : List (List Int)) (r : List R) (q : List Int) (V : List (List Int)) (w : World) : Prop where
  lines : IsVV w A1 n1 c1 L
  rng : IsR w A2 n2 c2 r
  q : wo.IsI w A3 n3 c3 q
  vs : IsVV w A4 n4 c4 V
  tab : hi.TabK w
  bel : Below w0.heap.size w0 w
theorem E.next {w0 : World} {A1 A2 A3 A4 : Option Addr} {n1 c1 n2 c2 n3 c3 n4 c4 : Nat} {L : List (List Int)} {r : List R} {q : List Int} {V : List (List Int)} {w w' : World} (h : E w0 A1 A2 A3 A4 n1 c1 n2 c2 n3 c3 n4 c4 L r q V w) (hb : Below w.heap.size w w') : E w0 A1 A2 A3 A4 n1 c1 n2 c2 n3 c3 n4 c4 L r q V w' :=
  ⟨isVV_below h.lines hb, isR_below h.rng hb, isI_below h.q hb, isVV_below h.vs hb, tab_below h.tab hb, Below.andThen h.bel hb⟩
theorem E.drew {w0 : World} {A1 A2 A3 A4 : Option Addr} {n1 c1 n2 c2 n3 c3 n4 c4 : Nat} {L : List (List Int)} {r : List R} {q : List Int} {V : List (List Int)} {w : World} (h : E w0 A1 A2 A3 A4 n1 c1 n2 c2 n3 c3 n4 c4 L r q V w) (q9 : Nat) : E w0 A1 A2 A3 A4 n1 c1 n2 c2 n3 c3 n4 c4 L r q V (w.drewN q9) :=
  ⟨h.lines, h.rng, h.q, h.vs, h.tab, below_drewN h.bel q9⟩
set_option maxRecDepth 100000 in
set_option maxHeartbeats 8000000 in
theorem walk (w : World) (hT : hi.TabK w) {m : Int} {A1 A2 A3 A4 : Option Addr} {n1 c1 n2 c2 n3 c3 n4 c4 : Nat} {L : List (List Int)} {r : List R} {q : List Int} {V : List (List Int)} (w0 : (Lit.int .i64 m).wf = true) (w1 : IsVV w A1 n1 c1 L) (w2 : IsR w A2 n2 c2 r) (w3 : wo.IsI w A3 n3 c3 q) (w4 : IsVV w A4 n4 c4 V) :
    Calls Tryd.prog 6 #[.int .i64 m, .slice A1 n1 c1, .slice A2 n2 c2, .slice A3 n3 c3, .slice A4 n4 c4] w fun e w' => e = .returned (.bool true) ∧ Below w.heap.size w w' := by
  have HE : Hid (E w A1 A2 A3 A4 n1 c1 n2 c2 n3 c3 n4 c4 L r q V w) := ⟨w1, w2, w3, w4, hT, Below.refl _ _⟩
  have HM := Lib.hid (show -9223372036854775808 ≤ m ∧ m ≤ 9223372036854775807 by simpa [Lit.wf, IntKind.min, IntKind.max, IntKind.signed, IntKind.bits] using w0)
  have hm4 := w4.2.2.1
  have hn4 := w4.2.1
  have hm1 := w1.2.2.1
  have hn1 := w1.2.1
  have HNL := Lib.hid w1.1
  have HNV := Lib.hid w4.1
  have HNQ := Lib.hid w3.1
  have HNR := Lib.hid w2.1
  clear w0 w1 w2 w3 w4 hT
  go_enter Tryd.func6, Tryd.ntmps6
  have HN := Lib.hid (fits_calls w HE.out.lines HE.out.vs)
  go_wp2_with fail
  refine HN.out.mono ?_
  rintro e w' ⟨rfl, q1, rfl⟩
  replace HE := Lib.hid (HE.out.drew q1)
  generalize (w.drewN q1) = v1 at *
  clear HN
  cases hfit : (vq.allv V 20 && validL L ((V.headD []).length : Int))
  ·
    go_wp2_with fail
    refine (san7_calls _ HE.out.tab).mono ?_
    rintro e w' ⟨rfl, hb⟩
    have HBZ := Lib.hid (Below.andThen HE.out.bel hb)
    clear hb
    go_wp2_with fail
    go_ret
    exact ⟨rfl, HBZ.out⟩
  ·
    simp only [Bool.and_eq_true] at hfit
    obtain ⟨d, hdl, hdv, h1V, h20⟩ := vq.allv_vec hfit.1
    have hhd : (V.headD []).length = d := by cases V with
      | nil => simp at h1V
      | cons a V => exact hdl a (by simp)
    have hF : Fit L d := valid_iff.1 (by rw [← hhd]; exact hfit.2)
    have HDL := Lib.hid hdl
    have HDV := Lib.hid hdv
    have HF := Lib.hid hF
    have HH := Lib.hid hhd
    have hn4a : 1 ≤ n4 := by rw [← HNV.out]; exact h1V
    have hn4b : n4 ≤ 20 := by rw [← HNV.out]; exact h20
    clear hfit hdl hdv hF hhd h1V h20
    obtain ⟨b0, o0, A0, n0, c0, l0, e0, hb0, hc0, hI0, hL0⟩ := isVV_get HE.out.vs (k := 0) (by omega)
    subst e0
    rw [Nat.add_zero] at hc0
    have hn40 : (0 : Int) < (n4 : Int) := by omega
    have hn40' : 0 < n4 := by omega
    have hm0 : l0 ∈ V := List.mem_of_getElem? hL0
    have HN := Lib.hid (ralike_calls A3 A0 n3 n0 c3 c0 q l0 v1 HE.out.q hI0)
    go_wp2_with fail
    refine HN.out.mono ?_
    rintro e w' ⟨rfl, hw⟩
    replace hw := hw.symm
    subst hw
    clear hb0 hc0 hI0 hL0
    clear HN
    cases hal : vq.alike q l0
    ·
      go_wp2_with fail
      refine (san7_calls _ HE.out.tab).mono ?_
      rintro e w' ⟨rfl, hb⟩
      have HBZ := Lib.hid (Below.andThen HE.out.bel hb)
      clear hb
      go_wp2_with fail
      go_ret
      exact ⟨rfl, HBZ.out⟩
    ·
      obtain ⟨hql, hqv, -⟩ := vq.alike_iff.1 hal
      have hqd : q.length = d := by rw [hql]; exact HDL.out l0 hm0
      obtain rfl : d = n3 := by rw [← HNQ.out, hqd]
      have HQV := Lib.hid hqv
      have HQD := Lib.hid hqd
      clear hal hql hqd hqv hm0
      have HN := Lib.hid (metric_calls m v1)
      go_wp2_with fail
      refine HN.out.mono ?_
      rintro e w' ⟨rfl, hw⟩
      replace hw := hw.symm
      subst hw
      clear HN
      cases hmet : decide (1 ≤ m ∧ m ≤ 3)
      ·
        go_wp2_with fail
        refine (san7_calls _ HE.out.tab).mono ?_
        rintro e w' ⟨rfl, hb⟩
        have HBZ := Lib.hid (Below.andThen HE.out.bel hb)
        clear hb
        go_wp2_with fail
        go_ret
        exact ⟨rfl, HBZ.out⟩
      ·
        have HM3 := Lib.hid (metric3 hmet)
        clear hmet
        have HN := Lib.hid (of_calls v1 HE.out.lines HE.out.vs HF.out hn4a (by omega) HDL.out HDV.out)
        go_wp2_with fail
        refine HN.out.mono ?_
        rintro e v4 ⟨A5, c5, rfl, hR5, hb⟩
        replace HE := Lib.hid (HE.out.next hb)
        have HR5 := Lib.hid hR5
        clear hR5
        clear hb
        clear HN
        have HIN := Lib.hid (in_of HF.out HDV.out (by rw [HNV.out]; exact hn4a))
        go_wp2_with fail
        go_loopg [38] n4 (fun g x wr => ∃ k : Nat, k + g = n4 ∧ x = .int .i64 (k : Int) ∧ E w A1 A2 A3 (some ⟨b0, o0, none⟩) n1 c1 n2 c2 d c3 n4 c4 L r q V wr ∧ IsR wr A5 n1 c5 (ofR L V))
        case atStart => exact ⟨0, by omega, rfl, HE.out, HR5.out⟩
        case round =>
          obtain ⟨k, hk, rfl, hE, hR⟩ := hrel
          have HK := Lib.hid hk
          have hkn : k ≤ n4 := by omega
          replace HE := Lib.hid hE
          replace HR5 := Lib.hid hR
          clear hk hE hR
          by_cases hlt : k < n4
          · obtain ⟨b1, o1, A6, n6, c6, v, e1, hb1, hc1, hI1, hL1⟩ := isVV_get HE.out.vs hlt
            cases e1
            have hvm := List.mem_of_getElem? hL1
            have hvd := HDL.out v hvm
            have hvv := HDV.out v hvm
            obtain rfl : d = n6 := by rw [← hI1.1]; exact hvd.symm
            have hlt0 : (k : Int) < (n4 : Int) := by omega
            have HI1 := Lib.hid hI1
            have HVD := Lib.hid hvd
            have HVV := Lib.hid hvv
            have HOWN : Hid (has (ofR L V) (apply L v) = true) := has_own hvm
            have HBK : Hid (bound m L (ofR L V) q ≤ vq.key m q v) := bound_key HM3.out HF.out HQD.out hvd HOWN.out
            have HBR : Hid (has r (apply L v) = true → bound m L r q ≤ vq.key m q v) := fun h => bound_key HM3.out HF.out HQD.out hvd h
            have hFS : Few (vq.sub q v) := fun x hx => vq.sub_bound HQV.out hvv x hx
            have HFS := Lib.hid hFS
            clear hvm hvd hvv hI1 hL1 hb1 hFS
            have HN := Lib.hid (key_calls m A3 A6 d c3 c6 q v wr HM.out.1 HM.out.2 HE.out.q HI1.out HFS.out HF.out.d32)
            go_wp2_with fail
            refine HN.out.mono ?_
            rintro e v5 ⟨rfl, hb⟩
            replace HE := Lib.hid (HE.out.next hb)
            replace HI1 := Lib.hid (isI_below HI1.out hb)
            replace HR5 := Lib.hid (isR_below HR5.out hb)
            clear hb
            clear HN
            obtain ⟨kv, hkv⟩ : ∃ kv, vq.key m q v = kv := ⟨_, rfl⟩
            rw [hkv] at HBK HBR ⊢
            have HN := Lib.hid (apply_calls v5 HE.out.lines HI1.out HF.out HVV.out)
            go_wp2_with fail
            refine HN.out.mono ?_
            rintro e v6 ⟨v7, rfl, ho, hb⟩
            replace HE := Lib.hid (HE.out.next hb)
            replace HI1 := Lib.hid (isI_below HI1.out hb)
            replace HR5 := Lib.hid (isR_below HR5.out hb)
            obtain ⟨A7, c7, rfl, hI7⟩ := apply_is HF.out HVV.out ho
            have HI7 := Lib.hid hI7
            clear hI7 ho
            clear hb
            clear HN
            have HN := Lib.hid (has_calls v6 HR5.out HI7.out)
            go_wp2_with fail
            refine HN.out.mono ?_
            rintro e w' ⟨rfl, q7, rfl⟩
            replace HE := Lib.hid (HE.out.drew q7)
            replace HI1 := Lib.hid (isI_drewN HI1.out q7)
            replace HR5 := Lib.hid (isR_drewN HR5.out q7)
            clear HI7
            rw [HOWN.out]
            clear HN
            generalize (v6.drewN q7) = vv at *
            have HN := Lib.hid (bound_calls m HM3.out vv ⟨HE.out.lines, HR5.out, HE.out.q, HF.out, HQV.out, in_rng HIN.out (by omega)⟩)
            go_wp2_with fail
            refine HN.out.mono ?_
            rintro e v8 ⟨rfl, hb⟩
            replace HE := Lib.hid (HE.out.next hb)
            replace HI1 := Lib.hid (isI_below HI1.out hb)
            replace HR5 := Lib.hid (isR_below HR5.out hb)
            obtain ⟨bv, hbv⟩ : ∃ bv, bound m L (ofR L V) q = bv := ⟨_, rfl⟩
            rw [hbv] at HBK ⊢
            have hle := HBK.out
            clear hbv
            clear hb
            clear HN
            have HN := Lib.hid (ranges_calls (n1 : Int) v8 HE.out.rng)
            go_wp2_with fail
            refine HN.out.mono ?_
            rintro e w' ⟨rfl, q9, rfl⟩
            replace HE := Lib.hid (HE.out.drew q9)
            replace HI1 := Lib.hid (isI_drewN HI1.out q9)
            replace HR5 := Lib.hid (isR_drewN HR5.out q9)
            clear HN
            generalize (v8.drewN q9) = vu at *
            cases hrg : ranges r (n1 : Int)
            ·
              go_wp2_with fail
              go_roundg (gk - 1)
              case measure => have := HK.out; omega
              case rel => exact ⟨k + 1, by have := HK.out; omega, by go_num, HE.out, HR5.out⟩
            ·
              obtain ⟨hrl, hri, -⟩ := in_ok hrg
              obtain rfl : n1 = n2 := by have := HNR.out; omega
              have HRI := Lib.hid hri
              clear hrg hrl hri
              have HN := Lib.hid (apply_calls vu HE.out.lines HI1.out HF.out HVV.out)
              go_wp2_with fail
              refine HN.out.mono ?_
              rintro e v10 ⟨v7, rfl, ho, hb⟩
              replace HE := Lib.hid (HE.out.next hb)
              replace HI1 := Lib.hid (isI_below HI1.out hb)
              replace HR5 := Lib.hid (isR_below HR5.out hb)
              obtain ⟨A7, c7, rfl, hI7⟩ := apply_is HF.out HVV.out ho
              have HI7 := Lib.hid hI7
              clear hI7 ho
              clear hb
              clear HN
              have HN := Lib.hid (has_calls v10 HE.out.rng HI7.out)
              go_wp2_with fail
              refine HN.out.mono ?_
              rintro e w' ⟨rfl, q11, rfl⟩
              replace HE := Lib.hid (HE.out.drew q11)
              replace HI1 := Lib.hid (isI_drewN HI1.out q11)
              replace HR5 := Lib.hid (isR_drewN HR5.out q11)
              clear HI7
              clear HN
              generalize (v10.drewN q11) = vt at *
              cases hha : has r (apply L v)
              ·
                go_wp2_with fail
                go_roundg (gk - 1)
                case measure => have := HK.out; omega
                case rel => exact ⟨k + 1, by have := HK.out; omega, by go_num, HE.out, HR5.out⟩
              ·
                have HN := Lib.hid (bound_calls m HM3.out vt ⟨HE.out.lines, HE.out.rng, HE.out.q, HF.out, HQV.out, in_rng HRI.out (by omega)⟩)
                go_wp2_with fail
                refine HN.out.mono ?_
                rintro e v12 ⟨rfl, hb⟩
                replace HE := Lib.hid (HE.out.next hb)
                replace HI1 := Lib.hid (isI_below HI1.out hb)
                replace HR5 := Lib.hid (isR_below HR5.out hb)
                obtain ⟨bw, hbw⟩ : ∃ bw, bound m L r q = bw := ⟨_, rfl⟩
                have hle2 := HBR.out hha
                rw [hbw] at hle2 ⊢
                clear hbw
                clear hb
                clear HN
                go_wp2_with fail
                go_roundg (gk - 1)
                case measure => have := HK.out; omega
                case rel => exact ⟨k + 1, by have := HK.out; omega, by go_num, HE.out, HR5.out⟩
          ·
            go_wp2_with fail
            refine (san7_calls _ HE.out.tab).mono ?_
            rintro e w' ⟨rfl, hb⟩
            have HBZ := Lib.hid (Below.andThen HE.out.bel hb)
            clear hb
            go_wp2_with fail
            go_ret
            exact ⟨rfl, HBZ.out⟩
end Go.Proofs.YtjhagfggelhpkaaDoor.projectBoundsHold
