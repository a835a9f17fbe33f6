/- BestKnowsTheWorst. -/
import Derived.Test.YteeoogcchgiffaaHy

namespace Go.Proofs.Yteeoogcchgiffaa.bestKnowsTheWorst

open Go.ChangeShapes Go.WideShapes Go.ChangeAt Go.RowKit

open Go.Proofs.Yteeoogcchgiffaa.bk Go.Proofs.Yteeoogcchgiffaa.bq Go.Proofs.Yteeoogcchgiffaa.vk Go.Proofs.Yteeoogcchgiffaa.wk

set_option linter.unusedVariables false
attribute [local go_sem] Oper.semAt_some
theorem entw {l : List H} {h : H} {A : Option Addr} {n c : Nat} {E : Bool} (k : Int) (w : World) (hl : IsH w A n c l) (hx : Wd h) (hn : n ≤ 900) (hL : Lst l) (he : Ent l h k (ofL (l ++ [h]) k.toNat) E) : Calls Try.prog 23 #[.slice A n c, .int .i64 k, .agg #[.int .i64 h.1, .int .i64 h.2.1, .int .i64 h.2.2]] w fun e w' => e = .returned (.bool E) ∧ Below w.heap.size w w' := by
  have h1 := he.is
  rw [← mergeL_eq hL (lst_one h)] at h1
  rw [← h1]
  exact enters_calls k w hl hx hn
theorem putw {l : List H} {h : H} {A : Option Addr} {n c : Nat} {S : List H} (k : Int) (w : World) (hl : IsH w A n c l) (hx : Wd h) (hn : n ≤ 900) (hL : Lst l) (he : S = ofL (l ++ [h]) k.toNat) : Calls Try.prog 21 #[.slice A n c, .int .i64 k, .agg #[.int .i64 h.1, .int .i64 h.2.1, .int .i64 h.2.2]] w fun e w' => ∃ A2 n2 c2, e = .returned (.slice A2 n2 c2) ∧ IsH w' A2 n2 c2 S ∧ Below w.heap.size w w' := by
  rw [he, ← mergeL_eq hL (lst_one h)]
  exact put_calls k w hl hx hn
set_option maxRecDepth 100000 in
set_option maxHeartbeats 16000000 in
theorem walk (w : World) {A : Option Addr} {n c : Nat} {l : List H} {k : Int} {h : H} (w0 : IsH w A n c l) (w1 : (Lit.int .i64 k).wf = true) (w2 : Wd h) :
    Calls Try.prog 7 #[.slice A n c, .int .i64 k, agg h] w fun e w' => e = .returned (.bool true) ∧ Below w.heap.size w w' := by
  show Calls Try.prog 7 #[.slice A n c, .int .i64 k, .agg #[.int .i64 h.1, .int .i64 h.2.1, .int .i64 h.2.2]] w _
  have hnc := w0.2.1
  have hnm := w0.2.2.1
  have hln := w0.1
  have HA := Lib.hid (w0.below (below_new w (.cells #[.int .i64 h.1, .int .i64 h.2.1, .int .i64 h.2.2] 27)))
  have HX := Lib.hid (RowH.new w h)
  have HB := Lib.hid (below_new w (.cells #[.int .i64 h.1, .int .i64 h.2.1, .int .i64 h.2.2] 27))
  have HW := Lib.hid w2
  clear w0 w2
  go_enter Try.func7, Try.ntmps7
  go_wp2_with fail
  refine (rvalid_calls k _ HA.out).mono ?_
  rintro e w3 ⟨rfl, hb⟩
  replace HA := Lib.hid (HA.out.below hb)
  replace HX := Lib.hid (HX.out.below hb)
  replace HB := Lib.hid (HB.out.trans (hb.mono HB.out.size))
  clear hb
  have h0 := HX.out.c0
  have h1 := HX.out.c1
  have h2 := HX.out.c2
  cases hva : vld l k with
  | false =>
    go_wp2_with fail
    refine (san10_calls _).mono ?_
    rintro e w9 ⟨rfl, hb⟩
    replace HB := Lib.hid (HB.out.trans (hb.mono HB.out.size))
    clear hb
    go_wp2_with fail
    go_ret
    exact ⟨rfl, HB.out⟩
  | true =>
    have hia := vld_iff.1 hva
    have HVA := Lib.hid hva
    have HL := Lib.hid hia.2.2.2
    have hk1 := hia.1
    have hna := hia.2.1
    clear hia
    go_wp2_with fail
    clear h0 h1 h2
    refine (rright_calls h _).mono ?_
    rintro e w4 ⟨rfl, hb⟩
    replace HA := Lib.hid (HA.out.below hb)
    replace HX := Lib.hid (HX.out.below hb)
    replace HB := Lib.hid (HB.out.trans (hb.mono HB.out.size))
    clear hb
    have h0 := HX.out.c0
    have h1 := HX.out.c1
    have h2 := HX.out.c2
    cases hrt : right h with
    | false =>
      go_wp2_with fail
      refine (san10_calls _).mono ?_
      rintro e w9 ⟨rfl, hb⟩
      replace HB := Lib.hid (HB.out.trans (hb.mono HB.out.size))
      clear hb
      go_wp2_with fail
      go_ret
      exact ⟨rfl, HB.out⟩
    | true =>
      have HRT := Lib.hid hrt
      go_wp2_with fail
      clear h0 h1 h2
      refine (common_calls _ (HA.out.below (below_new _ _)) (isH_one (RowH.new _ h) HW.out (Nat.le_refl _) (by omega)) (by omega)).mono ?_
      rintro e w5 ⟨rfl, hb⟩
      replace hb := (below_new w4 (.cells #[.int .i64 h.1, .int .i64 h.2.1, .int .i64 h.2.2] 27)).trans (hb.mono (below_new w4 (.cells #[.int .i64 h.1, .int .i64 h.2.1, .int .i64 h.2.2] 27)).size)
      replace HA := Lib.hid (HA.out.below hb)
      replace HX := Lib.hid (HX.out.below hb)
      replace HB := Lib.hid (HB.out.trans (hb.mono HB.out.size))
      clear hb
      have h0 := HX.out.c0
      have h1 := HX.out.c1
      have h2 := HX.out.c2
      by_cases hcom : 0 < com l [h]
      ·
        go_wp2_with fail
        refine (san10_calls _).mono ?_
        rintro e w9 ⟨rfl, hb⟩
        replace HB := Lib.hid (HB.out.trans (hb.mono HB.out.size))
        clear hb
        go_wp2_with fail
        go_ret
        exact ⟨rfl, HB.out⟩
      ·
        obtain ⟨E, hE⟩ := ent HVA.out HRT.out (by omega)
        have HE := Lib.hid hE
        obtain ⟨S, hS⟩ : ∃ S, S = ofL (l ++ [h]) k.toNat := ⟨_, rfl⟩
        have HS := Lib.hid hS
        have hE2 := hE
        rw [← hS] at hE2
        have HE2 := Lib.hid hE2
        clear hE hE2 hS
        go_wp2_with fail
        clear h0 h1 h2
        refine (entw k _ HA.out HW.out (by omega) HL.out HE.out).mono ?_
        rintro e w6 ⟨rfl, hb⟩
        replace HA := Lib.hid (HA.out.below hb)
        replace HX := Lib.hid (HX.out.below hb)
        replace HB := Lib.hid (HB.out.trans (hb.mono HB.out.size))
        clear hb
        have h0 := HX.out.c0
        have h1 := HX.out.c1
        have h2 := HX.out.c2
        go_wp2_with fail
        refine (worst_calls k _ HA.out (fun x hx => (right_key ((vld_iff.1 HVA.out).2.2.1 x hx)).1)).mono ?_
        rintro e wx ⟨rfl, hwx⟩
        rw [hwx]
        clear hwx wx
        have hlow := HE2.out.low
        have hhigh := HE2.out.high
        have hone := HE2.out.one
        have hsame := HE2.out.same
        have hless := HE2.out.less
        have hbd := HE2.out.bd
        rw [hln] at hhigh
        have HPOS := Lib.hid HE2.out.pos
        clear HE HE2
        generalize worst l k = W at *
        obtain ⟨V, hV⟩ : ∃ V, V = worst S k := ⟨_, rfl⟩
        rw [← hV] at hless
        have HV := Lib.hid hV
        clear hV
        cases E with
        | true =>
          replace hone : com S [h] = 1 := hone.trans (if_pos rfl)
          clear hlow hsame
          by_cases hkw : h.2.2 ≤ W
          ·
            by_cases hnk : (n : Int) = k
            ·
              have hge : ¬ W + 2 ≤ h.2.2 := fun hh => by have := hhigh hnk hh; cases this
              clear hhigh
              go_wp2_with fail
              clear h0 h1 h2
              refine (putw k _ HA.out HW.out (by omega) HL.out HS.out).mono ?_
              rintro e w7 ⟨A2, n2, c2, rfl, hh, hb⟩
              have HM := Lib.hid hh
              have hM2 := hh.2.1
              have hM3 := hh.2.2.1
              have hM1 := hh.1
              clear hh
              replace HA := Lib.hid (HA.out.below hb)
              replace HX := Lib.hid (HX.out.below hb)
              replace HB := Lib.hid (HB.out.trans (hb.mono HB.out.size))
              clear hb
              have h0 := HX.out.c0
              have h1 := HX.out.c1
              have h2 := HX.out.c2
              have HN2 : Hid (n2 ≤ 900) := by
                show _ ≤ _
                have := ofL_len (l ++ [h]) k.toNat
                rw [← HS.out] at this
                omega
              go_wp2_with fail
              clear h0 h1 h2
              refine (san10_calls _).mono ?_
              rintro e w8 ⟨rfl, hb⟩
              replace HA := Lib.hid (HA.out.below hb)
              replace HX := Lib.hid (HX.out.below hb)
              replace HM := Lib.hid (HM.out.below hb)
              replace HB := Lib.hid (HB.out.trans (hb.mono HB.out.size))
              clear hb
              have h0 := HX.out.c0
              have h1 := HX.out.c1
              have h2 := HX.out.c2
              go_wp2_with fail
              clear h0 h1 h2
              refine (common_calls _ (HM.out.below (below_new _ _)) (isH_one (RowH.new _ h) HW.out (Nat.le_refl _) (by omega)) (by have := HN2.out; omega)).mono ?_
              rintro e w9 ⟨rfl, hb⟩
              replace hb := (below_new w8 (.cells #[.int .i64 h.1, .int .i64 h.2.1, .int .i64 h.2.2] 27)).trans (hb.mono (below_new w8 (.cells #[.int .i64 h.1, .int .i64 h.2.1, .int .i64 h.2.2] 27)).size)
              replace HA := Lib.hid (HA.out.below hb)
              replace HM := Lib.hid (HM.out.below hb)
              replace HB := Lib.hid (HB.out.trans (hb.mono HB.out.size))
              clear hb
              rw [hone]
              clear HX
              go_wp2_with fail
              refine (worst_calls k _ HM.out HPOS.out).mono ?_
              rintro e wx ⟨rfl, hwx⟩
              rw [hwx, ← HV.out]
              clear hwx wx
              go_wp2_with fail
              go_ret
              exact ⟨rfl, HB.out⟩
            ·
              clear hhigh
              go_wp2_with fail
              clear h0 h1 h2
              refine (putw k _ HA.out HW.out (by omega) HL.out HS.out).mono ?_
              rintro e w7 ⟨A2, n2, c2, rfl, hh, hb⟩
              have HM := Lib.hid hh
              have hM2 := hh.2.1
              have hM3 := hh.2.2.1
              have hM1 := hh.1
              clear hh
              replace HA := Lib.hid (HA.out.below hb)
              replace HX := Lib.hid (HX.out.below hb)
              replace HB := Lib.hid (HB.out.trans (hb.mono HB.out.size))
              clear hb
              have h0 := HX.out.c0
              have h1 := HX.out.c1
              have h2 := HX.out.c2
              have HN2 : Hid (n2 ≤ 900) := by
                show _ ≤ _
                have := ofL_len (l ++ [h]) k.toNat
                rw [← HS.out] at this
                omega
              go_wp2_with fail
              clear h0 h1 h2
              refine (san10_calls _).mono ?_
              rintro e w8 ⟨rfl, hb⟩
              replace HA := Lib.hid (HA.out.below hb)
              replace HX := Lib.hid (HX.out.below hb)
              replace HM := Lib.hid (HM.out.below hb)
              replace HB := Lib.hid (HB.out.trans (hb.mono HB.out.size))
              clear hb
              have h0 := HX.out.c0
              have h1 := HX.out.c1
              have h2 := HX.out.c2
              go_wp2_with fail
              clear h0 h1 h2
              refine (common_calls _ (HM.out.below (below_new _ _)) (isH_one (RowH.new _ h) HW.out (Nat.le_refl _) (by omega)) (by have := HN2.out; omega)).mono ?_
              rintro e w9 ⟨rfl, hb⟩
              replace hb := (below_new w8 (.cells #[.int .i64 h.1, .int .i64 h.2.1, .int .i64 h.2.2] 27)).trans (hb.mono (below_new w8 (.cells #[.int .i64 h.1, .int .i64 h.2.1, .int .i64 h.2.2] 27)).size)
              replace HA := Lib.hid (HA.out.below hb)
              replace HM := Lib.hid (HM.out.below hb)
              replace HB := Lib.hid (HB.out.trans (hb.mono HB.out.size))
              clear hb
              rw [hone]
              clear HX
              go_wp2_with fail
              refine (worst_calls k _ HM.out HPOS.out).mono ?_
              rintro e wx ⟨rfl, hwx⟩
              rw [hwx, ← HV.out]
              clear hwx wx
              go_wp2_with fail
              go_ret
              exact ⟨rfl, HB.out⟩
          ·
            by_cases hnk : (n : Int) = k
            ·
              have hge : ¬ W + 2 ≤ h.2.2 := fun hh => by have := hhigh hnk hh; cases this
              clear hhigh
              go_wp2_with fail
              clear h0 h1 h2
              refine (putw k _ HA.out HW.out (by omega) HL.out HS.out).mono ?_
              rintro e w7 ⟨A2, n2, c2, rfl, hh, hb⟩
              have HM := Lib.hid hh
              have hM2 := hh.2.1
              have hM3 := hh.2.2.1
              have hM1 := hh.1
              clear hh
              replace HA := Lib.hid (HA.out.below hb)
              replace HX := Lib.hid (HX.out.below hb)
              replace HB := Lib.hid (HB.out.trans (hb.mono HB.out.size))
              clear hb
              have h0 := HX.out.c0
              have h1 := HX.out.c1
              have h2 := HX.out.c2
              have HN2 : Hid (n2 ≤ 900) := by
                show _ ≤ _
                have := ofL_len (l ++ [h]) k.toNat
                rw [← HS.out] at this
                omega
              go_wp2_with fail
              clear h0 h1 h2
              refine (san10_calls _).mono ?_
              rintro e w8 ⟨rfl, hb⟩
              replace HA := Lib.hid (HA.out.below hb)
              replace HX := Lib.hid (HX.out.below hb)
              replace HM := Lib.hid (HM.out.below hb)
              replace HB := Lib.hid (HB.out.trans (hb.mono HB.out.size))
              clear hb
              have h0 := HX.out.c0
              have h1 := HX.out.c1
              have h2 := HX.out.c2
              go_wp2_with fail
              clear h0 h1 h2
              refine (common_calls _ (HM.out.below (below_new _ _)) (isH_one (RowH.new _ h) HW.out (Nat.le_refl _) (by omega)) (by have := HN2.out; omega)).mono ?_
              rintro e w9 ⟨rfl, hb⟩
              replace hb := (below_new w8 (.cells #[.int .i64 h.1, .int .i64 h.2.1, .int .i64 h.2.2] 27)).trans (hb.mono (below_new w8 (.cells #[.int .i64 h.1, .int .i64 h.2.1, .int .i64 h.2.2] 27)).size)
              replace HA := Lib.hid (HA.out.below hb)
              replace HM := Lib.hid (HM.out.below hb)
              replace HB := Lib.hid (HB.out.trans (hb.mono HB.out.size))
              clear hb
              rw [hone]
              clear HX
              go_wp2_with fail
              refine (worst_calls k _ HM.out HPOS.out).mono ?_
              rintro e wx ⟨rfl, hwx⟩
              rw [hwx, ← HV.out]
              clear hwx wx
              go_wp2_with fail
              go_ret
              exact ⟨rfl, HB.out⟩
            ·
              clear hhigh
              go_wp2_with fail
              clear h0 h1 h2
              refine (putw k _ HA.out HW.out (by omega) HL.out HS.out).mono ?_
              rintro e w7 ⟨A2, n2, c2, rfl, hh, hb⟩
              have HM := Lib.hid hh
              have hM2 := hh.2.1
              have hM3 := hh.2.2.1
              have hM1 := hh.1
              clear hh
              replace HA := Lib.hid (HA.out.below hb)
              replace HX := Lib.hid (HX.out.below hb)
              replace HB := Lib.hid (HB.out.trans (hb.mono HB.out.size))
              clear hb
              have h0 := HX.out.c0
              have h1 := HX.out.c1
              have h2 := HX.out.c2
              have HN2 : Hid (n2 ≤ 900) := by
                show _ ≤ _
                have := ofL_len (l ++ [h]) k.toNat
                rw [← HS.out] at this
                omega
              go_wp2_with fail
              clear h0 h1 h2
              refine (san10_calls _).mono ?_
              rintro e w8 ⟨rfl, hb⟩
              replace HA := Lib.hid (HA.out.below hb)
              replace HX := Lib.hid (HX.out.below hb)
              replace HM := Lib.hid (HM.out.below hb)
              replace HB := Lib.hid (HB.out.trans (hb.mono HB.out.size))
              clear hb
              have h0 := HX.out.c0
              have h1 := HX.out.c1
              have h2 := HX.out.c2
              go_wp2_with fail
              clear h0 h1 h2
              refine (common_calls _ (HM.out.below (below_new _ _)) (isH_one (RowH.new _ h) HW.out (Nat.le_refl _) (by omega)) (by have := HN2.out; omega)).mono ?_
              rintro e w9 ⟨rfl, hb⟩
              replace hb := (below_new w8 (.cells #[.int .i64 h.1, .int .i64 h.2.1, .int .i64 h.2.2] 27)).trans (hb.mono (below_new w8 (.cells #[.int .i64 h.1, .int .i64 h.2.1, .int .i64 h.2.2] 27)).size)
              replace HA := Lib.hid (HA.out.below hb)
              replace HM := Lib.hid (HM.out.below hb)
              replace HB := Lib.hid (HB.out.trans (hb.mono HB.out.size))
              clear hb
              rw [hone]
              clear HX
              go_wp2_with fail
              refine (worst_calls k _ HM.out HPOS.out).mono ?_
              rintro e wx ⟨rfl, hwx⟩
              rw [hwx, ← HV.out]
              clear hwx wx
              go_wp2_with fail
              go_ret
              exact ⟨rfl, HB.out⟩
        | false =>
          replace hone : com S [h] = 0 := hone.trans (if_neg (by simp))
          replace hsame := hsame rfl
          have hkw : ¬ h.2.2 ≤ W := fun hh => by have := hlow hh; cases this
          clear hlow
          by_cases hnk : (n : Int) = k
          ·
            clear hhigh
            by_cases hge : W + 2 ≤ h.2.2
            ·
              go_wp2_with fail
              clear h0 h1 h2
              refine (putw k _ HA.out HW.out (by omega) HL.out HS.out).mono ?_
              rintro e w7 ⟨A2, n2, c2, rfl, hh, hb⟩
              have HM := Lib.hid hh
              have hM2 := hh.2.1
              have hM3 := hh.2.2.1
              have hM1 := hh.1
              clear hh
              replace HA := Lib.hid (HA.out.below hb)
              replace HX := Lib.hid (HX.out.below hb)
              replace HB := Lib.hid (HB.out.trans (hb.mono HB.out.size))
              clear hb
              have h0 := HX.out.c0
              have h1 := HX.out.c1
              have h2 := HX.out.c2
              have HN2 : Hid (n2 ≤ 900) := by
                show _ ≤ _
                have := ofL_len (l ++ [h]) k.toNat
                rw [← HS.out] at this
                omega
              go_wp2_with fail
              clear h0 h1 h2
              refine (san10_calls _).mono ?_
              rintro e w8 ⟨rfl, hb⟩
              replace HA := Lib.hid (HA.out.below hb)
              replace HX := Lib.hid (HX.out.below hb)
              replace HM := Lib.hid (HM.out.below hb)
              replace HB := Lib.hid (HB.out.trans (hb.mono HB.out.size))
              clear hb
              have h0 := HX.out.c0
              have h1 := HX.out.c1
              have h2 := HX.out.c2
              go_wp2_with fail
              clear h0 h1 h2
              refine (common_calls _ (HM.out.below (below_new _ _)) (isH_one (RowH.new _ h) HW.out (Nat.le_refl _) (by omega)) (by have := HN2.out; omega)).mono ?_
              rintro e w9 ⟨rfl, hb⟩
              replace hb := (below_new w8 (.cells #[.int .i64 h.1, .int .i64 h.2.1, .int .i64 h.2.2] 27)).trans (hb.mono (below_new w8 (.cells #[.int .i64 h.1, .int .i64 h.2.1, .int .i64 h.2.2] 27)).size)
              replace HA := Lib.hid (HA.out.below hb)
              replace HM := Lib.hid (HM.out.below hb)
              replace HB := Lib.hid (HB.out.trans (hb.mono HB.out.size))
              clear hb
              rw [hone]
              clear HX
              go_wp2_with fail
              refine (same_calls _ HM.out HA.out hsame).mono ?_
              rintro e w10 ⟨rfl, hb⟩
              replace HA := Lib.hid (HA.out.below hb)
              replace HM := Lib.hid (HM.out.below hb)
              replace HB := Lib.hid (HB.out.trans (hb.mono HB.out.size))
              clear hb
              go_wp2_with fail
              refine (worst_calls k _ HM.out HPOS.out).mono ?_
              rintro e wx ⟨rfl, hwx⟩
              rw [hwx, ← HV.out]
              clear hwx wx
              go_wp2_with fail
              go_ret
              exact ⟨rfl, HB.out⟩
            ·
              go_wp2_with fail
              clear h0 h1 h2
              refine (putw k _ HA.out HW.out (by omega) HL.out HS.out).mono ?_
              rintro e w7 ⟨A2, n2, c2, rfl, hh, hb⟩
              have HM := Lib.hid hh
              have hM2 := hh.2.1
              have hM3 := hh.2.2.1
              have hM1 := hh.1
              clear hh
              replace HA := Lib.hid (HA.out.below hb)
              replace HX := Lib.hid (HX.out.below hb)
              replace HB := Lib.hid (HB.out.trans (hb.mono HB.out.size))
              clear hb
              have h0 := HX.out.c0
              have h1 := HX.out.c1
              have h2 := HX.out.c2
              have HN2 : Hid (n2 ≤ 900) := by
                show _ ≤ _
                have := ofL_len (l ++ [h]) k.toNat
                rw [← HS.out] at this
                omega
              go_wp2_with fail
              clear h0 h1 h2
              refine (san10_calls _).mono ?_
              rintro e w8 ⟨rfl, hb⟩
              replace HA := Lib.hid (HA.out.below hb)
              replace HX := Lib.hid (HX.out.below hb)
              replace HM := Lib.hid (HM.out.below hb)
              replace HB := Lib.hid (HB.out.trans (hb.mono HB.out.size))
              clear hb
              have h0 := HX.out.c0
              have h1 := HX.out.c1
              have h2 := HX.out.c2
              go_wp2_with fail
              clear h0 h1 h2
              refine (common_calls _ (HM.out.below (below_new _ _)) (isH_one (RowH.new _ h) HW.out (Nat.le_refl _) (by omega)) (by have := HN2.out; omega)).mono ?_
              rintro e w9 ⟨rfl, hb⟩
              replace hb := (below_new w8 (.cells #[.int .i64 h.1, .int .i64 h.2.1, .int .i64 h.2.2] 27)).trans (hb.mono (below_new w8 (.cells #[.int .i64 h.1, .int .i64 h.2.1, .int .i64 h.2.2] 27)).size)
              replace HA := Lib.hid (HA.out.below hb)
              replace HM := Lib.hid (HM.out.below hb)
              replace HB := Lib.hid (HB.out.trans (hb.mono HB.out.size))
              clear hb
              rw [hone]
              clear HX
              go_wp2_with fail
              refine (same_calls _ HM.out HA.out hsame).mono ?_
              rintro e w10 ⟨rfl, hb⟩
              replace HA := Lib.hid (HA.out.below hb)
              replace HM := Lib.hid (HM.out.below hb)
              replace HB := Lib.hid (HB.out.trans (hb.mono HB.out.size))
              clear hb
              go_wp2_with fail
              refine (worst_calls k _ HM.out HPOS.out).mono ?_
              rintro e wx ⟨rfl, hwx⟩
              rw [hwx, ← HV.out]
              clear hwx wx
              go_wp2_with fail
              go_ret
              exact ⟨rfl, HB.out⟩
          ·
            clear hhigh
            go_wp2_with fail
            clear h0 h1 h2
            refine (putw k _ HA.out HW.out (by omega) HL.out HS.out).mono ?_
            rintro e w7 ⟨A2, n2, c2, rfl, hh, hb⟩
            have HM := Lib.hid hh
            have hM2 := hh.2.1
            have hM3 := hh.2.2.1
            have hM1 := hh.1
            clear hh
            replace HA := Lib.hid (HA.out.below hb)
            replace HX := Lib.hid (HX.out.below hb)
            replace HB := Lib.hid (HB.out.trans (hb.mono HB.out.size))
            clear hb
            have h0 := HX.out.c0
            have h1 := HX.out.c1
            have h2 := HX.out.c2
            have HN2 : Hid (n2 ≤ 900) := by
              show _ ≤ _
              have := ofL_len (l ++ [h]) k.toNat
              rw [← HS.out] at this
              omega
            go_wp2_with fail
            clear h0 h1 h2
            refine (san10_calls _).mono ?_
            rintro e w8 ⟨rfl, hb⟩
            replace HA := Lib.hid (HA.out.below hb)
            replace HX := Lib.hid (HX.out.below hb)
            replace HM := Lib.hid (HM.out.below hb)
            replace HB := Lib.hid (HB.out.trans (hb.mono HB.out.size))
            clear hb
            have h0 := HX.out.c0
            have h1 := HX.out.c1
            have h2 := HX.out.c2
            go_wp2_with fail
            clear h0 h1 h2
            refine (common_calls _ (HM.out.below (below_new _ _)) (isH_one (RowH.new _ h) HW.out (Nat.le_refl _) (by omega)) (by have := HN2.out; omega)).mono ?_
            rintro e w9 ⟨rfl, hb⟩
            replace hb := (below_new w8 (.cells #[.int .i64 h.1, .int .i64 h.2.1, .int .i64 h.2.2] 27)).trans (hb.mono (below_new w8 (.cells #[.int .i64 h.1, .int .i64 h.2.1, .int .i64 h.2.2] 27)).size)
            replace HA := Lib.hid (HA.out.below hb)
            replace HM := Lib.hid (HM.out.below hb)
            replace HB := Lib.hid (HB.out.trans (hb.mono HB.out.size))
            clear hb
            rw [hone]
            clear HX
            go_wp2_with fail
            refine (same_calls _ HM.out HA.out hsame).mono ?_
            rintro e w10 ⟨rfl, hb⟩
            replace HA := Lib.hid (HA.out.below hb)
            replace HM := Lib.hid (HM.out.below hb)
            replace HB := Lib.hid (HB.out.trans (hb.mono HB.out.size))
            clear hb
            go_wp2_with fail
            refine (worst_calls k _ HM.out HPOS.out).mono ?_
            rintro e wx ⟨rfl, hwx⟩
            rw [hwx, ← HV.out]
            clear hwx wx
            go_wp2_with fail
            go_ret
            exact ⟨rfl, HB.out⟩
end Go.Proofs.Yteeoogcchgiffaa.bestKnowsTheWorst
