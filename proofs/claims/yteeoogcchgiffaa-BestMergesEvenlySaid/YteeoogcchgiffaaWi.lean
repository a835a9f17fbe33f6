/- BestMergesEvenly. -/
import Derived.Test.YteeoogcchgiffaaG13

namespace Go.Proofs.Yteeoogcchgiffaa.bestMergesEvenly

open Go.ChangeShapes Go.WideShapes Go.ChangeAt Go.RowKit

open Go.Proofs.Yteeoogcchgiffaa.bk Go.Proofs.Yteeoogcchgiffaa.bq Go.Proofs.Yteeoogcchgiffaa.vk Go.Proofs.Yteeoogcchgiffaa.wk

set_option linter.unusedVariables false
attribute [local go_sem] Oper.semAt_some
set_option maxRecDepth 100000 in
set_option maxHeartbeats 4000000 in
theorem walk (w : World) {A1 A2 : Option Addr} {n1 c1 n2 c2 : Nat} {a b : List H} {k : Int} (w0 : IsH w A1 n1 c1 a) (w1 : IsH w A2 n2 c2 b) (w2 : (Lit.int .i64 k).wf = true) :
    Calls Try.prog 8 #[.slice A1 n1 c1, .slice A2 n2 c2, .int .i64 k] w fun e w' => e = .returned (.bool true) ∧ Below w.heap.size w w' := by
  have hnc1 := w0.2.1
  have hnm1 := w0.2.2.1
  have hnc2 := w1.2.1
  have hnm2 := w1.2.2.1
  have HA := Lib.hid w0
  have HC := Lib.hid w1
  have hl1 := w0.1
  have hl2 := w1.1
  have HB : Hid (Below w.heap.size w w) := Below.refl _ _
  clear w0 w1
  go_enter Try.func8, Try.ntmps8
  go_wp2_with fail
  refine (rvalid_calls k _ HA.out).mono ?_
  rintro e w3 ⟨rfl, hb⟩
  replace HA := Lib.hid (HA.out.below hb)
  replace HC := Lib.hid (HC.out.below hb)
  replace HB := Lib.hid (HB.out.trans (hb.mono HB.out.size))
  clear hb
  cases hva : vld a k with
  | false =>
    go_wp2_with fail
    refine (san10_calls _).mono ?_
    rintro e w9 ⟨rfl, hb⟩
    replace HB := Lib.hid (HB.out.trans (hb.mono HB.out.size))
    clear hb
    go_wp2_with fail
    go_ret
    exact ⟨rfl, HB.out⟩
  | true =>
    have hia := vld_iff.1 hva
    have HVA := Lib.hid hia
    have hk1 := hia.1
    have hna := hia.2.1
    have HSELF := Lib.hid (ofL_self hva)
    clear hia
    go_wp2_with fail
    refine (rvalid_calls k _ HC.out).mono ?_
    rintro e w4 ⟨rfl, hb⟩
    replace HA := Lib.hid (HA.out.below hb)
    replace HC := Lib.hid (HC.out.below hb)
    replace HB := Lib.hid (HB.out.trans (hb.mono HB.out.size))
    clear hb
    cases hvb : vld b k with
    | false =>
      go_wp2_with fail
      refine (san10_calls _).mono ?_
      rintro e w9 ⟨rfl, hb⟩
      replace HB := Lib.hid (HB.out.trans (hb.mono HB.out.size))
      clear hb
      go_wp2_with fail
      go_ret
      exact ⟨rfl, HB.out⟩
    | true =>
      have hib := vld_iff.1 hvb
      have HVB := Lib.hid hib
      have hnb := hib.2.1
      clear hib
      have HM : Hid (ofL (b ++ a) k.toNat = ofL (a ++ b) k.toNat) := ofL_congr _ (mem_comm b a)
      have hle := ofL_le (a ++ b) k.toNat
      rw [List.length_append] at hle
      have HXY := Lib.hid (com_union (k := k.toNat) HVA.out.2.2.2.2 HVB.out.2.2.2.2)
      have HX1 := Lib.hid (com_nn (ofL (a ++ b) k.toNat) a)
      have HX2 := Lib.hid (com_le (lst_ofL (a ++ b) k.toNat).2 HVA.out.2.2.2.2)
      have HY1 := Lib.hid (com_nn (ofL (a ++ b) k.toNat) b)
      have HY2 := Lib.hid (com_le (lst_ofL (a ++ b) k.toNat).2 HVB.out.2.2.2.2)
      have HCC := Lib.hid (com_comm b a)
      go_wp2_with fail
      refine (mrg_calls k _ HA.out HC.out HVA.out.2.2.2 HVB.out.2.2.2 (by omega)).mono ?_
      rintro e w5 ⟨A3, n3, c3, rfl, hh, hb⟩
      replace HA := Lib.hid (HA.out.below hb)
      replace HC := Lib.hid (HC.out.below hb)
      replace HB := Lib.hid (HB.out.trans (hb.mono HB.out.size))
      clear hb
      have HLM : Hid (Lst (ofL (a ++ b) k.toNat)) := lst_ofL _ _
      obtain ⟨m, hm⟩ : ∃ m, m = ofL (a ++ b) k.toNat := ⟨_, rfl⟩
      rw [← hm] at hh hle HXY HX1 HX2 HY1 HY2 HM HLM
      have hn3 := hh.1
      rw [hn3] at hle HXY HX2 HY2
      have hnc3 := hh.2.1
      have hnm3 := hh.2.2.1
      have HMM := Lib.hid hh
      have HMD := Lib.hid hm
      clear hh hm
      go_wp2_with fail
      refine (san10_calls _).mono ?_
      rintro e w6 ⟨rfl, hb⟩
      replace HA := Lib.hid (HA.out.below hb)
      replace HC := Lib.hid (HC.out.below hb)
      replace HMM := Lib.hid (HMM.out.below hb)
      replace HB := Lib.hid (HB.out.trans (hb.mono HB.out.size))
      clear hb
      go_wp2_with fail
      refine (mrg_calls k _ HC.out HA.out HVB.out.2.2.2 HVA.out.2.2.2 (by omega)).mono ?_
      rintro e w7 ⟨A4, n4, c4, rfl, hh, hb⟩
      rw [HM.out] at hh
      have HM2 := Lib.hid hh
      clear hh
      replace HA := Lib.hid (HA.out.below hb)
      replace HC := Lib.hid (HC.out.below hb)
      replace HMM := Lib.hid (HMM.out.below hb)
      replace HB := Lib.hid (HB.out.trans (hb.mono HB.out.size))
      clear hb
      go_wp2_with fail
      refine (same_calls _ HMM.out HM2.out rfl).mono ?_
      rintro e w8 ⟨rfl, hb⟩
      replace HA := Lib.hid (HA.out.below hb)
      replace HC := Lib.hid (HC.out.below hb)
      replace HMM := Lib.hid (HMM.out.below hb)
      replace HB := Lib.hid (HB.out.trans (hb.mono HB.out.size))
      clear hb
      go_wp2_with fail
      refine (mrg_calls k _ HA.out HA.out HVA.out.2.2.2 HVA.out.2.2.2 (by omega)).mono ?_
      rintro e w9 ⟨A5, n5, c5, rfl, hh, hb⟩
      rw [HSELF.out] at hh
      have HM5 := Lib.hid hh
      clear hh
      replace HA := Lib.hid (HA.out.below hb)
      replace HC := Lib.hid (HC.out.below hb)
      replace HMM := Lib.hid (HMM.out.below hb)
      replace HB := Lib.hid (HB.out.trans (hb.mono HB.out.size))
      clear hb
      go_wp2_with fail
      refine (same_calls _ HM5.out HA.out rfl).mono ?_
      rintro e w10 ⟨rfl, hb⟩
      replace HA := Lib.hid (HA.out.below hb)
      replace HC := Lib.hid (HC.out.below hb)
      replace HMM := Lib.hid (HMM.out.below hb)
      replace HB := Lib.hid (HB.out.trans (hb.mono HB.out.size))
      clear hb
      have hle2 : (n3 : Int) ≤ (n1 : Int) + (n2 : Int) := by omega
      go_wp2_with fail
      refine (common_calls _ HMM.out HA.out (by omega)).mono ?_
      rintro e w11 ⟨rfl, hb⟩
      replace HA := Lib.hid (HA.out.below hb)
      replace HC := Lib.hid (HC.out.below hb)
      replace HMM := Lib.hid (HMM.out.below hb)
      replace HB := Lib.hid (HB.out.trans (hb.mono HB.out.size))
      clear hb
      go_wp2_with fail
      refine (common_calls _ HMM.out HC.out (by omega)).mono ?_
      rintro e w12 ⟨rfl, hb⟩
      replace HA := Lib.hid (HA.out.below hb)
      replace HC := Lib.hid (HC.out.below hb)
      replace HMM := Lib.hid (HMM.out.below hb)
      replace HB := Lib.hid (HB.out.trans (hb.mono HB.out.size))
      clear hb
      have hxy := HXY.out
      have hx1 := HX1.out
      have hx2 := HX2.out
      have hy1 := HY1.out
      have hy2 := HY2.out
      clear HXY HX1 HX2 HY1 HY2
      generalize com m a = X at *
      generalize com m b = Y at *
      go_wp2_with fail
      refine (common_calls _ HA.out HC.out (by omega)).mono ?_
      rintro e w13 ⟨rfl, hb⟩
      replace HA := Lib.hid (HA.out.below hb)
      replace HC := Lib.hid (HC.out.below hb)
      replace HB := Lib.hid (HB.out.trans (hb.mono HB.out.size))
      clear hb
      go_wp2_with fail
      refine (common_calls _ HC.out HA.out (by omega)).mono ?_
      rintro e w14 ⟨rfl, hb⟩
      rw [HCC.out]
      replace HB := Lib.hid (HB.out.trans (hb.mono HB.out.size))
      clear hb
      generalize com a b = Z at *
      go_wp2_with fail
      go_ret
      exact ⟨rfl, HB.out⟩
end Go.Proofs.Yteeoogcchgiffaa.bestMergesEvenly
