/- VectorKeysAsSpecified: its walk. -/
import Derived.Test.YtbnemcggiopdmaaQp

namespace Go.Proofs.Ytbnemcggiopdmaa.vectorKeysAsSpecified

open Go.ChangeShapes Go.WideShapes Go.ChangeAt Go.RowKit

open Go.Proofs.Ytbnemcggiopdmaa.vk

set_option linter.unusedVariables false
set_option maxRecDepth 100000 in
set_option maxHeartbeats 4000000 in
theorem walk (w : World) {m : Int} {A1 A2 : Option Addr} {n1 n2 c1 c2 : Nat} {a b : List Int} (w0 : (Lit.int .i64 m).wf = true) (h1 : wo.IsI w A1 n1 c1 a) (h2 : wo.IsI w A2 n2 c2 b) :
    Calls Try.prog 3 #[.int .i64 m, .slice A1 n1 c1, .slice A2 n2 c2] w fun e w' => e = .returned (.bool true) ∧ Below w.heap.size w w' := by
  have HS := Lib.hid (fun w' => sanity_calls w')
  have hm := int_wf w0
  clear w0
  by_cases hbig : 40 < n1 ∨ 40 < n2
  · have : 40 < n1 ∨ (40 < n2 ∧ ¬ 40 < n1) := by omega
    clear h1 h2 hbig
    rcases this with h | ⟨h, h'⟩
    all_goals
      go_enter Try.func3, Try.ntmps3
      go_wp2_with fail
      refine (HS.out _).mono ?_
      rintro e w' ⟨rfl, hb⟩
      have HB := Lib.hid hb
      clear hb
      go_wp2_with fail
      go_ret
      exact ⟨rfl, HB.out⟩
  have q1 : n1 ≤ 40 := by omega
  have q2 : n2 ≤ 40 := by omega
  clear hbig
  have H1 := Lib.hid h1
  have H2 := Lib.hid h2
  clear h1 h2
  obtain ⟨al, hal⟩ : ∃ al, vq.alike a b = al := ⟨_, rfl⟩
  obtain ⟨me, hme⟩ : ∃ me, decide (1 ≤ m ∧ m ≤ 3) = me := ⟨_, rfl⟩
  have HAL := Lib.hid hal
  have HME := Lib.hid hme
  have HM := Lib.hid (fun w' => metric_calls m w')
  rw [hme] at HM
  have HA := Lib.hid (fun w' hb => alike_calls A1 A2 n1 n2 c1 c2 a b w' (isI_below H1.out hb) (isI_below H2.out hb))
  have HRA := Lib.hid (fun w' hb => ralike_calls A1 A2 n1 n2 c1 c2 a b w' (isI_below H1.out hb) (isI_below H2.out hb))
  rw [hal] at HA HRA
  clear hal hme
  go_enter Try.func3, Try.ntmps3
  go_wp2_with fail
  have HV := Lib.hid (valid_calls A1 n1 c1 a w H1.out)
  have HRV := Lib.hid (fun w' hb => rvalid_calls A1 n1 c1 a w' (isI_below H1.out hb))
  generalize vq.valid a = va at HV HRV
  refine HV.out.mono ?_
  rintro e w1 ⟨rfl, hb1⟩
  have HB1 := Lib.hid hb1
  clear hb1
  go_wp2_with fail
  refine (HRV.out w1 HB1.out).mono ?_
  rintro e w' ⟨rfl, rfl⟩
  go_wp2_with fail
  refine (HA.out _ HB1.out).mono ?_
  rintro e w2 ⟨rfl, hb2⟩
  have HB2 := Lib.hid (Below.andThen HB1.out hb2)
  clear hb2 HB1 HV HRV
  go_wp2_with fail
  refine (HRA.out _ HB2.out).mono ?_
  rintro e w' ⟨rfl, rfl⟩
  go_wp2_with fail
  refine (compare_calls A1 A2 n1 n2 c1 c2 a b _ (isI_below H1.out HB2.out) (isI_below H2.out HB2.out)).mono ?_
  rintro e w3 ⟨rfl, hb3⟩
  have HB3 := Lib.hid (Below.andThen HB2.out hb3)
  clear hb3 HB2
  go_wp2_with fail
  refine (rcompare_calls A1 A2 n1 n2 c1 c2 a b _ (isI_below H1.out HB3.out) (isI_below H2.out HB3.out)).mono ?_
  rintro e w' ⟨rfl, q, rfl⟩
  have HB4 := Lib.hid (below_drewN HB3.out q)
  generalize w3.drewN q = w4 at *
  clear HB3
  go_wp2_with fail
  refine (HRA.out _ HB4.out).mono ?_
  rintro e w' ⟨rfl, rfl⟩
  cases al
  · go_wp2_with fail
    refine (HS.out _).mono ?_
    rintro e w5 ⟨rfl, hb⟩
    have HB := Lib.hid (Below.andThen HB4.out hb)
    clear hb
    go_wp2_with fail
    go_ret
    exact ⟨rfl, HB.out⟩
  go_wp2_with fail
  refine (HM.out _).mono ?_
  rintro e w' ⟨rfl, rfl⟩
  cases me
  · go_wp2_with fail
    refine (HS.out _).mono ?_
    rintro e w5 ⟨rfl, hb⟩
    have HB := Lib.hid (Below.andThen HB4.out hb)
    clear hb
    go_wp2_with fail
    go_ret
    exact ⟨rfl, HB.out⟩
  obtain ⟨hlen, hva, hvb⟩ := vq.alike_iff.1 HAL.out
  obtain ⟨hm1, hm3⟩ := of_decide_eq_true HME.out
  have hn12 : n2 = n1 := by have := H1.out.1; have := H2.out.1; omega
  subst hn12
  have hn32 : n2 ≤ 32 := by have := hva.le; have := H1.out.1; omega
  have HFA := Lib.hid (few_of hva)
  have HFB := Lib.hid (few_of hvb)
  have HFS : Hid (Few (vq.sub a b)) := vq.sub_bound hva hvb
  have HLEN := Lib.hid hlen
  clear hlen hva hvb HA HRA HM HAL HME
  go_wp2_with fail
  refine (HS.out _).mono ?_
  rintro e w5 ⟨rfl, hb5⟩
  have HB5 := Lib.hid (Below.andThen HB4.out hb5)
  clear hb5 HB4 HS
  go_wp2_with fail
  refine (sub_calls A1 A2 n2 c1 c2 a b _ (isI_below H1.out HB5.out) (isI_below H2.out HB5.out) HFA.out HFB.out hn32).mono ?_
  rintro e w6 ⟨A6, c6, rfl, hI6, hb6⟩
  have HB6 := Lib.hid (Below.andThen HB5.out hb6)
  have HI6 := Lib.hid hI6
  clear hb6 HB5 hI6
  go_wp2_with fail
  refine (rsub_calls A1 A2 n2 c1 c2 a b _ (isI_below H1.out HB6.out) (isI_below H2.out HB6.out) HFA.out HFB.out hn32).mono ?_
  rintro e w7 ⟨A7, c7, rfl, hI7, hb7⟩
  have HB7 := Lib.hid (Below.andThen HB6.out hb7)
  have HI7 := Lib.hid hI7
  have HI67 := Lib.hid (isI_below HI6.out hb7)
  clear hb7 HB6 hI7 HI6
  go_wp2_with fail
  refine (same_calls A6 A7 n2 n2 c6 c7 _ _ _ HI67.out HI7.out).mono ?_
  rw [beq_self_eq_true]
  rintro e w' ⟨rfl, q8, rfl⟩
  have HB8 := Lib.hid (below_drewN HB7.out q8)
  generalize w7.drewN q8 = w8 at *
  clear HB7 HI67 HI7
  go_wp2_with fail
  have HD := Lib.hid (dot_calls A1 A2 n2 c1 c2 a b w8 (isI_below H1.out HB8.out) (isI_below H2.out HB8.out) HFA.out HFB.out hn32)
  have HRD := Lib.hid (fun w' hb => rdot_calls A1 A2 n2 c1 c2 a b w' (isI_below H1.out hb) (isI_below H2.out hb) HFA.out HFB.out hn32)
  have HK := Lib.hid (fun w' hb => key_calls m A1 A2 n2 c1 c2 a b w' (by omega) (by omega) (isI_below H1.out hb) (isI_below H2.out hb) HFS.out hn32)
  have HRK := Lib.hid (fun w' hb => rkey_calls m A1 A2 n2 c1 c2 a b w' hm1 hm3 (isI_below H1.out hb) (isI_below H2.out hb) HFA.out HFB.out HFS.out hn32)
  generalize vq.dot a b = dt at HD HRD
  generalize vq.key m a b = ky at HK HRK
  refine HD.out.mono ?_
  rintro e w9 ⟨rfl, hb9⟩
  have HB9 := Lib.hid (Below.andThen HB8.out hb9)
  clear hb9 HB8 HD
  go_wp2_with fail
  refine (HRD.out _ HB9.out).mono ?_
  rintro e w' ⟨rfl, q10, rfl⟩
  have HB10 := Lib.hid (below_drewN HB9.out q10)
  generalize w9.drewN q10 = w10 at *
  clear HB9 HRD
  go_wp2_with fail
  refine (HK.out _ HB10.out).mono ?_
  rintro e w11 ⟨rfl, hb11⟩
  have HB11 := Lib.hid (Below.andThen HB10.out hb11)
  clear hb11 HB10 HK
  go_wp2_with fail
  refine (HRK.out _ HB11.out).mono ?_
  rintro e w12 ⟨rfl, hb12⟩
  have HB12 := Lib.hid (Below.andThen HB11.out hb12)
  clear hb12 HB11 HRK
  go_wp2_with fail
  go_ret
  exact ⟨by simp, HB12.out⟩
end Go.Proofs.Ytbnemcggiopdmaa.vectorKeysAsSpecified
