/- The reference: All, with 40. -/
import Derived.Test.YtiodjepjbooniaaG12

import Derived.Test.YtiodjepjbooniaaG6

namespace Go.Proofs.Ytiodjepjbooniaa.uk

open Go.ChangeShapes Go.WideShapes Go.ChangeAt Go.RowKit

open Go.Proofs.Ytiodjepjbooniaa.cq Go.Proofs.Ytiodjepjbooniaa.vk Go.Proofs.Ytiodjepjbooniaa.bk Go.Proofs.Ytiodjepjbooniaa.wk

set_option linter.unusedVariables false
set_option maxRecDepth 100000 in
set_option maxHeartbeats 1000000 in
theorem rall40_calls (A : Option Addr) (n c : Nat) (L : List (List Int)) (w : World) (h : IsVV w A n c L) :
    Calls Try.prog 29 #[.slice A n c, .int .i64 40] w fun e w' => e = .returned (.bool (vq.allv L 40)) ∧ ∃ q, w' = w.drewN q := by
  have hE : vq.allv L 40 = (L.all (vq.alike (L.headD [])) && (decide (1 ≤ n) && decide ((n : Int) ≤ 40))) := by simp only [vq.allv, h.1]
  rw [hE]
  have H := Lib.hid h
  have hm := h.2.2.1
  have hnc := h.2.1
  clear h hE
  go_enter Try.func29, Try.ntmps29
  go_wp2_with fail
  go_loopg [5] n (fun g x wr => ∃ k q : Nat, k + g = n ∧ x = .int .i64 (k : Int) ∧ wr = w.drewN q ∧ (L.drop k).all (vq.alike (L.headD [])) = L.all (vq.alike (L.headD [])))
  case atStart => exact ⟨0, 0, by omega, rfl, rfl, rfl⟩
  case round =>
    obtain ⟨k, q, hk, rfl, rfl, hr⟩ := hrel
    have HK := Lib.hid hk
    have HR := Lib.hid hr
    have hkn : k ≤ n := by omega
    clear hk hr
    by_cases hlt : k < n
    · obtain ⟨b, o, A1, n1, c1, l1, rfl, hb1, hc1, hI1, hL1⟩ := isVV_get H.out hlt
      obtain ⟨b0, o0, A0, n0, c0, l0, e0, hb0, hc0, hI0, hL0⟩ := isVV_get H.out (k := 0) (by omega)
      cases e0
      rw [Nat.add_zero] at hc0
      have hh : L.headD [] = l0 := by cases L <;> simp_all
      have hr := HR.out
      rw [dropL_at hL1, List.all_cons, hh] at hr
      have HR2 := Lib.hid hr
      have HH := Lib.hid hh
      have hn0 : (0 : Int) < (n : Int) := by omega
      have hn1' : (k : Int) < (n : Int) := by omega
      have hn2' : 0 < n := by omega
      have HAL := Lib.hid (fun q' => ralike_calls A0 A1 n0 n1 c0 c1 l0 l1 (w.drewN (q + q')) (isI_drewN hI0 _) (isI_drewN hI1 _))
      clear hr hI1 hI0 hL1 hL0 hh
      cases hal : vq.alike l0 l1
      · rw [hal] at HAL HR2
        go_wp2_with fail
        go_quiet (exact (HAL.out _).mono fun e w'' hh => ⟨hh.1, _, hh.2⟩)
        go_wp2_with fail
        go_ret
        have := HR2.out
        rw [Bool.false_and] at this
        exact ⟨by rw [HH.out, ← this]; simp, _, by first | rfl | exact drewN_add _ _ _⟩
      · rw [hal] at HAL HR2
        go_wp2_with fail
        go_quiet (exact (HAL.out _).mono fun e w'' hh => ⟨hh.1, _, hh.2⟩)
        go_wp2_with fail
        go_roundg (gk - 1)
        case measure => have := HK.out; omega
        case rel =>
          refine ⟨k + 1, _, by have := HK.out; omega, by go_num, rfl, ?_⟩
          have := HR2.out
          rw [Bool.true_and] at this
          rw [HH.out]
          exact this
    · have hall : L.all (vq.alike (L.headD [])) = true := by
        have := HR.out
        rw [List.drop_of_length_le (by have := H.out.1; omega)] at this
        exact this.symm
      have HALL := Lib.hid hall
      clear hall
      by_cases h1 : 1 ≤ n
      · go_wp2_with fail
        go_ret
        exact ⟨by rw [HALL.out]; simp [h1], q, rfl⟩
      · go_wp2_with fail
        go_ret
        exact ⟨by first | rfl | simp [h1], q, rfl⟩
end Go.Proofs.Ytiodjepjbooniaa.uk
