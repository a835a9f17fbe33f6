
import Derived.Test.YtlmbacacjcbdjaaDoorHi

import Derived.Deep.RegionHeld3

namespace Go.Proofs.YtlmbacacjcbdjaaDoor.hi

open Go.ChangeShapes Go.WideShapes Go.ChangeAt Go.RowKit

set_option linter.unusedVariables false

theorem testBit0 (b : Nat) : b.testBit 0 = decide (b % 2 = 1) := Nat.testBit_zero b

set_option maxRecDepth 100000 in
theorem mul_calls (a0 b0 : Nat) (w : World) (ha : a0 < 1099511627776) (hb : b0 < 1099511627776) :
    Calls Tryd.prog 88 #[.int .u64 (a0 : Int), .int .u64 (b0 : Int)] w fun e w' => e = .returned (.int .u64 (hp.mulK 40 a0 b0 : Nat)) ∧ w = w' := by
  go_enter Tryd.func88, Tryd.ntmps88
  go_wp2_with fail
  go_loopg [0, 1, 5] 40 (fun g x y z wr => ∃ (a b p : Nat), x = .int .u64 (a : Int) ∧ y = .int .u64 (b : Int) ∧ z = .int .u64 (p : Int) ∧ a < 1099511627776 ∧ b < 2 ^ g ∧ b < 1099511627776 ∧ p < 1099511627776 ∧ p ^^^ hp.mulK g a b = hp.mulK 40 a0 b0 ∧ w = wr)
  case atStart => exact ⟨a0, b0, 0, rfl, rfl, rfl, ha, hb, hb, by decide, by simp, rfl⟩
  case round =>
    obtain ⟨a, b, p, rfl, rfl, rfl, hal, hbg, hbl, hpl, hm, rfl⟩ := hrel
    have HM := Lib.hid hm
    have HBG := Lib.hid hbg
    clear hm hbg ha hb
    by_cases hz : 0 < b
    · have HG : Hid (∃ k, gk = k + 1) := by
        cases gk with
        | zero => have := HBG.out; simp at this; omega
        | succ k => exact ⟨k, rfl⟩
      have hb1 := hb.bit0_u64 b (by omega)
      have HX := Lib.hid ((hb.U.nat (j := 64) (a := p) (by omega)).xor64 (hb.U.nat (j := 64) (a := a) (by omega))).eq
      have HP2 : Hid (p ^^^ a < 1099511627776) := Nat.xor_lt_two_pow (n := 40) hpl hal
      have HT := Lib.hid (raise_1 a w hal)
      have HTL := Lib.hid (hp.T_lt a)
      by_cases hodd : b % 2 = 1
      · rw [hodd] at hb1
        go_wp2_with (go_at_call 99; refine HT.out.mono ?_; rintro e w' ⟨rfl, rfl⟩)
        go_roundg (gk - 1)
        case measure => obtain ⟨k, rfl⟩ := HG.out; omega
        case rel =>
          obtain ⟨k, rfl⟩ := HG.out
          refine ⟨hp.T a, b / 2, p ^^^ a, rfl, by go_num, by rw [HX.out], HTL.out, ?_, by omega, HP2.out, ?_, rfl⟩
          · have := HBG.out; rw [Nat.pow_succ] at this; simp only [Nat.add_sub_cancel]; omega
          · rw [← HM.out]
            simp only [Nat.add_sub_cancel, hp.mulK, testBit0, hodd, decide_true, if_true]
            rw [Nat.xor_assoc]
      · have h0 : b % 2 = 0 := by omega
        rw [h0] at hb1
        go_wp2_with (go_at_call 99; refine HT.out.mono ?_; rintro e w' ⟨rfl, rfl⟩)
        go_roundg (gk - 1)
        case measure => obtain ⟨k, rfl⟩ := HG.out; omega
        case rel =>
          obtain ⟨k, rfl⟩ := HG.out
          refine ⟨hp.T a, b / 2, p, rfl, by go_num, rfl, HTL.out, ?_, by omega, hpl, ?_, rfl⟩
          · have := HBG.out; rw [Nat.pow_succ] at this; simp only [Nat.add_sub_cancel]; omega
          · rw [← HM.out]
            simp [hp.mulK, h0]
    · obtain rfl : b = 0 := by omega
      go_wp2_with fail
      go_ret
      refine ⟨ret_u64 ?_, rfl⟩
      have := HM.out
      rw [hp.mulK_zero, Nat.xor_zero] at this
      rw [this]

/-- the lowest 40 bits -/
def low (a : Int) : Nat := (a % 1099511627776).toNat
theorem low_lt (a : Int) : low a < 1099511627776 := by unfold low; omega
theorem mask_low (a : Int) : hb.U 64 (bits .and .u64 (IntKind.u64.wrap a) 1099511627775) (low a) := by
  have u : hb.U 64 (IntKind.u64.wrap a) (a % 18446744073709551616).toNat := ⟨by simp [IntKind.wrap, IntKind.bits, IntKind.signed]; omega, by omega⟩
  have := u.mask40
  have e : (a % 18446744073709551616).toNat % 1099511627776 = low a := by unfold low; omega
  rw [e] at this
  exact this
def joinV (a b n : Int) : Nat := if n < 0 then 0 else hp.Tn (8 * n.toNat) (low a) ^^^ low b
theorem joinV_lt (a b n : Int) : joinV a b n < 1099511627776 := by
  unfold joinV
  split
  · decide
  · exact Nat.xor_lt_two_pow (n := 40) (hp.Tn_lt _ (low_lt a)) (low_lt b)

set_option maxRecDepth 100000 in
set_option maxHeartbeats 2000000 in
theorem join_calls (a b n : Int) (w : World) (ha : -9223372036854775808 ≤ a ∧ a ≤ 9223372036854775807) (hbb : -9223372036854775808 ≤ b ∧ b ≤ 9223372036854775807) (hn : -9223372036854775808 ≤ n ∧ n ≤ 9223372036854775807) :
    Calls Tryd.prog 71 #[.int .i64 a, .int .i64 b, .int .i64 n] w fun e w' => e = .returned (.int .i64 (joinV a b n : Nat)) ∧ w = w' := by
  by_cases hneg : n < 0
  · have HJ : Hid (joinV a b n = 0) := by show _ = _; unfold joinV; rw [if_pos hneg]
    go_enter Tryd.func71, Tryd.ntmps71
    go_wp2_with fail
    go_ret
    exact ⟨by rw [HJ.out]; rfl, rfl⟩
  · obtain ⟨k0, rfl⟩ := Int.eq_ofNat_of_zero_le (by omega : 0 ≤ n)
    have HJ : Hid (joinV a b k0 = hp.Tn (8 * k0) (low a) ^^^ low b) := by show _ = _; unfold joinV; rw [if_neg hneg]; rfl
    have HA := Lib.hid (mask_low a).eq
    have HB := Lib.hid (mask_low b).eq
    have HBL := Lib.hid (low_lt b)
    have HAL := Lib.hid (low_lt a)
    generalize low a = la at *
    generalize low b = lb at *
    generalize joinV a b k0 = jj at *
    have hk : k0 < 9223372036854775808 := by omega
    go_enter Tryd.func71, Tryd.ntmps71
    go_wp2_with fail
    go_loopg [2, 7, 8] 64 (fun g x y z wr => ∃ (c m f e : Nat), x = .int .i64 (c : Int) ∧ y = .int .u64 (m : Int) ∧ z = .int .u64 (f : Int) ∧ m < 1099511627776 ∧ f < 1099511627776 ∧ c < 2 ^ g ∧ c < 9223372036854775808 ∧ f = hp.Tn e 1 ∧ hp.Tn (e * c) m = hp.Tn (8 * k0) la ∧ w = wr)
    case atStart => exact ⟨k0, la, 256, 8, rfl, by rw [HA.out], rfl, HAL.out, by decide, by omega, hk, by decide +kernel, rfl, rfl⟩
    case round =>
      obtain ⟨c, m, f, e, rfl, rfl, rfl, hm, hf, hcg, hc, hfe, hmm, rfl⟩ := hrel
      have HMM := Lib.hid hmm
      have HCG := Lib.hid hcg
      have HFE := Lib.hid hfe
      clear hmm hcg hfe hk
      by_cases hz : 0 < c
      · have HG : Hid (∃ k, gk = k + 1) := by
          cases gk with
          | zero => have := HCG.out; simp at this; omega
          | succ k => exact ⟨k, rfl⟩
        have hb1 := hb.bit0_i64 c hc
        have HT1 : Hid (hp.mulK 40 f f = hp.Tn (e + e) 1) := by
          show _ = _
          rw [hp.Tn_add, ← HFE.out]
          conv => lhs; rw [show hp.mulK 40 f f = hp.mulK 40 f (hp.Tn e 1) from by rw [← HFE.out]]
          exact hp.mulK_Tn hf e
        have HT2 : Hid (hp.mulK 40 m f = hp.Tn e m) := by
          show _ = _
          rw [HFE.out]; exact hp.mulK_Tn hm e
        have HL1 : Hid (hp.Tn (e + e) 1 < 1099511627776) := hp.Tn_lt _ (by decide)
        have HL2 : Hid (hp.Tn e m < 1099511627776) := hp.Tn_lt _ hm
        by_cases hodd : c % 2 = 1
        · rw [hodd] at hb1
          go_wp2_with fail
          refine (mul_calls m f w hm hf).mono ?_
          rintro e1 w1 ⟨rfl, rfl⟩
          go_wp2_with fail
          refine (mul_calls f f w hf hf).mono ?_
          rintro e1 w1 ⟨rfl, rfl⟩
          go_wp2_with fail
          go_roundg (gk - 1)
          case measure => obtain ⟨k, rfl⟩ := HG.out; omega
          case rel =>
            obtain ⟨k, rfl⟩ := HG.out
            refine ⟨c / 2, hp.Tn e m, hp.Tn (e + e) 1, e + e, by go_num, by rw [HT2.out], by rw [HT1.out], HL2.out, HL1.out, ?_, by omega, rfl, ?_, rfl⟩
            · have := HCG.out; rw [Nat.pow_succ] at this; simp only [Nat.add_sub_cancel]; omega
            · rw [← HMM.out, ← hp.Tn_add]
              congr 1
              have : c = 2 * (c / 2) + 1 := by omega
              conv => rhs; rw [this]
              rw [Nat.mul_add, Nat.mul_one, ← Nat.mul_assoc, Nat.mul_two]
        · have h0 : c % 2 = 0 := by omega
          rw [h0] at hb1
          go_wp2_with fail
          refine (mul_calls f f w hf hf).mono ?_
          rintro e1 w1 ⟨rfl, rfl⟩
          go_wp2_with fail
          go_roundg (gk - 1)
          case measure => obtain ⟨k, rfl⟩ := HG.out; omega
          case rel =>
            obtain ⟨k, rfl⟩ := HG.out
            refine ⟨c / 2, m, hp.Tn (e + e) 1, e + e, by go_num, rfl, by rw [HT1.out], hm, HL1.out, ?_, by omega, rfl, ?_, rfl⟩
            · have := HCG.out; rw [Nat.pow_succ] at this; simp only [Nat.add_sub_cancel]; omega
            · rw [← HMM.out]
              congr 1
              have : c = 2 * (c / 2) := by omega
              conv => rhs; rw [this]
              rw [← Nat.mul_assoc, Nat.mul_two]
      · obtain rfl : c = 0 := by omega
        have HX := Lib.hid ((hb.U.nat (j := 64) (a := m) (by omega)).xor64 (hb.U.nat (j := 64) (a := lb) (by have := HBL.out; omega))).eq
        have HXL : Hid (m ^^^ lb < 1099511627776) := Nat.xor_lt_two_pow (n := 40) hm HBL.out
        go_wp2_with fail
        go_ret
        refine ⟨ret_i64 ?_, rfl⟩
        rw [HB.out, HX.out, HJ.out, ← HMM.out]
        have := HXL.out
        simp only [Nat.mul_zero, hp.Tn]
        unfold wrap64
        omega

theorem crc40 (A : Option Addr) (n c : Nat) (l : List UInt8) (w : World) (hn : l.length = n) (hnc : n ≤ c) (hc : c ≤ 9223372036854775807) (hl : wp.RB w A l) :
    Calls Tryd.prog 66 #[.slice A n c] w fun e w' => e = .returned (.int .i64 (hp.crc l : Nat)) ∧ Below w.heap.size w w' := by
  have hconv : ∀ w', Below w.heap.size w w' → (convert 77 9 (.slice A n c)).run Tryd.prog w' = .ok (.string ⟨l.toArray⟩) w' := fun w' hb =>
    wk.conv_str w' _ 5 _ Tryd.underlying77 Tryd.underlying5 Tryd.underlying9 A n c l hn (wk.RB.below hl hb)
  have HC := Lib.hid hconv
  have c0 := hconv w.drew (Below.refl _ _).drew
  have hsz : (⟨l.toArray⟩ : ByteArray).size = n := by show l.toArray.size = n; simpa using hn
  have HA := Lib.hid (fun w' => crc_add hp.FULL ⟨l.toArray⟩ w' (by decide) (by omega))
  have HV := Lib.hid (fun w' => crc_value (hp.reg hp.FULL l) w' (hp.reg_lt (by decide) l))
  clear hconv hl hn hsz
  go_enter Tryd.func66, Tryd.ntmps66
  go_wp2_with fail
  go_region_held3 (fun w' => (convert 77 9 (.slice A n c)).run Tryd.prog w' = .ok (.string ⟨l.toArray⟩) w') (first | exact c1 | exact c0) (first | (go_at_call 67; refine (begin_crc _).mono ?_; rintro e w1 ⟨rfl, hb1⟩; have B1 : Below w.heap.size w w1 := (Below.refl _ _).drew.trans hb1; have c1 := HC.out w1 B1) | (go_at_call 68; refine (HA.out _).mono ?_; rintro e w2 ⟨rfl, hb2⟩; have B2 : Below w.heap.size w w2 := B1.trans (hb2.mono B1.size); have c1 := HC.out w2 B2) | (go_at_call 69; refine (HV.out _).mono ?_; rintro e w3 ⟨rfl, hb3⟩; have B3 : Below w.heap.size w w3 := B2.trans (hb3.mono B2.size); have c1 := HC.out w3 B3))
  all_goals
    go_wp2_with fail
    go_ret
    exact ⟨rfl, B3⟩
end Go.Proofs.YtlmbacacjcbdjaaDoor.hi
