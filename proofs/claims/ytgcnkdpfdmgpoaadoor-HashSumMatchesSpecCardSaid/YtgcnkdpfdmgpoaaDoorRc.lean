
import Derived.Test.YtgcnkdpfdmgpoaaDoorHj

import Derived.Test.YtgcnkdpfdmgpoaaDoorHpx

import Derived.Test.YtgcnkdpfdmgpoaaDoorEnc

namespace Go.Proofs.YtgcnkdpfdmgpoaaDoor.hi

open Go.ChangeShapes Go.WideShapes Go.ChangeAt Go.RowKit

set_option linter.unusedVariables false

set_option maxRecDepth 100000 in
theorem rstep_calls (r b : Nat) (w : World) (hr : r < 1099511627776) (hb2 : b < 2) :
    Calls Tryd.prog 40 #[.int .u64 (r : Int), .int .u64 (b : Int)] w fun e w' => e = .returned (.int .u64 (hp.sstep r b : Nat)) ∧ w = w' := by
  have HE := Lib.hid (hp.sstep_eq (r := r) hb2)
  have HL : Hid (hp.sstep r b < 1099511627776) := hp.T_lt _
  have ux : hb.U 64 (bits .xor .u64 ((r / 549755813888 % 2 : Nat) : Int) (b : Int)) (r / 549755813888 % 2 ^^^ b) := (hb.U.nat (j := 64) (a := r / 549755813888 % 2) (by omega)).xor64 (hb.U.nat (j := 64) (a := b) (by omega))
  have hand : bits .and .u64 ((r : Int) / 549755813888) 1 = ((r / 549755813888 % 2 : Nat) : Int) := by
    have := hb.bit0_u64 (r / 549755813888) (by omega)
    rw [← this]; rfl
  have HX : bits .xor .u64 ((r : Int) / 549755813888 % 2) (b : Int) = ((r / 549755813888 % 2 ^^^ b : Nat) : Int) := ux.eq
  have hmask : bits .and .u64 ((r : Int) * 2) 1099511627775 = ((r * 2 % 1099511627776 : Nat) : Int) := (hb.U.mul (hb.U.nat (j := 64) (a := r) (by omega)) 2 (by omega)).mask40.eq
  have hxp : bits .xor .u64 ((r * 2 % 1099511627776 : Nat) : Int) 75628553 = ((r * 2 % 1099511627776 ^^^ hp.POLY : Nat) : Int) := ((hb.U.nat (j := 64) (a := r * 2 % 1099511627776) (by omega)).xor64 (hb.U.nat (j := 64) (a := hp.POLY) (by decide))).eq
  have HXP := Lib.hid hxp
  have HM := Lib.hid hmask
  clear hxp hmask ux
  by_cases h1 : r / 549755813888 % 2 ^^^ b = 1
  · have hq : (bits .xor .u64 ((r : Int) / 549755813888 % 2) (b : Int) == 1) = true := by rw [HX, h1]; rfl
    have H1 := Lib.hid h1
    clear h1 HX
    go_enter Tryd.func40, Tryd.ntmps40
    go_wp2_with fail
    go_ret
    refine ⟨ret_u64 ?_, rfl⟩
    rw [HE.out, if_pos H1.out, HM.out, HXP.out]
  · have hq : (bits .xor .u64 ((r : Int) / 549755813888 % 2) (b : Int) == 1) = false := by rw [HX]; simpa using (by omega : ((r / 549755813888 % 2 ^^^ b : Nat) : Int) ≠ 1)
    have H1 := Lib.hid h1
    clear h1 HX
    go_enter Tryd.func40, Tryd.ntmps40
    go_wp2_with fail
    go_ret
    refine ⟨ret_u64 ?_, rfl⟩
    rw [HE.out, if_neg H1.out, Nat.xor_zero, HM.out]

set_option maxRecDepth 100000 in
set_option maxHeartbeats 1000000 in
theorem rcrc_calls (A : Option Addr) (n c : Nat) (l : List UInt8) (w : World) (hn : l.length = n) (hnc : n ≤ c) (hc : c ≤ 9223372036854775807) (hl : wp.RB w A l) :
    Calls Tryd.prog 17 #[.slice A n c] w fun e w' => e = .returned (.int .i64 (hp.crc l : Nat)) ∧ w = w' := by
  have HL := Lib.hid hl
  have HN := Lib.hid hn
  clear hl hn
  go_enter Tryd.func17, Tryd.ntmps17
  go_wp2_with fail
  go_loopg [3, 4] n (fun g x y wr => ∃ (k q : Nat), k + g = n ∧ y = .int .i64 (k : Int) ∧ x = .int .u64 (q : Int) ∧ q < 1099511627776 ∧ hp.reg q (l.drop k) = hp.reg hp.FULL l ∧ w = wr)
  case atStart => exact ⟨0, hp.FULL, by omega, rfl, rfl, by decide, by rw [List.drop_zero], rfl⟩
  case round =>
    obtain ⟨k, q, hk, rfl, rfl, hq, hreg, rfl⟩ := hrel
    have HK := Lib.hid hk
    have HREG := Lib.hid hreg
    have hkn : k ≤ n := by omega
    clear hk hreg
    by_cases hlt : k < n
    · have hkl : k < l.length := by have := HN.out; omega
      have hlk : l[k]? = some l[k] := List.getElem?_eq_getElem hkl
      obtain ⟨b, o, rfl, hbw, hcell⟩ := HL.out (by omega)
      have hck : w.cell? ⟨b, o + k, none⟩ = some (.int .u8 (l[k].toNat : Int)) := hcell k _ hlk
      have HD := Lib.hid (List.drop_eq_getElem_cons hkl)
      clear hcell hlk
      generalize l[k] = ch at *
      have hch := ch.toNat_lt
      go_wp2_with fail
      go_loopg [3, 5] 8 (fun g x y wr => ∃ (j : Nat), j + g = 8 ∧ y = .int .i64 (j : Int) ∧ x = .int .u64 (hp.bitK q ch.toNat j : Nat) ∧ w = wr)
      case atStart => exact ⟨0, rfl, rfl, by rw [hp.bitK_zero hch], rfl⟩
      case round =>
        obtain ⟨j, hj, rfl, rfl, rfl⟩ := hrel
        have HJ := Lib.hid hj
        have hjle : j ≤ 8 := by omega
        clear hj
        by_cases hj8 : j < 8
        · have hbl := hp.bitK_lt (k := j) hq hch (by omega)
          have HST := Lib.hid (hp.bitK_step (r := q) hch hj8)
          have hi : (7 : Int) - (j : Int) = ((7 - j : Nat) : Int) := by omega
          obtain ⟨s, hs⟩ : ∃ s, s = 7 - j := ⟨_, rfl⟩
          rw [← hs] at hi HST
          have hz : ((ch.toNat / 2 ^ s % 2 : Nat) : Int) = (ch.toNat : Int) / 2 ^ s % 2 := by simp
          have hand : bits .and .u64 ((ch.toNat : Int) / 2 ^ s) 1 = (ch.toNat : Int) / 2 ^ s % 2 := by
            have := hb.bit0_u64 (ch.toNat / 2 ^ s) (Nat.lt_of_le_of_lt (Nat.div_le_self _ _) (by omega))
            rw [hz] at this
            rw [← this, Int.natCast_ediv, Int.natCast_pow]
            rfl
          have hc0 := rstep_calls (hp.bitK q ch.toNat j) (ch.toNat / 2 ^ s % 2) w hbl (Nat.mod_lt _ (by decide))
          rw [hz, HST.out] at hc0
          have HC := Lib.hid hc0
          clear hc0
          clear hs hz
          go_wp2_with fail
          refine HC.out.mono ?_
          rintro e w' ⟨rfl, rfl⟩
          go_wp2_with fail
          go_roundg (gk - 1)
          case measure => have := HJ.out; omega
          case rel => exact ⟨j + 1, by have := HJ.out; omega, by go_num, rfl, rfl⟩
        · obtain rfl : j = 8 := by omega
          have HF := Lib.hid (hp.bitK_full q ch.toNat)
          have HT1 : Hid (hp.Tn 8 (q ^^^ ch.toNat * 4294967296) < 1099511627776) := hp.Tn_lt 8 (Nat.xor_lt_two_pow (n := 40) hq (hp.byte_lt ch))
          go_wp2_with fail
          go_roundg (n - (k + 1))
          case measure => have := HK.out; omega
          case rel =>
            refine ⟨k + 1, hp.Tn 8 (q ^^^ ch.toNat * 4294967296), by have := HK.out; omega, by go_num, by rw [HF.out], HT1.out, ?_, rfl⟩
            rw [← HREG.out, HD.out]
            rfl
    · have hd : l.drop k = [] := List.drop_eq_nil_of_le (by have := HN.out; omega)
      have hr := HREG.out
      rw [hd] at hr
      have hr2 : q = hp.reg hp.FULL l := hr
      have HR2 := Lib.hid hr2
      have HX := Lib.hid ((hb.U.nat (j := 64) (a := q) (by omega)).xor64 (hb.U.nat (j := 64) (a := hp.FULL) (by decide))).eq
      have HXL : Hid (q ^^^ hp.FULL < 1099511627776) := Nat.xor_lt_two_pow (n := 40) hq (by decide)
      clear hd hr hr2
      go_wp2_with fail
      go_ret
      refine ⟨ret_i64 ?_, rfl⟩
      rw [show (1099511627775 : Int) = ((hp.FULL : Nat) : Int) from rfl, HX.out]
      have := HXL.out
      unfold hp.crc
      rw [← HR2.out]
      unfold wrap64
      omega

set_option maxRecDepth 100000 in
set_option maxHeartbeats 1000000 in
theorem rjoin_calls (a b n : Int) (w : World) (ha : -9223372036854775808 ≤ a ∧ a ≤ 9223372036854775807) (hbb : -9223372036854775808 ≤ b ∧ b ≤ 9223372036854775807) (hn : -9223372036854775808 ≤ n ∧ n ≤ 1000000) :
    Calls Tryd.prog 27 #[.int .i64 a, .int .i64 b, .int .i64 n] w fun e w' => e = .returned (.int .i64 (joinV a b n : Nat)) ∧ w = w' := by
  by_cases hneg : n < 0
  · have HJ : Hid (joinV a b n = 0) := by show _ = _; unfold joinV; rw [if_pos hneg]
    go_enter Tryd.func27, Tryd.ntmps27
    go_wp2_with fail
    go_ret
    exact ⟨by rw [HJ.out]; rfl, rfl⟩
  · obtain ⟨k0, rfl⟩ := Int.eq_ofNat_of_zero_le (by omega : 0 ≤ n)
    have HJ : Hid (joinV a b k0 = hp.Tn (8 * k0) (low a) ^^^ low b) := by show _ = _; unfold joinV; rw [if_neg hneg]; rfl
    have HA := Lib.hid (mask_low a).eq
    have HB := Lib.hid (mask_low b).eq
    have HBL := Lib.hid (low_lt b)
    have HAL := Lib.hid (low_lt a)
    generalize low a = la at *
    generalize low b = lb at *
    generalize joinV a b k0 = jj at *
    have hk : k0 ≤ 1000000 := by omega
    go_enter Tryd.func27, Tryd.ntmps27
    go_wp2_with fail
    go_loopg [7, 8] (8 * k0) (fun g x y wr => ∃ (i : Nat), i + g = 8 * k0 ∧ y = .int .i64 (i : Int) ∧ x = .int .u64 (hp.Tn i la : Nat) ∧ w = wr)
    case atStart => exact ⟨0, by omega, rfl, by rw [HA.out]; rfl, rfl⟩
    case round =>
      obtain ⟨i, hi, rfl, rfl, rfl⟩ := hrel
      have HI := Lib.hid hi
      have hik : i ≤ 8 * k0 := by omega
      clear hi
      have hlt := hp.Tn_lt i HAL.out
      by_cases h8 : i < 8 * k0
      · have HC := Lib.hid (rstep_calls (hp.Tn i la) 0 w hlt (by decide))
        have h8i : (i : Int) < 8 * (k0 : Int) := by omega
        have HSS : Hid (hp.sstep (hp.Tn i la) 0 = hp.Tn (i + 1) la) := by
          show hp.T (hp.Tn i la ^^^ 0 * 549755813888) = _
          rw [Nat.zero_mul, Nat.xor_zero]
          rfl
        go_wp2_with fail
        refine HC.out.mono ?_
        rw [HSS.out]
        rintro e w' ⟨rfl, rfl⟩
        go_wp2_with fail
        go_roundg (gk - 1)
        case measure => have := HI.out; omega
        case rel => exact ⟨i + 1, by have := HI.out; omega, by go_num, rfl, rfl⟩
      · obtain rfl : i = 8 * k0 := by omega
        have HX := Lib.hid ((hb.U.nat (j := 64) (a := hp.Tn (8 * k0) la) (by omega)).xor64 (hb.U.nat (j := 64) (a := lb) (by have := HBL.out; omega))).eq
        have HXL : Hid (hp.Tn (8 * k0) la ^^^ lb < 1099511627776) := Nat.xor_lt_two_pow (n := 40) hlt HBL.out
        have h8i : ¬ ((8 * k0 : Nat) : Int) < 8 * (k0 : Int) := by omega
        go_wp2_with fail
        go_ret
        refine ⟨ret_i64 ?_, rfl⟩
        rw [HB.out, HX.out, HJ.out]
        have := HXL.out
        unfold wrap64
        omega
end Go.Proofs.YtgcnkdpfdmgpoaaDoor.hi
