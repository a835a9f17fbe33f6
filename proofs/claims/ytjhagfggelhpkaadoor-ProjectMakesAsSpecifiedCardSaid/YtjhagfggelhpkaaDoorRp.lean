
import Derived.Test.YtjhagfggelhpkaaDoorRw

import Derived.Test.YtjhagfggelhpkaaDoorHpd

import Derived.Test.YtjhagfggelhpkaaDoorWJoins

namespace Go.Proofs.YtjhagfggelhpkaaDoor.hi

open Go.ChangeShapes Go.WideShapes Go.ChangeAt Go.RowKit

set_option linter.unusedVariables false

theorem len8_fwd (n : Nat) {k : Nat} (hk : k < 8) : (hs.len8 n)[k]? = some (UInt8.ofNat (8 * n / 2 ^ (56 - 8 * k))) := by
  have := hs.len8_at n (k := 7 - k) (by omega)
  rw [show 7 - (7 - k) = k by omega, show 8 * (7 - k) = 56 - 8 * k by omega] at this
  exact this
theorem padded_one (l : List UInt8) (z : Nat) : wp.bc (l ++ (128 :: hs.zeros z)) ++ [.int .u8 0] = wp.bc (l ++ (128 :: hs.zeros (z + 1))) := by
  rw [hs.zeros_add]
  simp [wp.bc, hs.zeros]
set_option maxRecDepth 100000 in
set_option maxHeartbeats 4000000 in
theorem padded_calls (A : Option Addr) (n c : Nat) (l : List UInt8) (w : World) (hn : l.length = n) (hnc : n ≤ c) (hc : c ≤ 9223372036854775807) (hl : wp.RB w A l) (hsm : n ≤ 1000000) :
    Calls Tryd.prog 98 #[.slice A n c] w (wi.OutB (hs.pad l) w) := by
  obtain ⟨i0, hi, hz0, hz1, hz2⟩ := info_parts wi.info5
  have HN := Lib.hid hn
  have HL := Lib.hid hl
  clear hn hl
  obtain ⟨z, hz⟩ : ∃ z, z = hs.gap n := ⟨_, rfl⟩
  have hzl : z < 64 := by rw [hz]; unfold hs.gap; omega
  have hzm : (n + 9 + z) % 64 = 0 := by rw [hz]; exact hs.gap_mod n
  have HZ := Lib.hid hz
  have HZM := Lib.hid hzm
  clear hz hzm
  go_enter Tryd.func98, Tryd.ntmps98
  have hown0 : (w.alloc (.cells #[] 5)).ownsRow w.heap.size 5 1 (.slice (some ⟨w.heap.size, 0, none⟩) 0 0) 0 [] := own_new w [] 5 (Nat.zero_le _)
  have hb0 : Below w.heap.size w (w.alloc (.cells #[] 5)) := (Below.refl _ _).alloc (Nat.le_refl _) _
  have HO := Lib.hid hown0
  have HK := Lib.hid (wk.RB.below HL.out hb0)
  have HB0 := Lib.hid hb0
  clear hown0 hb0
  go_wp2_with (at_builtin; refine hashCrcJoins.append_any _ rfl _ _ 67 rfl w.heap.size 5 Tryd.underlying67 wi.info5 _ 0 [] rfl HO.out ?a1 A n c l rfl HN.out HK.out ?a2 ?_)
  case a1 => simp
  case a2 => omega
  intro v2 w2 hown2 hb2
  have hb3 := HB0.out.trans hb2
  have HOWN := Lib.hid hown2
  have HBEL := Lib.hid hb3
  generalize hB : w.heap.size = B at *
  have HB := Lib.hid hB
  have HBW : Hid (B ≤ w2.heap.size) := by have := hb3.size; show _ ≤ _; omega
  clear hown2 hb2 hb3 HO HK HB0 hB
  go_wp2_with (at_builtin; refine wpList_append_own _ rfl _ _ 67 rfl B 5 i0 (.int .u8 0) 1 1 Tryd.underlying67 hi hz0 hz1 hz2 rfl (by decide) _ _ _ rfl (HOWN.out.alloc _) ⟨w2.heap.size, 0, none⟩ 1 1 [.int .u8 128] rfl rfl ?c1 ?c2 ?c3 ?c4 ?c5 ?_)
  case c1 => exact cell_one_new _ _ _
  case c2 => simp [Value.oneCell']
  case c3 => unfold maxLen; omega
  case c4 => omega
  case c5 => have := HBW.out; simp; omega
  intro v3 w3 hown3 hgrow _
  have hb3 := (HBEL.out.alloc HBW.out _).grown hgrow (by have := HBW.out; simp; omega) (fun g hg => (HOWN.out.lt g hg).1)
  have e1 : wp.bc l ++ [.int .u8 128] = wp.bc (l ++ (128 :: hs.zeros 0)) := by simp [wp.bc, hs.zeros]
  rw [e1] at hown3
  have HOWN := Lib.hid hown3
  have HBEL := Lib.hid hb3
  clear hown3 hb3 hgrow e1 HBW
  go_wp2_with fail
  go_loopg [3] z (fun gg v wr => ∃ (k : Nat) (u : Value), k + gg = z ∧ u = v ∧ wr.ownsRow B 5 1 u (n + 1 + k) (wp.bc (l ++ (128 :: hs.zeros k))) ∧ Below B w wr)
  case atStart => exact ⟨0, _, by omega, rfl, HOWN.out, HBEL.out⟩
  case round =>
    obtain ⟨k, u, hk, rfl, hown, hbel⟩ := hrel
    have HK2 := Lib.hid hk
    have HOWN := Lib.hid hown
    have HBEL := Lib.hid hbel
    have HBW : Hid (B ≤ wr.heap.size) := by have := hbel.size; have := HB.out; show _ ≤ _; omega
    have hkz : k ≤ z := by omega
    obtain ⟨g, cap, rfl, hcap⟩ : ∃ g cap, u = .slice (some ⟨g, 0, none⟩) (n + 1 + k) cap ∧ n + 1 + k ≤ cap ∧ cap ≤ maxLen := by
      rcases hown.2 with ⟨_, hn0⟩ | ⟨g', cap', cur, hv, hg, hh, hr1, hr2, hr3, hr4⟩
      · omega
      · exact ⟨g', cap', hv, hr1, hr2⟩
    have HCAP := Lib.hid hcap
    clear hk hown hbel hcap
    by_cases hlt : k < z
    · have hm : ((n + 1 + k : Nat) : Int) % 64 ≠ 56 := by have := HZM.out; omega
      have hmb : (((n + 1 + k : Nat) : Int) % 64 == 56) = false := by simpa using hm
      obtain ⟨L, hL⟩ : ∃ L, L = n + 1 + k := ⟨_, rfl⟩
      rw [← hL] at hm hmb HOWN
      rw [← hL]
      have HLN := Lib.hid hL
      clear hL
      go_wp2_with (at_builtin; refine wpList_append_own _ rfl _ _ 67 rfl B 5 i0 (.int .u8 0) 1 1 Tryd.underlying67 hi hz0 hz1 hz2 rfl (by decide) _ _ _ rfl (HOWN.out.alloc _) ⟨wr.heap.size, 0, none⟩ 1 1 [.int .u8 0] rfl rfl ?c1 ?c2 ?c3 ?c4 ?c5 ?_)
      case c1 => exact cell_one_new _ _ _
      case c2 => simp [Value.oneCell']
      case c3 => have := HLN.out; unfold maxLen; omega
      case c4 => have := HLN.out; omega
      case c5 => have := HBW.out; simp; omega
      intro v' w2 hown' hgrow _
      go_wp2_with fail
      go_roundg (gk - 1)
      case measure => have := HK2.out; omega
      case rel =>
        refine ⟨k + 1, _, by have := HK2.out; omega, rfl, ?_, (HBEL.out.alloc HBW.out _).grown hgrow (by have := HBW.out; simp; omega) (fun g hg => (HOWN.out.lt g hg).1)⟩
        rw [← padded_one]
        rw [HLN.out] at hown'
        exact hown'
    · obtain rfl : k = z := by omega
      have hm : ((n + 1 + k : Nat) : Int) % 64 = 56 := by have := HZM.out; omega
      obtain ⟨L, hL⟩ : ∃ L, L = n + 1 + k := ⟨_, rfl⟩
      rw [← hL] at hm HOWN HCAP
      rw [← hL]
      have HLN := Lib.hid hL
      clear hL
      have h8 : IntKind.u64.wrap (n : Int) = (n : Int) := by rw [IntKind.wrap_u64]; omega
      have h88 : IntKind.u64.wrap (8 * (n : Int)) = 8 * (n : Int) := by rw [IntKind.wrap_u64]; omega
      have hLB : L ≤ 1000064 := by have := HLN.out; omega
      obtain ⟨P, hP⟩ : ∃ P, P = l ++ (128 :: hs.zeros k) := ⟨_, rfl⟩
      rw [← hP] at HOWN
      have HPE := Lib.hid hP
      clear hP
      go_wp2_with fail
      clear hm
      go_loopg [3, 5] 8 (fun gg v x wr => ∃ (j : Nat) (u : Value), j + gg = 8 ∧ x = .int .i64 (j : Int) ∧ u = v ∧ wr.ownsRow B 5 1 u (L + j) (wp.bc (P ++ (hs.len8 n).take j)) ∧ Below B w wr)
      case atStart => exact ⟨0, _, rfl, rfl, rfl, by rw [List.take_zero, List.append_nil]; exact HOWN.out, HBEL.out⟩
      case round =>
        obtain ⟨j, u, hj, rfl, rfl, hown, hbel⟩ := hrel
        have HJ := Lib.hid hj
        have HOWN := Lib.hid hown
        have HBEL := Lib.hid hbel
        have HBW : Hid (B ≤ wr.heap.size) := by have := hbel.size; have := HB.out; show _ ≤ _; omega
        have hj8 : j ≤ 8 := by omega
        clear hj hown hbel
        by_cases hlt : j < 8
        · have hat := len8_fwd n hlt
          obtain ⟨s, hsh⟩ : ∃ s, s = 56 - 8 * j := ⟨_, rfl⟩
          have hsi : (56 : Int) - 8 * (j : Int) = (s : Int) := by omega
          have hs64 : s < 64 := by omega
          rw [← hsh] at hat
          have HTT : Hid ((hs.len8 n).take (j + 1) = (hs.len8 n).take j ++ [UInt8.ofNat (8 * n / 2 ^ s)]) := by show _ = _; rw [List.take_add_one, hat]; rfl
          have hval : IntKind.u8.wrap (8 * (n : Int) / 2 ^ s) = ((UInt8.ofNat (8 * n / 2 ^ s)).toNat : Int) := by
            rw [IntKind.wrap_u8, UInt8.toNat_ofNat', Int.natCast_emod, Int.natCast_ediv, Int.natCast_mul, Int.natCast_pow]
            rfl
          generalize UInt8.ofNat (8 * n / 2 ^ s) = y at *
          have HV := Lib.hid hval
          clear hat hsh
          go_wp2_with (at_builtin; refine wpList_append_own _ rfl _ _ 67 rfl B 5 i0 (.int .u8 0) 1 1 Tryd.underlying67 hi hz0 hz1 hz2 rfl (by decide) _ _ _ rfl (HOWN.out.alloc _) ⟨wr.heap.size, 0, none⟩ 1 1 [.int .u8 (y.toNat : Int)] rfl rfl ?c1 ?c2 ?c3 ?c4 ?c5 ?_)
          case c1 => exact cell_one_new _ _ _
          case c2 => simp [Value.oneCell']
          case c3 => unfold maxLen; omega
          case c4 => omega
          case c5 => have := HBW.out; simp; omega
          intro v' w2 hown' hgrow _
          go_wp2_with fail
          go_roundg (gk - 1)
          case measure => have := HJ.out; omega
          case rel =>
            refine ⟨j + 1, _, by have := HJ.out; omega, by go_num, rfl, ?_, (HBEL.out.alloc HBW.out _).grown hgrow (by have := HBW.out; simp; omega) (fun g hg => (HOWN.out.lt g hg).1)⟩
            rw [HTT.out, ← List.append_assoc, wp.bc_append, ← Nat.add_assoc]
            exact hown'
        · obtain rfl : j = 8 := by omega
          have h := HOWN.out
          have e1 : (hs.len8 n).take 8 = hs.len8 n := List.take_of_length_le (by rw [hs.len8_length]; decide)
          have e2 : P ++ hs.len8 n = hs.pad l := by
            rw [HPE.out]
            unfold hs.pad
            rw [HN.out, ← HZ.out]
            simp only [List.append_assoc, List.cons_append]
          have e3 : L + 8 = (hs.pad l).length := by rw [hs.pad_length, HN.out, ← HZ.out, HLN.out]; omega
          rw [e1, e2, e3] at h
          have H := Lib.hid h
          clear h e1 e2 e3
          go_wp2_with fail
          go_ret
          exact ⟨_, rfl, by rw [HB.out]; exact H.out, by rw [HB.out]; exact HBEL.out⟩
end Go.Proofs.YtjhagfggelhpkaaDoor.hi
