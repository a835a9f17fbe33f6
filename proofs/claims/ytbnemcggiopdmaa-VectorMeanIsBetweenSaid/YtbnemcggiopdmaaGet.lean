
import Derived.Test.YtbnemcggiopdmaaInt

namespace Go.Proofs.Ytbnemcggiopdmaa.wi

open Go.ChangeShapes Go.WideShapes Go.ChangeAt Go.RowKit

theorem unfold_any (z : Int) (q : Nat) (w : World) (hq : z = (q : Int)) (h : q < 18446744073709551616) :
    Calls Try.prog 70 #[.int .u64 z] w fun e w' => e = .returned (.int .i64 (wp.unz q)) ∧ w = w' := by
  subst hq
  have h1 : (q : Int) < 18446744073709551616 := by omega
  have hand := Lib.u64_and1 (q : Int) (by omega) h1
  by_cases h2 : q % 2 = 1
  · have hb : ((q : Int) % 2 == 1) = true := by rw [beq_iff_eq]; omega
    have hx := Lib.i64_not (q / 2) (by omega)
    have HX := Lib.hid hx
    clear hx
    have HU : Hid (wp.unz q = -((q / 2 : Nat) : Int) - 1) := by show _ = _; unfold wp.unz; rw [if_pos h2]; omega
    have h3 : (q : Int) ≤ 18446744073709551615 := by omega
    clear h2 h h1
    go_enter Try.func70, Try.ntmps70
    go_wp2
    go_ret
    exact ⟨wp.ret_i64 (by rw [HU.out, ← HX.out]; rfl), rfl⟩
  · have hb : ((q : Int) % 2 == 1) = false := by rw [beq_eq_false_iff_ne]; omega
    have HU : Hid (wp.unz q = ((q / 2 : Nat) : Int)) := by show _ = _; unfold wp.unz; rw [if_neg h2]
    have h3 : (q : Int) ≤ 18446744073709551615 := by omega
    clear h2 h h1
    go_enter Try.func70, Try.ntmps70
    go_wp2
    go_ret
    exact ⟨wp.ret_i64 (by rw [HU.out]; rfl), rfl⟩

set_option maxRecDepth 100000 in
set_option maxHeartbeats 1000000 in
theorem getInt_any (A : Option Addr) (n c : Nat) (l : List UInt8) (w : World) (hn : n ≤ c) (hc : c ≤ 9223372036854775807) (hln : l.length = n) (hl : wp.RB w A l) :
    Calls Try.prog 63 #[.slice A n c] w fun e w' => e = .returned (.tuple #[.int .i64 (wp.getI l).1, .int .i64 (wp.getI l).2.1, .int .i64 (wp.getI l).2.2]) ∧ w = w' := by
  have HLN := Lib.hid hln
  have HL := Lib.hid hl
  clear hln hl
  have hcase : ∃ m : Nat, Hid (m = min l.length 10) ∧ m ≤ n ∧ m ≤ 10 ∧ (n ≤ 10 ∧ n ≤ m ∨ 10 < n ∧ 10 ≤ m) := by
    refine ⟨min n 10, ?_, by omega, by omega, by omega⟩
    show _ = _
    rw [HLN.out]
  obtain ⟨m, HM, hm1, hm2, hcase⟩ := hcase
  rcases hcase with ⟨h10, hm3⟩ | ⟨h10, hm3⟩
  · obtain rfl : m = n := by omega
    clear hm1 hm3
    go_enter Try.func63, Try.ntmps63
    go_wp2_with fail
    go_step3
    go_wp2_with fail
    go_step3
    go_wp2_with fail
    go_loopg [5, 6, 15] m (fun g z u x wr => ∃ (k : Nat) (zz : Int), k + g = m ∧ wp.High l k ∧ (k ≤ 9 → zz = (wp.gv (l.take k) : Nat)) ∧ z = .int .u64 zz ∧ u = .int .i64 0 ∧ x = .int .i64 (k : Int) ∧ w = wr)
    case atStart => exact ⟨0, 0, by omega, wp.High.zero _, fun _ => rfl, rfl, rfl, rfl, rfl⟩
    case round =>
      obtain ⟨k, q, hk, hhi, hq, rfl, rfl, rfl, rfl⟩ := hrel
      have hkm : k ≤ m := by omega
      have HK := Lib.hid hk
      have HQ := Lib.hid hq
      have HH := Lib.hid hhi
      clear hk hq hhi
      by_cases hlt : k < m
      · obtain ⟨b, o, rfl, hbw, hcell⟩ := HL.out (by have := HM.out; omega)
        have hkl : k < l.length := by have := HM.out; omega
        have hlk : l[k]? = some l[k] := List.getElem?_eq_getElem hkl
        have hck := hcell k l[k] hlk
        have HLK := Lib.hid hlk
        have HO := Lib.hid (fun h9 => wp.or_step (l := l) (k := k) (by omega) hlk h9)
        have HS := Lib.hid (fun h8 => wp.getI_some HH.out (by omega) hlk h8)
        have hb : (l[k].toNat : Int) < 256 := by have := l[k].toNat_lt; omega
        rw [← HQ.out (by omega)] at HO
        have HC8 : Hid (128 ≤ l[k].toNat → wp.High l (k + 1)) := fun h => HH.out.succ hlk h
        clear hcell hlk
        generalize hgk : l[k].toNat = ck at *
        have HCK := Lib.hid hgk
        clear hgk
        by_cases hc8 : 128 ≤ ck
        · go_wp2_with fail
          go_roundg (gk - 1)
          case measure => have := HK.out; omega
          case rel =>
            exact ⟨k + 1, _, by have := HK.out; omega, HC8.out hc8, fun h9 => HO.out (by omega), rfl, rfl, by go_num, rfl⟩
        · have HG : Hid (wp.gv (l.take (k + 1)) < 18446744073709551616 ∨ 9 < k ∨ (9 ≤ k ∧ 1 < ck)) := by
            show _ ∨ _
            rcases Nat.lt_or_ge k 9 with h | h
            · left
              have hp : 128 ^ (l.take (k + 1)).length ≤ 128 ^ 9 := Nat.pow_le_pow_right (by decide) (by simp; omega)
              have hp' := wp.gv_lt (l.take (k + 1))
              omega
            · rcases Nat.lt_or_ge 1 ck with h1 | h1
              · right; right; exact ⟨h, h1⟩
              · left
                obtain rfl : k = 9 := by omega
                have hp := wp.gv_take HLK.out
                have hp' := wp.gv_lt (l.take 9)
                have hp2 : 128 ^ (l.take 9).length ≤ 128 ^ 9 := Nat.pow_le_pow_right (by decide) (by simp; omega)
                have hp3 : 128 ^ 9 * (l[9].toNat % 128) ≤ 128 ^ 9 * 1 := Nat.mul_le_mul_left _ (by rw [HCK.out]; omega)
                omega
          have hcs : (9 ≤ k ∧ 1 < ck ∨ 0 < k ∧ ck ≤ 0) ∨ (k ≤ 8 ∧ 0 < ck ∨ k ≤ 0 ∨ 9 ≤ k ∧ 1 ≤ ck ∧ ck ≤ 1) := by omega
          rcases hcs with (⟨hx1, hx2⟩ | ⟨hx1, hx2⟩) | (⟨hx1, hx2⟩ | hx1 | ⟨hx1, hx2, hx3⟩)
          · have hk9 : ((k : Int) == 9) = true := by rw [beq_iff_eq]; omega
            go_wp2_with fail
            all_goals
              rw [Exit.noGoto_ret]
              go_ret3
              exact ⟨by rw [HS.out (by omega), if_pos (by omega)]; rfl, rfl⟩
          · have hc0 : ((ck : Int) == 0) = true := by rw [beq_iff_eq]; omega
            go_wp2_with fail
            all_goals
              rw [Exit.noGoto_ret]
              go_ret3
              exact ⟨by rw [HS.out (by omega), if_pos (by omega)]; rfl, rfl⟩
          · have hc0 : ((ck : Int) == 0) = false := by rw [beq_eq_false_iff_ne]; omega
            have hk9 : ((k : Int) == 9) = false := by rw [beq_eq_false_iff_ne]; omega
            go_wp2_with fail
            all_goals
              refine (unfold_any _ _ w (HO.out (by omega)) (by rcases HG.out with h | h | h <;> omega)).mono ?_
              rintro e w' ⟨rfl, rfl⟩
              go_wp2_with fail
              rw [Exit.noGoto_ret]
              go_ret3
              exact ⟨by rw [HS.out (by omega), if_neg (by omega)]; push_cast; rfl, rfl⟩
          · go_wp2_with fail
            all_goals
              refine (unfold_any _ _ w (HO.out (by omega)) (by rcases HG.out with h | h | h <;> omega)).mono ?_
              rintro e w' ⟨rfl, rfl⟩
              go_wp2_with fail
              rw [Exit.noGoto_ret]
              go_ret3
              exact ⟨by rw [HS.out (by omega), if_neg (by omega)]; push_cast; rfl, rfl⟩
          · have hc0 : ((ck : Int) == 0) = false := by rw [beq_eq_false_iff_ne]; omega
            have hk9 : ((k : Int) == 9) = true := by rw [beq_iff_eq]; omega
            go_wp2_with fail
            all_goals
              refine (unfold_any _ _ w (HO.out (by omega)) (by rcases HG.out with h | h | h <;> omega)).mono ?_
              rintro e w' ⟨rfl, rfl⟩
              go_wp2_with fail
              rw [Exit.noGoto_ret]
              go_ret3
              exact ⟨by rw [HS.out (by omega), if_neg (by omega)]; push_cast; rfl, rfl⟩
      · go_wp2_with fail
        all_goals
          rw [Exit.noGoto_ret]
          go_ret3
          exact ⟨by rw [wp.getI_none HH.out (by have := HM.out; omega)]; first | (rw [if_neg (by have := HLN.out; omega)]; rfl) | (rw [if_pos (by have := HLN.out; omega)]; rfl), rfl⟩
  · clear hm1
    have hmx : max (10 : Int) 0 = 10 := by decide
    go_enter Try.func63, Try.ntmps63
    go_wp2_with fail
    go_step3
    go_wp2_with fail
    go_step3
    go_wp2_with fail
    go_loopg [5, 6, 15] m (fun g z u x wr => ∃ (k : Nat) (zz : Int), k + g = m ∧ wp.High l k ∧ (k ≤ 9 → zz = (wp.gv (l.take k) : Nat)) ∧ z = .int .u64 zz ∧ u = .int .i64 0 ∧ x = .int .i64 (k : Int) ∧ w = wr)
    case atStart => exact ⟨0, 0, by omega, wp.High.zero _, fun _ => rfl, rfl, rfl, rfl, rfl⟩
    case round =>
      obtain ⟨k, q, hk, hhi, hq, rfl, rfl, rfl, rfl⟩ := hrel
      have hkm : k ≤ m := by omega
      have HK := Lib.hid hk
      have HQ := Lib.hid hq
      have HH := Lib.hid hhi
      clear hk hq hhi
      by_cases hlt : k < m
      · obtain ⟨b, o, rfl, hbw, hcell⟩ := HL.out (by have := HM.out; omega)
        have hkl : k < l.length := by have := HM.out; omega
        have hlk : l[k]? = some l[k] := List.getElem?_eq_getElem hkl
        have hck := hcell k l[k] hlk
        have HLK := Lib.hid hlk
        have HO := Lib.hid (fun h9 => wp.or_step (l := l) (k := k) (by omega) hlk h9)
        have HS := Lib.hid (fun h8 => wp.getI_some HH.out (by omega) hlk h8)
        have hb : (l[k].toNat : Int) < 256 := by have := l[k].toNat_lt; omega
        rw [← HQ.out (by omega)] at HO
        have HC8 : Hid (128 ≤ l[k].toNat → wp.High l (k + 1)) := fun h => HH.out.succ hlk h
        clear hcell hlk
        generalize hgk : l[k].toNat = ck at *
        have HCK := Lib.hid hgk
        clear hgk
        by_cases hc8 : 128 ≤ ck
        · go_wp2_with fail
          go_roundg (gk - 1)
          case measure => have := HK.out; omega
          case rel =>
            exact ⟨k + 1, _, by have := HK.out; omega, HC8.out hc8, fun h9 => HO.out (by omega), rfl, rfl, by go_num, rfl⟩
        · have HG : Hid (wp.gv (l.take (k + 1)) < 18446744073709551616 ∨ 9 < k ∨ (9 ≤ k ∧ 1 < ck)) := by
            show _ ∨ _
            rcases Nat.lt_or_ge k 9 with h | h
            · left
              have hp : 128 ^ (l.take (k + 1)).length ≤ 128 ^ 9 := Nat.pow_le_pow_right (by decide) (by simp; omega)
              have hp' := wp.gv_lt (l.take (k + 1))
              omega
            · rcases Nat.lt_or_ge 1 ck with h1 | h1
              · right; right; exact ⟨h, h1⟩
              · left
                obtain rfl : k = 9 := by omega
                have hp := wp.gv_take HLK.out
                have hp' := wp.gv_lt (l.take 9)
                have hp2 : 128 ^ (l.take 9).length ≤ 128 ^ 9 := Nat.pow_le_pow_right (by decide) (by simp; omega)
                have hp3 : 128 ^ 9 * (l[9].toNat % 128) ≤ 128 ^ 9 * 1 := Nat.mul_le_mul_left _ (by rw [HCK.out]; omega)
                omega
          have hcs : (9 ≤ k ∧ 1 < ck ∨ 0 < k ∧ ck ≤ 0) ∨ (k ≤ 8 ∧ 0 < ck ∨ k ≤ 0 ∨ 9 ≤ k ∧ 1 ≤ ck ∧ ck ≤ 1) := by omega
          rcases hcs with (⟨hx1, hx2⟩ | ⟨hx1, hx2⟩) | (⟨hx1, hx2⟩ | hx1 | ⟨hx1, hx2, hx3⟩)
          · have hk9 : ((k : Int) == 9) = true := by rw [beq_iff_eq]; omega
            go_wp2_with fail
            all_goals
              rw [Exit.noGoto_ret]
              go_ret3
              exact ⟨by rw [HS.out (by omega), if_pos (by omega)]; rfl, rfl⟩
          · have hc0 : ((ck : Int) == 0) = true := by rw [beq_iff_eq]; omega
            go_wp2_with fail
            all_goals
              rw [Exit.noGoto_ret]
              go_ret3
              exact ⟨by rw [HS.out (by omega), if_pos (by omega)]; rfl, rfl⟩
          · have hc0 : ((ck : Int) == 0) = false := by rw [beq_eq_false_iff_ne]; omega
            have hk9 : ((k : Int) == 9) = false := by rw [beq_eq_false_iff_ne]; omega
            go_wp2_with fail
            all_goals
              refine (unfold_any _ _ w (HO.out (by omega)) (by rcases HG.out with h | h | h <;> omega)).mono ?_
              rintro e w' ⟨rfl, rfl⟩
              go_wp2_with fail
              rw [Exit.noGoto_ret]
              go_ret3
              exact ⟨by rw [HS.out (by omega), if_neg (by omega)]; push_cast; rfl, rfl⟩
          · go_wp2_with fail
            all_goals
              refine (unfold_any _ _ w (HO.out (by omega)) (by rcases HG.out with h | h | h <;> omega)).mono ?_
              rintro e w' ⟨rfl, rfl⟩
              go_wp2_with fail
              rw [Exit.noGoto_ret]
              go_ret3
              exact ⟨by rw [HS.out (by omega), if_neg (by omega)]; push_cast; rfl, rfl⟩
          · have hc0 : ((ck : Int) == 0) = false := by rw [beq_eq_false_iff_ne]; omega
            have hk9 : ((k : Int) == 9) = true := by rw [beq_iff_eq]; omega
            go_wp2_with fail
            all_goals
              refine (unfold_any _ _ w (HO.out (by omega)) (by rcases HG.out with h | h | h <;> omega)).mono ?_
              rintro e w' ⟨rfl, rfl⟩
              go_wp2_with fail
              rw [Exit.noGoto_ret]
              go_ret3
              exact ⟨by rw [HS.out (by omega), if_neg (by omega)]; push_cast; rfl, rfl⟩
      · go_wp2_with fail
        all_goals
          rw [Exit.noGoto_ret]
          go_ret3
          exact ⟨by rw [wp.getI_none HH.out (by have := HM.out; omega), if_pos (by have := HLN.out; omega)]; rfl, rfl⟩
end Go.Proofs.Ytbnemcggiopdmaa.wi
