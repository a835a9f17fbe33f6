/- The program's roots. -/
import Derived.Test.YtngmdonlljpknaaVlen

import Derived.Lib.MinMax

namespace Go.Proofs.Ytngmdonlljpknaa.me

open Go.ChangeShapes Go.WideShapes Go.ChangeAt Go.RowKit

open Go.Proofs.Ytngmdonlljpknaa.mk

set_option linter.unusedVariables false
theorem first_ge {n : Int} (h0 : 0 < n) (h1 : n ≤ 1152921504606846976) : ∃ h : Nat, h < 63 ∧ (Lib.bitLen n.toNat + 1) / 2 = h ∧ rt n ≤ ((2 ^ h : Nat) : Int) ∧ (2 ^ h : Nat) ≤ 2147483648 ∧ Lib.bitLen n.toNat ≤ 64 := by
  obtain ⟨k, rfl⟩ := Int.eq_ofNat_of_zero_le (show 0 ≤ n by omega)
  simp only [Int.toNat_natCast]
  have hk : 0 < k := by omega
  have hk1 : k ≤ 1152921504606846976 := by omega
  have hb := bitLen_log hk (by omega)
  have h2 := Nat.lt_log2_self (n := k)
  have hl : k.log2 < 61 := (Nat.log2_lt (by omega)).2 (by omega)
  refine ⟨(k.log2 + 2) / 2, by omega, by omega, ?_, ?_, by omega⟩
  · have hr := (rt_sq (x := (k : Int)) (by omega)).1
    have hp : k < 2 ^ ((k.log2 + 2) / 2) * 2 ^ ((k.log2 + 2) / 2) := by
      rw [← Nat.pow_add]
      exact Nat.lt_of_lt_of_le h2 (Nat.pow_le_pow_right (by omega) (by omega))
    generalize 2 ^ ((k.log2 + 2) / 2) = p at *
    have hp' : (k : Int) < (p : Int) * (p : Int) := by exact_mod_cast hp
    have := sq_lt (a := rt k) (b := (p : Int)) (by omega) (by omega)
    omega
  · exact Nat.le_trans (Nat.pow_le_pow_right (by omega) (show (k.log2 + 2) / 2 ≤ 31 by omega)) (by omega)
theorem wrap_two (k : Nat) (hk : k < 63) : wrap64 (2 ^ k) = ((2 ^ k : Nat) : Int) := by
  have hp : (2 : Nat) ^ k ≤ 2 ^ 62 := Nat.pow_le_pow_right (by omega) (by omega)
  have e : (2 : Int) ^ k = ((2 ^ k : Nat) : Int) := by push_cast; rfl
  rw [e]
  generalize (2 ^ k : Nat) = y at *
  unfold wrap64
  omega
set_option maxRecDepth 100000 in
set_option maxHeartbeats 4000000 in
theorem isqrt_small (n : Int) (w : World) (h0 : 0 < n) (h1 : n ≤ 1152921504606846976) (N : Int) (hN : min N 1152921504606846976 = n) (hN0 : 0 < N) :
    Calls Try.prog 10 #[.int .i64 N] w fun e w' => e = .returned (.int .i64 (rt n)) ∧ w' = w := by
  obtain ⟨h, hh, hl, hr, hp, hb⟩ := first_ge h0 h1
  have hpos := Nat.two_pow_pos h
  have hs := wrap_two h hh
  have hq : ((Lib.bitLen n.toNat : Int) + 1) / 2 = (h : Int) := by omega
  have HS := Lib.hid hs
  clear hl hs
  go_enter Try.func10, Try.ntmps10
  go_wp2_with (go_at_call 32; refine (len_calls _ _ (by omega) (by omega)).mono ?_; rintro e w' ⟨rfl, rfl⟩)
  go_loop [3] (fun x => ∃ r : Int, x = .int .i64 r ∧ rt n ≤ r ∧ 0 < r ∧ r ≤ 2147483648) (fun x => (intOf x).toNat)
  case atStart => exact ⟨_, by rw [HS.out], hr, by omega, by omega⟩
  case round =>
    obtain ⟨r, rfl, hr1, hr2, hr3⟩ := hrel
    have hg := newton_ge (n := n) (by omega) hr2
    have hst := newton_stop (n := n) (by omega) hr2
    have hd0 : 0 ≤ n / r := Int.ediv_nonneg (by omega) (by omega)
    have hd1 : n / r ≤ n := Int.ediv_le_self _ (by omega)
    clear hq hr
    have h0' : 1 ≤ rt n := (le_rt (by omega) 1).2 (.inr (by omega))
    by_cases hge : r ≤ (r + n / r) / 2
    · have he : r = rt n := by have := hst hge; omega
      have HE := Lib.hid he
      clear he hst hg
      go_wp2
      go_ret
      exact ⟨by rw [← HE.out]; rfl, rfl⟩
    · clear hst
      go_wp2
      go_round
      case rel => exact ⟨_, rfl, hg, by omega, by omega⟩
      case measure => simp [intOf]; omega
set_option maxRecDepth 100000 in
theorem isqrt_calls (N : Int) (w : World) : Calls Try.prog 10 #[.int .i64 N] w fun e w' => e = .returned (.int .i64 (rt (min N 1152921504606846976))) ∧ w' = w := by
  by_cases h : N ≤ 0
  · have hz : rt (min N 1152921504606846976) = 0 := by
      unfold rt
      rw [show (min N 1152921504606846976).toNat = 0 by omega]
      rfl
    rw [hz]
    clear hz
    go_enter Try.func10, Try.ntmps10
    go_wp2
    go_ret
    exact ⟨rfl, rfl⟩
  · exact isqrt_small _ w (by omega) (by omega) N rfl (by omega)
theorem isqrt_calls' (N : Int) (w : World) (h : N ≤ 1152921504606846976) : Calls Try.prog 10 #[.int .i64 N] w fun e w' => e = .returned (.int .i64 (rt N)) ∧ w' = w := by
  have := isqrt_calls N w
  rw [Int.min_eq_left h] at this
  exact this
/-- the bounds' functions -/
theorem four_le {a b : Int} (ha : 0 ≤ a) (hb : 0 ≤ b) (ha2 : a ≤ 134217728) (hb2 : b ≤ 134217728) : 0 ≤ 4 * a * b ∧ 4 * a * b ≤ 72057594037927936 := by
  refine ⟨four_nonneg ha hb, ?_⟩
  have h1 := Int.mul_le_mul_of_nonneg_left hb2 (show 0 ≤ 4 * a by omega)
  omega
set_option maxRecDepth 100000 in
theorem low1_calls (m a b : Int) (w : World) (hm : m ≠ 2) (ha : 0 ≤ a) (hb : 0 ≤ b) (ha2 : a ≤ 134217728) (hb2 : b ≤ 134217728) :
    Calls Try.prog 44 #[.int .i64 a, .int .i64 b] w fun e w' => e = .returned (.int .i64 (low m a b)) ∧ w' = w := by
  rw [low, if_neg hm]
  obtain ⟨x, hx⟩ : ∃ x, max (a - b) (b - a) = x := ⟨_, rfl⟩
  rw [hx]
  go_enter Try.func44, Try.ntmps44
  go_wp2
  go_ret
  exact ⟨rfl, rfl⟩
set_option maxRecDepth 100000 in
theorem high1_calls (m a b : Int) (w : World) (hm : m ≠ 2) (ha : 0 ≤ a) (hb : 0 ≤ b) (ha2 : a ≤ 134217728) (hb2 : b ≤ 134217728) :
    Calls Try.prog 45 #[.int .i64 a, .int .i64 b] w fun e w' => e = .returned (.int .i64 (high m a b)) ∧ w' = w := by
  rw [high, if_neg hm]
  obtain ⟨x, hx⟩ : ∃ x, min (a + b) 134217728 = x := ⟨_, rfl⟩
  rw [hx]
  go_enter Try.func45, Try.ntmps45
  go_wp2
  go_ret
  exact ⟨rfl, rfl⟩
set_option maxRecDepth 100000 in
theorem low2_calls (a b : Int) (w : World) (ha : 0 ≤ a) (hb : 0 ≤ b) (ha2 : a ≤ 134217728) (hb2 : b ≤ 134217728) :
    Calls Try.prog 46 #[.int .i64 a, .int .i64 b] w fun e w' => e = .returned (.int .i64 (low 2 a b)) ∧ w' = w := by
  rw [low, if_pos rfl]
  obtain ⟨h1, h2⟩ := four_le ha hb ha2 hb2
  have h3 := rt_nonneg (4 * a * b)
  have h4 := rt_le_add ha hb
  have HC := Lib.hid (fun w' => isqrt_calls' (4 * a * b) w' (by omega))
  generalize rt (4 * a * b) = r at *
  go_enter Try.func46, Try.ntmps46
  go_wp2_with fail
  refine (HC.out _).mono ?_
  rintro e w' ⟨rfl, rfl⟩
  go_wp2
  go_ret
  exact ⟨rfl, rfl⟩
set_option maxRecDepth 100000 in
theorem high2_calls (a b : Int) (w : World) (ha : 0 ≤ a) (hb : 0 ≤ b) (ha2 : a ≤ 134217728) (hb2 : b ≤ 134217728) :
    Calls Try.prog 47 #[.int .i64 a, .int .i64 b] w fun e w' => e = .returned (.int .i64 (high 2 a b)) ∧ w' = w := by
  rw [high, if_pos rfl]
  obtain ⟨h1, h2⟩ := four_le ha hb ha2 hb2
  have h3 := rt_nonneg (4 * a * b)
  have h4 := rt_le_add ha hb
  have HC := Lib.hid (fun w' => isqrt_calls' (4 * a * b) w' (by omega))
  generalize rt (4 * a * b) = r at *
  obtain ⟨x, hx⟩ : ∃ x, min (a + b + r) 134217728 = x := ⟨_, rfl⟩
  rw [hx]
  go_enter Try.func47, Try.ntmps47
  go_wp2_with fail
  refine (HC.out _).mono ?_
  rintro e w' ⟨rfl, rfl⟩
  go_wp2
  go_ret
  exact ⟨rfl, rfl⟩
set_option maxRecDepth 100000 in
theorem within_calls (x lo hi : Int) (w : World) : Calls Try.prog 33 #[.int .i64 x, .int .i64 lo, .int .i64 hi] w fun e w' => e = .returned (.bool (decide (lo ≤ x) && decide (x ≤ hi))) ∧ w' = w := by
  by_cases h : lo ≤ x
  · rw [show (decide (lo ≤ x) && decide (x ≤ hi)) = decide (x ≤ hi) by simp [h]]
    go_enter Try.func33, Try.ntmps33
    go_wp2
    go_ret
    exact ⟨rfl, rfl⟩
  · rw [show (decide (lo ≤ x) && decide (x ≤ hi)) = false by simp [h]]
    go_enter Try.func33, Try.ntmps33
    go_wp2
    go_ret
    exact ⟨rfl, rfl⟩
set_option maxRecDepth 100000 in
theorem nearest_calls (x lo hi : Int) (w : World) : Calls Try.prog 37 #[.int .i64 x, .int .i64 lo, .int .i64 hi] w fun e w' => e = .returned (.int .i64 (near x lo hi)) ∧ w' = w := by
  unfold near
  obtain ⟨y, hy⟩ : ∃ y, min x hi = y := ⟨_, rfl⟩
  obtain ⟨z, hz⟩ : ∃ z, max lo y = z := ⟨_, rfl⟩
  rw [hy, hz]
  go_enter Try.func37, Try.ntmps37
  go_wp2
  go_ret
  exact ⟨rfl, rfl⟩
def okk (m k : Int) : Bool := decide (1 ≤ m ∧ m ≤ 3) && (decide (0 ≤ k) && decide (k ≤ 134217728))
set_option maxRecDepth 100000 in
theorem valid_calls (m k : Int) (w : World) : Calls Try.prog 12 #[.int .i64 m, .int .i64 k] w fun e w' => e = .returned (.bool (okk m k)) ∧ w' = w := by
  have HC := Lib.hid (fun w' => within_calls k 0 134217728 w')
  unfold okk
  by_cases h : 1 ≤ m ∧ m ≤ 3
  · rw [decide_eq_true h, Bool.true_and]
    rcases (by omega : m = 1 ∨ m = 2 ∨ m = 3) with rfl | rfl | rfl
    all_goals
      go_enter Try.func12, Try.ntmps12
      go_wp2_with fail
      refine (HC.out _).mono ?_
      rintro e w' ⟨rfl, rfl⟩
      go_wp2
      go_ret
      exact ⟨rfl, rfl⟩
  · rw [decide_eq_false h, Bool.false_and]
    have h1 : (m == 1) = false := by simp; omega
    have h2 : (m == 2) = false := by simp; omega
    have h3 : (m == 3) = false := by simp; omega
    go_enter Try.func12, Try.ntmps12
    go_wp2
    go_ret
    exact ⟨rfl, rfl⟩
set_option maxRecDepth 100000 in
theorem rvalid_calls (m k : Int) (w : World) : Calls Try.prog 13 #[.int .i64 m, .int .i64 k] w fun e w' => e = .returned (.bool (okk m k)) ∧ w' = w := by
  unfold okk
  by_cases h1 : 1 ≤ m
  · by_cases h2 : m ≤ 3
    · by_cases h3 : 0 ≤ k
      · rw [show (decide (1 ≤ m ∧ m ≤ 3) && (decide (0 ≤ k) && decide (k ≤ 134217728))) = decide (k ≤ 134217728) by simp [h1, h2, h3]]
        go_enter Try.func13, Try.ntmps13
        go_wp2
        go_ret
        exact ⟨rfl, rfl⟩
      · rw [show (decide (1 ≤ m ∧ m ≤ 3) && (decide (0 ≤ k) && decide (k ≤ 134217728))) = false by simp [h3]]
        go_enter Try.func13, Try.ntmps13
        go_wp2
        go_ret
        exact ⟨rfl, rfl⟩
    · rw [show (decide (1 ≤ m ∧ m ≤ 3) && (decide (0 ≤ k) && decide (k ≤ 134217728))) = false by simp [h2]]
      go_enter Try.func13, Try.ntmps13
      go_wp2
      go_ret
      exact ⟨rfl, rfl⟩
  · rw [show (decide (1 ≤ m ∧ m ≤ 3) && (decide (0 ≤ k) && decide (k ≤ 134217728))) = false by simp [h1]]
    go_enter Try.func13, Try.ntmps13
    go_wp2
    go_ret
    exact ⟨rfl, rfl⟩
end Go.Proofs.Ytngmdonlljpknaa.me
