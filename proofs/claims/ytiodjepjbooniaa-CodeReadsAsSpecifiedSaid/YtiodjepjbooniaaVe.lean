/- The reference's roots and bounds. -/
import Derived.Test.YtiodjepjbooniaaVd

namespace Go.Proofs.Ytiodjepjbooniaa.me

open Go.ChangeShapes Go.WideShapes Go.ChangeAt Go.RowKit

open Go.Proofs.Ytiodjepjbooniaa.vk

set_option linter.unusedVariables false
set_option maxRecDepth 100000 in
set_option maxHeartbeats 4000000 in
theorem risqrt_calls (n : Int) (w : World) (h0 : 0 ≤ n) (h1 : n ≤ 1152921504606846976) :
    Calls Try.prog 73 #[.int .i64 n] w fun e w' => e = .returned (.int .i64 (rt n)) ∧ w' = w := by
  go_enter Try.func73, Try.ntmps73
  go_wp2
  go_loopg [3, 4] 31 (fun g x y wr => ∃ r : Int, x = .int .i64 r ∧ y = .int .i64 ((g : Int) - 1) ∧ wr = w ∧ g ≤ 31 ∧ 0 ≤ r ∧ r * r ≤ n ∧ n < (r + ((2 ^ g : Nat) : Int)) * (r + ((2 ^ g : Nat) : Int)))
  case atStart =>
    refine ⟨0, rfl, rfl, rfl, by omega, by omega, by omega, ?_⟩
    rw [show (2 : Nat) ^ 31 = 2147483648 from rfl]
    omega
  case round =>
    obtain ⟨r, rfl, hy, rfl, hg, hr0, hr1, hr2⟩ := hrel
    rcases Nat.eq_zero_or_pos gk with hz | hz
    · subst hz
      obtain rfl := hy
      have hu := rt_unique hr0 hr1 (by simpa using hr2)
      have HU := Lib.hid hu
      clear hu hr1 hr2
      go_wp2
      go_ret
      exact ⟨by rw [HU.out]; rfl, rfl⟩
    · obtain ⟨j, rfl⟩ : ∃ j, gk = j + 1 := ⟨gk - 1, by omega⟩
      rw [show ((j + 1 : Nat) : Int) - 1 = (j : Int) by omega] at hy
      obtain rfl := hy
      have hj : j < 63 := by omega
      have hs := wrap_two j hj
      have hp : (2 : Nat) ^ j ≤ 1073741824 := Nat.le_trans (Nat.pow_le_pow_right (by omega) (show j ≤ 30 by omega)) (by omega)
      rw [Nat.pow_succ] at hr2
      generalize hP : (2 : Nat) ^ j = p at *
      have hr3 : r ≤ 1073741824 := by
        rcases Int.lt_or_le 1073741824 r with q | q
        · have := sq_le (show (0 : Int) ≤ 1073741825 by omega) (show 1073741825 ≤ r by omega); omega
        · exact q
      have hx := sq_le (show 0 ≤ r + (p : Int) by omega) (show r + (p : Int) ≤ 2147483648 by omega)
      have hx0 := sq_nonneg (r + (p : Int))
      have hr4 : n < (r + (p : Int) + (p : Int)) * (r + (p : Int) + (p : Int)) := by
        have e : r + ((p * 2 : Nat) : Int) = r + (p : Int) + (p : Int) := by omega
        rw [e] at hr2; exact hr2
      have HS := Lib.hid hP
      clear hr2 hP
      by_cases hle : (r + (p : Int)) * (r + (p : Int)) ≤ n
      · go_wp2
        go_roundg j
        case measure => omega
        case rel => exact ⟨r + p, rfl, rfl, rfl, by omega, by omega, hle, by rw [HS.out]; exact hr4⟩
      · go_wp2
        go_roundg j
        case measure => omega
        case rel => exact ⟨r, rfl, rfl, rfl, by omega, by omega, hr1, by rw [HS.out]; omega⟩
set_option maxRecDepth 100000 in
theorem rlow_calls (m a b : Int) (w : World) (ha : 0 ≤ a) (hb : 0 ≤ b) (ha2 : a ≤ 134217728) (hb2 : b ≤ 134217728) :
    Calls Try.prog 51 #[.int .i64 m, .int .i64 a, .int .i64 b] w fun e w' => e = .returned (.int .i64 (low m a b)) ∧ w' = w := by
  unfold low
  by_cases hm : m = 2
  · subst hm
    obtain ⟨h1, h2⟩ := four_le ha hb ha2 hb2
    have h3 := rt_nonneg (4 * a * b)
    have h4 := rt_le_add ha hb
    have HC := Lib.hid (fun w' => risqrt_calls (4 * a * b) w' h1 (by omega))
    rw [if_pos rfl]
    generalize rt (4 * a * b) = r at *
    go_enter Try.func51, Try.ntmps51
    go_wp2_with fail
    refine (HC.out _).mono ?_
    rintro e w' ⟨rfl, rfl⟩
    go_wp2
    go_ret
    exact ⟨rfl, rfl⟩
  · rw [if_neg hm]
    have h : (m == 2) = false := by simp; omega
    by_cases hab : a < b
    · rw [Int.max_eq_right (show a - b ≤ b - a by omega)]
      go_enter Try.func51, Try.ntmps51
      go_wp2
      go_ret
      exact ⟨rfl, rfl⟩
    · rw [Int.max_eq_left (show b - a ≤ a - b by omega)]
      go_enter Try.func51, Try.ntmps51
      go_wp2
      go_ret
      exact ⟨rfl, rfl⟩
set_option maxRecDepth 100000 in
theorem rhigh_calls (m a b : Int) (w : World) (ha : 0 ≤ a) (hb : 0 ≤ b) (ha2 : a ≤ 134217728) (hb2 : b ≤ 134217728) :
    Calls Try.prog 52 #[.int .i64 m, .int .i64 a, .int .i64 b] w fun e w' => e = .returned (.int .i64 (high m a b)) ∧ w' = w := by
  unfold high
  by_cases hm : m = 2
  · subst hm
    obtain ⟨h1, h2⟩ := four_le ha hb ha2 hb2
    have h3 := rt_nonneg (4 * a * b)
    have h4 := rt_le_add ha hb
    have HC := Lib.hid (fun w' => risqrt_calls (4 * a * b) w' h1 (by omega))
    rw [if_pos rfl]
    generalize rt (4 * a * b) = r at *
    by_cases hs : 134217728 < a + b + r
    · rw [Int.min_eq_right (by omega)]
      go_enter Try.func52, Try.ntmps52
      go_wp2_with fail
      refine (HC.out _).mono ?_
      rintro e w' ⟨rfl, rfl⟩
      go_wp2
      go_ret
      exact ⟨rfl, rfl⟩
    · rw [Int.min_eq_left (by omega)]
      go_enter Try.func52, Try.ntmps52
      go_wp2_with fail
      refine (HC.out _).mono ?_
      rintro e w' ⟨rfl, rfl⟩
      go_wp2
      go_ret
      exact ⟨rfl, rfl⟩
  · rw [if_neg hm]
    have h : (m == 2) = false := by simp; omega
    by_cases hs : 134217728 < a + b
    · rw [Int.min_eq_right (by omega)]
      go_enter Try.func52, Try.ntmps52
      go_wp2
      go_ret
      exact ⟨rfl, rfl⟩
    · rw [Int.min_eq_left (by omega)]
      go_enter Try.func52, Try.ntmps52
      go_wp2
      go_ret
      exact ⟨rfl, rfl⟩
end Go.Proofs.Ytiodjepjbooniaa.me
