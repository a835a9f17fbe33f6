/- The examples that every law computes first. -/
import Derived.Test.YtngmdonlljpknaaVc

namespace Go.Proofs.Ytngmdonlljpknaa.me

open Go.ChangeShapes Go.WideShapes Go.ChangeAt Go.RowKit

open Go.Proofs.Ytngmdonlljpknaa.vk

set_option linter.unusedVariables false
theorem int_wf {a : Int} (h : (Lit.int .i64 a).wf = true) : -9223372036854775808 ≤ a ∧ a ≤ 9223372036854775807 := by simpa [Lit.wf, IntKind.min, IntKind.max, IntKind.signed, IntKind.bits] using h
theorem low_v (m a b v : Int) (h : 1 ≤ m ∧ m ≤ 3 ∧ 0 ≤ a ∧ 0 ≤ b ∧ a ≤ 134217728 ∧ b ≤ 134217728) (hv : low m a b = v) (w : World) :
    Calls Try.prog 17 #[.int .i64 m, .int .i64 a, .int .i64 b] w fun e w' => e = .returned (.int .i64 v) ∧ Below w.heap.size w w' := by
  subst hv; exact low_calls m a b w h.1 h.2.1 h.2.2.1 h.2.2.2.1 h.2.2.2.2.1 h.2.2.2.2.2
theorem high_v (m a b v : Int) (h : 1 ≤ m ∧ m ≤ 3 ∧ 0 ≤ a ∧ 0 ≤ b ∧ a ≤ 134217728 ∧ b ≤ 134217728) (hv : high m a b = v) (w : World) :
    Calls Try.prog 19 #[.int .i64 m, .int .i64 a, .int .i64 b] w fun e w' => e = .returned (.int .i64 v) ∧ Below w.heap.size w w' := by
  subst hv; exact high_calls m a b w h.1 h.2.1 h.2.2.1 h.2.2.2.1 h.2.2.2.2.1 h.2.2.2.2.2
theorem ring_v (m a b x y : Int) (h : 1 ≤ m ∧ m ≤ 3 ∧ 0 ≤ a ∧ 0 ≤ b ∧ a ≤ 134217728 ∧ b ≤ 134217728) (hx : rlo m a b = x) (hy : high m a b = y) (w : World) :
    Calls Try.prog 15 #[.int .i64 m, .int .i64 a, .int .i64 b] w fun e w' => e = .returned (.tuple #[.int .i64 x, .int .i64 y]) ∧ Below w.heap.size w w' := by
  subst hx hy; exact ring_calls m a b w h.1 h.2.1 h.2.2.1 h.2.2.2.1 h.2.2.2.2.1 h.2.2.2.2.2
theorem tri_v (m a b c : Int) (v : Bool) (h : 1 ≤ m ∧ m ≤ 3 ∧ 0 ≤ a ∧ 0 ≤ b ∧ a ≤ 134217728 ∧ b ≤ 134217728) (hv : (decide (low m a b ≤ c) && decide (c ≤ high m a b)) = v) (w : World) :
    Calls Try.prog 21 #[.int .i64 m, .int .i64 a, .int .i64 b, .int .i64 c] w fun e w' => e = .returned (.bool v) ∧ Below w.heap.size w w' := by
  subst hv; exact triangle_calls m a b c w h.1 h.2.1 h.2.2.1 h.2.2.2.1 h.2.2.2.2.1 h.2.2.2.2.2
theorem gap_v (m lo hi a v : Int) (h : 1 ≤ m ∧ m ≤ 3 ∧ 0 ≤ a ∧ 0 ≤ lo ∧ a ≤ 134217728 ∧ hi ≤ 134217728 ∧ lo ≤ hi) (hv : gap m lo hi a = v) (w : World) :
    Calls Try.prog 23 #[.int .i64 m, .int .i64 lo, .int .i64 hi, .int .i64 a] w fun e w' => e = .returned (.int .i64 v) ∧ Below w.heap.size w w' := by
  subst hv; exact gap_calls m lo hi a w h.1 h.2.1 h.2.2.1 h.2.2.2.1 h.2.2.2.2.1 h.2.2.2.2.2.1 h.2.2.2.2.2.2
theorem reach_v (m lo hi a v : Int) (h : 1 ≤ m ∧ m ≤ 3 ∧ 0 ≤ a ∧ 0 ≤ hi ∧ a ≤ 134217728 ∧ hi ≤ 134217728) (hv : high m a hi = v) (w : World) :
    Calls Try.prog 25 #[.int .i64 m, .int .i64 lo, .int .i64 hi, .int .i64 a] w fun e w' => e = .returned (.int .i64 v) ∧ Below w.heap.size w w' := by
  subst hv; exact reach_calls m lo hi a w h.1 h.2.1 h.2.2.1 h.2.2.2.1 h.2.2.2.2.1 h.2.2.2.2.2
theorem ball_v (m c r s : Int) (v : Bool) (h : 1 ≤ m ∧ m ≤ 3 ∧ 0 ≤ r ∧ 0 ≤ s ∧ r ≤ 134217728 ∧ s ≤ 134217728) (hv : decide (c ≤ high m r s) = v) (w : World) :
    Calls Try.prog 27 #[.int .i64 m, .int .i64 c, .int .i64 r, .int .i64 s] w fun e w' => e = .returned (.bool v) ∧ Below w.heap.size w w' := by
  subst hv; exact ball_calls m c r s w h.1 h.2.1 h.2.2.1 h.2.2.2.1 h.2.2.2.2.1 h.2.2.2.2.2
theorem isqrt_v (n v : Int) (h : n ≤ 1152921504606846976) (hv : rt n = v) (w : World) :
    Calls Try.prog 10 #[.int .i64 n] w fun e w' => e = .returned (.int .i64 v) ∧ w' = w := by
  subst hv; exact isqrt_calls' n w h
set_option maxRecDepth 100000 in
set_option maxHeartbeats 4000000 in
theorem sanity_calls (w : World) : Calls Try.prog 11 #[] w fun e w' => e = .returned (.bool true) ∧ Below w.heap.size w w' := by
  have H1 := Lib.hid (fun w' => ring_v 2 25 9 4 64 (by decide) (by decide +kernel) (by decide +kernel) w')
  have H2 := Lib.hid (fun w' => ring_v 1 25 9 16 34 (by decide) (by decide +kernel) (by decide +kernel) w')
  have H3 := Lib.hid (fun w' => ring_v 2 4 9 0 25 (by decide) (by decide +kernel) (by decide +kernel) w')
  have H4 := Lib.hid (fun w' => isqrt_v 35 5 (by decide) (by decide +kernel) w')
  have H5 := Lib.hid (fun w' => isqrt_v 36 6 (by decide) (by decide +kernel) w')
  have H6 := Lib.hid (fun w' => isqrt_v (-1) 0 (by decide) (by decide +kernel) w')
  have H7 := Lib.hid (fun w' => low_v 1 9 25 16 (by decide) (by decide +kernel) w')
  have H8 := Lib.hid (fun w' => high_v 1 9 25 34 (by decide) (by decide +kernel) w')
  have H9 := Lib.hid (fun w' => low_v 2 9 25 4 (by decide) (by decide +kernel) w')
  have H10 := Lib.hid (fun w' => high_v 2 9 25 64 (by decide) (by decide +kernel) w')
  have H11 := Lib.hid (fun w' => low_v 2 2 3 1 (by decide) (by decide +kernel) w')
  have H12 := Lib.hid (fun w' => high_v 2 2 3 9 (by decide) (by decide +kernel) w')
  have H13 := Lib.hid (fun w' => tri_v 2 9 25 64 true (by decide) (by decide +kernel) w')
  have H14 := Lib.hid (fun w' => tri_v 2 9 25 65 false (by decide) (by decide +kernel) w')
  have H15 := Lib.hid (fun w' => tri_v 2 9 25 3 false (by decide) (by decide +kernel) w')
  have H16 := Lib.hid (fun w' => gap_v 2 9 16 25 1 (by decide) (by decide +kernel) w')
  have H17 := Lib.hid (fun w' => gap_v 2 9 16 10 0 (by decide) (by decide +kernel) w')
  have H18 := Lib.hid (fun w' => reach_v 2 9 16 25 81 (by decide) (by decide +kernel) w')
  have H19 := Lib.hid (fun w' => ball_v 2 64 9 25 true (by decide) (by decide +kernel) w')
  have H20 := Lib.hid (fun w' => ball_v 2 65 9 25 false (by decide) (by decide +kernel) w')
  go_enter Try.func11, Try.ntmps11
  go_wp2_with fail
  refine (H1.out _).mono ?_
  rintro e w1 ⟨rfl, hb1⟩
  have HB1 := Lib.hid hb1
  clear hb1
  clear H1
  go_wp2_with fail
  refine (H2.out _).mono ?_
  rintro e w2 ⟨rfl, hb2⟩
  have HB2 := Lib.hid (Below.andThen HB1.out hb2)
  clear hb2 HB1
  clear H2
  go_wp2_with fail
  refine (H3.out _).mono ?_
  rintro e w3 ⟨rfl, hb3⟩
  have HB3 := Lib.hid (Below.andThen HB2.out hb3)
  clear hb3 HB2
  clear H3
  go_wp2_with fail
  refine (H4.out _).mono ?_
  rintro e w' ⟨rfl, rfl⟩
  clear H4
  go_wp2_with fail
  refine (H5.out _).mono ?_
  rintro e w' ⟨rfl, rfl⟩
  clear H5
  go_wp2_with fail
  refine (H6.out _).mono ?_
  rintro e w' ⟨rfl, rfl⟩
  clear H6
  go_wp2_with fail
  refine (H7.out _).mono ?_
  rintro e w4 ⟨rfl, hb4⟩
  have HB4 := Lib.hid (Below.andThen HB3.out hb4)
  clear hb4 HB3
  clear H7
  go_wp2_with fail
  refine (H8.out _).mono ?_
  rintro e w5 ⟨rfl, hb5⟩
  have HB5 := Lib.hid (Below.andThen HB4.out hb5)
  clear hb5 HB4
  clear H8
  go_wp2_with fail
  refine (H9.out _).mono ?_
  rintro e w6 ⟨rfl, hb6⟩
  have HB6 := Lib.hid (Below.andThen HB5.out hb6)
  clear hb6 HB5
  clear H9
  go_wp2_with fail
  refine (H10.out _).mono ?_
  rintro e w7 ⟨rfl, hb7⟩
  have HB7 := Lib.hid (Below.andThen HB6.out hb7)
  clear hb7 HB6
  clear H10
  go_wp2_with fail
  refine (H11.out _).mono ?_
  rintro e w8 ⟨rfl, hb8⟩
  have HB8 := Lib.hid (Below.andThen HB7.out hb8)
  clear hb8 HB7
  clear H11
  go_wp2_with fail
  refine (H12.out _).mono ?_
  rintro e w9 ⟨rfl, hb9⟩
  have HB9 := Lib.hid (Below.andThen HB8.out hb9)
  clear hb9 HB8
  clear H12
  go_wp2_with fail
  refine (H13.out _).mono ?_
  rintro e w10 ⟨rfl, hb10⟩
  have HB10 := Lib.hid (Below.andThen HB9.out hb10)
  clear hb10 HB9
  clear H13
  go_wp2_with fail
  refine (H14.out _).mono ?_
  rintro e w11 ⟨rfl, hb11⟩
  have HB11 := Lib.hid (Below.andThen HB10.out hb11)
  clear hb11 HB10
  clear H14
  go_wp2_with fail
  refine (H15.out _).mono ?_
  rintro e w12 ⟨rfl, hb12⟩
  have HB12 := Lib.hid (Below.andThen HB11.out hb12)
  clear hb12 HB11
  clear H15
  go_wp2_with fail
  refine (H16.out _).mono ?_
  rintro e w13 ⟨rfl, hb13⟩
  have HB13 := Lib.hid (Below.andThen HB12.out hb13)
  clear hb13 HB12
  clear H16
  go_wp2_with fail
  refine (H17.out _).mono ?_
  rintro e w14 ⟨rfl, hb14⟩
  have HB14 := Lib.hid (Below.andThen HB13.out hb14)
  clear hb14 HB13
  clear H17
  go_wp2_with fail
  refine (H18.out _).mono ?_
  rintro e w15 ⟨rfl, hb15⟩
  have HB15 := Lib.hid (Below.andThen HB14.out hb15)
  clear hb15 HB14
  clear H18
  go_wp2_with fail
  refine (H19.out _).mono ?_
  rintro e w16 ⟨rfl, hb16⟩
  have HB16 := Lib.hid (Below.andThen HB15.out hb16)
  clear hb16 HB15
  clear H19
  go_wp2_with fail
  refine (H20.out _).mono ?_
  rintro e w17 ⟨rfl, hb17⟩
  have HB17 := Lib.hid (Below.andThen HB16.out hb17)
  clear hb17 HB16
  clear H20
  go_wp2
  go_ret
  exact ⟨rfl, HB17.out⟩
def keyk (m d : Int) : Int := if m = 2 then d * d else d
set_option maxRecDepth 100000 in
theorem key_calls (m d : Int) (w : World) (h0 : 0 ≤ d) (h1 : d ≤ 30000) : Calls Try.prog 31 #[.int .i64 m, .int .i64 d] w fun e w' => e = .returned (.int .i64 (keyk m d)) ∧ w' = w := by
  unfold keyk
  by_cases hm : m = 2
  · subst hm
    have h2 := Int.mul_nonneg h0 h0
    have h3 := sq_le h0 h1
    rw [if_pos rfl]
    go_enter Try.func31, Try.ntmps31
    go_wp2
    go_ret
    exact ⟨rfl, rfl⟩
  · rw [if_neg hm]
    have h : (m == 2) = false := by simp; omega
    go_enter Try.func31, Try.ntmps31
    go_wp2
    go_ret
    exact ⟨rfl, rfl⟩
set_option maxRecDepth 100000 in
theorem keys_calls (m a b c : Int) (w : World) : Calls Try.prog 14 #[.int .i64 m, .int .i64 a, .int .i64 b, .int .i64 c] w fun e w' => e = .returned (.bool (okk m a && okk m b && okk m c)) ∧ w' = w := by
  have HA := Lib.hid (fun w' => rvalid_calls m a w')
  have HB := Lib.hid (fun w' => rvalid_calls m b w')
  have HC := Lib.hid (fun w' => rvalid_calls m c w')
  generalize okk m a = x at *
  generalize okk m b = y at *
  generalize okk m c = z at *
  cases x
  · go_enter Try.func14, Try.ntmps14
    go_wp2_with fail
    refine (HA.out _).mono ?_
    rintro e w' ⟨rfl, rfl⟩
    go_wp2
    go_ret
    exact ⟨rfl, rfl⟩
  · cases y
    · go_enter Try.func14, Try.ntmps14
      go_wp2_with fail
      refine (HA.out _).mono ?_
      rintro e w' ⟨rfl, rfl⟩
      go_wp2_with fail
      refine (HB.out _).mono ?_
      rintro e w' ⟨rfl, rfl⟩
      go_wp2
      go_ret
      exact ⟨rfl, rfl⟩
    · go_enter Try.func14, Try.ntmps14
      go_wp2_with fail
      refine (HA.out _).mono ?_
      rintro e w' ⟨rfl, rfl⟩
      go_wp2_with fail
      refine (HB.out _).mono ?_
      rintro e w' ⟨rfl, rfl⟩
      go_wp2_with fail
      refine (HC.out _).mono ?_
      rintro e w' ⟨rfl, rfl⟩
      go_wp2
      go_ret
      exact ⟨by simp, rfl⟩
end Go.Proofs.Ytngmdonlljpknaa.me
