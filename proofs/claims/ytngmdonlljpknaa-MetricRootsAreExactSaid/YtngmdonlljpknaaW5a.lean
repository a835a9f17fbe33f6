/- MetricRootsAreExact: its walk. -/
import Derived.Test.YtngmdonlljpknaaVe

namespace Go.Proofs.Ytngmdonlljpknaa.metricRootsAreExact

open Go.ChangeShapes Go.WideShapes Go.ChangeAt Go.RowKit

open Go.Proofs.Ytngmdonlljpknaa.vk

open Go.Proofs.Ytngmdonlljpknaa.me

set_option linter.unusedVariables false
theorem root_facts {X : Int} (h0 : 0 ≤ X) (h1 : X ≤ 1152921504606846976) : 0 ≤ rt X ∧ rt X ≤ 1073741824 ∧ rt X * rt X ≤ X ∧ X < (rt X + 1) * (rt X + 1) ∧ (rt X + 1) * (rt X + 1) ≤ 1152921506754330625 ∧ 0 ≤ rt X * rt X := by
  have h := rt_sq h0
  have h2 := rt_nonneg X
  have h3 : rt X ≤ 1073741824 := by
    rcases Int.lt_or_le 1073741824 (rt X) with q | q
    · have := sq_le (show (0 : Int) ≤ 1073741825 by omega) (show 1073741825 ≤ rt X by omega); omega
    · exact q
  have h4 := sq_le (show 0 ≤ rt X + 1 by omega) (show rt X + 1 ≤ 1073741825 by omega)
  have h5 := sq_nonneg (rt X)
  exact ⟨h2, h3, h.1, h.2, by omega, h5⟩
set_option maxRecDepth 100000 in
set_option maxHeartbeats 4000000 in
theorem walk (w : World) {n m : Int} (w0 : (Lit.int .i64 n).wf = true) (w1 : (Lit.int .i64 m).wf = true) :
    Calls Try.prog 3 #[.int .i64 n, .int .i64 m] w fun e w' => e = .returned (.bool true) ∧ Below w.heap.size w w' := by
  have HS := Lib.hid (fun w' => sanity_calls w')
  have HV := Lib.hid (fun w' => valid_calls m n w')
  have HR := Lib.hid (fun w' => rvalid_calls m n w')
  have hn := int_wf w0
  clear w0 w1
  generalize okk m n = ok at *
  by_cases h0 : n < 0
  · have HI := Lib.hid (fun w' => isqrt_v n 0 (by omega) (by unfold rt; rw [show n.toNat = 0 by omega]; rfl) w')
    go_enter Try.func3, Try.ntmps3
    go_wp2_with fail
    refine (HI.out _).mono ?_
    rintro e w' ⟨rfl, rfl⟩
    go_wp2_with fail
    refine (HS.out _).mono ?_
    rintro e w1 ⟨rfl, hb1⟩
    have HB1 := Lib.hid hb1
    clear hb1
    go_wp2_with fail
    refine (HV.out _).mono ?_
    rintro e w' ⟨rfl, rfl⟩
    go_wp2_with fail
    refine (HR.out _).mono ?_
    rintro e w' ⟨rfl, rfl⟩
    go_wp2
    go_ret
    exact ⟨rfl, HB1.out⟩
  · by_cases h1 : 1152921504606846976 < n
    · obtain ⟨X, hX, HI⟩ : ∃ X : Int, X = 1152921504606846976 ∧ Hid (∀ w', Calls Try.prog 10 #[.int .i64 n] w' fun e w'' => e = .returned (.int .i64 (rt X)) ∧ w'' = w') := ⟨min n 1152921504606846976, by omega, Lib.hid (fun w' => isqrt_calls n w')⟩
      obtain ⟨f1, f2, f3, f4, f5, f6⟩ := root_facts (X := X) (by omega) (by omega)
      generalize rt X = R at *
      rw [hX] at f3 f4
      clear hX
      go_enter Try.func3, Try.ntmps3
      go_wp2_with fail
      refine (HI.out _).mono ?_
      rintro e w' ⟨rfl, rfl⟩
      go_wp2_with fail
      refine (HS.out _).mono ?_
      rintro e w1 ⟨rfl, hb1⟩
      have HB1 := Lib.hid hb1
      clear hb1
      go_wp2_with fail
      refine (HV.out _).mono ?_
      rintro e w' ⟨rfl, rfl⟩
      go_wp2_with fail
      refine (HR.out _).mono ?_
      rintro e w' ⟨rfl, rfl⟩
      go_wp2
      go_ret
      exact ⟨rfl, HB1.out⟩
    · obtain ⟨f1, f2, f3, f4, f5, f6⟩ := root_facts (X := n) (by omega) (by omega)
      have HI := Lib.hid (fun w' => isqrt_calls' n w' (by omega))
      generalize rt n = R at *
      go_enter Try.func3, Try.ntmps3
      go_wp2_with fail
      refine (HI.out _).mono ?_
      rintro e w' ⟨rfl, rfl⟩
      go_wp2_with fail
      refine (HS.out _).mono ?_
      rintro e w1 ⟨rfl, hb1⟩
      have HB1 := Lib.hid hb1
      clear hb1
      go_wp2_with fail
      refine (HV.out _).mono ?_
      rintro e w' ⟨rfl, rfl⟩
      go_wp2_with fail
      refine (HR.out _).mono ?_
      rintro e w' ⟨rfl, rfl⟩
      go_wp2
      go_ret
      exact ⟨rfl, HB1.out⟩
end Go.Proofs.Ytngmdonlljpknaa.metricRootsAreExact
