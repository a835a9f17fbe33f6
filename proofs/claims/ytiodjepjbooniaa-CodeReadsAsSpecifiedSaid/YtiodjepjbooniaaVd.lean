/- The examples that every law computes first. -/
import Derived.Test.YtiodjepjbooniaaG9

namespace Go.Proofs.Ytiodjepjbooniaa.me

open Go.ChangeShapes Go.WideShapes Go.ChangeAt Go.RowKit

open Go.Proofs.Ytiodjepjbooniaa.vk

set_option linter.unusedVariables false
theorem int_wf {a : Int} (h : (Lit.int .i64 a).wf = true) : -9223372036854775808 ≤ a ∧ a ≤ 9223372036854775807 := by simpa [Lit.wf, IntKind.min, IntKind.max, IntKind.signed, IntKind.bits] using h
theorem low_v (m a b v : Int) (h : 1 ≤ m ∧ m ≤ 3 ∧ 0 ≤ a ∧ 0 ≤ b ∧ a ≤ 134217728 ∧ b ≤ 134217728) (hv : low m a b = v) (w : World) :
    Calls Try.prog 49 #[.int .i64 m, .int .i64 a, .int .i64 b] w fun e w' => e = .returned (.int .i64 v) ∧ Below w.heap.size w w' := by
  subst hv; exact low_calls m a b w h.1 h.2.1 h.2.2.1 h.2.2.2.1 h.2.2.2.2.1 h.2.2.2.2.2
theorem high_v (m a b v : Int) (h : 1 ≤ m ∧ m ≤ 3 ∧ 0 ≤ a ∧ 0 ≤ b ∧ a ≤ 134217728 ∧ b ≤ 134217728) (hv : high m a b = v) (w : World) :
    Calls Try.prog 50 #[.int .i64 m, .int .i64 a, .int .i64 b] w fun e w' => e = .returned (.int .i64 v) ∧ Below w.heap.size w w' := by
  subst hv; exact high_calls m a b w h.1 h.2.1 h.2.2.1 h.2.2.2.1 h.2.2.2.2.1 h.2.2.2.2.2
theorem isqrt_v (n v : Int) (h : n ≤ 1152921504606846976) (hv : rt n = v) (w : World) :
    Calls Try.prog 90 #[.int .i64 n] w fun e w' => e = .returned (.int .i64 v) ∧ w' = w := by
  subst hv; exact isqrt_calls' n w h
def keyk (m d : Int) : Int := if m = 2 then d * d else d
end Go.Proofs.Ytiodjepjbooniaa.me
