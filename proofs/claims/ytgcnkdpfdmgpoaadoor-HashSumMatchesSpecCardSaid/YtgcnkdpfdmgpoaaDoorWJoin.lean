
import Derived.Test.YtgcnkdpfdmgpoaaDoorSn

import Derived.Test.YtgcnkdpfdmgpoaaDoorOpen

namespace Go.Proofs.YtgcnkdpfdmgpoaaDoor.hashJoinMatchesSpec

open Go.ChangeShapes Go.WideShapes Go.ChangeAt Go.RowKit

set_option linter.unusedVariables false

theorem int_wf {n : Int} (h : (Lit.int .i64 n).wf = true) : -9223372036854775808 ≤ n ∧ n ≤ 9223372036854775807 := by simpa [Lit.wf, IntKind.min, IntKind.max, IntKind.signed, IntKind.bits] using h

set_option maxRecDepth 100000 in
theorem walk (w : World) (hT : hi.TabK w) {a b n : Int} (w0 : (Lit.int .i64 a).wf = true) (w1 : (Lit.int .i64 b).wf = true) (w2 : (Lit.int .i64 n).wf = true) :
    Calls Tryd.prog 6 #[.int .i64 a, .int .i64 b, .int .i64 n] w fun e w' => e = .returned (.bool true) ∧ Below w.heap.size w w' := by
  have ha := int_wf w0
  have hb := int_wf w1
  have hn := int_wf w2
  have HS := Lib.hid (hi.sanity_true w hT)
  clear w0 w1 w2 hT
  by_cases h3 : 300 < n
  · go_enter Tryd.func6, Tryd.ntmps6
    go_wp2_with fail
    refine HS.out.mono ?_
    rintro e w1 ⟨rfl, hb⟩
    go_wp2_with fail
    go_ret
    exact ⟨rfl, hb⟩
  · have HJ := Lib.hid (fun w' => hi.join_calls a b n w' ha hb hn)
    have HR := Lib.hid (fun w' => hi.rjoin_calls a b n w' ha hb ⟨hn.1, by omega⟩)
    generalize hi.joinV a b n = jv at *
    go_enter Tryd.func6, Tryd.ntmps6
    go_wp2_with fail
    refine HS.out.mono ?_
    rintro e w1 ⟨rfl, hb⟩
    go_wp2_with fail
    refine (HJ.out w1).mono ?_
    rintro e w2 ⟨rfl, rfl⟩
    go_wp2_with fail
    refine (HR.out w1).mono ?_
    rintro e w2 ⟨rfl, rfl⟩
    go_wp2_with fail
    go_ret
    exact ⟨rfl, hb⟩
end Go.Proofs.YtgcnkdpfdmgpoaaDoor.hashJoinMatchesSpec
