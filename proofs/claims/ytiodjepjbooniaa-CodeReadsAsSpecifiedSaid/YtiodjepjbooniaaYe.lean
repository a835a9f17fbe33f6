/- The reference: Bounds. -/
import Derived.Test.YtiodjepjbooniaaYd

import Derived.Test.YtiodjepjbooniaaVe

namespace Go.Proofs.Ytiodjepjbooniaa.uk

open Go.ChangeShapes Go.WideShapes Go.ChangeAt Go.RowKit

open Go.Proofs.Ytiodjepjbooniaa.cq Go.Proofs.Ytiodjepjbooniaa.vk Go.Proofs.Ytiodjepjbooniaa.bk Go.Proofs.Ytiodjepjbooniaa.wk

set_option linter.unusedVariables false
set_option maxRecDepth 100000 in
set_option maxHeartbeats 4000000 in
theorem rbounds_calls (m key r : Int) (w : World) (h1 : 1 ≤ m) (h3 : m ≤ 3) (ha : 0 ≤ key) (hb : 0 ≤ r) (ha2 : key ≤ 134217728) (hb2 : r ≤ 134217728) :
    Calls Try.prog 24 #[.int .i64 m, .int .i64 key, .int .i64 r] w fun e w' => e = .returned (.agg #[.int .i64 (me.low m key r), .int .i64 (me.high m key r)]) ∧ Below w.heap.size w w' := by
  have HL := Lib.hid (fun w' => me.rlow_calls m key r w' ha hb ha2 hb2)
  have HH := Lib.hid (fun w' => me.rhigh_calls m key r w' ha hb ha2 hb2)
  go_enter Try.func24, Try.ntmps24
  go_wp2_with fail
  refine (HL.out _).mono ?_
  rintro e w' ⟨rfl, rfl⟩
  go_wp2_with fail
  refine (HH.out _).mono ?_
  rintro e w' ⟨rfl, rfl⟩
  go_wp2_with fail
  exact bodyPost_ret (v := .agg #[.int .i64 (me.low m key r), .int .i64 (me.high m key r)]) (results_cell_row (fn := Try.f24) rfl _ _ w.heap.size 44 #[.int .i64 (me.low m key r), .int .i64 (me.high m key r)] (0, 0) _ rfl (heap_alloc_new _ _) Try.underlying44 rfl (by kernel_rfl)) rfl ⟨rfl, below_new _ _⟩

end Go.Proofs.Ytiodjepjbooniaa.uk
