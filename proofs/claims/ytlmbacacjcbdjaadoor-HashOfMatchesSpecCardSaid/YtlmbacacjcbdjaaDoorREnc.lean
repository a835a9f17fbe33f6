
import Derived.Test.YtlmbacacjcbdjaaDoorRInt

namespace Go.Proofs.YtlmbacacjcbdjaaDoor.wi

open Go.ChangeShapes Go.WideShapes Go.ChangeAt Go.RowKit

set_option linter.unusedVariables false

set_option maxRecDepth 100000 in
theorem refBytes_out (s : ByteArray) (w : World) (hs : s.size ≤ 140737488355318) :
    Calls Tryd.prog 91 #[.string s] w (OutB (wp.encB s.data.toList) w) := by
  obtain ⟨i0, hi, hz0, hz1, hz2⟩ := info_parts info5
  have hs1 : (s.size : Int) ≤ 9223372036854775807 := by omega
  have hlen := wp.encI_length (n := (s.size : Int)) (by omega) hs1
  have HE : Hid (wp.encB s.data.toList = wp.encI (s.size : Int) ++ s.data.toList) := wp.encB_eq s
  go_enter Tryd.func91, Tryd.ntmps91
  go_wp2_with fail
  refine (refInt_out (s.size : Int) w (by omega) hs1).mono ?_
  rintro e w1 ⟨v1, rfl, hown1, hbel1⟩
  generalize wp.encI (s.size : Int) = t at *
  go_wp2_with (at_builtin; refine Lib.wpList_append_own_string _ rfl _ _ 77 9 rfl w.heap.size 5 i0 Tryd.underlying77 Tryd.underlying9 hi hz0 hz1 hz2 _ _ _ rfl hown1 s rfl ?c1 ?c2 ?c3 ?_)
  case c1 => unfold maxLen; omega
  case c2 => omega
  case c3 => exact hbel1.size
  intro v2 w2 hown2 hgrow _
  go_wp2
  go_ret
  refine ⟨v2, rfl, ?_, hbel1.grown hgrow hbel1.size (fun g hg => (hown1.lt g hg).1)⟩
  rw [HE.out, wp.bc_append, List.length_append]
  have hz : s.data.toList.length = s.size := by rw [Array.length_toList]; rfl
  rw [hz]
  exact hown2

end Go.Proofs.YtlmbacacjcbdjaaDoor.wi
