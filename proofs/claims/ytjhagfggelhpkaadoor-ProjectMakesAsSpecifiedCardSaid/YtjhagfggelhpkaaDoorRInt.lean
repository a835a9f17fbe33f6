
import Derived.Test.YtjhagfggelhpkaaDoorG2

import Derived.Test.YtjhagfggelhpkaaDoorG1

namespace Go.Proofs.YtjhagfggelhpkaaDoor.wi

open Go.ChangeShapes Go.WideShapes Go.ChangeAt Go.RowKit

set_option linter.unusedVariables false

set_option maxRecDepth 100000 in
set_option maxHeartbeats 2000000 in
theorem refInt_out (n : Int) (w : World) (h0 : -9223372036854775808 ≤ n) (h1 : n ≤ 9223372036854775807) :
    Calls Tryd.prog 91 #[.int .i64 n] w (OutB (wp.encI n) w) := by
  obtain ⟨i0, hi, hz0, hz1, hz2⟩ := info_parts info5
  have hlen := wp.encI_length h0 h1
  have hz : Lib.zigzag n < 18446744073709551616 := Lib.zigzag_lt h0 h1
  have HE : Hid (wp.encI n = Lib.uvarint (Lib.zigzag n)) := rfl
  rw [HE.out] at hlen
  have hzz : (n < 0 ∧ Hid (((-1 - n) * 2 + 1 : Int) = (Lib.zigzag n : Nat))) ∨ (0 ≤ n ∧ Hid ((n * 2 : Int) = (Lib.zigzag n : Nat))) := by
    rcases Int.lt_or_le n 0 with h | h
    · refine .inl ⟨h, ?_⟩; show _ = _; unfold Lib.zigzag; rw [if_neg (by omega)]; omega
    · refine .inr ⟨h, ?_⟩; show _ = _; unfold Lib.zigzag; rw [if_pos h]; omega
  generalize hgq : Lib.zigzag n = q0 at *
  have HQ := Lib.hid hgq
  clear hgq
  rcases hzz with ⟨hn, HZ⟩ | ⟨hn, HZ⟩
  all_goals
    go_enter Tryd.func91, Tryd.ntmps91
    go_wp2_with fail
    go_loopw [3, 4] (fun z v wr => ∃ (q m : Nat) (ys : List Value), z = .int .u64 (q : Int) ∧ q ≤ q0 ∧ ys ++ wp.bc (Lib.uvarint q) = wp.bc (Lib.uvarint q0) ∧ m + (Lib.uvarint q).length = (Lib.uvarint q0).length ∧ wr.ownsRow w.heap.size 5 1 v m ys ∧ Below w.heap.size w wr) (fun z _ _ => (intOf z).toNat)
    case atStart => exact ⟨q0, 0, [], by rw [← HZ.out], Nat.le_refl _, rfl, by omega, World.ownsRow_nil _ _ _ _, Below.refl _ _⟩
    case round =>
      obtain ⟨q, m, ys, rfl, hq, hys, hm, hown1, hbel⟩ := hrel
      have HYS := Lib.hid hys
      have HM := Lib.hid hm
      clear hm hys
      by_cases hlt : q < 128
      · have hU : (Lib.uvarint q).length = 1 := by rw [Lib.uvarint_small hlt]; rfl
        have HU := Lib.hid (wp.uv_small hlt)
        have hkm : m + 1 = (Lib.uvarint q0).length := by have := HM.out; omega
        have hkm' : m + 1 ≤ 140737488355328 := by omega
        clear hz h0 h1 hU hlen hn
        have HKM := Lib.hid hkm
        clear hkm
        go_wp2_with (at_builtin; refine wpList_append_own _ rfl _ _ 67 rfl w.heap.size 5 i0 (.int .u8 0) 1 1 Tryd.underlying67 hi hz0 hz1 hz2 rfl (by decide) _ _ _ rfl (hown1.alloc _) ⟨wr.heap.size, 0, none⟩ 1 1 [.int .u8 (q : Int)] rfl rfl ?c1 ?c2 ?c3 ?c4 ?c5 ?_)
        case c1 => exact cell_one_new _ _ _
        case c2 => simp [Value.oneCell']
        case c3 => unfold maxLen; omega
        case c4 => omega
        case c5 => have := hbel.size; simp; omega
        intro v' w1 hown' hgrow _
        go_wp2
        go_ret
        refine ⟨v', rfl, ?_, ?_⟩
        · rw [HE.out, ← HKM.out, ← HYS.out, HU.out]; exact hown'
        · exact (hbel.alloc (by have := hbel.size; omega) _).grown hgrow (by have := hbel.size; simp; omega) (fun g hg => (hown1.lt g hg).1)
      · have hU : (Lib.uvarint q).length = (Lib.uvarint (q / 128)).length + 1 := by rw [Lib.uvarint_big (by omega)]; rfl
        have HU := Lib.hid (wp.uv_big (q := q) (by omega))
        have hu1 : 1 ≤ (Lib.uvarint (q / 128)).length := Lib.uvarint_pos _
        have hkm' : m + 2 ≤ 140737488355328 := by have := HM.out; omega
        have HM' : Hid (m + 1 + (Lib.uvarint (q / 128)).length = (Lib.uvarint q0).length) := by have := HM.out; show _ = _; omega
        have hq64 : (q : Int) ≤ 18446744073709551615 := by omega
        clear hz h0 h1 hlen hu1 HM hU hn
        go_wp2_with (at_builtin; refine wpList_append_own _ rfl _ _ 67 rfl w.heap.size 5 i0 (.int .u8 0) 1 1 Tryd.underlying67 hi hz0 hz1 hz2 rfl (by decide) _ _ _ rfl (hown1.alloc _) ⟨wr.heap.size, 0, none⟩ 1 1 [.int .u8 ((q : Int) % 128 + 128)] rfl rfl ?c1 ?c2 ?c3 ?c4 ?c5 ?_)
        case c1 => exact cell_one_new _ _ _
        case c2 => simp [Value.oneCell']
        case c3 => unfold maxLen; omega
        case c4 => omega
        case c5 => have := hbel.size; simp; omega
        intro v' w1 hown' hgrow _
        go_wp2
        go_roundw
        case rel =>
          refine ⟨q / 128, m + 1, ys ++ [.int .u8 ((q : Int) % 128 + 128)], by simp, by omega, ?_, HM'.out, ?_, ?_⟩
          · rw [← HYS.out, HU.out, List.append_assoc]; rfl
          · exact hown'
          · exact (hbel.alloc (by have := hbel.size; omega) _).grown hgrow (by have := hbel.size; simp; omega) (fun g hg => (hown1.lt g hg).1)
        case measure => simp [intOf]; omega
end Go.Proofs.YtjhagfggelhpkaaDoor.wi
