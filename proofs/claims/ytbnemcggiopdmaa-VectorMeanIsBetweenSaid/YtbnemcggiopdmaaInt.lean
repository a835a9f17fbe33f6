
import Derived.Test.YtbnemcggiopdmaaRows

import Derived.Test.YtbnemcggiopdmaaPlain

namespace Go.Proofs.Ytbnemcggiopdmaa.wi

open Go.ChangeShapes Go.WideShapes Go.ChangeAt Go.RowKit

theorem ret_u64 {a b : Int} (h : a = b) : Ending.returned (.int .u64 a) = .returned (.int .u64 b) := by rw [h]

theorem fold_any (n : Int) (w : World) (h0 : -9223372036854775808 ≤ n) (h1 : n ≤ 9223372036854775807) :
    Calls Try.prog 72 #[.int .i64 n] w fun e w' => e = .returned (.int .u64 (Lib.zigzag n : Nat)) ∧ w = w' := by
  by_cases hn : n < 0
  · have H := Lib.hid (Lib.zigzag_neg h0 hn)
    go_enter Try.func72, Try.ntmps72
    go_wp2
    go_ret
    exact ⟨ret_u64 H.out, rfl⟩
  · have hn' : 0 ≤ n := by omega
    have H := Lib.hid (Lib.zigzag_nonneg hn')
    go_enter Try.func72, Try.ntmps72
    go_wp2
    go_ret
    exact ⟨ret_u64 H.out.symm, rfl⟩

theorem info5 : (Try.prog.info? 5).map (fun i => (i.zero, i.size, i.bytes)) = some (some (.int .u8 0), 1, 1) := by kernel_rfl

set_option maxRecDepth 100000 in
set_option maxHeartbeats 1000000 in
theorem appendInt_own (base k : Nat) (v : Value) (xs : List Value) (n : Int) (w : World) (h0 : -9223372036854775808 ≤ n) (h1 : n ≤ 9223372036854775807)
    (hown : w.ownsRow base 5 1 v k xs) (hb : base ≤ w.heap.size) (hk : k + 10 ≤ 140737488355328) :
    Calls Try.prog 67 #[v, .int .i64 n] w fun e w' => ∃ v', e = .returned v' ∧ w'.ownsRow base 5 1 v' (k + (wp.encI n).length) (xs ++ wp.bc (wp.encI n)) ∧ Below base w w' := by
  obtain ⟨i0, hi, hz0, hz1, hz2⟩ := info_parts info5
  have hlen := wp.encI_length h0 h1
  unfold wp.encI at *
  have hz : Lib.zigzag n < 18446744073709551616 := Lib.zigzag_lt h0 h1
  go_enter Try.func67, Try.ntmps67
  go_wp2_with (go_at_call 72; refine (fold_any _ _ h0 h1).mono ?_; rintro e w' ⟨rfl, rfl⟩)
  generalize hgq : Lib.zigzag n = q0 at *
  have HQ := Lib.hid hgq
  clear hgq
  go_loopw [0, 5] (fun v z wr => ∃ (q m : Nat) (ys : List Value), z = .int .u64 (q : Int) ∧ q ≤ q0 ∧ ys ++ wp.bc (Lib.uvarint q) = wp.bc (Lib.uvarint q0) ∧ m + (Lib.uvarint q).length = (Lib.uvarint q0).length ∧ wr.ownsRow base 5 1 v (k + m) (xs ++ ys) ∧ Below base w wr) (fun _ z _ => (intOf z).toNat)
  case atStart => exact ⟨q0, 0, [], rfl, Nat.le_refl _, rfl, by omega, by simpa using hown, Below.refl _ _⟩
  case round =>
    obtain ⟨q, m, ys, rfl, hq, hys, hm, hown1, hbel⟩ := hrel
    have HYS := Lib.hid hys
    have HM := Lib.hid hm
    clear hown hm hys
    by_cases hlt : q < 128
    · have hU : (Lib.uvarint q).length = 1 := by rw [Lib.uvarint_small hlt]; rfl
      have HU := Lib.hid (wp.uv_small hlt)
      have hkm : k + m + 1 = k + (Lib.uvarint q0).length := by have := HM.out; omega
      have hkm' : k + m + 1 ≤ 140737488355328 := by omega
      clear hz h0 h1 hk hU hlen
      have HKM := Lib.hid hkm
      clear hkm
      go_wp2_with (at_builtin; refine wpList_append_own _ rfl _ _ 38 rfl base 5 i0 (.int .u8 0) 1 1 Try.underlying38 hi hz0 hz1 hz2 rfl (by decide) _ _ _ rfl (hown1.alloc _) ⟨wr.heap.size, 0, none⟩ 1 1 [.int .u8 (q : Int)] rfl rfl ?c1 ?c2 ?c3 ?c4 ?c5 ?_)
      case c1 => exact cell_one_new _ _ _
      case c2 => simp [Value.oneCell']
      case c3 => unfold maxLen; omega
      case c4 => omega
      case c5 => have := hbel.size; simp; omega
      intro v' w1 hown' hgrow _
      go_wp2
      go_ret
      refine ⟨v', rfl, ?_, ?_⟩
      · rw [HQ.out, ← HKM.out, ← HYS.out, HU.out]; exact hown'
      · exact (hbel.alloc (by have := hbel.size; omega) _).grown hgrow (by have := hbel.size; simp; omega) (fun g hg => (hown1.lt g hg).1)
    · have hU : (Lib.uvarint q).length = (Lib.uvarint (q / 128)).length + 1 := by rw [Lib.uvarint_big (by omega)]; rfl
      have HU := Lib.hid (wp.uv_big (q := q) (by omega))
      have hu1 : 1 ≤ (Lib.uvarint (q / 128)).length := Lib.uvarint_pos _
      have hkm' : k + m + 2 ≤ 140737488355328 := by have := HM.out; omega
      have HM' : Hid (m + 1 + (Lib.uvarint (q / 128)).length = (Lib.uvarint q0).length) := by have := HM.out; show _ = _; omega
      have hq64 : (q : Int) ≤ 18446744073709551615 := by omega
      clear hz h0 h1 hk hlen hu1 HM hU
      go_wp2_with (at_builtin; refine wpList_append_own _ rfl _ _ 38 rfl base 5 i0 (.int .u8 0) 1 1 Try.underlying38 hi hz0 hz1 hz2 rfl (by decide) _ _ _ rfl (hown1.alloc _) ⟨wr.heap.size, 0, none⟩ 1 1 [.int .u8 ((q : Int) % 128 + 128)] rfl rfl ?c1 ?c2 ?c3 ?c4 ?c5 ?_)
      case c1 => exact cell_one_new _ _ _
      case c2 => simp [Value.oneCell']
      case c3 => unfold maxLen; omega
      case c4 => omega
      case c5 => have := hbel.size; simp; omega
      intro v' w1 hown' hgrow _
      go_wp2
      go_roundw
      case rel =>
        refine ⟨q / 128, m + 1, ys ++ [.int .u8 ((q : Int) % 128 + 128)], by simp, by omega, ?_, HM'.out, ?_, ?_⟩
        · rw [← HYS.out, HU.out, List.append_assoc]; rfl
        · rw [← Nat.add_assoc]; exact hown'
        · exact (hbel.alloc (by have := hbel.size; omega) _).grown hgrow (by have := hbel.size; simp; omega) (fun g hg => (hown1.lt g hg).1)
      case measure => simp [intOf]; omega
end Go.Proofs.Ytbnemcggiopdmaa.wi
