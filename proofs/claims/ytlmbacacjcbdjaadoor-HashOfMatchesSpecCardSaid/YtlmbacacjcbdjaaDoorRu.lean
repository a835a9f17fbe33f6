
import Derived.Test.YtlmbacacjcbdjaaDoorRt

import Derived.Deep.RegionLaw

namespace Go.Proofs.YtlmbacacjcbdjaaDoor.hi

open Go.ChangeShapes Go.WideShapes Go.ChangeAt Go.RowKit

set_option linter.unusedVariables false

set_option maxRecDepth 100000 in
set_option maxHeartbeats 1000000 in
theorem bytes32_calls (l : List UInt8) (w : World) (hl : l.length = 32) :
    Calls Tryd.prog 73 #[.agg (wp.bc l).toArray] w fun e w' => e = .returned (.string ⟨l.toArray⟩) ∧ Below w.heap.size w w' := by
  obtain ⟨i0, hi, hz0, hz1, hz2⟩ := info_parts wi.info5
  have HL := Lib.hid hl
  clear hl
  go_enter Tryd.func73, Tryd.ntmps73
  go_upto_region 1 with fail
  have q0 : (w.alloc (.cells (wp.bc l).toArray 95)).heap[w.heap.size]? = some (.cells (wp.bc l).toArray 95 (0, 0)) := heap_alloc_new _ _
  have qb : Below w.heap.size w (w.alloc (.cells (wp.bc l).toArray 95)) := (Below.refl _ _).alloc (Nat.le_refl _) _
  have hs0 : w.heap.size < (w.alloc (.cells (wp.bc l).toArray 95)).heap.size := by simp
  generalize w.alloc (.cells (wp.bc l).toArray 95) = w1 at *
  generalize hB : w.heap.size = B at *
  have HB := Lib.hid hB
  have Q0 := Lib.hid q0
  have QB := Lib.hid qb
  have HS := Lib.hid hs0
  clear hB q0 qb hs0
  go_wp2_with fail
  go_loopg [3, 4] 32 (fun g v x wr => ∃ k : Nat, k + g = 32 ∧ x = .int .i64 (k : Int) ∧ wr.ownsRow (B + 1) 5 1 v k (wp.bc (l.take k)) ∧ wr.heap[B]? = some (.cells (wp.bc l).toArray 95 (0, 0)) ∧ Below B w wr ∧ B < wr.heap.size)
  case atStart => exact ⟨0, rfl, rfl, World.ownsRow_nil _ _ _ _, Q0.out, QB.out, HS.out⟩
  case round =>
    obtain ⟨k, hk, rfl, hown, hrow, hbel, hsz⟩ := hrel
    have HK := Lib.hid hk
    have HOWN := Lib.hid hown
    have HROW := Lib.hid hrow
    have HBEL := Lib.hid hbel
    have HSZ := Lib.hid hsz
    have hkle : k ≤ 32 := by omega
    clear hk hown hbel hsz
    by_cases hlt : k < 32
    · have hlk : l[k]? = some (l[k]'(by have := HL.out; omega)) := List.getElem?_eq_getElem (by have := HL.out; omega)
      have hck : wr.cell? ⟨B, k, none⟩ = some (.int .u8 ((l[k]'(by have := HL.out; omega)).toNat : Int)) := by
        rw [cell_of_row _ _ _ _ _ _ hrow]
        simp [wp.bc, hlk]
      have HT : Hid (l.take (k + 1) = l.take k ++ [l[k]'(by have := HL.out; omega)]) := by show _ = _; rw [List.take_add_one, hlk]; rfl
      generalize l[k]'(by have := HL.out; omega) = x at *
      have hx := x.toNat_lt
      clear hrow hlk
      go_wp2_with (at_builtin; refine wpList_append_own _ rfl _ _ 77 rfl (B + 1) 5 i0 (.int .u8 0) 1 1 Tryd.underlying77 hi hz0 hz1 hz2 rfl (by decide) _ _ _ rfl (HOWN.out.alloc _) ⟨wr.heap.size, 0, none⟩ 1 1 [.int .u8 (x.toNat : Int)] rfl rfl ?c1 ?c2 ?c3 ?c4 ?c5 ?_)
      case c1 => exact cell_one_new _ _ _
      case c2 => simp [Value.oneCell']
      case c3 => unfold maxLen; omega
      case c4 => omega
      case c5 => have := HSZ.out; simp; omega
      intro v' w2 hown' hgrow _
      have hb2 : Below (B + 1) wr w2 := ((Below.refl _ _).alloc (by have := HSZ.out; omega) _).grown hgrow (by have := HSZ.out; simp; omega) (fun g hg => (HOWN.out.lt g hg).1)
      have HB2 := Lib.hid hb2
      clear hb2 hgrow
      go_wp2_with fail
      go_roundg (gk - 1)
      case measure => have := HK.out; omega
      case rel =>
        refine ⟨k + 1, by have := HK.out; omega, by go_num, ?_, (HB2.out.block B (by omega)).trans HROW.out, HBEL.out.trans (HB2.out.mono (by omega)), Nat.lt_of_lt_of_le HSZ.out HB2.out.size⟩
        rw [HT.out, wp.bc_append]
        exact hown'
    · obtain rfl : k = 32 := by omega
      have hkl : l.take 32 = l := List.take_of_length_le (by have := HL.out; omega)
      have h := HOWN.out
      rw [hkl] at h
      obtain ⟨A2, c2, e2, h21, h22, hR⟩ := wp.RC.of_own h
      have hconv := wk.conv_str wr 77 5 9 Tryd.underlying77 Tryd.underlying5 Tryd.underlying9 A2 32 c2 l HL.out hR.rb
      subst e2
      clear h hR hkl hrow
      go_wp2_with fail
      go_ret
      exact ⟨rfl, by rw [HB.out]; exact HBEL.out⟩

set_option maxRecDepth 100000 in
set_option maxHeartbeats 1000000 in
theorem text_calls (l : List UInt8) (w : World) (hl : l.length = 16) :
    Calls Tryd.prog 74 #[.agg (wp.bc l).toArray] w fun e w' => e = .returned (.string ⟨l.toArray⟩) ∧ Below w.heap.size w w' := by
  obtain ⟨i0, hi, hz0, hz1, hz2⟩ := info_parts wi.info5
  have HL := Lib.hid hl
  clear hl
  go_enter Tryd.func74, Tryd.ntmps74
  go_upto_region 1 with fail
  have q0 : (w.alloc (.cells (wp.bc l).toArray 31)).heap[w.heap.size]? = some (.cells (wp.bc l).toArray 31 (0, 0)) := heap_alloc_new _ _
  have qb : Below w.heap.size w (w.alloc (.cells (wp.bc l).toArray 31)) := (Below.refl _ _).alloc (Nat.le_refl _) _
  have hs0 : w.heap.size < (w.alloc (.cells (wp.bc l).toArray 31)).heap.size := by simp
  generalize w.alloc (.cells (wp.bc l).toArray 31) = w1 at *
  generalize hB : w.heap.size = B at *
  have HB := Lib.hid hB
  have Q0 := Lib.hid q0
  have QB := Lib.hid qb
  have HS := Lib.hid hs0
  clear hB q0 qb hs0
  go_wp2_with fail
  go_loopg [3, 4] 16 (fun g v x wr => ∃ k : Nat, k + g = 16 ∧ x = .int .i64 (k : Int) ∧ wr.ownsRow (B + 1) 5 1 v k (wp.bc (l.take k)) ∧ wr.heap[B]? = some (.cells (wp.bc l).toArray 31 (0, 0)) ∧ Below B w wr ∧ B < wr.heap.size)
  case atStart => exact ⟨0, rfl, rfl, World.ownsRow_nil _ _ _ _, Q0.out, QB.out, HS.out⟩
  case round =>
    obtain ⟨k, hk, rfl, hown, hrow, hbel, hsz⟩ := hrel
    have HK := Lib.hid hk
    have HOWN := Lib.hid hown
    have HROW := Lib.hid hrow
    have HBEL := Lib.hid hbel
    have HSZ := Lib.hid hsz
    have hkle : k ≤ 16 := by omega
    clear hk hown hbel hsz
    by_cases hlt : k < 16
    · have hlk : l[k]? = some (l[k]'(by have := HL.out; omega)) := List.getElem?_eq_getElem (by have := HL.out; omega)
      have hck : wr.cell? ⟨B, k, none⟩ = some (.int .u8 ((l[k]'(by have := HL.out; omega)).toNat : Int)) := by
        rw [cell_of_row _ _ _ _ _ _ hrow]
        simp [wp.bc, hlk]
      have HT : Hid (l.take (k + 1) = l.take k ++ [l[k]'(by have := HL.out; omega)]) := by show _ = _; rw [List.take_add_one, hlk]; rfl
      generalize l[k]'(by have := HL.out; omega) = x at *
      have hx := x.toNat_lt
      clear hrow hlk
      go_wp2_with (at_builtin; refine wpList_append_own _ rfl _ _ 77 rfl (B + 1) 5 i0 (.int .u8 0) 1 1 Tryd.underlying77 hi hz0 hz1 hz2 rfl (by decide) _ _ _ rfl (HOWN.out.alloc _) ⟨wr.heap.size, 0, none⟩ 1 1 [.int .u8 (x.toNat : Int)] rfl rfl ?c1 ?c2 ?c3 ?c4 ?c5 ?_)
      case c1 => exact cell_one_new _ _ _
      case c2 => simp [Value.oneCell']
      case c3 => unfold maxLen; omega
      case c4 => omega
      case c5 => have := HSZ.out; simp; omega
      intro v' w2 hown' hgrow _
      have hb2 : Below (B + 1) wr w2 := ((Below.refl _ _).alloc (by have := HSZ.out; omega) _).grown hgrow (by have := HSZ.out; simp; omega) (fun g hg => (HOWN.out.lt g hg).1)
      have HB2 := Lib.hid hb2
      clear hb2 hgrow
      go_wp2_with fail
      go_roundg (gk - 1)
      case measure => have := HK.out; omega
      case rel =>
        refine ⟨k + 1, by have := HK.out; omega, by go_num, ?_, (HB2.out.block B (by omega)).trans HROW.out, HBEL.out.trans (HB2.out.mono (by omega)), Nat.lt_of_lt_of_le HSZ.out HB2.out.size⟩
        rw [HT.out, wp.bc_append]
        exact hown'
    · obtain rfl : k = 16 := by omega
      have hkl : l.take 16 = l := List.take_of_length_le (by have := HL.out; omega)
      have h := HOWN.out
      rw [hkl] at h
      obtain ⟨A2, c2, e2, h21, h22, hR⟩ := wp.RC.of_own h
      have hconv := wk.conv_str wr 77 5 9 Tryd.underlying77 Tryd.underlying5 Tryd.underlying9 A2 16 c2 l HL.out hR.rb
      subst e2
      clear h hR hkl hrow
      go_wp2_with fail
      go_ret
      exact ⟨rfl, by rw [HB.out]; exact HBEL.out⟩

theorem hex2_at (c : UInt8) : ∃ x y : UInt8, hx.hex2 c = [x, y] ∧ hx.digs[c.toNat / 16]? = some x ∧ hx.digs[c.toNat % 16]? = some y := by
  have h1 : c.toNat / 16 < 16 := by have := c.toNat_lt; omega
  have h2 : c.toNat % 16 < 16 := Nat.mod_lt _ (by decide)
  have hl : hx.digs.length = 16 := rfl
  refine ⟨hx.digs.getD (c.toNat / 16) 0, hx.digs.getD (c.toNat % 16) 0, rfl, ?_, ?_⟩
  · rw [List.getD_eq_getElem?_getD, List.getElem?_eq_getElem (by omega)]; rfl
  · rw [List.getD_eq_getElem?_getD, List.getElem?_eq_getElem (by omega)]; rfl
theorem digs_idx (w : World) {i : Nat} {x : UInt8} (h : hx.digs[i]? = some x) : (Instr.index 9 (.string ⟨#[48, 49, 50, 51, 52, 53, 54, 55, 56, 57, 97, 98, 99, 100, 101, 102]⟩) (.int .u8 (i : Int))).run Tryd.prog w = .ok (.int .u8 (x.toNat : Int)) w := by
  have hi : i < 16 := (List.getElem?_eq_some_iff.1 h).1
  have : i = 0 ∨ i = 1 ∨ i = 2 ∨ i = 3 ∨ i = 4 ∨ i = 5 ∨ i = 6 ∨ i = 7 ∨ i = 8 ∨ i = 9 ∨ i = 10 ∨ i = 11 ∨ i = 12 ∨ i = 13 ∨ i = 14 ∨ i = 15 := by omega
  rcases this with rfl | rfl | rfl | rfl | rfl | rfl | rfl | rfl | rfl | rfl | rfl | rfl | rfl | rfl | rfl | rfl <;> (rw [← Option.some.inj h, run_index_string w 9 _ .u8 _ Tryd.underlying9, dif_pos (by decide)]; rfl)
theorem hex_length : ∀ l : List UInt8, (hx.hex l).length = 2 * l.length
  | [] => rfl
  | c :: r => by show (hx.hex2 c ++ hx.hex r).length = _; rw [List.length_append, hex_length r, List.length_cons]; show 2 + _ = _; omega

set_option maxRecDepth 100000 in
set_option maxHeartbeats 1000000 in
theorem hex_calls (s : ByteArray) (w : World) (hs : s.size ≤ 100000) :
    Calls Tryd.prog 72 #[.string s] w fun e w' => e = .returned (.string ⟨(hx.hex s.data.toList).toArray⟩) ∧ Below w.heap.size w w' := by
  obtain ⟨i0, hi, hz0, hz1, hz2⟩ := info_parts wi.info5
  have hz : s.data.toList.length = s.size := by rw [Array.length_toList]; rfl
  have HZ := Lib.hid hz
  clear hz
  go_enter Tryd.func72, Tryd.ntmps72
  go_wp2_with fail
  generalize hB : w.heap.size = B at *
  have HB := Lib.hid hB
  clear hB
  go_loopg [4, 5] s.size (fun g v x wr => ∃ k : Nat, k + g = s.size ∧ x = .int .i64 (k : Int) ∧ wr.ownsRow B 5 1 v (2 * k) (wp.bc (hx.hex (s.data.toList.take k))) ∧ Below B w wr)
  case atStart => exact ⟨0, by omega, rfl, World.ownsRow_nil _ _ _ _, by rw [← HB.out]; exact Below.refl _ _⟩
  case round =>
    obtain ⟨k, hk, rfl, hown, hbel⟩ := hrel
    have HK := Lib.hid hk
    have HOWN := Lib.hid hown
    have HBEL := Lib.hid hbel
    have hkle : k ≤ s.size := by omega
    have HBW : Hid (B ≤ wr.heap.size) := by have := hbel.size; have := HB.out; show _ ≤ _; omega
    clear hk hown hbel
    by_cases hlt : k < s.size
    · have hsk : s.data.toList[k]? = some s[k] := by
        rw [List.getElem?_eq_getElem (by rw [HZ.out]; exact hlt)]
        rfl
      have HT : Hid (hx.hex (s.data.toList.take (k + 1)) = hx.hex (s.data.toList.take k) ++ hx.hex2 s[k]) := by
        show _ = _
        unfold hx.hex
        rw [List.take_add_one, hsk]
        simp
      have HSK := Lib.hid hsk
      clear hsk
      obtain ⟨x, y, he, h1, h2⟩ := hex2_at s[k]
      have HE := Lib.hid he
      have hck := s[k].toNat_lt
      obtain ⟨a, ha⟩ : ∃ a, a = s[k].toNat / 16 := ⟨_, rfl⟩
      obtain ⟨b, hb⟩ : ∃ b, b = s[k].toNat % 16 := ⟨_, rfl⟩
      have hai : (s[k].toNat : Int) / 16 = (a : Int) := by omega
      have hbi : (s[k].toNat : Int) % 16 = (b : Int) := by omega
      have hai2 : Int.tdiv (s[k].toNat : Int) 16 = (a : Int) := by rw [Int.tdiv_eq_ediv_of_nonneg (by omega)]; exact hai
      have hbi2 : Int.tmod (s[k].toNat : Int) 16 = (b : Int) := by rw [Int.tmod_eq_emod_of_nonneg (by omega)]; exact hbi
      have haw : IntKind.u8.wrap (a : Int) = (a : Int) := by rw [IntKind.wrap_u8]; omega
      have hbw : IntKind.u8.wrap (b : Int) = (b : Int) := by rw [IntKind.wrap_u8]; omega
      rw [← ha] at h1
      rw [← hb] at h2
      have hi1 := fun w' => digs_idx w' h1
      have hi2 := fun w' => digs_idx w' h2
      clear he h1 h2 ha hb
      go_wp2_with fail
      have hm1 : 2 * k + 2 ≤ maxLen := by unfold maxLen; omega
      have hm2 : (2 * k + 2) * 1 ≤ 140737488355328 := by omega
      have hm3 : B ≤ (wr.alloc (.cells #[.int .u8 (x.toNat : Int), .int .u8 (y.toNat : Int)] 5)).drew.heap.size := by have := HBW.out; simp; omega
      have ho2 : ∀ u ∈ [Value.int .u8 (x.toNat : Int), Value.int .u8 (y.toNat : Int)], u.oneCell' = true := by simp [Value.oneCell']
      have hcn := wk.cells_new wr [.int .u8 (x.toNat : Int), .int .u8 (y.toNat : Int)] 5
      have HM1 := Lib.hid hm1
      have HM2 := Lib.hid hm2
      have HM3 := Lib.hid hm3
      have HO2 := Lib.hid ho2
      have HCN := Lib.hid hcn
      clear hm1 hm2 hm3 ho2 hcn
      go_region_law (rw [if_pos (by rfl)]; refine wp_append_own _ (.tmp 12) (.tmp 25) 77 rfl B 5 i0 (.int .u8 0) 1 1 Tryd.underlying77 hi hz0 hz1 hz2 rfl (by decide) _ _ _ rfl (HOWN.out.drew.alloc _) ⟨wr.heap.size, 0, none⟩ 2 2 [.int .u8 (x.toNat : Int), .int .u8 (y.toNat : Int)] rfl rfl HCN.out HO2.out HM1.out HM2.out HM3.out ?_; intro v' w2 hown' hgrow _)
      all_goals
        clear hi1 hi2 hai hbi hai2 hbi2 haw hbw
        have hb2 : Below B wr w2 := (((Below.refl _ _).alloc HBW.out _).drew).grown hgrow (by have := HBW.out; simp; omega) (fun g hg => (HOWN.out.lt g hg).1)
        have HB2 := Lib.hid hb2
        clear hb2 hgrow
        go_wp2_with fail
        go_roundg (gk - 1)
        case measure => have := HK.out; omega
        case rel =>
          refine ⟨k + 1, by have := HK.out; omega, by go_num, ?_, HBEL.out.trans HB2.out⟩
          rw [HT.out, wp.bc_append, HE.out, Nat.mul_add]
          exact hown'
    · obtain rfl : k = s.size := by omega
      have hkl : s.data.toList.take s.size = s.data.toList := List.take_of_length_le (by rw [HZ.out]; omega)
      have h := HOWN.out
      rw [hkl] at h
      obtain ⟨A2, c2, e2, h21, h22, hR⟩ := wp.RC.of_own h
      have hlen : (hx.hex s.data.toList).length = 2 * s.size := by rw [hex_length, HZ.out]
      have hconv := wk.conv_str wr 77 5 9 Tryd.underlying77 Tryd.underlying5 Tryd.underlying9 A2 (2 * s.size) c2 (hx.hex s.data.toList) hlen hR.rb
      subst e2
      clear h hR hkl hlen
      go_wp2_with fail
      go_ret
      exact ⟨rfl, by rw [HB.out]; exact HBEL.out⟩
end Go.Proofs.YtlmbacacjcbdjaaDoor.hi
