/- Joined: Ru Ht Sn Kit8 Rv Rw Hpd Open Bit2 WJoin WShift WJoins. -/
import Derived.Test.YtmjmkkdmphgdnaaDoorG4

import Derived.Deep.RegionLaw

import Derived.Lib.SlBytesConst

import Derived.Lib.ConvBytes

import Derived.Laws.AppendOwn

import Derived.StillTailTactics

import Derived.Deep.QuietTactic

import Derived.BigQuiet

import Derived.OpenShut

import Derived.ShutString

import Derived.ChangeOld

import Derived.SliceStrings

import Derived.Below

import Derived.Deep.DeepCutAuto

namespace Go.Proofs.YtmjmkkdmphgdnaaDoor.hi

open Go.ChangeShapes Go.WideShapes Go.ChangeAt Go.RowKit

set_option linter.unusedVariables false
theorem hex2_at (c : UInt8) : ∃ x y : UInt8, hx.hex2 c = [x, y] ∧ hx.digs[c.toNat / 16]? = some x ∧ hx.digs[c.toNat % 16]? = some y := by
  have h1 : c.toNat / 16 < 16 := by have := c.toNat_lt; omega
  have h2 : c.toNat % 16 < 16 := Nat.mod_lt _ (by decide)
  have hl : hx.digs.length = 16 := rfl
  refine ⟨hx.digs.getD (c.toNat / 16) 0, hx.digs.getD (c.toNat % 16) 0, rfl, ?_, ?_⟩
  · rw [List.getD_eq_getElem?_getD, List.getElem?_eq_getElem (by omega)]; rfl
  · rw [List.getD_eq_getElem?_getD, List.getElem?_eq_getElem (by omega)]; rfl
theorem digs_idx (w : World) {i : Nat} {x : UInt8} (h : hx.digs[i]? = some x) : (Instr.index 9 (.string ⟨#[48, 49, 50, 51, 52, 53, 54, 55, 56, 57, 97, 98, 99, 100, 101, 102]⟩) (.int .u8 (i : Int))).run Tryd.prog w = .ok (.int .u8 (x.toNat : Int)) w := by
  have hi : i < 16 := (List.getElem?_eq_some_iff.1 h).1
  have : i = 0 ∨ i = 1 ∨ i = 2 ∨ i = 3 ∨ i = 4 ∨ i = 5 ∨ i = 6 ∨ i = 7 ∨ i = 8 ∨ i = 9 ∨ i = 10 ∨ i = 11 ∨ i = 12 ∨ i = 13 ∨ i = 14 ∨ i = 15 := by omega
  rcases this with rfl | rfl | rfl | rfl | rfl | rfl | rfl | rfl | rfl | rfl | rfl | rfl | rfl | rfl | rfl | rfl <;> (rw [← Option.some.inj h, run_index_string w 9 _ .u8 _ Tryd.underlying9, dif_pos (by decide)]; rfl)
theorem hex_length : ∀ l : List UInt8, (hx.hex l).length = 2 * l.length
  | [] => rfl
  | c :: r => by show (hx.hex2 c ++ hx.hex r).length = _; rw [List.length_append, hex_length r, List.length_cons]; show 2 + _ = _; omega

end Go.Proofs.YtmjmkkdmphgdnaaDoor.hi

namespace Go.Proofs.YtmjmkkdmphgdnaaDoor.hs
theorem abc : sha [97, 98, 99] = [0xba, 0x78, 0x16, 0xbf, 0x8f, 0x01, 0xcf, 0xea, 0x41, 0x41, 0x40, 0xde, 0x5d, 0xae, 0x22, 0x23, 0xb0, 0x03, 0x61, 0xa3, 0x96, 0x17, 0x7a, 0x9c, 0xb4, 0x10, 0xff, 0x61, 0xf2, 0x00, 0x15, 0xad] := by decide +kernel
end Go.Proofs.YtmjmkkdmphgdnaaDoor.hs

namespace Go.Proofs.YtmjmkkdmphgdnaaDoor.hi

open Go.ChangeShapes Go.WideShapes Go.ChangeAt Go.RowKit

set_option linter.unusedVariables false

theorem run_eq_arr_same (t e : TypeId) (n : Nat) (ht : Tryd.prog.underlying t = some (.array n e)) (he : Tryd.prog.underlying e = some (.int .u8)) (hs : (Tryd.prog.info? e).map (·.size) = some 1) (xs : List UInt8)
    (hx : xs.length = n) (w : World) : (binOp .eql t (.agg (wp.bc xs).toArray) (.agg (wp.bc xs).toArray)).run Tryd.prog w = .ok (.bool true) w := by
  rw [run_eql_struct, wk.run_eq_arr w 9998 t e n ht he hs xs xs hx hx]
  simp [Result.andThen]
theorem RB_mark {w : World} {g : Nat} (hg : w.heap.size = g) (l : List UInt8) {cs : Array Value} (t : TypeId) (fr : Nat × Nat) (hcs : cs = (wp.bc l).toArray) : wp.RB (w.alloc (.cells cs t fr)) (some ⟨g, 0, none⟩) l := fun hl => by
  subst hg hcs
  refine ⟨w.heap.size, 0, rfl, by simp, fun j u hu => ?_⟩
  rw [cell_of_row _ _ _ _ _ _ (heap_alloc_new w _), List.getElem?_toArray, Nat.zero_add]
  simp [wp.bc, hu]
theorem c254 : hp.crc [254] = 75628790 := by decide +kernel
theorem cff : hp.crc [255, 255] = 65535 := by decide +kernel
theorem call : hp.crc ([1099511627774].flatMap hp.five) = 1099435999222 := by decide +kernel
theorem j1 : joinV 255 255 1 = 65535 := by decide +kernel
theorem j2 : joinV 255 0 1 = 65280 := by decide +kernel
theorem j3 : joinV 7 9 0 = 14 := by decide +kernel
theorem j4 : joinV 1 1 (-1) = 0 := by decide +kernel
theorem hexabc : hx.hex (hs.sha [97, 98, 99]) = [98, 97, 55, 56, 49, 54, 98, 102, 56, 102, 48, 49, 99, 102, 101, 97, 52, 49, 52, 49, 52, 48, 100, 101, 53, 100, 97, 101, 50, 50, 50, 51, 98, 48, 48, 51, 54, 49, 97, 51, 57, 54, 49, 55, 55, 97, 57, 99, 98, 52, 49, 48, 102, 102, 54, 49, 102, 50, 48, 48, 49, 53, 97, 100] := by rw [hs.abc]; decide +kernel
theorem hexone : hx.hex ((hs.sha [1]).take 16) = [52, 98, 102, 53, 49, 50, 50, 102, 51, 52, 52, 53, 53, 52, 99, 53, 51, 98, 100, 101, 50, 101, 98, 98, 56, 99, 100, 50, 98, 55, 101, 51] := by decide +kernel

end Go.Proofs.YtmjmkkdmphgdnaaDoor.hi

namespace Go.Proofs.YtmjmkkdmphgdnaaDoor.wk

open Go.RowKit

section

variable {P : Program}
/-- '[]byte(s)' -/
theorem conv_bytes (w : World) (src dst e : TypeId) (s : ByteArray) (hs : P.underlying src = some .string) (hd : P.underlying dst = some (.slice e)) (he : P.underlying e = some (.int .u8)) (hm : s.size ≤ maxLen) :
    ∃ A c w', (convert src dst (.string s)).run P w = .ok (.slice A s.size c) w' ∧ s.size ≤ c ∧ c ≤ 9223372036854775807 ∧ wp.RB w' A s.data.toList ∧ Below w.heap.size w w' := by
  have hz : s.data.toList.length = s.size := by rw [Array.length_toList]; rfl
  refine ⟨_, _, _, Lib.run_convert_string_bytes w src dst e s hs hd he, grownCap_ge _ _ _ _, ?_, fun _ => ⟨w.heap.size, 0, rfl, by rw [Lib.bytesWorld_size]; omega, fun j u hu => ?_⟩, ?_⟩
  · have := grownCap_le_maxLen w s.size 0 e hm
    unfold maxLen at this
    omega
  · have hj : j < s.size := by
      rw [← hz]
      rcases Nat.lt_or_ge j s.data.toList.length with h | h
      · exact h
      · rw [List.getElem?_eq_none h] at hu; cases hu
    rw [Nat.zero_add, Lib.bytesWorld_cell w e s j hj, List.getD_eq_getElem?_getD, hu]
    rfl
  · refine ⟨?_, ?_, ?_, by rw [Lib.bytesWorld_size]; omega, fun k hk => Lib.bytesWorld_at_old w e s k hk⟩ <;>
      simp [Lib.bytesWorld, World.freeze, World.alloc, World.drew, -World.alloc_eq, -World.drew_eq]
/-- a load of a whole struct in the quiet head of a region -/
theorem still_load {ops : Array Oper} {w : World} {Q : Act → Prop} {a : Act} {o : Oper} {rest : List Oper} (hgd : o.guard = none) (ty : TypeId) (x : Operand) (ho : o.op = .load ty x)
    (ad : Addr) (hx : a.eval x = .pointer (some ad)) (cs : List Value) (d : TypeDesc) (hc : ∀ j v, cs[j]? = some v → w.cell? (ad.add j) = some v)
    (hu : P.underlying ty = some d) (hd : (match d with | .struct _ | .array _ _ => true | _ => false) = true) (hi : (P.info? ty).map (·.size) = some cs.length)
    (h : wpStill P ops w Q rest (a.put o.dst (.agg cs.toArray))) : wpStill P ops w Q (o :: rest) a :=
  wpStill_step fun K hK => by
    rw [if_pos (by simp [Region.wanted, hgd])]
    unfold Oper.still execOp
    simp only [ho, hx, run_loadAt_agg w ad ty cs d hc hu hd hi, Sem.run_bind, Sem.run_pure, Result.andThen_ok]
    exact ⟨rfl, hK _ h⟩
end

end Go.Proofs.YtmjmkkdmphgdnaaDoor.wk

namespace Go.Proofs.YtmjmkkdmphgdnaaDoor.hi

open Go.ChangeShapes Go.WideShapes Go.ChangeAt Go.RowKit

set_option linter.unusedVariables false

set_option maxRecDepth 100000 in
theorem rrotr_calls (x n : Nat) (w : World) (hx : x < 4294967296) (hn0 : 0 < n) (hn : n < 32) :
    Calls Tryd.prog 87 #[.int .u32 (x : Int), .int .i64 (n : Int)] w fun e w' => e = .returned (.int .u32 (hs.rot x n : Nat)) ∧ w' = w.drew := by
  obtain ⟨s, hsd⟩ : ∃ s, s = 32 - n := ⟨_, rfl⟩
  have hsi : (32 : Int) - (n : Int) = (s : Int) := by omega
  have hsw : IntKind.i64.wrap ((32 : Int) - (n : Int)) = (s : Int) := by rw [hsi, IntKind.wrap_i64]; omega
  have hs0 : (0 : Int) ≤ (s : Int) := by omega
  have hs1 : s < 32 := by omega
  have HE : Hid (hs.rot x n = x * 2 ^ s % 4294967296 ||| x / 2 ^ n) := by show _ = _; rw [hsd]; rfl
  clear hsd
  go_enter Tryd.func87, Tryd.ntmps87
  go_wp2_with fail
  go_region
  go_wp2_with fail
  go_ret
  refine ⟨ret_u32 ?_, rfl⟩
  have e1 : ((x : Int) * 2 ^ s % 4294967296) = ((x * 2 ^ s % 4294967296 : Nat) : Int) := by rw [Int.natCast_emod, Int.natCast_mul, Int.natCast_pow]; rfl
  have e2 : (x : Int) / 2 ^ n = ((x / 2 ^ n : Nat) : Int) := by rw [Int.natCast_ediv, Int.natCast_pow]; rfl
  have u1 : hb.U 32 ((x : Int) * 2 ^ s % 4294967296) (x * 2 ^ s % 4294967296) := ⟨e1, Nat.mod_lt _ (by decide)⟩
  have u2 : hb.U 32 ((x : Int) / 2 ^ n) (x / 2 ^ n) := ⟨e2, Nat.lt_of_le_of_lt (Nat.div_le_self _ _) hx⟩
  rw [HE.out, Nat.or_comm]
  exact (u2.or32 u1).eq
end Go.Proofs.YtmjmkkdmphgdnaaDoor.hi

namespace Go.Proofs.YtmjmkkdmphgdnaaDoor.hi

open Go.ChangeShapes Go.WideShapes Go.ChangeAt Go.RowKit

set_option linter.unusedVariables false

theorem rrotq (x n : Nat) (hx : x < 4294967296) (hn0 : 0 < n) (hn : n < 32) (w : World) :
    Calls Tryd.prog 87 #[.int .u32 (x : Int), .int .i64 (n : Int)] w fun e w' => e = .returned (.int .u32 (hs.rot x n : Nat)) ∧ ∃ m, w' = w.drewN m :=
  (rrotr_calls x n w hx hn0 hn).mono fun _ _ h => ⟨h.1, 1, h.2⟩
set_option maxRecDepth 100000 in
set_option maxHeartbeats 4000000 in
theorem rsched_calls (A : Option Addr) (c : Nat) (b : List UInt8) (w : World) (hb : b.length = 64) (hnc : 64 ≤ c) (hc : c ≤ 9223372036854775807) (hl : wp.RB w A b) :
    Calls Tryd.prog 86 #[.slice A 64 c] w fun e w' => e = .returned (.agg (u32s (hs.sched b)).toArray) ∧ Below w.heap.size w w' := by
  obtain ⟨b0, o0, rfl, hb0, hcell⟩ := hl (by omega)
  have HB64 := Lib.hid hb
  have HCELL := Lib.hid hcell
  have HB0 := Lib.hid hb0
  clear hb hl hcell hb0
  go_enter Tryd.func86, Tryd.ntmps86
  go_wp2_with fail
  generalize hB : w.heap.size = B at *
  have HB := Lib.hid hB
  clear hB
  go_loopg [4] 16 (fun g x wr => ∃ k : Nat, k + g = 16 ∧ x = .int .i64 (k : Int) ∧ (∃ z : Array Value, z.size = 64 ∧ wr.heap[B]? = some (.cells z 119 (0, 0))) ∧ wr.heap[B + 1]? = some (.cells (u32s (padW (hs.words b k))).toArray 119 (0, 0)) ∧ Below B w wr)
  case atStart =>
    have hB := HB.out
    subst hB
    exact ⟨0, rfl, rfl, ⟨(u32s (padW [])).toArray, rfl, heap_alloc2_old _ _ _⟩, heap_alloc2_new _ _ _, ((Below.refl _ _).alloc (Nat.le_refl _) _).alloc (by simp) _⟩
  case round =>
    obtain ⟨k, hk, rfl, h1, h2, hbel⟩ := hrel
    have H1 := Lib.hid h1
    have H2 := Lib.hid h2
    have HBEL := Lib.hid hbel
    have hlen := words_length b k
    by_cases hlt : k < 16
    · obtain ⟨hl4⟩ : Nonempty (4 * k + 3 < b.length) := ⟨by have := HB64.out; omega⟩
      have cf : ∀ j, j < b.length → wr.cell? ⟨b0, o0 + j, none⟩ = some (.int .u8 ((b.getD j 0).toNat : Int)) := fun j hj => by
        rw [HBEL.out.cell (p := ⟨b0, o0 + j, none⟩) (by have := HB0.out; have := HB.out; omega)]
        rw [List.getD_eq_getElem?_getD, List.getElem?_eq_getElem hj]
        exact HCELL.out j _ (List.getElem?_eq_getElem hj)
      have c0 := cf (4 * k) (by omega)
      have c1 := cf (4 * k + 1) (by omega)
      have c2 := cf (4 * k + 2) (by omega)
      have c3 := cf (4 * k + 3) (by omega)
      have HLT := Lib.hid hl4
      have hcw : wr.cell? ⟨B + 1, k, none⟩ = some (.int .u32 0) := by
        rw [cell_of_row _ _ _ _ _ _ h2]
        have : (padW (hs.words b k))[k]? = some 0 := by
          unfold padW
          rw [List.getElem?_append_right (by omega), hlen, List.getElem?_replicate, if_pos (by omega)]
        simpa using u32s_at this
      have hfw : wr.frozen? ⟨B + 1, k, none⟩ = false := frozen_of_row _ _ _ _ _ h2
      have HWD : Hid ((b.getD (4 * k) 0).toNat * 16777216 ||| (b.getD (4 * k + 1) 0).toNat * 65536 ||| (b.getD (4 * k + 2) 0).toNat * 256 ||| (b.getD (4 * k + 3) 0).toNat = hs.word b k) := rfl
      clear cf h1 h2 hbel hl4
      generalize hx0 : (b.getD (4 * k) 0) = x0 at *
      generalize hx1 : (b.getD (4 * k + 1) 0) = x1 at *
      generalize hx2 : (b.getD (4 * k + 2) 0) = x2 at *
      generalize hx3 : (b.getD (4 * k + 3) 0) = x3 at *
      have f0 := x0.toNat_lt
      have f1 := x1.toNat_lt
      have f2 := x2.toNat_lt
      have f3 := x3.toNat_lt
      have w0 : IntKind.i64.wrap (4 * (k : Int)) = ((4 * k : Nat) : Int) := by rw [IntKind.wrap_i64]; omega
      have w1 : IntKind.i64.wrap (((4 * k : Nat) : Int) + 1) = ((4 * k + 1 : Nat) : Int) := by rw [IntKind.wrap_i64]; omega
      have w2 : IntKind.i64.wrap (((4 * k : Nat) : Int) + 2) = ((4 * k + 2 : Nat) : Int) := by rw [IntKind.wrap_i64]; omega
      have w3 : IntKind.i64.wrap (((4 * k : Nat) : Int) + 3) = ((4 * k + 3 : Nat) : Int) := by rw [IntKind.wrap_i64]; omega
      have i0 : ((4 * k : Nat) : Int) < 64 := by omega
      have i1 : ((4 * k : Nat) : Int) + 1 < 64 := by omega
      have i2 : ((4 * k : Nat) : Int) + 2 < 64 := by omega
      have i3 : ((4 * k : Nat) : Int) + 3 < 64 := by omega
      have p1 : (0 : Int) ≤ ((4 * k : Nat) : Int) + 1 := by omega
      have p2 : (0 : Int) ≤ ((4 * k : Nat) : Int) + 2 := by omega
      have p3 : (0 : Int) ≤ ((4 * k : Nat) : Int) + 3 := by omega
      have n1 : (((4 * k : Nat) : Int) + 1).toNat = 4 * k + 1 := by omega
      have n2 : (((4 * k : Nat) : Int) + 2).toNat = 4 * k + 2 := by omega
      have n3 : (((4 * k : Nat) : Int) + 3).toNat = 4 * k + 3 := by omega
      have ik : (k : Int) < 64 := by omega
      have y0 : IntKind.u32.wrap (x0.toNat : Int) = (x0.toNat : Int) := by rw [IntKind.wrap_u32]; omega
      have y1 : IntKind.u32.wrap (x1.toNat : Int) = (x1.toNat : Int) := by rw [IntKind.wrap_u32]; omega
      have y2 : IntKind.u32.wrap (x2.toNat : Int) = (x2.toNat : Int) := by rw [IntKind.wrap_u32]; omega
      have y3 : IntKind.u32.wrap (x3.toNat : Int) = (x3.toNat : Int) := by rw [IntKind.wrap_u32]; omega
      have z0 : IntKind.u32.wrap ((x0.toNat : Int) * 16777216) = (x0.toNat : Int) * 16777216 := by rw [IntKind.wrap_u32]; omega
      have z1 : IntKind.u32.wrap ((x1.toNat : Int) * 65536) = (x1.toNat : Int) * 65536 := by rw [IntKind.wrap_u32]; omega
      have z2 : IntKind.u32.wrap ((x2.toNat : Int) * 256) = (x2.toNat : Int) * 256 := by rw [IntKind.wrap_u32]; omega
      generalize 4 * k = m at *
      go_wp2_with fail
      go_still_tail 35, (by kernel_rfl)
      change wpList _ _ _ _ _ wr.drew
      have hor : bits .or .u32 (bits .or .u32 (bits .or .u32 ((x0.toNat : Int) * 16777216) ((x1.toNat : Int) * 65536)) ((x2.toNat : Int) * 256)) (x3.toNat : Int) = ((hs.word b k : Nat) : Int) := by
        rw [← HWD.out]
        have u0 : hb.U 32 ((x0.toNat : Int) * 16777216) (x0.toNat * 16777216) := (hb.U.nat (j := 32) (a := x0.toNat) (by omega)).mul 16777216 (by omega)
        have u1 : hb.U 32 ((x1.toNat : Int) * 65536) (x1.toNat * 65536) := (hb.U.nat (j := 32) (a := x1.toNat) (by omega)).mul 65536 (by omega)
        have u2 : hb.U 32 ((x2.toNat : Int) * 256) (x2.toNat * 256) := (hb.U.nat (j := 32) (a := x2.toNat) (by omega)).mul 256 (by omega)
        have u3 : hb.U 32 (x3.toNat : Int) x3.toNat := hb.U.nat (j := 32) (by omega)
        exact (((u0.or32 u1).or32 u2).or32 u3).eq
      go_wp2_with fail
      go_roundg (gk - 1)
      case measure => omega
      case rel =>
        refine ⟨k + 1, by omega, by go_num, ?_, ?_, ?_⟩
        · obtain ⟨z, hz, hh⟩ := H1.out
          exact ⟨z, hz, (heap_setCell_other _ _ _ _ (by show B ≠ B + 1; omega)).trans hh⟩
        · refine (heap_setCell_same _ _ _ _ _ _ H2.out).trans ?_
          have := padW_set (l := hs.words b k) (by omega) (hs.word b k)
          rw [hlen] at this
          rw [this]
          rfl
        · exact (Below.drew HBEL.out).setCell (p := ⟨B + 1, k, none⟩) (by show B ≤ B + 1; omega) _
    · obtain rfl : k = 16 := by omega
      clear h1 h2 hbel hk
      go_wp2_with fail
      clear hlt
      have HLT := Lib.hid (words_lt b 16)
      go_loopg [5] 48 (fun g x wq => ∃ k t : Nat, k + g = 48 ∧ t = 16 + k ∧ x = .int .i64 (t : Int) ∧ (∀ x ∈ hs.ext (hs.words b 16) k, x < 4294967296) ∧ (∃ z : Array Value, z.size = 64 ∧ wq.heap[B]? = some (.cells z 119 (0, 0))) ∧ wq.heap[B + 1]? = some (.cells (u32s (padW (hs.ext (hs.words b 16) k))).toArray 119 (0, 0)) ∧ Below B w wq)
      case atStart => exact ⟨0, 16, rfl, rfl, rfl, words_lt b 16, H1.out, H2.out, HBEL.out⟩
      case round =>
        obtain ⟨k, t, hk, ht, rfl, hbd, h1, h2, hbel⟩ := hrel
        have H1 := Lib.hid h1
        have H2 := Lib.hid h2
        have HBEL := Lib.hid hbel
        have HK := Lib.hid hk
        have hlen := ext_length (hs.words b 16) k
        rw [words_length, ← ht] at hlen
        have HL := Lib.hid hlen
        have HN : Hid (hs.ext (hs.words b 16) (k + 1) = hs.ext (hs.words b 16) k ++ [hs.nextW (hs.ext (hs.words b 16) k) t]) := by rw [ht]; rfl
        have HLO : Hid (16 ≤ t) := by show 16 ≤ t; omega
        by_cases hlt : t < 64
        · have HSL : Hid (k + 1 + (gk - 1) = 48 ∧ gk - 1 < gk ∧ t + 1 = 16 + (k + 1)) := by show _ ∧ _ ∧ _; omega
          generalize hs.ext (hs.words b 16) k = l at *
          have cf : ∀ j, j < t → wr.cell? ⟨B + 1, j, none⟩ = some (.int .u32 ((l.getD j 0 : Nat) : Int)) := fun j hj => by
            rw [cell_of_row _ _ _ _ _ _ h2]
            have := u32s_at (padW_at (l := l) (j := j) (by omega))
            simp only [List.getElem?_toArray, this]
            simp [List.getD_eq_getElem?_getD, List.getElem?_eq_getElem (show j < l.length by omega)]
          have bf : ∀ j, l.getD j 0 < 4294967296 := fun j => by
            rw [List.getD_eq_getElem?_getD]
            cases hj : l[j]? with
            | none => decide
            | some v => exact hbd v (List.mem_of_getElem? hj)
          have c15 := cf (t - 15) (by omega)
          have c2 := cf (t - 2) (by omega)
          have c16 := cf (t - 16) (by omega)
          have c7 := cf (t - 7) (by omega)
          have q15 := bf (t - 15)
          have q2 := bf (t - 2)
          have q16 := bf (t - 16)
          have q7 := bf (t - 7)
          have HW : Hid (hs.ad (hs.ad (hs.ad (l.getD (t - 16) 0) (hs.g0 (l.getD (t - 15) 0))) (l.getD (t - 7) 0)) (hs.g1 (l.getD (t - 2) 0)) = hs.nextW l t) := rfl
          have hcw : wr.cell? ⟨B + 1, t, none⟩ = some (.int .u32 0) := by
            rw [cell_of_row _ _ _ _ _ _ h2]
            have : (padW l)[t]? = some 0 := by
              unfold padW
              rw [List.getElem?_append_right (by omega), hlen, List.getElem?_replicate, if_pos (by omega)]
            simpa using u32s_at this
          have hfw : wr.frozen? ⟨B + 1, t, none⟩ = false := frozen_of_row _ _ _ _ _ h2
          generalize l.getD (t - 15) 0 = x15 at *
          generalize l.getD (t - 2) 0 = x2 at *
          generalize l.getD (t - 16) 0 = x16 at *
          generalize l.getD (t - 7) 0 = x7 at *
          have p15 : (0 : Int) ≤ (t : Int) - 15 := by have := HLO.out; omega
          have p2 : (0 : Int) ≤ (t : Int) - 2 := by have := HLO.out; omega
          have p16 : (0 : Int) ≤ (t : Int) - 16 := by have := HLO.out; omega
          have p7 : (0 : Int) ≤ (t : Int) - 7 := by have := HLO.out; omega
          have s15 : (t : Int) - 15 < 64 := by omega
          have s2 : (t : Int) - 2 < 64 := by omega
          have s16 : (t : Int) - 16 < 64 := by omega
          have s7 : (t : Int) - 7 < 64 := by omega
          have st : (t : Int) < 64 := by omega
          have n15 : ((t : Int) - 15).toNat = t - 15 := by omega
          have n2 : ((t : Int) - 2).toNat = t - 2 := by omega
          have n16 : ((t : Int) - 16).toNat = t - 16 := by omega
          have n7 : ((t : Int) - 7).toNat = t - 7 := by omega
          have R7 := fun w => rrotq x15 7 q15 (by decide) (by decide) w
          have R18 := fun w => rrotq x15 18 q15 (by decide) (by decide) w
          have R17 := fun w => rrotq x2 17 q2 (by decide) (by decide) w
          have R19 := fun w => rrotq x2 19 q2 (by decide) (by decide) w
          have u0 : hb.U 32 (bits .xor .u32 (bits .xor .u32 ((hs.rot x15 7 : Nat) : Int) ((hs.rot x15 18 : Nat) : Int)) ((x15 : Int) / 8)) (hs.g0 x15) := ((hb.U.nat (j := 32) (rot_lt 7 q15)).xor32 (hb.U.nat (j := 32) (rot_lt 18 q15))).xor32 ((hb.U.nat (j := 32) (a := x15) q15).div 8)
          have u1 : hb.U 32 (bits .xor .u32 (bits .xor .u32 ((hs.rot x2 17 : Nat) : Int) ((hs.rot x2 19 : Nat) : Int)) ((x2 : Int) / 1024)) (hs.g1 x2) := ((hb.U.nat (j := 32) (rot_lt 17 q2)).xor32 (hb.U.nat (j := 32) (rot_lt 19 q2))).xor32 ((hb.U.nat (j := 32) (a := x2) q2).div 1024)
          have g0 := u0.eq
          have g1 := u1.eq
          clear cf bf h1 h2 hbel hk hlen ht
          go_wp2_with fail
          go_quiet (first | (go_at_call_of 87 (Value.int IntKind.i64 7); exact Calls.quiet_of (R7 _)) | (go_at_call_of 87 (Value.int IntKind.i64 18); exact Calls.quiet_of (R18 _)))
          clear c15
          have K1 : Hid (∃ z : Array Value, z.size = 64 ∧ (wr.drewN nq).heap[B]? = some (.cells z 119 (0, 0))) := H1.out
          have K2 : Hid ((wr.drewN nq).heap[B + 1]? = some (.cells (u32s (padW l)).toArray 119 (0, 0))) := H2.out
          have KB : Hid (Below B w (wr.drewN nq)) := wk.below_drewN HBEL.out nq
          have k2 : (wr.drewN nq).cell? ⟨B + 1, t - 2, none⟩ = some (.int .u32 (x2 : Int)) := c2
          have k16 : (wr.drewN nq).cell? ⟨B + 1, t - 16, none⟩ = some (.int .u32 (x16 : Int)) := c16
          have k7 : (wr.drewN nq).cell? ⟨B + 1, t - 7, none⟩ = some (.int .u32 (x7 : Int)) := c7
          have kcw : (wr.drewN nq).cell? ⟨B + 1, t, none⟩ = some (.int .u32 0) := hcw
          have kfw : (wr.drewN nq).frozen? ⟨B + 1, t, none⟩ = false := hfw
          generalize wr.drewN nq = wd at *
          clear c2 c16 c7 hcw hfw H1 H2 HBEL
          have c2 := k2
          have c16 := k16
          have c7 := k7
          have hcw := kcw
          have hfw := kfw
          have H1 := K1
          have H2 := K2
          have HBEL := KB
          clear k2 k16 k7 kcw kfw K1 K2 KB
          go_wp2_with fail
          go_quiet (first | (go_at_call_of 87 (Value.int IntKind.i64 17); exact Calls.quiet_of (R17 _)) | (go_at_call_of 87 (Value.int IntKind.i64 19); exact Calls.quiet_of (R19 _)))
          clear c2
          have K1 : Hid (∃ z : Array Value, z.size = 64 ∧ (wd.drewN nq).heap[B]? = some (.cells z 119 (0, 0))) := H1.out
          have K2 : Hid ((wd.drewN nq).heap[B + 1]? = some (.cells (u32s (padW l)).toArray 119 (0, 0))) := H2.out
          have KB : Hid (Below B w (wd.drewN nq)) := wk.below_drewN HBEL.out nq
          have k16 : (wd.drewN nq).cell? ⟨B + 1, t - 16, none⟩ = some (.int .u32 (x16 : Int)) := c16
          have k7 : (wd.drewN nq).cell? ⟨B + 1, t - 7, none⟩ = some (.int .u32 (x7 : Int)) := c7
          have kcw : (wd.drewN nq).cell? ⟨B + 1, t, none⟩ = some (.int .u32 0) := hcw
          have kfw : (wd.drewN nq).frozen? ⟨B + 1, t, none⟩ = false := hfw
          generalize wd.drewN nq = we at *
          clear c16 c7 hcw hfw H1 H2 HBEL
          have c16 := k16
          have c7 := k7
          have hcw := kcw
          have hfw := kfw
          have H1 := K1
          have H2 := K2
          have HBEL := KB
          clear k16 k7 kcw kfw K1 K2 KB
          go_wp2_with fail
          clear R7 R17 R18 R19 g0 g1
          generalize hs.g0 x15 = y0 at *
          generalize hs.g1 x2 = y1 at *
          have ly0 := u0.lt
          have ly1 := u1.lt
          clear u0 u1
          have f16 : (16 : Int) ≤ (t : Int) := by have := HLO.out; omega
          have f7 : (7 : Int) ≤ (t : Int) := by omega
          have v16 : IntKind.i64.wrap ((t : Int) - 16) = (t : Int) - 16 := by rw [IntKind.wrap_i64]; omega
          have v7 : IntKind.i64.wrap ((t : Int) - 7) = (t : Int) - 7 := by rw [IntKind.wrap_i64]; omega
          go_still_tail 15, (by kernel_rfl)
          change wpList _ _ _ _ _ we.drew
          have hsum : IntKind.u32.wrap (IntKind.u32.wrap (IntKind.u32.wrap ((x16 : Int) + (y0 : Int)) + (x7 : Int)) + (y1 : Int)) = ((hs.nextW l t : Nat) : Int) := by
            rw [← HW.out]
            exact (((hb.U.nat (j := 32) (a := x16) q16).add32 (hb.U.nat (j := 32) (a := y0) ly0)).add32 (hb.U.nat (j := 32) (a := x7) q7) |>.add32 (hb.U.nat (j := 32) (a := y1) ly1)).eq
          have hnl : hs.nextW l t < 4294967296 := by rw [← HW.out]; exact Nat.mod_lt _ (by decide)
          go_wp2_with fail
          go_roundg (gk - 1)
          case measure => exact HSL.out.2.1
          case rel =>
            refine ⟨k + 1, t + 1, HSL.out.1, HSL.out.2.2, by go_num, ?_, ?_, ?_, ?_⟩
            · rw [HN.out]
              intro x hx
              rcases List.mem_append.1 hx with h | h
              · exact hbd x h
              · rw [List.mem_singleton.1 h]; exact hnl
            · obtain ⟨z, hz, hh⟩ := H1.out
              exact ⟨z, hz, (heap_setCell_other _ _ _ _ (by show B ≠ B + 1; omega)).trans hh⟩
            · refine (heap_setCell_same _ _ _ _ _ _ H2.out).trans ?_
              have := padW_set (l := l) (by have := HL.out; omega) (hs.nextW l t)
              rw [HL.out] at this
              rw [this, HN.out]
            · exact (Below.drew HBEL.out).setCell (p := ⟨B + 1, t, none⟩) (by show B ≤ B + 1; omega) _
        · obtain rfl : k = 48 := by omega
          obtain rfl : t = 64 := by omega
          obtain ⟨z, hz, hh⟩ := H1.out
          have HI : Hid (B ≠ B + 1) := by show _ ≠ _; omega
          have hl64 : (u32s (padW (hs.sched b))).length = 64 := by rw [u32s_length]; exact padW_length (by rw [show hs.sched b = hs.ext (hs.words b 16) 48 from rfl, hlen]; omega)
          have hpw : padW (hs.sched b) = hs.sched b := by
            unfold padW
            rw [show hs.sched b = hs.ext (hs.words b 16) 48 from rfl, hlen]
            simp
          have H64 := Lib.hid hl64
          have HPW := Lib.hid hpw
          have h2' : wr.heap[B + 1]? = some (.cells (u32s (padW (hs.sched b))).toArray 119 (0, 0)) := h2
          clear h1 h2 hbel hk hlen ht hbd hlt hl64 hpw
          generalize hsl : hs.sched b = l at *
          have HSL := Lib.hid hsl
          clear hsl
          have hz1 : (Tryd.prog.info? 119).map (·.size) = some (u32s (padW l)).toArray.size := by rw [List.size_toArray, H64.out]; exact size64w
          have hz2 : (Tryd.prog.info? 119).map (·.size) = some (u32s (padW l)).length := by rw [H64.out]; exact size64w
          have hz3 : z.size = (u32s (padW l)).length := by rw [hz, H64.out]
          have ho : wk.Ones (u32s (padW l)) := wk.ones_nats _ _
          have HCS : Hid (u32s (padW l) = u32s l) := by show _ = _; rw [HPW.out]
          clear HPW
          generalize u32s (padW l) = cs at *
          go_wp2_with (first | (refine wpList_load_row rfl 119 (.tmp 3) rfl (B + 1) rfl 119 cs.toArray (0, 0) _ h2' Tryd.underlying119 rfl hz1 ?_) | (refine wk.store_row rfl 119 (.tmp 2) (.tmp 100) rfl B cs rfl rfl 119 z hh hz2 hz3 ho ?_))
          refine bodyPost_ret (v := .agg cs.toArray) (results_cell_row (fn := Tryd.f86) rfl _ _ B 119 cs.toArray (0, 0) _ rfl (setRow_heap _ _ _ _ _ _ hh) Tryd.underlying119 rfl hz1) rfl ⟨?_, ?_⟩
          · rw [HCS.out, ← HSL.out]
          · rw [HB.out]; exact wk.below_setRow HBEL.out (by omega) _
end Go.Proofs.YtmjmkkdmphgdnaaDoor.hi
/- The padded message: no program here. -/
namespace Go.Proofs.YtmjmkkdmphgdnaaDoor.hs

set_option linter.unusedVariables false
def gap (n : Nat) : Nat := (119 - n % 64) % 64
def pad (m : List UInt8) : List UInt8 := m ++ (128 :: (zeros (gap m.length) ++ len8 m.length))
theorem zeros_length (n : Nat) : (zeros n).length = n := by simp [zeros]
theorem zeros_add (a b : Nat) : zeros (a + b) = zeros a ++ zeros b := by unfold zeros; exact (List.replicate_append_replicate ..).symm
theorem pad_length (m : List UInt8) : (pad m).length = m.length + 9 + gap m.length := by
  unfold pad
  simp only [List.length_append, List.length_cons, zeros_length, len8_length]
  omega
theorem gap_mod (n : Nat) : (n + 9 + gap n) % 64 = 0 := by unfold gap; omega
theorem feed_pad (m : List UInt8) : feed (H0, []) (pad m) = (fin (feed (H0, []) m) m.length, []) := by
  unfold pad
  rw [feed_append]
  have hr := feed_length (s := (H0, [])) (by decide) m
  have e0 : (([] : List UInt8)).length = 0 := rfl
  simp only [List.length_nil, Nat.zero_add] at hr
  generalize feed (H0, []) m = st at *
  obtain ⟨v, buf⟩ := st
  simp only at hr
  unfold fin gap
  simp only
  rw [hr]
  by_cases h : m.length % 64 < 56
  · rw [if_pos h, show (119 - m.length % 64) % 64 = 55 - m.length % 64 by omega]
    rw [feed_eq (by simp only [List.length_append, List.length_cons, zeros_length, len8_length]; omega) (by simp)]
    simp only [List.append_assoc, List.cons_append]
  · rw [if_neg h, show (119 - m.length % 64) % 64 = (63 - m.length % 64) + 56 by omega, zeros_add]
    rw [show (128 :: (zeros (63 - m.length % 64) ++ zeros 56 ++ len8 m.length) : List UInt8) = (128 :: zeros (63 - m.length % 64)) ++ (zeros 56 ++ len8 m.length) by simp only [List.append_assoc, List.cons_append]]
    rw [feed_append, feed_eq (s := (v, buf)) (by simp only [List.length_cons, zeros_length]; omega) (by simp)]
    rw [feed_eq (by simp only [List.length_append, zeros_length, len8_length, List.length_nil]) (by simp only [List.length_append, zeros_length, len8_length]; decide)]
    rfl
/-- one block more -/
theorem feed_block {M : List UInt8} {j : Nat} {s : S8} (h : feed (H0, []) (M.take (64 * j)) = (s, [])) (hl : 64 * (j + 1) ≤ M.length) :
    feed (H0, []) (M.take (64 * (j + 1))) = (comp s ((M.drop (64 * j)).take 64), []) := by
  have e : M.take (64 * (j + 1)) = M.take (64 * j) ++ (M.drop (64 * j)).take 64 := by rw [Nat.mul_add, Nat.mul_one, List.take_add]
  rw [e, feed_append, h, feed_eq (by simp only [List.length_nil, List.length_take, List.length_drop]; omega) (by simp only [List.length_take, List.length_drop]; omega)]
  rfl
theorem block_length {M : List UInt8} {j : Nat} (hl : 64 * (j + 1) ≤ M.length) : ((M.drop (64 * j)).take 64).length = 64 := by
  rw [List.length_take, List.length_drop]; omega
end Go.Proofs.YtmjmkkdmphgdnaaDoor.hs
/- How what comes in is opened: a slice's elements as a list. No program here. -/
namespace Go.Proofs.YtmjmkkdmphgdnaaDoor.wo

open Go.ChangeShapes Go.WideShapes Go.ChangeAt Go.RowKit

def IsB (w : World) (A : Option Addr) (n c : Nat) (l : List UInt8) : Prop := l.length = n ∧ n ≤ c ∧ c ≤ 9223372036854775807 ∧ wp.RB w A l
def IsI (w : World) (A : Option Addr) (n c : Nat) (l : List Int) : Prop := l.length = n ∧ n ≤ c ∧ c ≤ 9223372036854775807 ∧ wp.RC w A (l.map (Value.int .i64)) ∧ ∀ x ∈ l, -9223372036854775808 ≤ x ∧ x ≤ 9223372036854775807
def IsS (w : World) (A : Option Addr) (n c : Nat) (l : List ByteArray) : Prop := l.length = n ∧ n ≤ c ∧ c ≤ 9223372036854775807 ∧ wp.RC w A (l.map Value.string) ∧ ∀ s ∈ l, s.size ≤ maxLen
def IsD (w : World) (A : Option Addr) (n c : Nat) (l : List (List UInt8)) : Prop := l.length = n ∧ n ≤ c ∧ c ≤ 9223372036854775807 ∧ wp.RC w A (l.flatMap wp.bc) ∧ ∀ d ∈ l, d.length = 16

theorem exists_list {α : Type} {Q : Nat → α → Prop} : ∀ (n : Nat), (∀ i, i < n → ∃ d, Q i d) → ∃ l : List α, l.length = n ∧ ∀ i d, l[i]? = some d → Q i d
  | 0, _ => ⟨[], rfl, fun i d h => by simp at h⟩
  | n + 1, h => by
    obtain ⟨l, hl, hq⟩ := exists_list n fun i hi => h i (by omega)
    obtain ⟨d, hd⟩ := h n (by omega)
    refine ⟨l ++ [d], by simp [hl], fun i e he => ?_⟩
    rcases Nat.lt_trichotomy i n with hi | hi | hi
    · rw [List.getElem?_append_left (by omega)] at he
      exact hq i e he
    · subst hi
      rw [List.getElem?_append_right (by omega), hl] at he
      simp at he
      rw [← he]; exact hd
    · rw [List.getElem?_eq_none (by simp; omega)] at he; cases he

section

variable {H : Type} {enc : TypeId × Value → H} {P : Program} {w : World} {base : Nat} {spare : Nat → Bool} {held : Bool} {t e : TypeId} {a : Option Addr} {n c fuel : Nat} {x : DataW H × List MemPlace}

theorem at_plain {ad : Addr} {v : Value} (h : w.cell? (ad.add 0) = some v) : ∃ b o, ad = ⟨b, o, none⟩ := by
  obtain ⟨b, o, spot⟩ := ad
  have hspot : spot = none := by simpa [Addr.add] using World.cell?_spot h
  subst hspot
  exact ⟨b, o, rfl⟩

/-- a row that reads cell by cell -/
theorem rc_of {ad : Addr} {xs : List Value} (h : ∀ i u, xs[i]? = some u → w.cell? (ad.add i) = some u) : wp.RC w (some ad) xs := fun hl => by
  have h0 := h 0 xs[0] (List.getElem?_eq_getElem hl)
  obtain ⟨b, o, rfl⟩ := at_plain h0
  have hb := block_lt_of_cell h0
  refine ⟨b, o, rfl, by rw [wk.add_at] at hb; exact hb, fun j u hu => ?_⟩
  have := h j u hu
  rw [wk.add_at] at this
  exact this

theorem openI (ht : P.underlying t = some (.slice e)) (he : P.underlying e = some (.int .i64)) (hc : P.cellsOf e = 1) (h : DataW.trod enc P w base spare held fuel t [.slice a n c] = some x) : ∃ l, IsI w a n c l := by
  rcases open_ints ht he hc h with ⟨hcs, _⟩ | ⟨ad, l, c', zs, hcs, _, hl, hm, hz, _, hcell, hwz⟩
  · simp only [List.cons.injEq, Value.slice.injEq, and_true] at hcs
    obtain ⟨rfl, rfl, rfl⟩ := hcs
    exact ⟨[], rfl, Nat.le_refl _, by omega, fun h => absurd h (by simp), by simp⟩
  · simp only [List.cons.injEq, Value.slice.injEq, and_true] at hcs
    obtain ⟨rfl, rfl, rfl⟩ := hcs
    have hzl : n ≤ zs.length := by rw [hz]; split <;> omega
    refine ⟨zs.take n, by simp; omega, hl, by unfold maxLen at hm; omega, rc_of fun i u hu => ?_, fun y hy => ?_⟩
    · have hi : i < n := by
        rcases Nat.lt_or_ge i n with h' | h'
        · exact h'
        · rw [List.getElem?_eq_none (by simp; omega)] at hu; cases hu
      rw [hcell i (by omega), ← hu]
      simp [List.getD, List.getElem?_take_of_lt hi, List.getElem?_eq_getElem (show i < zs.length by omega)]
    · have := hwz y (List.mem_of_mem_take hy)
      simpa [Lit.wf, IntKind.min, IntKind.max, IntKind.signed, IntKind.bits] using this

theorem openB (ht : P.underlying t = some (.slice e)) (he : P.underlying e = some (.int .u8)) (hc : P.cellsOf e = 1) (h : DataW.trod enc P w base spare held fuel t [.slice a n c] = some x) : ∃ l, IsB w a n c l := by
  rcases open_ints ht he hc h with ⟨hcs, _⟩ | ⟨ad, l, c', zs, hcs, _, hl, hm, hz, _, hcell, hwz⟩
  · simp only [List.cons.injEq, Value.slice.injEq, and_true] at hcs
    obtain ⟨rfl, rfl, rfl⟩ := hcs
    exact ⟨[], rfl, Nat.le_refl _, by omega, fun h => absurd h (by simp)⟩
  · simp only [List.cons.injEq, Value.slice.injEq, and_true] at hcs
    obtain ⟨rfl, rfl, rfl⟩ := hcs
    have hzl : n ≤ zs.length := by rw [hz]; split <;> omega
    refine ⟨(zs.take n).map fun z => UInt8.ofNat z.toNat, by simp; omega, hl, by unfold maxLen at hm; omega, wp.RC.rb (rc_of fun i u hu => ?_)⟩
    have hi : i < n := by
      rcases Nat.lt_or_ge i n with h' | h'
      · exact h'
      · rw [List.getElem?_eq_none (by simp [wp.bc]; omega)] at hu; cases hu
    have hiz : i < zs.length := by omega
    have hw := hwz zs[i] (List.getElem_mem hiz)
    have hw' : 0 ≤ zs[i] ∧ zs[i] ≤ 255 := by simpa [Lit.wf, IntKind.min, IntKind.max, IntKind.signed, IntKind.bits] using hw
    rw [hcell i (by omega), ← hu]
    simp only [wp.bc, List.map_map, List.getElem?_map, List.getElem?_take_of_lt hi, List.getElem?_eq_getElem hiz, Option.map_some, Function.comp, List.getD, Option.getD_some]
    congr 2
    simp only [UInt8.toNat_ofNat']
    omega

theorem openS (ht : P.underlying t = some (.slice e)) (he : P.underlying e = some .string) (hc : P.cellsOf e = 1) (h : DataW.trod enc P w base spare held fuel t [.slice a n c] = some x) : ∃ l, IsS w a n c l := by
  rcases open_strings ht he hc h with ⟨hcs, _⟩ | ⟨ad, l, c', ss, hcs, _, hl, hm, hz, _, hcell, hws⟩
  · simp only [List.cons.injEq, Value.slice.injEq, and_true] at hcs
    obtain ⟨rfl, rfl, rfl⟩ := hcs
    exact ⟨[], rfl, Nat.le_refl _, by omega, fun h => absurd h (by simp), by simp⟩
  · simp only [List.cons.injEq, Value.slice.injEq, and_true] at hcs
    obtain ⟨rfl, rfl, rfl⟩ := hcs
    have hzl : n ≤ ss.length := by rw [hz]; split <;> omega
    refine ⟨ss.take n, by simp; omega, hl, by unfold maxLen at hm; omega, rc_of fun i u hu => ?_, fun y hy => hws y (List.mem_of_mem_take hy)⟩
    have hi : i < n := by
      rcases Nat.lt_or_ge i n with h' | h'
      · exact h'
      · rw [List.getElem?_eq_none (by simp; omega)] at hu; cases hu
    rw [hcell i (by omega), ← hu]
    simp [List.getD, List.getElem?_take_of_lt hi, List.getElem?_eq_getElem (show i < ss.length by omega)]

theorem openD {e8 : TypeId} (ht : P.underlying t = some (.slice e)) (he : P.underlying e = some (.array 16 e8)) (h8 : P.underlying e8 = some (.int .u8)) (hc : P.cellsOf e = 16) (hc8 : P.cellsOf e8 = 1)
    (h : DataW.trod enc P w base spare held fuel t [.slice a n c] = some x) : ∃ l, IsD w a n c l := by
  rcases DataW.trod_slice ht h with ⟨hcs, _⟩ | ⟨ad, len, cap, elems, rest, m, _, hcs, _, hb, hl, hm, hlen, hel, _⟩
  · simp only [List.cons.injEq, Value.slice.injEq, and_true] at hcs
    obtain ⟨rfl, rfl, rfl⟩ := hcs
    exact ⟨[], rfl, Nat.le_refl _, by omega, fun h => absurd h (by simp), by simp⟩
  · simp only [List.cons.injEq, Value.slice.injEq, and_true] at hcs
    obtain ⟨rfl, rfl, rfl⟩ := hcs
    rw [hc] at hel
    have hone : ∀ i, i < n → ∃ d : List UInt8, d.length = 16 ∧ w.cells? base (ad.add (i * 16)) 16 = some (wp.bc d) := fun i hi => by
      have hi' := hel i hi
      rw [List.getElem?_eq_getElem (by omega)] at hi'
      cases hcc : w.cells? base (ad.add (i * 16)) 16 with
      | none => rw [hcc] at hi'; simp at hi'
      | some cs =>
        rw [hcc] at hi'
        simp only [Option.bind_some] at hi'
        obtain ⟨xs, m', _, _, hcl, hxl, hat⟩ := DataW.trod_array he hi'
        rw [hc] at hcl
        rw [hc8] at hat
        have hj : ∀ j, j < 16 → ∃ u : UInt8, cs[j]? = some (.int .u8 (u.toNat : Int)) := fun j hj => by
          have h1 := hat j hj
          rw [List.getElem?_eq_getElem (by omega), Nat.mul_one] at h1
          obtain ⟨z, hz, _, hwf⟩ := DataW.trod_int h8 h1
          have hzb : 0 ≤ z ∧ z ≤ 255 := by simpa [Lit.wf, IntKind.min, IntKind.max, IntKind.signed, IntKind.bits] using hwf
          refine ⟨UInt8.ofNat z.toNat, ?_⟩
          have h2 : ((cs.drop j).take 1)[0]? = some (.int .u8 z) := by rw [hz]; rfl
          rw [List.getElem?_take_of_lt (by omega), List.getElem?_drop, Nat.add_zero] at h2
          rw [h2]
          congr 2
          simp only [UInt8.toNat_ofNat']
          omega
        obtain ⟨d, hd, hdq⟩ := exists_list 16 hj
        refine ⟨d, hd, ?_⟩
        congr 1
        apply List.ext_getElem?
        intro j
        rcases Nat.lt_or_ge j 16 with h16 | h16
        · rw [hdq j d[j] (List.getElem?_eq_getElem (by omega))]
          simp [wp.bc, List.getElem?_eq_getElem (show j < d.length by omega)]
        · rw [List.getElem?_eq_none (by omega), List.getElem?_eq_none (by rw [wp.bc_length]; omega)]
    obtain ⟨l, hll, hlq⟩ := exists_list n hone
    have h16 : ∀ d ∈ l, d.length = 16 := fun d hd => by
      obtain ⟨i, hi, rfl⟩ := List.mem_iff_getElem.1 hd
      exact (hlq i _ (List.getElem?_eq_getElem hi)).1
    refine ⟨l, hll, hl, by unfold maxLen at hm; omega, rc_of fun i u hu => ?_, h16⟩
    have hfl := wp.flat_bc_length h16
    have hi : i < 16 * l.length := by
      rcases Nat.lt_or_ge i (l.flatMap wp.bc).length with h' | h'
      · omega
      · rw [List.getElem?_eq_none h'] at hu; cases hu
    have hk : i / 16 < l.length := by omega
    obtain ⟨hd, hcc⟩ := hlq (i / 16) l[i / 16] (List.getElem?_eq_getElem hk)
    obtain ⟨_, _, hcell⟩ := World.cells?_some hcc
    have h1 := hcell (i % 16) (by omega)
    have h2 := wp.flat_bc_at h16 (List.getElem?_eq_getElem hk) (j := i % 16) (u := (wp.bc l[i / 16])[i % 16]'(by rw [wp.bc_length]; omega)) (List.getElem?_eq_getElem _)
    rw [show 16 * (i / 16) + i % 16 = i by omega, hu] at h2
    have e1 : (ad.add (i / 16 * 16)).add (i % 16) = ad.add i := by
      unfold Addr.add
      by_cases ha : i / 16 * 16 = 0 <;> by_cases hb' : i % 16 = 0 <;> by_cases hc' : i = 0 <;> simp [ha, hb', hc'] <;> omega
    rw [e1] at h1
    rw [h1, h2, List.getElem?_eq_getElem (by rw [wp.bc_length]; omega)]
end

end Go.Proofs.YtmjmkkdmphgdnaaDoor.wo

namespace Go.Proofs.YtmjmkkdmphgdnaaDoor.hb

open Go.RowKit
theorem and40 (n : Int) : bits .and .i64 n 1099511627775 = ((hi.low n : Nat) : Int) := by
  have e : (BitVec.ofInt 64 1099511627775).toNat = 2 ^ 40 - 1 := by decide
  have h : (BitVec.ofInt IntKind.i64.bits n &&& BitVec.ofInt IntKind.i64.bits 1099511627775).toNat = hi.low n := by
    rw [BitVec.toNat_and, show IntKind.i64.bits = 64 from rfl, e, Nat.and_two_pow_sub_one_eq_mod, BitVec.toNat_ofInt]
    unfold hi.low
    omega
  show IntKind.i64.wrap _ = _
  have h2 := hi.low_lt n
  rw [h, IntKind.wrap_i64]
  omega
theorem xor40 {a b : Nat} (ha : a < 1099511627776) (hb : b < 1099511627776) : bits .xor .i64 (a : Int) (b : Int) = ((a ^^^ b : Nat) : Int) :=
  bits_xor_nat .i64 40 (by decide) (fun n h0 h1 => by rw [IntKind.wrap_i64]; omega) a b ha hb
theorem low_nat {a : Nat} (h : a < 1099511627776) : hi.low (a : Int) = a := by unfold hi.low; omega
end Go.Proofs.YtmjmkkdmphgdnaaDoor.hb

namespace Go.Proofs.YtmjmkkdmphgdnaaDoor.hashJoinMatchesSpec

open Go.ChangeShapes Go.WideShapes Go.ChangeAt Go.RowKit

set_option linter.unusedVariables false

theorem int_wf {n : Int} (h : (Lit.int .i64 n).wf = true) : -9223372036854775808 ≤ n ∧ n ≤ 9223372036854775807 := by simpa [Lit.wf, IntKind.min, IntKind.max, IntKind.signed, IntKind.bits] using h

end Go.Proofs.YtmjmkkdmphgdnaaDoor.hashJoinMatchesSpec

namespace Go.Proofs.YtmjmkkdmphgdnaaDoor.hashShifts

open Go.ChangeShapes Go.WideShapes Go.ChangeAt Go.RowKit

set_option linter.unusedVariables false

theorem joinV_nat (a b : Int) (n : Nat) : hi.joinV a b n = hp.Tn (8 * n) (hi.low a) ^^^ hi.low b := by
  unfold hi.joinV
  rw [if_neg (by omega)]
  rfl

end Go.Proofs.YtmjmkkdmphgdnaaDoor.hashShifts

namespace Go.Proofs.YtmjmkkdmphgdnaaDoor.hashCrcJoins

open Go.ChangeShapes Go.WideShapes Go.ChangeAt Go.RowKit

set_option linter.unusedVariables false

theorem join_nat (x y : List UInt8) : hi.joinV ((hp.crc x : Nat) : Int) ((hp.crc y : Nat) : Int) ((y.length : Nat) : Int) = hp.crc (x ++ y) := by
  rw [hashShifts.joinV_nat, hb.low_nat (hp.crc_lt x), hb.low_nat (hp.crc_lt y), ← hp.join_crc]
  unfold hp.join
  rw [Nat.mod_eq_of_lt (hp.crc_lt x), Nat.mod_eq_of_lt (hp.crc_lt y)]

/-- 'append(own, b...)', b nil or not -/
theorem append_any (w : World) {ops : Array Oper} {rest : List Oper} {o : Oper} {a : Act} {Q : Exit → Act → World → Prop}
    (hgd : o.guard = none) (s x : Operand) (t : TypeId) (hop : o.op = Op.call { callee := Callee.builtin Builtin.append, args := #[s, x], argTypes := #[t, t] })
    (base : Nat) (e : TypeId) (h1 : Tryd.prog.underlying t = some (.slice e)) (h2 : (Tryd.prog.info? e).map (fun i => (i.zero, i.size, i.bytes)) = some (some (.int .u8 0), 1, 1))
    (v : Value) (k : Nat) (xs : List Value) (hs : a.eval s = v) (hown : w.ownsRow base e 1 v k xs) (hbase : base ≤ w.heap.size)
    (A' : Option Addr) (m c' : Nat) (l' : List UInt8) (hx : a.eval x = .slice A' m c') (hl' : l'.length = m) (hr' : wp.RB w A' l') (hb : k + m ≤ 140737488355328)
    (hK : ∀ v' w', w'.ownsRow base e 1 v' (k + m) (xs ++ wp.bc l') → Below base w w' → wpList Tryd.prog ops Q rest (a.put o.dst v') w') : wpList Tryd.prog ops Q (o :: rest) a w := by
  obtain ⟨i, hi, hz0, hz1, hz2⟩ := info_parts h2
  rcases Nat.eq_zero_or_pos m with h0 | h0
  · subst h0
    have hl0 : l' = [] := List.eq_nil_of_length_eq_zero hl'
    subst hl0
    have hsrc : Src Tryd.prog i.size t (.slice A' 0 c') 0 [] w := by
      cases A' with
      | none => exact Src.ofNil w h1 c'
      | some ad => exact Src.ofSlice w h1 ad 0 c' [] (by simp) (by simp) (by simp)
    obtain ⟨A0, c0, rfl, hc1, hc2, _⟩ := wp.RC.of_own hown
    refine wpList_plain hgd fun K hK' => ?_
    have hrun := run_append_nothing (P := Tryd.prog) w t t o.type e i h1 hi A0 k c0 hc1 _ hsrc
    unfold Oper.wp execOp
    simp only [hop, resolve, invoke, builtin, Sem.run_bind, Sem.run_pure, Result.andThen_ok, List.map_toArray, List.map_cons, List.map_nil, hs, hx, hrun]
    refine hK' _ _ (hK (.slice A0 k c0) w ?_ (Below.refl _ _))
    rw [Nat.add_zero, show wp.bc [] = [] from rfl, List.append_nil]
    exact hown
  · obtain ⟨b', o', rfl, _, _⟩ := hr' (by omega)
    refine wpList_append_own w hgd s x t hop base e i (.int .u8 0) 1 1 h1 hi hz0 hz1 hz2 rfl (by decide) v k xs hs hown ⟨b', o', none⟩ m c' (wp.bc l') hx (by rw [wp.bc_length]; omega) (wk.RB.cells hr') wp.bc_one (by unfold maxLen; omega) (by omega) hbase ?_
    intro v' w' hown' hgr _
    exact hK v' w' hown' ((Below.refl _ _).grown hgr hbase (fun g hg => (hown.lt g hg).1))

end Go.Proofs.YtmjmkkdmphgdnaaDoor.hashCrcJoins
