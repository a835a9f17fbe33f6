
import Derived.Test.YtjhagfggelhpkaaDoorRv

import Derived.Deep.QuietTactic

import Derived.BigQuiet

namespace Go.Proofs.YtjhagfggelhpkaaDoor.hi

open Go.ChangeShapes Go.WideShapes Go.ChangeAt Go.RowKit

set_option linter.unusedVariables false

theorem rrotq (x n : Nat) (hx : x < 4294967296) (hn0 : 0 < n) (hn : n < 32) (w : World) :
    Calls Tryd.prog 100 #[.int .u32 (x : Int), .int .i64 (n : Int)] w fun e w' => e = .returned (.int .u32 (hs.rot x n : Nat)) ∧ ∃ m, w' = w.drewN m :=
  (rrotr_calls x n w hx hn0 hn).mono fun _ _ h => ⟨h.1, 1, h.2⟩
set_option maxRecDepth 100000 in
set_option maxHeartbeats 4000000 in
theorem rsched_calls (A : Option Addr) (c : Nat) (b : List UInt8) (w : World) (hb : b.length = 64) (hnc : 64 ≤ c) (hc : c ≤ 9223372036854775807) (hl : wp.RB w A b) :
    Calls Tryd.prog 99 #[.slice A 64 c] w fun e w' => e = .returned (.agg (u32s (hs.sched b)).toArray) ∧ Below w.heap.size w w' := by
  obtain ⟨b0, o0, rfl, hb0, hcell⟩ := hl (by omega)
  have HB64 := Lib.hid hb
  have HCELL := Lib.hid hcell
  have HB0 := Lib.hid hb0
  clear hb hl hcell hb0
  go_enter Tryd.func99, Tryd.ntmps99
  go_wp2_with fail
  generalize hB : w.heap.size = B at *
  have HB := Lib.hid hB
  clear hB
  go_loopg [4] 16 (fun g x wr => ∃ k : Nat, k + g = 16 ∧ x = .int .i64 (k : Int) ∧ (∃ z : Array Value, z.size = 64 ∧ wr.heap[B]? = some (.cells z 100 (0, 0))) ∧ wr.heap[B + 1]? = some (.cells (u32s (padW (hs.words b k))).toArray 100 (0, 0)) ∧ Below B w wr)
  case atStart =>
    have hB := HB.out
    subst hB
    exact ⟨0, rfl, rfl, ⟨(u32s (padW [])).toArray, rfl, heap_alloc2_old _ _ _⟩, heap_alloc2_new _ _ _, ((Below.refl _ _).alloc (Nat.le_refl _) _).alloc (by simp) _⟩
  case round =>
    obtain ⟨k, hk, rfl, h1, h2, hbel⟩ := hrel
    have H1 := Lib.hid h1
    have H2 := Lib.hid h2
    have HBEL := Lib.hid hbel
    have hlen := words_length b k
    by_cases hlt : k < 16
    · obtain ⟨hl4⟩ : Nonempty (4 * k + 3 < b.length) := ⟨by have := HB64.out; omega⟩
      have cf : ∀ j, j < b.length → wr.cell? ⟨b0, o0 + j, none⟩ = some (.int .u8 ((b.getD j 0).toNat : Int)) := fun j hj => by
        rw [HBEL.out.cell (p := ⟨b0, o0 + j, none⟩) (by have := HB0.out; have := HB.out; omega)]
        rw [List.getD_eq_getElem?_getD, List.getElem?_eq_getElem hj]
        exact HCELL.out j _ (List.getElem?_eq_getElem hj)
      have c0 := cf (4 * k) (by omega)
      have c1 := cf (4 * k + 1) (by omega)
      have c2 := cf (4 * k + 2) (by omega)
      have c3 := cf (4 * k + 3) (by omega)
      have HLT := Lib.hid hl4
      have hcw : wr.cell? ⟨B + 1, k, none⟩ = some (.int .u32 0) := by
        rw [cell_of_row _ _ _ _ _ _ h2]
        have : (padW (hs.words b k))[k]? = some 0 := by
          unfold padW
          rw [List.getElem?_append_right (by omega), hlen, List.getElem?_replicate, if_pos (by omega)]
        simpa using u32s_at this
      have hfw : wr.frozen? ⟨B + 1, k, none⟩ = false := frozen_of_row _ _ _ _ _ h2
      have HWD : Hid ((b.getD (4 * k) 0).toNat * 16777216 ||| (b.getD (4 * k + 1) 0).toNat * 65536 ||| (b.getD (4 * k + 2) 0).toNat * 256 ||| (b.getD (4 * k + 3) 0).toNat = hs.word b k) := rfl
      clear cf h1 h2 hbel hl4
      generalize hx0 : (b.getD (4 * k) 0) = x0 at *
      generalize hx1 : (b.getD (4 * k + 1) 0) = x1 at *
      generalize hx2 : (b.getD (4 * k + 2) 0) = x2 at *
      generalize hx3 : (b.getD (4 * k + 3) 0) = x3 at *
      have f0 := x0.toNat_lt
      have f1 := x1.toNat_lt
      have f2 := x2.toNat_lt
      have f3 := x3.toNat_lt
      have w0 : IntKind.i64.wrap (4 * (k : Int)) = ((4 * k : Nat) : Int) := by rw [IntKind.wrap_i64]; omega
      have w1 : IntKind.i64.wrap (((4 * k : Nat) : Int) + 1) = ((4 * k + 1 : Nat) : Int) := by rw [IntKind.wrap_i64]; omega
      have w2 : IntKind.i64.wrap (((4 * k : Nat) : Int) + 2) = ((4 * k + 2 : Nat) : Int) := by rw [IntKind.wrap_i64]; omega
      have w3 : IntKind.i64.wrap (((4 * k : Nat) : Int) + 3) = ((4 * k + 3 : Nat) : Int) := by rw [IntKind.wrap_i64]; omega
      have i0 : ((4 * k : Nat) : Int) < 64 := by omega
      have i1 : ((4 * k : Nat) : Int) + 1 < 64 := by omega
      have i2 : ((4 * k : Nat) : Int) + 2 < 64 := by omega
      have i3 : ((4 * k : Nat) : Int) + 3 < 64 := by omega
      have p1 : (0 : Int) ≤ ((4 * k : Nat) : Int) + 1 := by omega
      have p2 : (0 : Int) ≤ ((4 * k : Nat) : Int) + 2 := by omega
      have p3 : (0 : Int) ≤ ((4 * k : Nat) : Int) + 3 := by omega
      have n1 : (((4 * k : Nat) : Int) + 1).toNat = 4 * k + 1 := by omega
      have n2 : (((4 * k : Nat) : Int) + 2).toNat = 4 * k + 2 := by omega
      have n3 : (((4 * k : Nat) : Int) + 3).toNat = 4 * k + 3 := by omega
      have ik : (k : Int) < 64 := by omega
      have y0 : IntKind.u32.wrap (x0.toNat : Int) = (x0.toNat : Int) := by rw [IntKind.wrap_u32]; omega
      have y1 : IntKind.u32.wrap (x1.toNat : Int) = (x1.toNat : Int) := by rw [IntKind.wrap_u32]; omega
      have y2 : IntKind.u32.wrap (x2.toNat : Int) = (x2.toNat : Int) := by rw [IntKind.wrap_u32]; omega
      have y3 : IntKind.u32.wrap (x3.toNat : Int) = (x3.toNat : Int) := by rw [IntKind.wrap_u32]; omega
      have z0 : IntKind.u32.wrap ((x0.toNat : Int) * 16777216) = (x0.toNat : Int) * 16777216 := by rw [IntKind.wrap_u32]; omega
      have z1 : IntKind.u32.wrap ((x1.toNat : Int) * 65536) = (x1.toNat : Int) * 65536 := by rw [IntKind.wrap_u32]; omega
      have z2 : IntKind.u32.wrap ((x2.toNat : Int) * 256) = (x2.toNat : Int) * 256 := by rw [IntKind.wrap_u32]; omega
      generalize 4 * k = m at *
      go_wp2_with fail
      go_still_tail 35, (by kernel_rfl)
      change wpList _ _ _ _ _ wr.drew
      have hor : bits .or .u32 (bits .or .u32 (bits .or .u32 ((x0.toNat : Int) * 16777216) ((x1.toNat : Int) * 65536)) ((x2.toNat : Int) * 256)) (x3.toNat : Int) = ((hs.word b k : Nat) : Int) := by
        rw [← HWD.out]
        have u0 : hb.U 32 ((x0.toNat : Int) * 16777216) (x0.toNat * 16777216) := (hb.U.nat (j := 32) (a := x0.toNat) (by omega)).mul 16777216 (by omega)
        have u1 : hb.U 32 ((x1.toNat : Int) * 65536) (x1.toNat * 65536) := (hb.U.nat (j := 32) (a := x1.toNat) (by omega)).mul 65536 (by omega)
        have u2 : hb.U 32 ((x2.toNat : Int) * 256) (x2.toNat * 256) := (hb.U.nat (j := 32) (a := x2.toNat) (by omega)).mul 256 (by omega)
        have u3 : hb.U 32 (x3.toNat : Int) x3.toNat := hb.U.nat (j := 32) (by omega)
        exact (((u0.or32 u1).or32 u2).or32 u3).eq
      go_wp2_with fail
      go_roundg (gk - 1)
      case measure => omega
      case rel =>
        refine ⟨k + 1, by omega, by go_num, ?_, ?_, ?_⟩
        · obtain ⟨z, hz, hh⟩ := H1.out
          exact ⟨z, hz, (heap_setCell_other _ _ _ _ (by show B ≠ B + 1; omega)).trans hh⟩
        · refine (heap_setCell_same _ _ _ _ _ _ H2.out).trans ?_
          have := padW_set (l := hs.words b k) (by omega) (hs.word b k)
          rw [hlen] at this
          rw [this]
          rfl
        · exact (Below.drew HBEL.out).setCell (p := ⟨B + 1, k, none⟩) (by show B ≤ B + 1; omega) _
    · obtain rfl : k = 16 := by omega
      clear h1 h2 hbel hk
      go_wp2_with fail
      clear hlt
      have HLT := Lib.hid (words_lt b 16)
      go_loopg [5] 48 (fun g x wq => ∃ k t : Nat, k + g = 48 ∧ t = 16 + k ∧ x = .int .i64 (t : Int) ∧ (∀ x ∈ hs.ext (hs.words b 16) k, x < 4294967296) ∧ (∃ z : Array Value, z.size = 64 ∧ wq.heap[B]? = some (.cells z 100 (0, 0))) ∧ wq.heap[B + 1]? = some (.cells (u32s (padW (hs.ext (hs.words b 16) k))).toArray 100 (0, 0)) ∧ Below B w wq)
      case atStart => exact ⟨0, 16, rfl, rfl, rfl, words_lt b 16, H1.out, H2.out, HBEL.out⟩
      case round =>
        obtain ⟨k, t, hk, ht, rfl, hbd, h1, h2, hbel⟩ := hrel
        have H1 := Lib.hid h1
        have H2 := Lib.hid h2
        have HBEL := Lib.hid hbel
        have HK := Lib.hid hk
        have hlen := ext_length (hs.words b 16) k
        rw [words_length, ← ht] at hlen
        have HL := Lib.hid hlen
        have HN : Hid (hs.ext (hs.words b 16) (k + 1) = hs.ext (hs.words b 16) k ++ [hs.nextW (hs.ext (hs.words b 16) k) t]) := by rw [ht]; rfl
        have HLO : Hid (16 ≤ t) := by show 16 ≤ t; omega
        by_cases hlt : t < 64
        · have HSL : Hid (k + 1 + (gk - 1) = 48 ∧ gk - 1 < gk ∧ t + 1 = 16 + (k + 1)) := by show _ ∧ _ ∧ _; omega
          generalize hs.ext (hs.words b 16) k = l at *
          have cf : ∀ j, j < t → wr.cell? ⟨B + 1, j, none⟩ = some (.int .u32 ((l.getD j 0 : Nat) : Int)) := fun j hj => by
            rw [cell_of_row _ _ _ _ _ _ h2]
            have := u32s_at (padW_at (l := l) (j := j) (by omega))
            simp only [List.getElem?_toArray, this]
            simp [List.getD_eq_getElem?_getD, List.getElem?_eq_getElem (show j < l.length by omega)]
          have bf : ∀ j, l.getD j 0 < 4294967296 := fun j => by
            rw [List.getD_eq_getElem?_getD]
            cases hj : l[j]? with
            | none => decide
            | some v => exact hbd v (List.mem_of_getElem? hj)
          have c15 := cf (t - 15) (by omega)
          have c2 := cf (t - 2) (by omega)
          have c16 := cf (t - 16) (by omega)
          have c7 := cf (t - 7) (by omega)
          have q15 := bf (t - 15)
          have q2 := bf (t - 2)
          have q16 := bf (t - 16)
          have q7 := bf (t - 7)
          have HW : Hid (hs.ad (hs.ad (hs.ad (l.getD (t - 16) 0) (hs.g0 (l.getD (t - 15) 0))) (l.getD (t - 7) 0)) (hs.g1 (l.getD (t - 2) 0)) = hs.nextW l t) := rfl
          have hcw : wr.cell? ⟨B + 1, t, none⟩ = some (.int .u32 0) := by
            rw [cell_of_row _ _ _ _ _ _ h2]
            have : (padW l)[t]? = some 0 := by
              unfold padW
              rw [List.getElem?_append_right (by omega), hlen, List.getElem?_replicate, if_pos (by omega)]
            simpa using u32s_at this
          have hfw : wr.frozen? ⟨B + 1, t, none⟩ = false := frozen_of_row _ _ _ _ _ h2
          generalize l.getD (t - 15) 0 = x15 at *
          generalize l.getD (t - 2) 0 = x2 at *
          generalize l.getD (t - 16) 0 = x16 at *
          generalize l.getD (t - 7) 0 = x7 at *
          have p15 : (0 : Int) ≤ (t : Int) - 15 := by have := HLO.out; omega
          have p2 : (0 : Int) ≤ (t : Int) - 2 := by have := HLO.out; omega
          have p16 : (0 : Int) ≤ (t : Int) - 16 := by have := HLO.out; omega
          have p7 : (0 : Int) ≤ (t : Int) - 7 := by have := HLO.out; omega
          have s15 : (t : Int) - 15 < 64 := by omega
          have s2 : (t : Int) - 2 < 64 := by omega
          have s16 : (t : Int) - 16 < 64 := by omega
          have s7 : (t : Int) - 7 < 64 := by omega
          have st : (t : Int) < 64 := by omega
          have n15 : ((t : Int) - 15).toNat = t - 15 := by omega
          have n2 : ((t : Int) - 2).toNat = t - 2 := by omega
          have n16 : ((t : Int) - 16).toNat = t - 16 := by omega
          have n7 : ((t : Int) - 7).toNat = t - 7 := by omega
          have R7 := fun w => rrotq x15 7 q15 (by decide) (by decide) w
          have R18 := fun w => rrotq x15 18 q15 (by decide) (by decide) w
          have R17 := fun w => rrotq x2 17 q2 (by decide) (by decide) w
          have R19 := fun w => rrotq x2 19 q2 (by decide) (by decide) w
          have u0 : hb.U 32 (bits .xor .u32 (bits .xor .u32 ((hs.rot x15 7 : Nat) : Int) ((hs.rot x15 18 : Nat) : Int)) ((x15 : Int) / 8)) (hs.g0 x15) := ((hb.U.nat (j := 32) (rot_lt 7 q15)).xor32 (hb.U.nat (j := 32) (rot_lt 18 q15))).xor32 ((hb.U.nat (j := 32) (a := x15) q15).div 8)
          have u1 : hb.U 32 (bits .xor .u32 (bits .xor .u32 ((hs.rot x2 17 : Nat) : Int) ((hs.rot x2 19 : Nat) : Int)) ((x2 : Int) / 1024)) (hs.g1 x2) := ((hb.U.nat (j := 32) (rot_lt 17 q2)).xor32 (hb.U.nat (j := 32) (rot_lt 19 q2))).xor32 ((hb.U.nat (j := 32) (a := x2) q2).div 1024)
          have g0 := u0.eq
          have g1 := u1.eq
          clear cf bf h1 h2 hbel hk hlen ht
          go_wp2_with fail
          go_quiet (first | (go_at_call_of 100 (Value.int IntKind.i64 7); exact Calls.quiet_of (R7 _)) | (go_at_call_of 100 (Value.int IntKind.i64 18); exact Calls.quiet_of (R18 _)))
          clear c15
          have K1 : Hid (∃ z : Array Value, z.size = 64 ∧ (wr.drewN nq).heap[B]? = some (.cells z 100 (0, 0))) := H1.out
          have K2 : Hid ((wr.drewN nq).heap[B + 1]? = some (.cells (u32s (padW l)).toArray 100 (0, 0))) := H2.out
          have KB : Hid (Below B w (wr.drewN nq)) := wk.below_drewN HBEL.out nq
          have k2 : (wr.drewN nq).cell? ⟨B + 1, t - 2, none⟩ = some (.int .u32 (x2 : Int)) := c2
          have k16 : (wr.drewN nq).cell? ⟨B + 1, t - 16, none⟩ = some (.int .u32 (x16 : Int)) := c16
          have k7 : (wr.drewN nq).cell? ⟨B + 1, t - 7, none⟩ = some (.int .u32 (x7 : Int)) := c7
          have kcw : (wr.drewN nq).cell? ⟨B + 1, t, none⟩ = some (.int .u32 0) := hcw
          have kfw : (wr.drewN nq).frozen? ⟨B + 1, t, none⟩ = false := hfw
          generalize wr.drewN nq = wd at *
          clear c2 c16 c7 hcw hfw H1 H2 HBEL
          have c2 := k2
          have c16 := k16
          have c7 := k7
          have hcw := kcw
          have hfw := kfw
          have H1 := K1
          have H2 := K2
          have HBEL := KB
          clear k2 k16 k7 kcw kfw K1 K2 KB
          go_wp2_with fail
          go_quiet (first | (go_at_call_of 100 (Value.int IntKind.i64 17); exact Calls.quiet_of (R17 _)) | (go_at_call_of 100 (Value.int IntKind.i64 19); exact Calls.quiet_of (R19 _)))
          clear c2
          have K1 : Hid (∃ z : Array Value, z.size = 64 ∧ (wd.drewN nq).heap[B]? = some (.cells z 100 (0, 0))) := H1.out
          have K2 : Hid ((wd.drewN nq).heap[B + 1]? = some (.cells (u32s (padW l)).toArray 100 (0, 0))) := H2.out
          have KB : Hid (Below B w (wd.drewN nq)) := wk.below_drewN HBEL.out nq
          have k16 : (wd.drewN nq).cell? ⟨B + 1, t - 16, none⟩ = some (.int .u32 (x16 : Int)) := c16
          have k7 : (wd.drewN nq).cell? ⟨B + 1, t - 7, none⟩ = some (.int .u32 (x7 : Int)) := c7
          have kcw : (wd.drewN nq).cell? ⟨B + 1, t, none⟩ = some (.int .u32 0) := hcw
          have kfw : (wd.drewN nq).frozen? ⟨B + 1, t, none⟩ = false := hfw
          generalize wd.drewN nq = we at *
          clear c16 c7 hcw hfw H1 H2 HBEL
          have c16 := k16
          have c7 := k7
          have hcw := kcw
          have hfw := kfw
          have H1 := K1
          have H2 := K2
          have HBEL := KB
          clear k16 k7 kcw kfw K1 K2 KB
          go_wp2_with fail
          clear R7 R17 R18 R19 g0 g1
          generalize hs.g0 x15 = y0 at *
          generalize hs.g1 x2 = y1 at *
          have ly0 := u0.lt
          have ly1 := u1.lt
          clear u0 u1
          have f16 : (16 : Int) ≤ (t : Int) := by have := HLO.out; omega
          have f7 : (7 : Int) ≤ (t : Int) := by omega
          have v16 : IntKind.i64.wrap ((t : Int) - 16) = (t : Int) - 16 := by rw [IntKind.wrap_i64]; omega
          have v7 : IntKind.i64.wrap ((t : Int) - 7) = (t : Int) - 7 := by rw [IntKind.wrap_i64]; omega
          go_still_tail 15, (by kernel_rfl)
          change wpList _ _ _ _ _ we.drew
          have hsum : IntKind.u32.wrap (IntKind.u32.wrap (IntKind.u32.wrap ((x16 : Int) + (y0 : Int)) + (x7 : Int)) + (y1 : Int)) = ((hs.nextW l t : Nat) : Int) := by
            rw [← HW.out]
            exact (((hb.U.nat (j := 32) (a := x16) q16).add32 (hb.U.nat (j := 32) (a := y0) ly0)).add32 (hb.U.nat (j := 32) (a := x7) q7) |>.add32 (hb.U.nat (j := 32) (a := y1) ly1)).eq
          have hnl : hs.nextW l t < 4294967296 := by rw [← HW.out]; exact Nat.mod_lt _ (by decide)
          go_wp2_with fail
          go_roundg (gk - 1)
          case measure => exact HSL.out.2.1
          case rel =>
            refine ⟨k + 1, t + 1, HSL.out.1, HSL.out.2.2, by go_num, ?_, ?_, ?_, ?_⟩
            · rw [HN.out]
              intro x hx
              rcases List.mem_append.1 hx with h | h
              · exact hbd x h
              · rw [List.mem_singleton.1 h]; exact hnl
            · obtain ⟨z, hz, hh⟩ := H1.out
              exact ⟨z, hz, (heap_setCell_other _ _ _ _ (by show B ≠ B + 1; omega)).trans hh⟩
            · refine (heap_setCell_same _ _ _ _ _ _ H2.out).trans ?_
              have := padW_set (l := l) (by have := HL.out; omega) (hs.nextW l t)
              rw [HL.out] at this
              rw [this, HN.out]
            · exact (Below.drew HBEL.out).setCell (p := ⟨B + 1, t, none⟩) (by show B ≤ B + 1; omega) _
        · obtain rfl : k = 48 := by omega
          obtain rfl : t = 64 := by omega
          obtain ⟨z, hz, hh⟩ := H1.out
          have HI : Hid (B ≠ B + 1) := by show _ ≠ _; omega
          have hl64 : (u32s (padW (hs.sched b))).length = 64 := by rw [u32s_length]; exact padW_length (by rw [show hs.sched b = hs.ext (hs.words b 16) 48 from rfl, hlen]; omega)
          have hpw : padW (hs.sched b) = hs.sched b := by
            unfold padW
            rw [show hs.sched b = hs.ext (hs.words b 16) 48 from rfl, hlen]
            simp
          have H64 := Lib.hid hl64
          have HPW := Lib.hid hpw
          have h2' : wr.heap[B + 1]? = some (.cells (u32s (padW (hs.sched b))).toArray 100 (0, 0)) := h2
          clear h1 h2 hbel hk hlen ht hbd hlt hl64 hpw
          generalize hsl : hs.sched b = l at *
          have HSL := Lib.hid hsl
          clear hsl
          have hz1 : (Tryd.prog.info? 100).map (·.size) = some (u32s (padW l)).toArray.size := by rw [List.size_toArray, H64.out]; exact size64w
          have hz2 : (Tryd.prog.info? 100).map (·.size) = some (u32s (padW l)).length := by rw [H64.out]; exact size64w
          have hz3 : z.size = (u32s (padW l)).length := by rw [hz, H64.out]
          have ho : wk.Ones (u32s (padW l)) := wk.ones_nats _ _
          have HCS : Hid (u32s (padW l) = u32s l) := by show _ = _; rw [HPW.out]
          clear HPW
          generalize u32s (padW l) = cs at *
          go_wp2_with (first | (refine wpList_load_row rfl 100 (.tmp 3) rfl (B + 1) rfl 100 cs.toArray (0, 0) _ h2' Tryd.underlying100 rfl hz1 ?_) | (refine wk.store_row rfl 100 (.tmp 2) (.tmp 100) rfl B cs rfl rfl 100 z hh hz2 hz3 ho ?_))
          refine bodyPost_ret (v := .agg cs.toArray) (results_cell_row (fn := Tryd.f99) rfl _ _ B 100 cs.toArray (0, 0) _ rfl (setRow_heap _ _ _ _ _ _ hh) Tryd.underlying100 rfl hz1) rfl ⟨?_, ?_⟩
          · rw [HCS.out, ← HSL.out]
          · rw [HB.out]; exact wk.below_setRow HBEL.out (by omega) _
end Go.Proofs.YtjhagfggelhpkaaDoor.hi
