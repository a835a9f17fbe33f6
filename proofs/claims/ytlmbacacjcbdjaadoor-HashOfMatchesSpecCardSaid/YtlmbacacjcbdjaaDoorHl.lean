
import Derived.Test.YtlmbacacjcbdjaaDoorHk

import Derived.Deep.QuietTactic

import Derived.BigQuiet

namespace Go.Proofs.YtlmbacacjcbdjaaDoor.hi

open Go.ChangeShapes Go.WideShapes Go.ChangeAt Go.RowKit

set_option linter.unusedVariables false

theorem words_length (b : List UInt8) : ∀ t, (hs.words b t).length = t
  | 0 => rfl
  | t + 1 => by simp [hs.words, words_length b t]
theorem word_lt (b : List UInt8) (t : Nat) : hs.word b t < 4294967296 := by
  unfold hs.word
  have h0 := (b.getD (4 * t) 0).toNat_lt
  have h1 := (b.getD (4 * t + 1) 0).toNat_lt
  have h2 := (b.getD (4 * t + 2) 0).toNat_lt
  have h3 := (b.getD (4 * t + 3) 0).toNat_lt
  refine Nat.or_lt_two_pow (n := 32) (Nat.or_lt_two_pow (n := 32) (Nat.or_lt_two_pow (n := 32) ?_ ?_) ?_) ?_ <;> omega

theorem words_lt (b : List UInt8) : ∀ t, ∀ x ∈ hs.words b t, x < 4294967296
  | 0 => by simp [hs.words]
  | t + 1 => fun x hx => by
    rcases List.mem_append.1 hx with h | h
    · exact words_lt b t x h
    · rw [List.mem_singleton.1 h]; exact word_lt b t
theorem size64w : (Tryd.prog.info? 135).map (·.size) = some 64 := by kernel_rfl
theorem ext_length (l : List Nat) : ∀ k, (hs.ext l k).length = l.length + k
  | 0 => rfl
  | k + 1 => by simp [hs.ext, ext_length l k]; omega
set_option maxRecDepth 100000 in
set_option maxHeartbeats 4000000 in
theorem sched_calls (b : List UInt8) (w : World) (hb : b.length = 64) :
    Calls Tryd.prog 106 #[.agg (wp.bc b).toArray] w fun e w' => e = .returned (.agg (u32s (hs.sched b)).toArray) ∧ Below w.heap.size w w' := by
  have HB64 := Lib.hid hb
  clear hb
  go_enter Tryd.func106, Tryd.ntmps106
  go_wp2_with fail
  generalize hB : w.heap.size = B at *
  have HB := Lib.hid hB
  clear hB
  go_loopg [4, 10] 16 (fun g y x wr => ∃ k : Nat, k + g = 16 ∧ x = .int .i64 (k : Int) ∧ wr.heap[B]? = some (.cells (wp.bc b).toArray 99 (0, 0)) ∧ (∃ z : Array Value, z.size = 64 ∧ wr.heap[B + 1]? = some (.cells z 135 (0, 0))) ∧ wr.heap[B + 2]? = some (.cells (u32s (padW (hs.words b k))).toArray 135 (0, 0)) ∧ Below B w wr)
  case atStart =>
    have hB := HB.out
    subst hB
    have e1 : ((w.alloc (.cells (wp.bc b).toArray 99)).heap.size) = w.heap.size + 1 := by simp
    have h2 := heap_alloc2_new (w.alloc (.cells (wp.bc b).toArray 99)) (.cells (u32s (padW [])).toArray 135) (.cells (u32s (padW [])).toArray 135)
    rw [e1] at h2
    exact ⟨0, rfl, rfl, (heap_alloc_old _ _ (by simp; omega)).trans (heap_alloc2_old _ _ _), ⟨(u32s (padW [])).toArray, rfl, (heap_alloc_old _ _ (by simp)).trans (heap_alloc2_new _ _ _)⟩, h2, (((Below.refl _ _).alloc (Nat.le_refl _) _).alloc (by simp) _).alloc (by simp; omega) _⟩
  case round =>
    obtain ⟨k, hk, rfl, h0, h1, h2, hbel⟩ := hrel
    have H0 := Lib.hid h0
    have H1 := Lib.hid h1
    have H2 := Lib.hid h2
    have HBEL := Lib.hid hbel
    have hlen := words_length b k
    by_cases hlt : k < 16
    · obtain ⟨hl4⟩ : Nonempty (4 * k + 3 < b.length) := ⟨by have := HB64.out; omega⟩
      have cf : ∀ j, j < b.length → wr.cell? ⟨B, j, none⟩ = some (.int .u8 ((b.getD j 0).toNat : Int)) := fun j hj => by
        rw [cell_of_row _ _ _ _ _ _ h0]; simp [wp.bc, hj]
      have c0 := cf (4 * k) (by omega)
      have c1 := cf (4 * k + 1) (by omega)
      have c2 := cf (4 * k + 2) (by omega)
      have c3 := cf (4 * k + 3) (by omega)
      have HLT := Lib.hid hl4
      have hcw : wr.cell? ⟨B + 1 + 1, k, none⟩ = some (.int .u32 0) := by
        rw [cell_of_row _ _ _ _ _ _ h2]
        have : (padW (hs.words b k))[k]? = some 0 := by
          unfold padW
          rw [List.getElem?_append_right (by omega), hlen, List.getElem?_replicate, if_pos (by omega)]
        simpa using u32s_at this
      have hfw : wr.frozen? ⟨B + 1 + 1, k, none⟩ = false := frozen_of_row _ _ _ _ _ h2
      have HWD : Hid ((b.getD (4 * k) 0).toNat * 16777216 ||| (b.getD (4 * k + 1) 0).toNat * 65536 ||| (b.getD (4 * k + 2) 0).toNat * 256 ||| (b.getD (4 * k + 3) 0).toNat = hs.word b k) := rfl
      clear cf h0 h1 h2 hbel hl4
      generalize hx0 : (b.getD (4 * k) 0) = x0 at *
      generalize hx1 : (b.getD (4 * k + 1) 0) = x1 at *
      generalize hx2 : (b.getD (4 * k + 2) 0) = x2 at *
      generalize hx3 : (b.getD (4 * k + 3) 0) = x3 at *
      have f0 := x0.toNat_lt
      have f1 := x1.toNat_lt
      have f2 := x2.toNat_lt
      have f3 := x3.toNat_lt
      have w0 : IntKind.i64.wrap (4 * (k : Int)) = ((4 * k : Nat) : Int) := by rw [IntKind.wrap_i64]; omega
      have w1 : IntKind.i64.wrap (((4 * k : Nat) : Int) + 1) = ((4 * k + 1 : Nat) : Int) := by rw [IntKind.wrap_i64]; omega
      have w2 : IntKind.i64.wrap (((4 * k : Nat) : Int) + 2) = ((4 * k + 2 : Nat) : Int) := by rw [IntKind.wrap_i64]; omega
      have w3 : IntKind.i64.wrap (((4 * k : Nat) : Int) + 3) = ((4 * k + 3 : Nat) : Int) := by rw [IntKind.wrap_i64]; omega
      have i0 : ((4 * k : Nat) : Int) < 64 := by omega
      have i1 : ((4 * k : Nat) : Int) + 1 < 64 := by omega
      have i2 : ((4 * k : Nat) : Int) + 2 < 64 := by omega
      have i3 : ((4 * k : Nat) : Int) + 3 < 64 := by omega
      have p1 : (0 : Int) ≤ ((4 * k : Nat) : Int) + 1 := by omega
      have p2 : (0 : Int) ≤ ((4 * k : Nat) : Int) + 2 := by omega
      have p3 : (0 : Int) ≤ ((4 * k : Nat) : Int) + 3 := by omega
      have n1 : (((4 * k : Nat) : Int) + 1).toNat = 4 * k + 1 := by omega
      have n2 : (((4 * k : Nat) : Int) + 2).toNat = 4 * k + 2 := by omega
      have n3 : (((4 * k : Nat) : Int) + 3).toNat = 4 * k + 3 := by omega
      have ik : (k : Int) < 64 := by omega
      have y0 : IntKind.u32.wrap (x0.toNat : Int) = (x0.toNat : Int) := by rw [IntKind.wrap_u32]; omega
      have y1 : IntKind.u32.wrap (x1.toNat : Int) = (x1.toNat : Int) := by rw [IntKind.wrap_u32]; omega
      have y2 : IntKind.u32.wrap (x2.toNat : Int) = (x2.toNat : Int) := by rw [IntKind.wrap_u32]; omega
      have y3 : IntKind.u32.wrap (x3.toNat : Int) = (x3.toNat : Int) := by rw [IntKind.wrap_u32]; omega
      have z0 : IntKind.u32.wrap ((x0.toNat : Int) * 16777216) = (x0.toNat : Int) * 16777216 := by rw [IntKind.wrap_u32]; omega
      have z1 : IntKind.u32.wrap ((x1.toNat : Int) * 65536) = (x1.toNat : Int) * 65536 := by rw [IntKind.wrap_u32]; omega
      have z2 : IntKind.u32.wrap ((x2.toNat : Int) * 256) = (x2.toNat : Int) * 256 := by rw [IntKind.wrap_u32]; omega
      generalize 4 * k = m at *
      go_wp2_with fail
      go_still_tail 31, (by kernel_rfl)
      change wpList _ _ _ _ _ wr.drew
      have hor : bits .or .u32 (bits .or .u32 (bits .or .u32 ((x0.toNat : Int) * 16777216) ((x1.toNat : Int) * 65536)) ((x2.toNat : Int) * 256)) (x3.toNat : Int) = ((hs.word b k : Nat) : Int) := by
        rw [← HWD.out]
        have u0 : hb.U 32 ((x0.toNat : Int) * 16777216) (x0.toNat * 16777216) := (hb.U.nat (j := 32) (a := x0.toNat) (by omega)).mul 16777216 (by omega)
        have u1 : hb.U 32 ((x1.toNat : Int) * 65536) (x1.toNat * 65536) := (hb.U.nat (j := 32) (a := x1.toNat) (by omega)).mul 65536 (by omega)
        have u2 : hb.U 32 ((x2.toNat : Int) * 256) (x2.toNat * 256) := (hb.U.nat (j := 32) (a := x2.toNat) (by omega)).mul 256 (by omega)
        have u3 : hb.U 32 (x3.toNat : Int) x3.toNat := hb.U.nat (j := 32) (by omega)
        exact (((u0.or32 u1).or32 u2).or32 u3).eq
      go_wp2_with fail
      go_roundg (gk - 1)
      case measure => omega
      case rel =>
        refine ⟨k + 1, by omega, by go_num, ?_, ?_, ?_, ?_⟩
        · exact (heap_setCell_other _ _ _ _ (by show B ≠ B + 1 + 1; omega)).trans H0.out
        · obtain ⟨z, hz, hh⟩ := H1.out
          exact ⟨z, hz, (heap_setCell_other _ _ _ _ (by show B + 1 ≠ B + 1 + 1; omega)).trans hh⟩
        · refine (heap_setCell_same _ _ _ _ _ _ H2.out).trans ?_
          have := padW_set (l := hs.words b k) (by omega) (hs.word b k)
          rw [hlen] at this
          rw [this]
          rfl
        · exact (Below.drew HBEL.out).setCell (p := ⟨B + 1 + 1, k, none⟩) (by show B ≤ B + 1 + 1; omega) _
    · obtain rfl : k = 16 := by omega
      clear h0 h1 h2 hbel hk
      go_wp2_with fail
      clear hlt
      have HLT := Lib.hid (words_lt b 16)
      go_loopg [5] 48 (fun g x wq => ∃ k t : Nat, k + g = 48 ∧ t = 16 + k ∧ x = .int .i64 (t : Int) ∧ (∀ x ∈ hs.ext (hs.words b 16) k, x < 4294967296) ∧ (∃ z : Array Value, z.size = 64 ∧ wq.heap[B + 1]? = some (.cells z 135 (0, 0))) ∧ wq.heap[B + 2]? = some (.cells (u32s (padW (hs.ext (hs.words b 16) k))).toArray 135 (0, 0)) ∧ Below B w wq)
      case atStart => exact ⟨0, 16, rfl, rfl, rfl, words_lt b 16, H1.out, H2.out, HBEL.out⟩
      case round =>
        obtain ⟨k, t, hk, ht, rfl, hbd, h1, h2, hbel⟩ := hrel
        have H1 := Lib.hid h1
        have H2 := Lib.hid h2
        have HBEL := Lib.hid hbel
        have HK := Lib.hid hk
        have hlen := ext_length (hs.words b 16) k
        rw [words_length, ← ht] at hlen
        have HL := Lib.hid hlen
        have HN : Hid (hs.ext (hs.words b 16) (k + 1) = hs.ext (hs.words b 16) k ++ [hs.nextW (hs.ext (hs.words b 16) k) t]) := by rw [ht]; rfl
        have HLO : Hid (16 ≤ t) := by show 16 ≤ t; omega
        by_cases hlt : t < 64
        · have HSL : Hid (k + 1 + (gk - 1) = 48 ∧ gk - 1 < gk ∧ t + 1 = 16 + (k + 1)) := by show _ ∧ _ ∧ _; omega
          generalize hs.ext (hs.words b 16) k = l at *
          have cf : ∀ j, j < t → wr.cell? ⟨B + 1 + 1, j, none⟩ = some (.int .u32 ((l.getD j 0 : Nat) : Int)) := fun j hj => by
            rw [cell_of_row _ _ _ _ _ _ h2]
            have := u32s_at (padW_at (l := l) (j := j) (by omega))
            simp only [List.getElem?_toArray, this]
            simp [List.getD_eq_getElem?_getD, List.getElem?_eq_getElem (show j < l.length by omega)]
          have bf : ∀ j, l.getD j 0 < 4294967296 := fun j => by
            rw [List.getD_eq_getElem?_getD]
            cases hj : l[j]? with
            | none => decide
            | some v => exact hbd v (List.mem_of_getElem? hj)
          have c15 := cf (t - 15) (by omega)
          have c2 := cf (t - 2) (by omega)
          have c16 := cf (t - 16) (by omega)
          have c7 := cf (t - 7) (by omega)
          have q15 := bf (t - 15)
          have q2 := bf (t - 2)
          have q16 := bf (t - 16)
          have q7 := bf (t - 7)
          have HW : Hid (hs.ad (hs.ad (hs.ad (l.getD (t - 16) 0) (hs.g0 (l.getD (t - 15) 0))) (l.getD (t - 7) 0)) (hs.g1 (l.getD (t - 2) 0)) = hs.nextW l t) := rfl
          have hcw : wr.cell? ⟨B + 1 + 1, t, none⟩ = some (.int .u32 0) := by
            rw [cell_of_row _ _ _ _ _ _ h2]
            have : (padW l)[t]? = some 0 := by
              unfold padW
              rw [List.getElem?_append_right (by omega), hlen, List.getElem?_replicate, if_pos (by omega)]
            simpa using u32s_at this
          have hfw : wr.frozen? ⟨B + 1 + 1, t, none⟩ = false := frozen_of_row _ _ _ _ _ h2
          generalize l.getD (t - 15) 0 = x15 at *
          generalize l.getD (t - 2) 0 = x2 at *
          generalize l.getD (t - 16) 0 = x16 at *
          generalize l.getD (t - 7) 0 = x7 at *
          have p15 : (0 : Int) ≤ (t : Int) - 15 := by have := HLO.out; omega
          have p2 : (0 : Int) ≤ (t : Int) - 2 := by have := HLO.out; omega
          have p16 : (0 : Int) ≤ (t : Int) - 16 := by have := HLO.out; omega
          have p7 : (0 : Int) ≤ (t : Int) - 7 := by have := HLO.out; omega
          have s15 : (t : Int) - 15 < 64 := by omega
          have s2 : (t : Int) - 2 < 64 := by omega
          have s16 : (t : Int) - 16 < 64 := by omega
          have s7 : (t : Int) - 7 < 64 := by omega
          have st : (t : Int) < 64 := by omega
          have n15 : ((t : Int) - 15).toNat = t - 15 := by omega
          have n2 : ((t : Int) - 2).toNat = t - 2 := by omega
          have n16 : ((t : Int) - 16).toNat = t - 16 := by omega
          have n7 : ((t : Int) - 7).toNat = t - 7 := by omega
          have R7 : ∀ w, Calls Tryd.prog 107 #[.int .u32 (x15 : Int), .int .i64 7] w fun e w' => e = .returned (.int .u32 (hs.rot x15 7 : Nat)) ∧ w = w' := fun w => rotr_calls x15 7 w q15 (by decide) (by decide)
          have R18 : ∀ w, Calls Tryd.prog 107 #[.int .u32 (x15 : Int), .int .i64 18] w fun e w' => e = .returned (.int .u32 (hs.rot x15 18 : Nat)) ∧ w = w' := fun w => rotr_calls x15 18 w q15 (by decide) (by decide)
          have R17 : ∀ w, Calls Tryd.prog 107 #[.int .u32 (x2 : Int), .int .i64 17] w fun e w' => e = .returned (.int .u32 (hs.rot x2 17 : Nat)) ∧ w = w' := fun w => rotr_calls x2 17 w q2 (by decide) (by decide)
          have R19 : ∀ w, Calls Tryd.prog 107 #[.int .u32 (x2 : Int), .int .i64 19] w fun e w' => e = .returned (.int .u32 (hs.rot x2 19 : Nat)) ∧ w = w' := fun w => rotr_calls x2 19 w q2 (by decide) (by decide)
          have u0 : hb.U 32 (bits .xor .u32 (bits .xor .u32 ((hs.rot x15 7 : Nat) : Int) ((hs.rot x15 18 : Nat) : Int)) ((x15 : Int) / 8)) (hs.g0 x15) := ((hb.U.nat (j := 32) (rot_lt 7 q15)).xor32 (hb.U.nat (j := 32) (rot_lt 18 q15))).xor32 ((hb.U.nat (j := 32) (a := x15) q15).div 8)
          have u1 : hb.U 32 (bits .xor .u32 (bits .xor .u32 ((hs.rot x2 17 : Nat) : Int) ((hs.rot x2 19 : Nat) : Int)) ((x2 : Int) / 1024)) (hs.g1 x2) := ((hb.U.nat (j := 32) (rot_lt 17 q2)).xor32 (hb.U.nat (j := 32) (rot_lt 19 q2))).xor32 ((hb.U.nat (j := 32) (a := x2) q2).div 1024)
          have g0 := u0.eq
          have g1 := u1.eq
          clear cf bf h1 h2 hbel hk hlen ht
          go_wp2_with fail
          go_quiet (fail)
          have K1 : Hid (∃ z : Array Value, z.size = 64 ∧ (wr.drewN nq).heap[B + 1]? = some (.cells z 135 (0, 0))) := H1.out
          have K2 : Hid ((wr.drewN nq).heap[B + 2]? = some (.cells (u32s (padW l)).toArray 135 (0, 0))) := H2.out
          have KB : Hid (Below B w (wr.drewN nq)) := wk.below_drewN HBEL.out nq
          have k16 : (wr.drewN nq).cell? ⟨B + 1 + 1, t - 16, none⟩ = some (.int .u32 (x16 : Int)) := c16
          have k7 : (wr.drewN nq).cell? ⟨B + 1 + 1, t - 7, none⟩ = some (.int .u32 (x7 : Int)) := c7
          have kcw : (wr.drewN nq).cell? ⟨B + 1 + 1, t, none⟩ = some (.int .u32 0) := hcw
          have kfw : (wr.drewN nq).frozen? ⟨B + 1 + 1, t, none⟩ = false := hfw
          generalize wr.drewN nq = wd at *
          clear c15 c2 c16 c7 hcw hfw H1 H2 HBEL
          go_wp2_with fail
          refine (R7 _).mono ?_
          rintro e1 w1 ⟨rfl, rfl⟩
          go_wp2_with fail
          refine (R18 _).mono ?_
          rintro e1 w1 ⟨rfl, rfl⟩
          go_wp2_with fail
          refine (R17 _).mono ?_
          rintro e1 w1 ⟨rfl, rfl⟩
          go_wp2_with fail
          refine (R19 _).mono ?_
          rintro e1 w1 ⟨rfl, rfl⟩
          go_wp2_with fail
          clear R7 R17 R18 R19 g0 g1
          generalize hs.g0 x15 = y0 at *
          generalize hs.g1 x2 = y1 at *
          have ly0 := u0.lt
          have ly1 := u1.lt
          clear u0 u1
          have f16 : (16 : Int) ≤ (t : Int) := by have := HLO.out; omega
          have f7 : (7 : Int) ≤ (t : Int) := by omega
          have v16 : IntKind.i64.wrap ((t : Int) - 16) = (t : Int) - 16 := by rw [IntKind.wrap_i64]; omega
          have v7 : IntKind.i64.wrap ((t : Int) - 7) = (t : Int) - 7 := by rw [IntKind.wrap_i64]; omega
          go_still_tail 15, (by kernel_rfl)
          change wpList _ _ _ _ _ wd.drew
          have hsum : IntKind.u32.wrap (IntKind.u32.wrap (IntKind.u32.wrap ((x16 : Int) + (y0 : Int)) + (x7 : Int)) + (y1 : Int)) = ((hs.nextW l t : Nat) : Int) := by
            rw [← HW.out]
            exact (((hb.U.nat (j := 32) (a := x16) q16).add32 (hb.U.nat (j := 32) (a := y0) ly0)).add32 (hb.U.nat (j := 32) (a := x7) q7) |>.add32 (hb.U.nat (j := 32) (a := y1) ly1)).eq
          have hnl : hs.nextW l t < 4294967296 := by rw [← HW.out]; exact Nat.mod_lt _ (by decide)
          go_wp2_with fail
          go_roundg (gk - 1)
          case measure => exact HSL.out.2.1
          case rel =>
            refine ⟨k + 1, t + 1, HSL.out.1, HSL.out.2.2, by go_num, ?_, ?_, ?_, ?_⟩
            · rw [HN.out]
              intro x hx
              rcases List.mem_append.1 hx with h | h
              · exact hbd x h
              · rw [List.mem_singleton.1 h]; exact hnl
            · obtain ⟨z, hz, hh⟩ := K1.out
              exact ⟨z, hz, (heap_setCell_other _ _ _ _ (by show B + 1 ≠ B + 1 + 1; omega)).trans hh⟩
            · refine (heap_setCell_same _ _ _ _ _ _ K2.out).trans ?_
              have := padW_set (l := l) (by have := HL.out; omega) (hs.nextW l t)
              rw [HL.out] at this
              rw [this, HN.out]
            · exact (Below.drew KB.out).setCell (p := ⟨B + 1 + 1, t, none⟩) (by show B ≤ B + 1 + 1; omega) _
        · obtain rfl : k = 48 := by omega
          obtain rfl : t = 64 := by omega
          obtain ⟨z, hz, hh⟩ := H1.out
          have HI : Hid (B + 1 ≠ B + 2) := by show _ ≠ _; omega
          have hl64 : (u32s (padW (hs.sched b))).length = 64 := by rw [u32s_length]; exact padW_length (by rw [show hs.sched b = hs.ext (hs.words b 16) 48 from rfl, hlen]; omega)
          have hpw : padW (hs.sched b) = hs.sched b := by
            unfold padW
            rw [show hs.sched b = hs.ext (hs.words b 16) 48 from rfl, hlen]
            simp
          have H64 := Lib.hid hl64
          have HPW := Lib.hid hpw
          have h2' : wr.heap[B + 2]? = some (.cells (u32s (padW (hs.sched b))).toArray 135 (0, 0)) := h2
          clear h1 h2 hbel hk hlen ht hbd hlt hl64 hpw
          generalize hsl : hs.sched b = l at *
          have HSL := Lib.hid hsl
          clear hsl
          have hz1 : (Tryd.prog.info? 135).map (·.size) = some (u32s (padW l)).toArray.size := by rw [List.size_toArray, H64.out]; exact size64w
          have hz2 : (Tryd.prog.info? 135).map (·.size) = some (u32s (padW l)).length := by rw [H64.out]; exact size64w
          have hz3 : z.size = (u32s (padW l)).length := by rw [hz, H64.out]
          have ho : wk.Ones (u32s (padW l)) := wk.ones_nats _ _
          have HCS : Hid (u32s (padW l) = u32s l) := by show _ = _; rw [HPW.out]
          clear HPW
          generalize u32s (padW l) = cs at *
          go_wp2_with (first | (refine wpList_load_row rfl 135 (.tmp 3) rfl (B + 2) rfl 135 cs.toArray (0, 0) _ h2' Tryd.underlying135 rfl hz1 ?_) | (refine wk.store_row rfl 135 (.tmp 2) (.tmp 88) rfl (B + 1) cs rfl rfl 135 z hh hz2 hz3 ho ?_))
          refine bodyPost_ret (v := .agg cs.toArray) (results_cell_row (fn := Tryd.f106) rfl _ _ (B + 1) 135 cs.toArray (0, 0) _ rfl (setRow_heap _ _ _ _ _ _ hh) Tryd.underlying135 rfl hz1) rfl ⟨?_, ?_⟩
          · rw [HCS.out, ← HSL.out]
          · rw [HB.out]; exact wk.below_setRow HBEL.out (by omega) _
end Go.Proofs.YtlmbacacjcbdjaaDoor.hi
