/- Joined: Hq Kit6 Hr Kit7 Mem Hu Rt. -/
import Derived.Test.YtmjmkkdmphgdnaaDoorG3

import Derived.Deep.DeepCutAuto

import Derived.Deep.MidRow

import Derived.Deep.RegionHeld3

namespace Go.Proofs.YtmjmkkdmphgdnaaDoor.hi

open Go.ChangeShapes Go.WideShapes Go.ChangeAt Go.RowKit

set_option linter.unusedVariables false

theorem st_cell {w : World} {B : Nat} {v : hs.S8} {b : List UInt8} {n : Int} (h : w.heap[B]? = some (.cells (stC v b n).toArray 98 (0, 0))) {j : Nat} {x : UInt8} (hx : b[j]? = some x) : w.cell? ⟨B, 8 + j, none⟩ = some (.int .u8 (x.toNat : Int)) := by
  have hj : j < b.length := by
    rcases Nat.lt_or_ge j b.length with h' | h'
    · exact h'
    · rw [List.getElem?_eq_none h'] at hx; cases hx
  rw [cell_of_row _ _ _ _ _ _ h]
  unfold stC
  rw [List.getElem?_toArray, List.getElem?_append_right (by rw [u32s_l8_length]; omega), u32s_l8_length, Nat.add_sub_cancel_left, List.getElem?_append_left (by rw [wp.bc_length]; exact hj)]
  simp [wp.bc, hx]
theorem st_word {w : World} {B : Nat} {v : hs.S8} {b : List UInt8} {n : Int} (h : w.heap[B]? = some (.cells (stC v b n).toArray 98 (0, 0))) {j x : Nat} (hx : (l8 v)[j]? = some x) : w.cell? ⟨B, j, none⟩ = some (.int .u32 (x : Int)) := by
  have hj : j < (u32s (l8 v)).length := by
    rw [u32s_length]
    rcases Nat.lt_or_ge j (l8 v).length with h' | h'
    · exact h'
    · rw [List.getElem?_eq_none h'] at hx; cases hx
  rw [cell_of_row _ _ _ _ _ _ h]
  unfold stC
  rw [List.getElem?_toArray, List.getElem?_append_left hj]
  exact u32s_at hx
theorem st_size {w : World} {B : Nat} {v : hs.S8} {b : List UInt8} {n : Int} (h : w.heap[B]? = some (.cells (stC v b n).toArray 98 (0, 0))) (hb : b.length = 64) : w.cell? ⟨B, 72, none⟩ = some (.int .i64 n) := by
  unfold stC at h
  rw [← List.append_assoc] at h
  exact wk.cell_last h (by rw [List.length_append, u32s_l8_length, wp.bc_length, hb])
theorem st_set {w : World} {B : Nat} {v : hs.S8} {b : List UInt8} {n : Int} (h : w.heap[B]? = some (.cells (stC v b n).toArray 98 (0, 0))) {j : Nat} (hj : j < b.length) (x : UInt8) :
    (w.setCell ⟨B, 8 + j, none⟩ (.int .u8 (x.toNat : Int))).heap[B]? = some (.cells (stC v (b.set j x) n).toArray 98 (0, 0)) := by
  refine (heap_setCell_same _ _ _ _ _ _ h).trans ?_
  have : (stC v b n).toArray.setIfInBounds (8 + j) (.int .u8 (x.toNat : Int)) = (stC v (b.set j x) n).toArray := by
    apply Array.toList_inj.1
    simp only [stC, List.setIfInBounds_toArray]
    rw [List.set_append_right _ _ (by rw [u32s_l8_length]; omega), u32s_l8_length, Nat.add_sub_cancel_left, List.set_append_left _ _ (by rw [wp.bc_length]; exact hj)]
    simp [wp.bc, List.map_set]
  rw [this]
theorem bc_row_set {w : World} {G : Nat} {l : List UInt8} {t : TypeId} (h : w.heap[G]? = some (.cells (wp.bc l).toArray t (0, 0))) (k : Nat) (x : UInt8) :
    (w.setCell ⟨G, k, none⟩ (.int .u8 (x.toNat : Int))).heap[G]? = some (.cells (wp.bc (l.set k x)).toArray t (0, 0)) := by
  refine (heap_setCell_same _ _ _ _ _ _ h).trans ?_
  have : (wp.bc l).toArray.setIfInBounds k (.int .u8 (x.toNat : Int)) = (wp.bc (l.set k x)).toArray := by
    apply Array.toList_inj.1
    simp [wp.bc, List.map_set]
  rw [this]
theorem blk_set {l : List UInt8} (h : l.length < 64) (x : UInt8) : (hs.blk l).set l.length x = hs.blk (l ++ [x]) := by
  unfold hs.blk
  rw [List.set_append_right _ _ (Nat.le_refl _), Nat.sub_self, show 64 - l.length = (64 - (l ++ [x]).length) + 1 by simp; omega, List.replicate_succ]
  simp

theorem size32 : (Tryd.prog.info? 102).map (·.size) = some 32 := by kernel_rfl
def z32 : Array Value := #[.int .u8 0, .int .u8 0, .int .u8 0, .int .u8 0, .int .u8 0, .int .u8 0, .int .u8 0, .int .u8 0, .int .u8 0, .int .u8 0, .int .u8 0, .int .u8 0, .int .u8 0, .int .u8 0, .int .u8 0, .int .u8 0, .int .u8 0, .int .u8 0, .int .u8 0, .int .u8 0, .int .u8 0, .int .u8 0, .int .u8 0, .int .u8 0, .int .u8 0, .int .u8 0, .int .u8 0, .int .u8 0, .int .u8 0, .int .u8 0, .int .u8 0, .int .u8 0]

theorem fin_ok (s : hs.S8 × List UInt8) (n : Nat) : Ok8 (hs.fin s n) := by
  unfold hs.fin
  split <;> exact ok_plus _ _
theorem l8_lt {f : hs.S8} (h : Ok8 f) {q x : Nat} (hx : (l8 f)[q]? = some x) : x < 4294967296 := by
  have hm := List.mem_of_getElem? hx
  obtain ⟨a, b, c, d, e, f, g, k⟩ := h
  simp only [l8, List.mem_cons, List.not_mem_nil, or_false] at hm
  rcases hm with rfl | rfl | rfl | rfl | rfl | rfl | rfl | rfl <;> assumption
/-- the world once the mark is laid -/
def AfterPad (w : World) (B : Nat) (s0 : hs.S8 × List UInt8) (n : Nat) (wx : World) : Prop :=
  ∃ (v : hs.S8) (b : List UInt8), Ok8 v ∧ b.length = 64 ∧ hs.comp v (b.take 56 ++ hs.len8 n) = hs.fin s0 n ∧ wx.heap[B]? = some (.cells (stC v b (n : Int)).toArray 98 (0, 0)) ∧ wx.heap[B + 1]? = some (.cells z32 102 (0, 0)) ∧ Below B w wx

set_option maxRecDepth 100000 in
set_option maxHeartbeats 2000000 in
theorem sum_calls (s0 : hs.S8 × List UInt8) (n : Nat) (w : World) (hs0 : Str s0 n) (hn : n ≤ 1152921504606846976) (hT : TabK w) :
    Calls Tryd.prog 63 #[strV s0 (n : Int)] w fun e w' => e = .returned (.agg (wp.bc (hs.out (hs.fin s0 n))).toArray) ∧ Below w.heap.size w w' := by
  have HT := Lib.hid hT
  have HS := Lib.hid hs0
  obtain ⟨r, hr⟩ : ∃ r, r = n % 64 := ⟨_, rfl⟩
  have hr64 : r < 64 := by omega
  have hri : (n : Int) % 64 = (r : Int) := by omega
  have hrl := hs0.len
  rw [← hr] at hrl
  have HRL := Lib.hid hrl
  clear hT hs0 hrl hr
  unfold strV
  go_enter Tryd.func63, Tryd.ntmps63
  go_upto_region 1 with fail
  have q0 : ((w.alloc (.cells (stC s0.1 (hs.blk s0.2) (n : Int)).toArray 98)).alloc (.cells z32 102)).heap[w.heap.size]? = some (.cells (stC s0.1 (hs.blk s0.2) (n : Int)).toArray 98 (0, 0)) := heap_alloc2_old _ _ _
  have q1 : ((w.alloc (.cells (stC s0.1 (hs.blk s0.2) (n : Int)).toArray 98)).alloc (.cells z32 102)).heap[w.heap.size + 1]? = some (.cells z32 102 (0, 0)) := heap_alloc2_new _ _ _
  have qb : Below w.heap.size w ((w.alloc (.cells (stC s0.1 (hs.blk s0.2) (n : Int)).toArray 98)).alloc (.cells z32 102)) := ((Below.refl _ _).alloc (Nat.le_refl _) _).alloc (by simp) _
  unfold z32 at q0 q1 qb
  generalize (w.alloc (.cells (stC s0.1 (hs.blk s0.2) (n : Int)).toArray 98)).alloc (.cells #[.int .u8 0, .int .u8 0, .int .u8 0, .int .u8 0, .int .u8 0, .int .u8 0, .int .u8 0, .int .u8 0, .int .u8 0, .int .u8 0, .int .u8 0, .int .u8 0, .int .u8 0, .int .u8 0, .int .u8 0, .int .u8 0, .int .u8 0, .int .u8 0, .int .u8 0, .int .u8 0, .int .u8 0, .int .u8 0, .int .u8 0, .int .u8 0, .int .u8 0, .int .u8 0, .int .u8 0, .int .u8 0, .int .u8 0, .int .u8 0, .int .u8 0, .int .u8 0] 102) = W0 at *
  generalize hB : w.heap.size = B at *
  have HB := Lib.hid hB
  clear hB
  have hbl : (hs.blk s0.2).length = 64 := hs.blk_length (by have := HRL.out; omega)
  have c72 := st_size q0 hbl
  obtain ⟨z, hz⟩ : ∃ z, (hs.blk s0.2)[r]? = some z := ⟨_, List.getElem?_eq_getElem (by omega)⟩
  have cr := st_cell q0 hz
  have fr := frozen_of_row _ _ (8 + r) _ _ q0
  have QS := Lib.hid (st_set q0 (j := r) (by omega) 128)
  have QO : Hid ((W0.setCell ⟨B, 8 + r, none⟩ (.int .u8 128)).heap[B + 1]? = W0.heap[B + 1]?) := heap_setCell_other _ _ _ _ (by show B + 1 ≠ B; omega)
  have Q1 := Lib.hid q1
  have QB := Lib.hid qb
  have QB2 := Lib.hid (qb.setCell (p := ⟨B, 8 + r, none⟩) (Nat.le_refl _) (.int .u8 128))
  have HBL := Lib.hid hbl
  clear q0 q1 qb hz hbl
  go_upto_if 15 with fail
  have QS2 : Hid ((W0.setCell ⟨B, 8 + r, none⟩ (.int .u8 128)).heap[B]? = some (.cells (stC s0.1 (hs.blk (s0.2 ++ [128])) (n : Int)).toArray 98 (0, 0))) := by
    have h := QS.out
    have hl := HRL.out
    have h2 := blk_set (l := s0.2) (by omega) 128
    rw [hl] at h2
    rw [h2] at h
    exact h
  have hb2 : (hs.blk (s0.2 ++ [128])).length = 64 := hs.blk_length (by have := HRL.out; simp; omega)
  have HB2 := Lib.hid hb2
  have HNX := Lib.hid (fun w' hT => next_calls s0.1 (hs.blk (s0.2 ++ [128])) (n : Int) w' HS.out.ok hb2 hT)
  have hT1 := HT.out.below (by have := HT.out.1; have := HB.out; omega) QB2.out
  have HT1 := Lib.hid hT1
  clear hb2 hT1 c72 cr fr QS
  go_cut [1] from 3 to 17 (fun x wx => x = .pointer (some ⟨B, 0, none⟩) ∧ AfterPad w B s0 n wx)
  case first =>
    by_cases h56 : r < 56
    · go_wp2_with fail
      go_meet
      case rel =>
        exact ⟨rfl, s0.1, _, HS.out.ok, HB2.out, hs.fin_small n (by have := HRL.out; omega), QS2.out, QO.out.trans Q1.out, QB2.out⟩
    · have h56' : 56 ≤ r := by omega
      have hR3 := QS2.out
      have hsz3 := size_toA size73 (stC_length (v := s0.1) (n := (n : Int)) HB2.out)
      go_wp2_with (refine wpList_load_row rfl 98 (.tmp 1) rfl B rfl 98 (stC s0.1 (hs.blk (s0.2 ++ [128])) (n : Int)).toArray (0, 0) _ hR3 Tryd.underlying98 rfl hsz3 ?_)
      refine (HNX.out _ HT1.out).mono ?_
      rintro e w4 ⟨rfl, hb4⟩
      have q0 := wk.row_below hR3 hb4
      have q1 := Lib.hid (wk.row_below (QO.out.trans Q1.out) hb4)
      have hB4 := Lib.hid (QB2.out.trans (hb4.mono (by have := QB2.out.size; have := HB.out; omega)))
      have k1 := size_to size73 (stC_length (v := hs.comp s0.1 (hs.blk (s0.2 ++ [128]))) (blk := z64) (n := (n : Int)) rfl)
      have k2 : (stC s0.1 (hs.blk (s0.2 ++ [128])) (n : Int)).toArray.size = (stC (hs.comp s0.1 (hs.blk (s0.2 ++ [128]))) z64 (n : Int)).length := by rw [List.size_toArray, stC_length HB2.out, stC_length rfl]
      have k3 := stC_ones (hs.comp s0.1 (hs.blk (s0.2 ++ [128]))) z64 (n : Int)
      clear hb4 hR3 hsz3
      go_wp2_with (refine wk.store_row rfl 98 (.tmp 1) (.tmp 17) rfl B (stC (hs.comp s0.1 (hs.blk (s0.2 ++ [128]))) z64 (n : Int)) rfl rfl 98 _ q0 k1 k2 k3 ?_)
      go_meet
      case rel =>
        exact ⟨rfl, _, z64, ok_plus _ _, rfl, hs.fin_big n (by have := HRL.out; omega) (by have := HRL.out; omega), setRow_heap _ _ _ _ _ _ q0, by rw [setRow_other _ _ _ _ (by omega)]; exact q1.out, wk.below_setRow hB4.out (Nat.le_refl _) _⟩
  case rest =>
    obtain ⟨rfl, v, b, hv, hb, hfin, q0, q1, qb⟩ := hcut
    have c72 := st_size q0 hb
    have HV := Lib.hid hv
    have HB64 := Lib.hid hb
    have HFIN := Lib.hid hfin
    have R0 := Lib.hid q0
    have R1 := Lib.hid q1
    have RB := Lib.hid qb
    clear hv hb hfin q0 q1 qb QS2 HB2 HNX HT1 QO Q1 QB QB2 HBL
    go_wp2_with fail
    go_loopg [22] 8 (fun g x wr => ∃ k : Nat, k + g = 8 ∧ x = .int .i64 (k : Int) ∧ wr.heap[B]? = some (.cells (stC v (hs.lenb b n k) (n : Int)).toArray 98 (0, 0)) ∧ wr.heap[B + 1]? = some (.cells z32 102 (0, 0)) ∧ Below B w wr)
    case atStart => exact ⟨0, rfl, rfl, by rw [hs.lenb_zero n HB64.out]; exact R0.out, R1.out, RB.out⟩
    case round =>
      obtain ⟨k, hk, rfl, q0, q1, qb⟩ := hrel
      have HK := Lib.hid hk
      have R1 := Lib.hid q1
      have RB := Lib.hid qb
      by_cases hlt : k < 8
      · obtain ⟨m, hm⟩ : ∃ m, m = 63 - k := ⟨_, rfl⟩
        obtain ⟨s, hsh⟩ : ∃ s, s = 8 * k := ⟨_, rfl⟩
        have hmi : (63 : Int) - (k : Int) = (m : Int) := by omega
        have hm64 : m < 64 := by omega
        have hsi : (8 : Int) * (k : Int) = (s : Int) := by omega
        have hll := hs.lenb_length (b := b) n (k := k) HB64.out (by omega)
        obtain ⟨z, hz⟩ : ∃ z, (hs.lenb b n k)[m]? = some z := ⟨_, List.getElem?_eq_getElem (by omega)⟩
        have cr := st_cell q0 hz
        have fr := frozen_of_row _ _ (8 + m) _ _ q0
        have HST := Lib.hid (st_set q0 (j := m) (by omega) (UInt8.ofNat (8 * n / 2 ^ s)))
        have HLS := Lib.hid (hs.lenb_step (b := b) n HB64.out hlt)
        have HVX : Hid ((n : Int) * 8 / 2 ^ s % 256 = ((UInt8.ofNat (8 * n / 2 ^ s)).toNat : Int)) := by
          show _ = _
          rw [UInt8.toNat_ofNat', show (n : Int) * 8 = ((8 * n : Nat) : Int) by omega, show (256 : Int) = ((256 : Nat) : Int) from rfl, show ((2 : Int) ^ s) = ((2 ^ s : Nat) : Int) by simp, ← Int.natCast_ediv, ← Int.natCast_emod]
        have HM := Lib.hid hm
        have HS2 := Lib.hid hsh
        clear q0 q1 qb hz hll hm hsh hk
        go_wp2_with fail
        go_roundg (gk - 1)
        case measure => have := HK.out; omega
        case rel =>
          refine ⟨k + 1, by have := HK.out; omega, by go_num, ?_, (heap_setCell_other _ _ _ _ (by show B + 1 ≠ B; omega)).trans R1.out, RB.out.setCell (p := ⟨B, 8 + m, none⟩) (Nat.le_refl _) _⟩
          rw [HVX.out, ← HLS.out, ← HM.out, ← HS2.out]
          exact HST.out
      · obtain rfl : k = 8 := by omega
        have hl8 := hs.lenb_length (b := b) n (k := 8) HB64.out (by omega)
        have HL8 := Lib.hid hl8
        have hTk := HT.out.below (by have := HT.out.1; have := HB.out; omega) qb
        have HNX := Lib.hid (fun w' hT => next_calls v (hs.lenb b n 8) (n : Int) w' HV.out hl8 hT)
        have hsz3 := size_toA size73 (stC_length (v := v) (n := (n : Int)) hl8)
        have HTK := Lib.hid hTk
        have hff : hs.comp v (hs.lenb b n 8) = hs.fin s0 n := by rw [hs.lenb_full, HFIN.out]
        have HFF := Lib.hid hff
        clear hk hl8 hTk qb q1 hff
        go_wp2_with (refine wpList_load_row rfl 98 (.tmp 1) rfl B rfl 98 (stC v (hs.lenb b n 8) (n : Int)).toArray (0, 0) _ q0 Tryd.underlying98 rfl hsz3 ?_)
        refine (HNX.out _ HTK.out).mono ?_
        rw [HFF.out]
        rintro e w4 ⟨rfl, hb4⟩
        have p0 := wk.row_below q0 hb4
        have p1 := Lib.hid (wk.row_below R1.out hb4)
        have hB4 := Lib.hid (RB.out.trans (hb4.mono (by have := RB.out.size; have := HB.out; omega)))
        have HFO := Lib.hid (fin_ok s0 n)
        generalize hfe : hs.fin s0 n = f at *
        have HFE := Lib.hid hfe
        clear hfe
        have k1 := size_to size73 (stC_length (v := f) (blk := z64) (n := (n : Int)) rfl)
        have k2 : (stC v (hs.lenb b n 8) (n : Int)).toArray.size = (stC f z64 (n : Int)).length := by rw [List.size_toArray, stC_length HL8.out, stC_length rfl]
        have k3 := stC_ones f z64 (n : Int)
        clear hb4 hsz3 q0
        go_upto_region 12 with (refine wk.store_row rfl 98 (.tmp 1) (.tmp 36) rfl B (stC f z64 (n : Int)) rfl rfl 98 _ p0 k1 k2 k3 ?_)
        have hB5 := Lib.hid (wk.below_setRow hB4.out (Nat.le_refl B) (stC f z64 (n : Int)).toArray)
        have hr5 : Hid ((w4.setRow B (stC f z64 (n : Int)).toArray).heap[B]? = some (.cells (stC f z64 (n : Int)).toArray 98 (0, 0))) := setRow_heap _ _ _ _ _ _ p0
        have ho5 : Hid ((w4.setRow B (stC f z64 (n : Int)).toArray).heap[B + 1]? = some (.cells z32 102 (0, 0))) := by show _ = _; rw [setRow_other _ _ _ _ (by omega)]; exact p1.out
        have hg5 : Hid (B + 2 ≤ (w4.setRow B (stC f z64 (n : Int)).toArray).heap.size) := by
          have := wk.row_lt ho5.out
          show _ ≤ _; omega
        generalize w4.setRow B (stC f z64 (n : Int)).toArray = w5 at *
        clear p0 p1 k1 k2 k3
        generalize hG : w5.heap.size = G at *
        have HG := Lib.hid hG
        go_upto_region 13 with fail
        have hg6 := hg5.out
        clear hG
        go_wp2_with fail
        go_loopg [37] 32 (fun g x wr => ∃ k : Nat, k + g = 32 ∧ x = .int .i64 (k : Int) ∧ wr.heap[B]? = some (.cells (stC f z64 (n : Int)).toArray 98 (0, 0)) ∧ wr.heap[B + 1]? = some (.cells z32 102 (0, 0)) ∧ wr.heap[G]? = some (.cells (wp.bc (hs.part (hs.out f) 32 k)).toArray 102 (0, 0)) ∧ Below B w wr)
        case atStart =>
          refine ⟨0, rfl, rfl, ?_, ?_, ?_, hB5.out.alloc (by rw [HG.out]; omega) _⟩
          · rw [heap_alloc_old _ _ (by rw [HG.out]; omega)]; exact hr5.out
          · rw [heap_alloc_old _ _ (by rw [HG.out]; omega)]; exact ho5.out
          · rw [← HG.out, hs.part_zero]; exact heap_alloc_new w5 (.cells z32 102)
        case round =>
          obtain ⟨k, hk, rfl, q0, q1, q2, qb⟩ := hrel
          have HK := Lib.hid hk
          have R0 := Lib.hid q0
          have R1 := Lib.hid q1
          have R2 := Lib.hid q2
          have RB := Lib.hid qb
          by_cases hlt : k < 32
          · obtain ⟨q, hq⟩ : ∃ q, q = k / 4 := ⟨_, rfl⟩
            obtain ⟨m, hm⟩ : ∃ m, m = k % 4 := ⟨_, rfl⟩
            obtain ⟨s, hsh⟩ : ∃ s, s = 24 - m * 8 := ⟨_, rfl⟩
            have hqi : (k : Int) / 4 = (q : Int) := by omega
            have hq8 : q < 8 := by omega
            have hmi : (k : Int) % 4 = (m : Int) := by omega
            have hm4 : m ≤ 3 := by omega
            have hsi : (24 : Int) - (m : Int) * 8 = (s : Int) := by omega
            obtain ⟨x, hx⟩ : ∃ x, (l8 f)[q]? = some x := ⟨_, List.getElem?_eq_getElem (by show q < 8; exact hq8)⟩
            have cx := st_word q0 hx
            have hlen := hs.part_length (l := hs.out f) (k := k) (hs.out_length f) (by omega)
            obtain ⟨z, hz⟩ : ∃ z, (wp.bc (hs.part (hs.out f) 32 k))[k]? = some z := ⟨_, List.getElem?_eq_getElem (by rw [wp.bc_length, hlen]; exact hlt)⟩
            have cz : wr.cell? ⟨G, k, none⟩ = some z := by rw [cell_of_row _ _ _ _ _ _ q2, List.getElem?_toArray]; exact hz
            have fz := frozen_of_row _ _ k _ _ q2
            have hox := hs.out_at f hlt
            rw [← hq, ← hm, ← hsh, show hs.l8' f = l8 f from rfl, List.getD_eq_getElem?_getD, hx] at hox
            have HPS := Lib.hid (hs.part_step (hs.out_length f) hox)
            have hxl : x < 4294967296 :=
               l8_lt HFO.out hx
            have HVX : Hid ((x : Int) / 2 ^ s % 256 = ((UInt8.ofNat (x / 2 ^ s)).toNat : Int)) := by
              show _ = _
              rw [UInt8.toNat_ofNat', show (256 : Int) = ((256 : Nat) : Int) from rfl, show ((2 : Int) ^ s) = ((2 ^ s : Nat) : Int) by simp, ← Int.natCast_ediv, ← Int.natCast_emod]
            clear q0 q1 q2 qb hz hx hlen hq hm hsh hk hox
            go_wp2_with fail
            go_roundg (gk - 1)
            case measure => have := HK.out; omega
            case rel =>
              refine ⟨k + 1, by have := HK.out; omega, by go_num, (heap_setCell_other _ _ _ _ (by show B ≠ G; omega)).trans R0.out, (heap_setCell_other _ _ _ _ (by show B + 1 ≠ G; omega)).trans R1.out, ?_, RB.out.setCell (p := ⟨G, k, none⟩) (by show B ≤ G; omega) _⟩
              rw [HVX.out, ← HPS.out]
              exact bc_row_set R2.out k _
          · obtain rfl : k = 32 := by omega
            have hpf := hs.part_full (hs.out_length f)
            rw [hpf] at q2
            clear R2
            have hlo : (wp.bc (hs.out f)).length = 32 := by rw [wp.bc_length]; exact hs.out_length f
            have hz1 := size_toA size32 hlo
            have hz2 := size_to size32 hlo
            have hz3 : z32.size = (wp.bc (hs.out f)).length := by rw [hlo]; rfl
            have ho := wk.ones_bc (hs.out f)
            generalize hcs : wp.bc (hs.out f) = cs at *
            have HCS := Lib.hid hcs
            clear hcs hpf hlo q0 hk qb
            go_wp2_with (first | refine wpList_load_row rfl 102 (.tmp 6) rfl G rfl 102 cs.toArray (0, 0) _ q2 Tryd.underlying102 rfl hz1 ?_ | refine wk.store_row rfl 102 (.tmp 2) (.tmp 54) rfl (B + 1) cs rfl rfl 102 z32 q1 hz2 hz3 ho ?_)
            refine bodyPost_ret (v := .agg cs.toArray) (results_cell_row (fn := Tryd.f63) rfl _ _ (B + 1) 102 cs.toArray (0, 0) _ rfl (setRow_heap _ _ _ _ _ _ q1) Tryd.underlying102 rfl hz1) rfl ⟨?_, ?_⟩
            · rw [← HCS.out, ← HFE.out]
            · rw [HB.out]; exact wk.below_setRow RB.out (by omega) _
end Go.Proofs.YtmjmkkdmphgdnaaDoor.hi

namespace Go.Proofs.YtmjmkkdmphgdnaaDoor.wk

open Go.RowKit

section

variable {P : Program}
theorem results_cell_at {fn : Func} {p : Tmp} {ty : TypeId} (h : fn.results = #[.cell p ty]) (tmps : Array Value) (w : World) (ad : Addr) (cs : List Value) (d : TypeDesc)
    (hp : tmps.getD p undef = .pointer (some ad)) (hc : ∀ j x, cs[j]? = some x → w.cell? (ad.add j) = some x)
    (hu : P.underlying ty = some d) (hd : (match d with | .struct _ | .array _ _ => true | _ => false) = true) (hi : (P.info? ty).map (·.size) = some cs.length) :
    (results fn tmps).run P w = .ok (.agg cs.toArray) w := by
  have hp' : tmps[p]?.getD undef = .pointer (some ad) := by simpa using hp
  simp [results, h, hp', asAddr, run_load_agg w ad ty cs d hc hu hd hi]
theorem below_setCells {B g : Nat} {a : World} (hg : B ≤ g) : ∀ (vs : List Value) (o : Nat) (w : World), Below B a w → Below B a (w.setCells g o vs)
  | [], _, _, h => h
  | v :: vs, o, w, h => below_setCells hg vs (o + 1) (w.setCell ⟨g, o, none⟩ v) (h.setCell (p := ⟨g, o, none⟩) hg v)
theorem there_row {w : World} {g n : Nat} {cs : Array Value} {t : TypeId} (h : w.heap[g]? = some (.cells cs t (0, 0))) (hn : cs.size = n) : w.there g 0 n := fun j hj => by
  rw [cell_of_row _ _ _ _ _ _ h, frozen_of_row _ _ _ _ _ h]
  simp
  omega
theorem there_below {w w' : World} {g n B : Nat} (h : w.there g 0 n) (hg : g < B) (hb : Below B w w') : w'.there g 0 n := fun j hj => by
  rw [hb.cell (p := ⟨g, 0 + j, none⟩) hg, hb.frozen (p := ⟨g, 0 + j, none⟩) hg]
  exact h j hj
theorem setCells_at {w : World} {g : Nat} {cs : List Value} (h : w.there g 0 cs.length) : ∀ j x, cs[j]? = some x → (w.setCells g 0 cs).cell? ((⟨g, 0, none⟩ : Addr).add j) = some x := fun j x hx => by
  rw [add_at]
  exact World.rangeAt_setCells_same w g 0 cs h j x hx
end

end Go.Proofs.YtmjmkkdmphgdnaaDoor.wk

namespace Go.Proofs.YtmjmkkdmphgdnaaDoor.hi

open Go.ChangeShapes Go.WideShapes Go.ChangeAt Go.RowKit

set_option linter.unusedVariables false

theorem sha_eq (l : List UInt8) : hs.out (hs.fin (hs.feed (hs.H0, []) l) l.length) = hs.sha l := rfl

end Go.Proofs.YtmjmkkdmphgdnaaDoor.hi
/- A region that draws its order, by one invariant on what has been done. No program here. -/
namespace Go.Proofs.YtmjmkkdmphgdnaaDoor.wk

open Go.RowKit

section

variable {P : Program} {ops : Array Oper} {Q : Exit → Act → World → Prop} {md : Region.Mode}

/-- what is done, as a function -/
def done (listed : Array Bool) (i : Nat) : Bool := listed.getD i false
/-- every operation stands behind those that it waits for -/
def ordered (ops : Array Oper) : Bool := (List.range ops.size).all fun i => ((ops[i]?).map (·.after.all fun e => e.on < i)).getD false

theorem getD_set (listed : Array Bool) (i j : Nat) (h : i < listed.size) : done (listed.setIfInBounds i true) j = if j = i then true else done listed j := by
  unfold done
  rw [Array.getD_eq_getD_getElem?, Array.getD_eq_getD_getElem?, Array.getElem?_setIfInBounds]
  by_cases hj : i = j
  · subst hj; simp [h]
  · rw [if_neg hj, if_neg fun h => hj h.symm]

theorem ready_mem {listed : Array Bool} {i : Nat} (hs : listed.size = ops.size) (h : i ∈ Region.ready md ops listed) :
    ∃ o, ops[i]? = some o ∧ done listed i = false ∧ ∀ e ∈ o.after, Region.binds md e = true → done listed e.on = true := by
  unfold Region.ready at h
  rw [List.mem_filter, List.mem_range] at h
  obtain ⟨hi, h⟩ := h
  rw [Bool.and_eq_true] at h
  obtain ⟨h1, h2⟩ := h
  have ho : ops[i]? = some ops[i] := Array.getElem?_eq_getElem hi
  refine ⟨ops[i], ho, ?_, fun e he hb => ?_⟩
  · unfold done
    rw [Array.getD_eq_getD_getElem?, Array.getElem?_eq_getElem (by omega)] at *
    simpa using h1
  · rw [ho] at h2
    simp only [Option.map_some, Option.getD_some] at h2
    have := Array.all_eq_true_iff_forall_mem.1 h2 e he
    rw [hb] at this
    simpa [done] using this

theorem ready_nil {listed : Array Bool} (hs : listed.size = ops.size) (hord : ordered ops = true) (h : Region.ready md ops listed = []) : ∀ i, i < ops.size → done listed i = true := by
  intro i
  induction i using Nat.strongRecOn with
  | ind i ih =>
    intro hi
    cases hd : done listed i with
    | true => rfl
    | false =>
      exfalso
      have ho : ops[i]? = some ops[i] := Array.getElem?_eq_getElem hi
      have hmem : i ∈ Region.ready md ops listed := by
        unfold Region.ready
        rw [List.mem_filter, List.mem_range]
        refine ⟨hi, ?_⟩
        rw [Bool.and_eq_true]
        constructor
        · unfold done at hd
          rw [Array.getD_eq_getD_getElem?, Array.getElem?_eq_getElem (by omega)] at *
          simpa using hd
        · rw [ho]
          simp only [Option.map_some, Option.getD_some]
          refine Array.all_eq_true_iff_forall_mem.2 fun e he => ?_
          have h1 := List.all_eq_true.1 hord i (List.mem_range.2 hi)
          rw [ho] at h1
          simp only [Option.map_some, Option.getD_some] at h1
          have h2 := of_decide_eq_true (Array.all_eq_true_iff_forall_mem.1 h1 e he)
          have := ih e.on h2 (by omega)
          unfold done at this
          rw [this]; simp
      rw [h] at hmem
      cases hmem

theorem any_inv (I : (Nat → Bool) → Act → World → Prop) (hord : ordered ops = true)
    (hstep : ∀ L a w, I L a w → ∀ i o, ops[i]? = some o → L i = false → (∀ e ∈ o.after, Region.binds md e = true → L e.on = true) → wpOp P ops Q i (fun a' w' => I (fun j => if j = i then true else L j) a' w') a w)
    (hdone : ∀ L a w, (∀ i, i < ops.size → L i = true) → I L a w → Q .normal a w) :
    ∀ (fuel : Nat) (listed : Array Bool) (a : Act) (w : World), listed.size = ops.size → (listed.toList.filter (!·)).length ≤ fuel → I (done listed) a w → wpAny P md ops Q fuel listed a w
  | 0, listed, a, w, hs, hf, hI => by
    have hall : ∀ i, i < ops.size → done listed i = true := fun i hi => by
      have h0 : listed.toList.filter (!·) = [] := List.eq_nil_of_length_eq_zero (by omega)
      rw [List.filter_eq_nil_iff] at h0
      have := h0 listed[i] (by simp)
      unfold done
      rw [Array.getD_eq_getD_getElem?, Array.getElem?_eq_getElem (by omega)]
      simpa using this
    refine ⟨?_, hdone _ a w hall hI⟩
    cases hr : Region.ready md ops listed with
    | nil => rfl
    | cons i r =>
      obtain ⟨o, ho, h1, _⟩ := ready_mem (i := i) hs (by rw [hr]; exact List.mem_cons_self)
      have hi : i < ops.size := (Array.getElem?_eq_some_iff.1 ho).1
      rw [hall i hi] at h1
      cases h1
  | fuel + 1, listed, a, w, hs, hf, hI => by
    refine ⟨fun hr => hdone _ a w (ready_nil hs hord hr) hI, fun i hi => ?_⟩
    obtain ⟨o, ho, h1, h2⟩ := ready_mem hs hi
    have hil : i < listed.size := by rw [hs]; exact (Array.getElem?_eq_some_iff.1 ho).1
    refine wpOp_mono (fun a' w' h => any_inv I hord hstep hdone fuel (listed.setIfInBounds i true) a' w' (by simpa using hs) ?_ ?_) (hstep (done listed) a w hI i o ho h1 h2)
    · have hl : listed.toList[i]? = some false := by
        unfold done at h1
        rw [Array.getD_eq_getD_getElem?, Array.getElem?_eq_getElem hil] at h1
        rw [Array.getElem?_toList, Array.getElem?_eq_getElem hil]
        simpa using h1
      have key : ∀ (l : List Bool) (i : Nat), l[i]? = some false → ((l.set i true).filter (!·)).length + 1 = (l.filter (!·)).length := by
        intro l
        induction l with
        | nil => intro i h; simp at h
        | cons b r ih =>
          intro i h
          cases i with
          | zero =>
            simp only [List.getElem?_cons_zero, Option.some.injEq] at h
            subst h
            simp
          | succ i =>
            have := ih i (by simpa using h)
            cases b <;> simp <;> omega
      have := key _ _ hl
      simp only [Array.toList_setIfInBounds]
      omega
    · have e : done (listed.setIfInBounds i true) = fun j => if j = i then true else done listed j := funext fun j => getD_set listed i j hil
      rw [e]
      exact h

/-- one operation that stands under no guard -/
theorem op_step {i : Nat} {o : Oper} {K : Act → World → Prop} {a : Act} {w : World} (ho : ops[i]? = some o) (hg : o.guard = none)
    (h : ∀ K' : Act → World → Prop, (∀ a w, K a w → K' a w) → Oper.wp P o a w K' Q) : wpOp P ops Q i K a w :=
  wpOp_step ho fun K' hK => by rw [if_pos (by simp [Region.wanted, hg])]; exact h K' hK
/-- the frame, the start of a region known: a region that draws, by an invariant -/
theorem region_inv {id : Nat} {a0 : Act} {w0 : World} (I : Act → World → (Nat → Bool) → Act → World → Prop) (hm : P.follows .mixedOrders = true) (hord : ordered ops = true)
    (h0 : I a0 w0.drew (fun _ => false) a0 w0.drew)
    (hstep : ∀ L a w, I a0 w0.drew L a w → ∀ i o, ops[i]? = some o → L i = false → (∀ e ∈ o.after, Region.binds .any e = true → L e.on = true) → wpOp P ops Q i (fun a' w' => I a0 w0.drew (fun j => if j = i then true else L j) a' w') a w)
    (hdone : ∀ L a w, (∀ i, i < ops.size → L i = true) → I a0 w0.drew L a w → Q .normal a w) : (Code.region id ops true).wp P Q a0 w0 :=
  wp_region_any hm (any_inv (I a0 w0.drew) hord hstep hdone _ _ a0 w0.drew (by simp) (Nat.le_trans (List.length_filter_le _ _) (by simp)) (by
    have e : done (Array.replicate ops.size false) = fun _ => false := funext fun j => by
      unfold done
      rw [Array.getD_eq_getD_getElem?, Array.getElem?_replicate]
      split <;> rfl
    rw [e]
    exact h0))
end

section

variable {P : Program} {ops : Array Oper} {rest : List Oper} {o : Oper} {a : Act} {w : World} {Q : Exit → Act → World → Prop}
/-- an operation whose guard bids it run -/
theorem wpList_due (hw : Region.wanted o (yielded ops a.tmps) = true)
    (h : ∀ K : Act → World → Prop, (∀ a w, wpList P ops Q rest a w → K a w) → o.wp P a w K Q) : wpList P ops Q (o :: rest) a w :=
  wpList_step fun K hK => by rw [if_pos hw]; exact h K hK
theorem load_due (hw : Region.wanted o (yielded ops a.tmps) = true) (ty : TypeId) (x : Operand) (ho : o.op = .load ty x)
    (g : Nat) (hx : a.eval x = .pointer (some ⟨g, 0, none⟩)) (t : TypeId) (cs : Array Value) (fr : Nat × Nat) (d : TypeDesc) (hg : w.heap[g]? = some (.cells cs t fr))
    (hu : P.underlying ty = some d) (hd : (match d with | .struct _ | .array _ _ => true | _ => false) = true) (hi : (P.info? ty).map (·.size) = some cs.size)
    (h : wpList P ops Q rest (a.put o.dst (.agg cs)) w) : wpList P ops Q (o :: rest) a w :=
  wpList_due hw fun _ hK => wp_load_row ty x ho g hx t cs fr d hg hu hd hi (hK _ _ h)
end

end Go.Proofs.YtmjmkkdmphgdnaaDoor.wk

namespace Go.Proofs.YtmjmkkdmphgdnaaDoor.wi

open Go.ChangeShapes Go.WideShapes Go.ChangeAt Go.RowKit

theorem RB_new {w : World} {g : Nat} (hg : w.heap.size = g) (l : List UInt8) {cs : Array Value} (t : TypeId) (hcs : cs = (wp.bc l).toArray) : wp.RB (w.alloc (.cells cs t)) (some ⟨g, 0, none⟩) l := fun hl => by
  subst hg hcs
  exact ⟨w.heap.size, 0, rfl, by simp, fun j u hu => by
    have := wk.cells_new w (wp.bc l) t j (.int .u8 (u.toNat : Int)) (by simp [wp.bc, hu])
    rw [wk.add_at] at this
    exact this⟩
theorem RC_new {w : World} {g : Nat} (hg : w.heap.size = g) (xs : List Value) {cs : Array Value} (t : TypeId) (hcs : cs = xs.toArray) : wp.RC (w.alloc (.cells cs t)) (some ⟨g, 0, none⟩) xs := fun hl => by
  subst hg hcs
  exact ⟨w.heap.size, 0, rfl, by simp, fun j u hu => by
    have := wk.cells_new w xs t j u hu
    rw [wk.add_at] at this
    exact this⟩

end Go.Proofs.YtmjmkkdmphgdnaaDoor.wi

namespace Go.Proofs.YtmjmkkdmphgdnaaDoor.hi

open Go.ChangeShapes Go.WideShapes Go.ChangeAt Go.RowKit

set_option linter.unusedVariables false

theorem info55x : (Tryd.prog.info? 31).map (·.size) = some 16 := by kernel_rfl
def tagB (n : Int) : UInt8 := UInt8.ofNat (n % 256).toNat
theorem tagB_eq (n : Int) : IntKind.u8.wrap n = ((tagB n).toNat : Int) := by
  unfold tagB
  rw [IntKind.wrap_u8, UInt8.toNat_ofNat']
  omega
def fr1 (a0 : Act) (x5 x10 x11 x12 x13 x14 x15 : Value) : Act := { a0 with tmps := ((((((a0.tmps.setIfInBounds 5 x5).setIfInBounds 10 x10).setIfInBounds 11 x11).setIfInBounds 12 x12).setIfInBounds 13 x13).setIfInBounds 14 x14).setIfInBounds 15 x15 }
structure I1 (tag : Int) (w0 : World) (L : Nat → Bool) (x5 x10 x11 x12 x13 x14 x15 : Value) (g3 g6 : Nat) (old : Array Value) (w : World) : Prop where
  below : Below w0.heap.size w0 w
  c0 : L 0 = true → x10 = strV (hs.H0, []) 0
  c1 : L 1 = true → x11 = .int .i64 tag
  c2 : L 2 = true → x12 = .int .u8 ((tagB tag).toNat : Int)
  c3 : L 3 = true → x13 = .slice (some ⟨g3, 0, none⟩) 1 1
  r3 : L 3 = true → L 4 = false → wp.RB w (some ⟨g3, 0, none⟩) [tagB tag]
  k3 : L 3 = true → w0.heap.size ≤ g3
  c4 : L 4 = true → x14 = .string ⟨#[tagB tag]⟩
  c5 : L 5 = true → x15 = strV (hs.feed (hs.H0, []) [tagB tag]) 1
  c6 : L 6 = true → x5 = .pointer (some ⟨g6, 0, none⟩)
  k6 : L 6 = true → w0.heap.size ≤ g6
  r6 : L 6 = true → w.heap[g6]? = some (.cells old 98 (0, 0))
  z6 : L 6 = true → old.size = 73
  c7 : L 7 = true → old = (stC (hs.feed (hs.H0, []) [tagB tag]).1 (hs.blk (hs.feed (hs.H0, []) [tagB tag]).2) 1).toArray
  o5 : L 5 = true → L 4 = true
  o7 : L 7 = true → L 6 = true
def Inv1 (tag : Int) (a0 : Act) (w0 : World) (L : Nat → Bool) (a : Act) (w : World) : Prop := ∃ x5 x10 x11 x12 x13 x14 x15 g3 g6 old, a = fr1 a0 x5 x10 x11 x12 x13 x14 x15 ∧ I1 tag w0 L x5 x10 x11 x12 x13 x14 x15 g3 g6 old w
theorem I1.moved {tag : Int} {w0 : World} {L : Nat → Bool} {x5 x10 x11 x12 x13 x14 x15 : Value} {g3 g6 : Nat} {old : Array Value} {w w' : World} (h : I1 tag w0 L x5 x10 x11 x12 x13 x14 x15 g3 g6 old w) (hb : Below w.heap.size w w') : I1 tag w0 L x5 x10 x11 x12 x13 x14 x15 g3 g6 old w' :=
  ⟨h.below.trans (hb.mono h.below.size), h.c0, h.c1, h.c2, h.c3, fun h3 h4 => wk.RB.below (h.r3 h3 h4) hb, h.k3, h.c4, h.c5, h.c6, h.k6, fun h6 => wk.row_below (h.r6 h6) hb, h.z6, h.c7, h.o5, h.o7⟩

def fr2 (a0 : Act) (x22 x23 x24 x25 x26 : Value) : Act := { a0 with tmps := ((((a0.tmps.setIfInBounds 22 x22).setIfInBounds 23 x23).setIfInBounds 24 x24).setIfInBounds 25 x25).setIfInBounds 26 x26 }
def rowS (w : World) (g : Nat) (st : hs.S8 × List UInt8) (m : Nat) : Prop := w.heap[g]? = some (.cells (stC st.1 (hs.blk st.2) (m : Int)).toArray 98 (0, 0))
/-- what a round of Of's loop starts from -/
structure Ctx2 where
  wI : World
  g : Nat
  st : hs.S8 × List UInt8
  m : Nat
  s : ByteArray
structure I2 (C : Ctx2) (w0 : World) (L : Nat → Bool) (x22 x23 x24 x25 x26 : Value) (A : Option Addr) (n c : Nat) (w : World) : Prop where
  bel : Below C.wI.heap.size C.wI w
  oth : ∀ k, k < w0.heap.size → k ≠ C.g → w.heap[k]? = w0.heap[k]?
  siz : w0.heap.size ≤ w.heap.size
  r6 : L 5 = false → rowS w C.g C.st C.m
  c0 : L 0 = true → x22 = strV C.st (C.m : Int)
  c1 : L 1 = true → x23 = .string C.s
  c2 : L 2 = true → x24 = .slice A n c
  r2 : L 2 = true → L 3 = false → wp.RB w A (wp.encB C.s.data.toList)
  n2 : L 2 = true → (wp.encB C.s.data.toList).length = n
  c3 : L 3 = true → x25 = .string ⟨(wp.encB C.s.data.toList).toArray⟩
  c4 : L 4 = true → x26 = strV (hs.feed C.st (wp.encB C.s.data.toList)) ((C.m + (wp.encB C.s.data.toList).length : Nat) : Int)
  c5 : L 5 = true → rowS w C.g (hs.feed C.st (wp.encB C.s.data.toList)) (C.m + (wp.encB C.s.data.toList).length)
  o4 : L 4 = true → L 3 = true
  o40 : L 4 = true → L 0 = true
  o54 : L 5 = true → L 4 = true
  gI : C.wI.heap.size ≤ C.g
def Inv2 (C : Ctx2) (a0 : Act) (w0 : World) (L : Nat → Bool) (a : Act) (w : World) : Prop := ∃ x22 x23 x24 x25 x26 A n c, a = fr2 a0 x22 x23 x24 x25 x26 ∧ I2 C w0 L x22 x23 x24 x25 x26 A n c w
theorem I2.moved {C : Ctx2} {w0 : World} {L : Nat → Bool} {x22 x23 x24 x25 x26 : Value} {A : Option Addr} {n c : Nat} {w w' : World} (h : I2 C w0 L x22 x23 x24 x25 x26 A n c w) (hb : Below w.heap.size w w') : I2 C w0 L x22 x23 x24 x25 x26 A n c w' :=
  ⟨h.bel.trans (hb.mono h.bel.size), fun k hk hg => (hb.block k (Nat.lt_of_lt_of_le hk h.siz)).trans (h.oth k hk hg), Nat.le_trans h.siz hb.size, fun h5 => wk.row_below (h.r6 h5) hb, h.c0, h.c1, h.c2, fun h2 h3 => wk.RB.below (h.r2 h2 h3) hb, h.n2, h.c3, h.c4, fun h5 => wk.row_below (h.c5 h5) hb, h.o4, h.o40, h.o54, h.gI⟩

set_option maxRecDepth 100000 in
set_option maxHeartbeats 2000000 in
theorem of_calls (tag : Int) (A : Option Addr) (n c : Nat) (l : List ByteArray) (w : World) (hn : l.length = n) (hnc : n ≤ c) (hc : c ≤ 9223372036854775807) (hl : wp.RC w A (l.map Value.string)) (htag : -9223372036854775808 ≤ tag ∧ tag ≤ 9223372036854775807)
    (htot : 1 + (l.flatMap fun s => wp.encB s.data.toList).length ≤ 140737488355318) (hT : TabK w) :
    Calls Tryd.prog 37 #[.int .i64 tag, .slice A n c] w fun e w' => e = .returned (.agg (wp.bc ((hs.sha (tagB tag :: l.flatMap fun s => wp.encB s.data.toList)).take 16)).toArray) ∧ Below w.heap.size w w' := by
  have HT := Lib.hid hT
  clear hT
  go_enter Tryd.func37, Tryd.ntmps37
  go_upto_region 1 with fail
  have HB0 : Hid (Below w.heap.size w (w.alloc (.cells #[.int .u8 0, .int .u8 0, .int .u8 0, .int .u8 0, .int .u8 0, .int .u8 0, .int .u8 0, .int .u8 0, .int .u8 0, .int .u8 0, .int .u8 0, .int .u8 0, .int .u8 0, .int .u8 0, .int .u8 0, .int .u8 0] 31)).drew) := ((Below.refl _ _).alloc (Nat.le_refl _) _).drew
  refine wk.region_inv (Inv1 tag) (by kernel_rfl) (by kernel_rfl) ?h0 ?hstep ?hdone
  case h0 => exact ⟨undef, undef, undef, undef, undef, undef, undef, 0, 0, #[], by simp only [fr1, List.setIfInBounds_toArray, List.set_cons_zero, List.set_cons_succ], Below.refl _ _, by simp, by simp, by simp, by simp, by simp, by simp, by simp, by simp, by simp, by simp, by simp, by simp, by simp, by simp, by simp⟩
  case hstep =>
    intro L a w1 hI i o ho hLi hdep
    obtain ⟨x5, x10, x11, x12, x13, x14, x15, g3, g6, old, rfl, h⟩ := hI
    have hi : i < 8 := (Array.getElem?_eq_some_iff.1 ho).1
    have hi8 : i = 0 ∨ i = 1 ∨ i = 2 ∨ i = 3 ∨ i = 4 ∨ i = 5 ∨ i = 6 ∨ i = 7 := by omega
    rcases hi8 with rfl | rfl | rfl | rfl | rfl | rfl | rfl | rfl
    ·
      have ho2 := (Array.getElem?_eq_some_iff.1 ho).2
      simp only [List.getElem_toArray, List.getElem_cons_zero] at ho2
      subst ho2
      refine wk.op_step ho rfl fun K hK => ?_
      have HK := Lib.hid hK
      have H := Lib.hid h
      clear hK hdep ho h
      go_simp
      refine (begin_calls _).mono ?_
      rintro e w2 ⟨rfl, hb2⟩
      have h := H.out.moved hb2
      exact HK.out _ _ ⟨x5, strV (hs.H0, []) 0, x11, x12, x13, x14, x15, g3, g6, old, by simp only [fr1, List.setIfInBounds_toArray, List.set_cons_zero, List.set_cons_succ], h.below, fun _ => rfl, h.c1, h.c2, h.c3, h.r3, h.k3, h.c4, h.c5, h.c6, h.k6, h.r6, h.z6, h.c7, h.o5, h.o7⟩
    ·
      have ho2 := (Array.getElem?_eq_some_iff.1 ho).2
      simp only [List.getElem_toArray, List.getElem_cons_succ, List.getElem_cons_zero] at ho2
      subst ho2
      refine wk.op_step ho rfl fun K hK => ?_
      have HK := Lib.hid hK
      have H := Lib.hid h
      clear hK hdep ho h
      simp only [fr1, List.setIfInBounds_toArray, List.set_cons_zero, List.set_cons_succ]
      go_simp
      have h := H.out
      exact HK.out _ _ ⟨x5, x10, .int .i64 tag, x12, x13, x14, x15, g3, g6, old, by simp only [fr1, List.setIfInBounds_toArray, List.set_cons_zero, List.set_cons_succ], h.below, h.c0, fun _ => rfl, h.c2, h.c3, h.r3, h.k3, h.c4, h.c5, h.c6, h.k6, h.r6, h.z6, h.c7, h.o5, h.o7⟩
    ·
      have ho2 := (Array.getElem?_eq_some_iff.1 ho).2
      simp only [List.getElem_toArray, List.getElem_cons_succ, List.getElem_cons_zero] at ho2
      subst ho2
      have d1 : L 1 = true := hdep { on := 1, ground := .data } (by simp) rfl
      refine wk.op_step ho rfl fun K hK => ?_
      have HK := Lib.hid hK
      have H := Lib.hid h
      clear hK hdep ho h
      have h := H.out
      have e := h.c1 d1
      subst e
      simp only [fr1, List.setIfInBounds_toArray, List.set_cons_zero, List.set_cons_succ]
      clear h
      go_simp
      have h := H.out
      exact HK.out _ _ ⟨x5, x10, .int .i64 tag, .int .u8 (IntKind.u8.wrap tag), x13, x14, x15, g3, g6, old, by simp only [fr1, List.setIfInBounds_toArray, List.set_cons_zero, List.set_cons_succ], h.below, h.c0, fun _ => rfl, fun _ => by rw [tagB_eq], h.c3, h.r3, h.k3, h.c4, h.c5, h.c6, h.k6, h.r6, h.z6, h.c7, h.o5, h.o7⟩
    ·
      have ho2 := (Array.getElem?_eq_some_iff.1 ho).2
      simp only [List.getElem_toArray, List.getElem_cons_succ, List.getElem_cons_zero] at ho2
      subst ho2
      have d2 : L 2 = true := hdep { on := 2, ground := .data } (by simp) rfl
      refine wk.op_step ho rfl fun K hK => ?_
      have HK := Lib.hid hK
      have H := Lib.hid h
      clear hK hdep ho h
      have h := H.out
      have e := h.c2 d2
      subst e
      simp only [fr1, List.setIfInBounds_toArray, List.set_cons_zero, List.set_cons_succ]
      clear h
      go_simp
      have h := H.out.moved ((Below.refl _ _).alloc (Nat.le_refl _) (.cells #[.int .u8 ((tagB tag).toNat : Int)] 5))
      exact HK.out _ _ ⟨x5, x10, x11, .int .u8 ((tagB tag).toNat : Int), .slice (some ⟨w1.heap.size, 0, none⟩) 1 1, x14, x15, w1.heap.size, g6, old, by simp only [fr1, List.setIfInBounds_toArray, List.set_cons_zero, List.set_cons_succ], h.below, h.c0, h.c1, fun _ => rfl, fun _ => rfl, fun _ _ => wi.RB_new rfl [tagB tag] _ rfl, fun _ => H.out.below.size, h.c4, h.c5, h.c6, h.k6, h.r6, h.z6, h.c7, h.o5, h.o7⟩
    ·
      have ho2 := (Array.getElem?_eq_some_iff.1 ho).2
      simp only [List.getElem_toArray, List.getElem_cons_succ, List.getElem_cons_zero] at ho2
      subst ho2
      have d3 : L 3 = true := hdep { on := 3, ground := .data } (by simp) rfl
      refine wk.op_step ho rfl fun K hK => ?_
      have HK := Lib.hid hK
      have H := Lib.hid h
      clear hK hdep ho h
      have h := H.out
      have e := h.c3 d3
      have hr := h.r3 d3 hLi
      subst e
      simp only [fr1, List.setIfInBounds_toArray, List.set_cons_zero, List.set_cons_succ]
      have hconv := wk.conv_str w1 75 5 9 Tryd.underlying75 Tryd.underlying5 Tryd.underlying9 (some ⟨g3, 0, none⟩) 1 1 [tagB tag] rfl hr
      clear h hr
      go_simp
      have h := H.out
      exact HK.out _ _ ⟨x5, x10, x11, x12, .slice (some ⟨g3, 0, none⟩) 1 1, .string ⟨#[tagB tag]⟩, x15, g3, g6, old, by simp only [fr1, List.setIfInBounds_toArray, List.set_cons_zero, List.set_cons_succ], h.below, h.c0, h.c1, h.c2, fun _ => rfl, fun _ h4 => absurd h4 (by simp), h.k3, fun _ => rfl, h.c5, h.c6, h.k6, h.r6, h.z6, h.c7, fun _ => rfl, h.o7⟩
    ·
      have ho2 := (Array.getElem?_eq_some_iff.1 ho).2
      simp only [List.getElem_toArray, List.getElem_cons_succ, List.getElem_cons_zero] at ho2
      subst ho2
      have d0 : L 0 = true := hdep { on := 0, ground := .data } (by simp) rfl
      have d4 : L 4 = true := hdep { on := 4, ground := .data } (by simp) rfl
      refine wk.op_step ho rfl fun K hK => ?_
      have HK := Lib.hid hK
      have H := Lib.hid h
      clear hK hdep ho h
      have h := H.out
      have e := h.c0 d0
      subst e
      have e := h.c4 d4
      subst e
      have hA := add_calls (hs.H0, []) 0 ⟨#[tagB tag]⟩ w1 str_begin (by show 0 + 1 ≤ _; omega) (HT.out.below HT.out.1 (HB0.out.trans (h.below.mono HB0.out.size)))
      have HA : Hid (Calls Tryd.prog 61 #[strV (hs.H0, []) 0, .string ⟨#[tagB tag]⟩] w1 fun e w' => e = .returned (strV (hs.feed (hs.H0, []) [tagB tag]) 1) ∧ Below w1.heap.size w1 w') := hA
      clear h hA
      simp only [fr1, List.setIfInBounds_toArray, List.set_cons_zero, List.set_cons_succ]
      go_simp
      refine HA.out.mono ?_
      rintro e w2 ⟨rfl, hb2⟩
      have h := H.out.moved hb2
      exact HK.out _ _ ⟨x5, strV (hs.H0, []) 0, x11, x12, x13, .string ⟨#[tagB tag]⟩, strV (hs.feed (hs.H0, []) [tagB tag]) 1, g3, g6, old, by simp only [fr1, List.setIfInBounds_toArray, List.set_cons_zero, List.set_cons_succ], h.below, fun _ => rfl, h.c1, h.c2, h.c3, h.r3, h.k3, fun _ => rfl, fun _ => rfl, h.c6, h.k6, h.r6, h.z6, h.c7, fun _ => d4, h.o7⟩
    ·
      have ho2 := (Array.getElem?_eq_some_iff.1 ho).2
      simp only [List.getElem_toArray, List.getElem_cons_succ, List.getElem_cons_zero] at ho2
      subst ho2
      refine wk.op_step ho rfl fun K hK => ?_
      have HK := Lib.hid hK
      have H := Lib.hid h
      clear hK hdep ho h
      simp only [fr1, List.setIfInBounds_toArray, List.set_cons_zero, List.set_cons_succ]
      go_simp
      have h := H.out.moved ((Below.refl _ _).alloc (Nat.le_refl _) (.cells Tryd.zeroCells98 98))
      refine HK.out _ _ ⟨.pointer (some ⟨w1.heap.size, 0, none⟩), x10, x11, x12, x13, x14, x15, g3, w1.heap.size, Tryd.zeroCells98, by simp only [fr1, List.setIfInBounds_toArray, List.set_cons_zero, List.set_cons_succ], h.below, h.c0, h.c1, h.c2, h.c3, h.r3, h.k3, h.c4, h.c5, fun _ => rfl, fun _ => H.out.below.size, fun _ => heap_alloc_new _ _, fun _ => rfl, fun h7 => ?_, h.o5, fun _ => rfl⟩
      have := H.out.o7 h7
      rw [hLi] at this
      cases this
    ·
      have ho2 := (Array.getElem?_eq_some_iff.1 ho).2
      simp only [List.getElem_toArray, List.getElem_cons_succ, List.getElem_cons_zero] at ho2
      subst ho2
      have d5 : L 5 = true := hdep { on := 5, ground := .data } (by simp) rfl
      have d6 : L 6 = true := hdep { on := 6, ground := .data } (by simp) rfl
      refine wk.op_step ho rfl fun K hK => ?_
      have HK := Lib.hid hK
      have H := Lib.hid h
      clear hK hdep ho h
      have h := H.out
      have e := h.c5 d5
      subst e
      have e := h.c6 d6
      subst e
      have hr6 := h.r6 d6
      have hz6 := h.z6 d6
      clear h
      simp only [fr1, List.setIfInBounds_toArray, List.set_cons_zero, List.set_cons_succ]
      refine wp_store_row 98 (.tmp 5) (.tmp 15) rfl g6 (stC (hs.feed (hs.H0, []) [tagB tag]).1 (hs.blk (hs.feed (hs.H0, []) [tagB tag]).2) 1).toArray rfl rfl 98 old hr6 (size_toA size73 (stC_length rfl)) (by rw [hz6]; rfl) (Array.all_eq_true_iff_forall_mem.2 fun u hu => stC_ones _ _ _ u (by simpa using hu)) ?_
      have h := H.out
      refine HK.out _ _ ⟨.pointer (some ⟨g6, 0, none⟩), x10, x11, x12, x13, x14, strV (hs.feed (hs.H0, []) [tagB tag]) 1, g3, g6, (stC (hs.feed (hs.H0, []) [tagB tag]).1 (hs.blk (hs.feed (hs.H0, []) [tagB tag]).2) 1).toArray, by simp only [fr1, Act.put, List.setIfInBounds_toArray, List.set_cons_zero, List.set_cons_succ], wk.below_setRow h.below (h.k6 d6) _, h.c0, h.c1, h.c2, h.c3, fun h3 h4 => ?_, h.k3, h.c4, fun _ => rfl, fun _ => rfl, h.k6, fun _ => setRow_heap _ _ _ _ _ _ (h.r6 d6), fun _ => rfl, fun _ => rfl, h.o5, fun _ => d6⟩
      have h5 := h.o5 d5
      have h4' : L 4 = false := h4
      rw [h5] at h4'
      cases h4'
  case hdone =>
    intro L a w1 hL hI
    obtain ⟨x5, x10, x11, x12, x13, x14, x15, g3, g6, old, rfl, h⟩ := hI
    have e6 := h.c6 (hL 6 (by decide))
    have e7 := h.c7 (hL 7 (by decide))
    have r6 := h.r6 (hL 6 (by decide))
    have k6 := h.k6 (hL 6 (by decide))
    have hbz := h.below
    rw [e7] at r6
    subst e6
    clear h e7 hL
    have hdg : w1.heap[w.heap.size]? = some (.cells #[.int .u8 0, .int .u8 0, .int .u8 0, .int .u8 0, .int .u8 0, .int .u8 0, .int .u8 0, .int .u8 0, .int .u8 0, .int .u8 0, .int .u8 0, .int .u8 0, .int .u8 0, .int .u8 0, .int .u8 0, .int .u8 0] 31 (0, 0)) := by
      refine (hbz.block _ (by simp)).trans ?_
      exact heap_alloc_new w _
    have hbw := HB0.out.trans (hbz.mono HB0.out.size)
    have k6' : w.heap.size + 1 ≤ g6 := by have h : (w.alloc (.cells #[.int .u8 0, .int .u8 0, .int .u8 0, .int .u8 0, .int .u8 0, .int .u8 0, .int .u8 0, .int .u8 0, .int .u8 0, .int .u8 0, .int .u8 0, .int .u8 0, .int .u8 0, .int .u8 0, .int .u8 0, .int .u8 0] 31)).drew.heap.size = w.heap.size + 1 := by simp
                                          rw [h] at k6; exact k6
    clear hbz k6 HB0
    generalize hB : w.heap.size = B at *
    have HB := Lib.hid hB
    clear hB
    simp only [fr1, List.setIfInBounds_toArray, List.set_cons_zero, List.set_cons_succ]
    have R6 := Lib.hid r6
    have RD := Lib.hid hdg
    have RB := Lib.hid hbw
    clear r6 hdg hbw
    go_wp2_with fail
    have HL := Lib.hid hl
    have HN := Lib.hid hn
    have HTOT := Lib.hid htot
    clear hl hn htot
    go_loopg [18] n (fun g x wr => ∃ k : Nat, k + g = n ∧ x = .int .i64 (k : Int) ∧ rowS wr g6 (hs.feed (hs.H0, []) (tagB tag :: (l.take k).flatMap fun s => wp.encB s.data.toList)) (1 + ((l.take k).flatMap fun s => wp.encB s.data.toList).length) ∧ wr.heap[B]? = some (.cells #[.int .u8 0, .int .u8 0, .int .u8 0, .int .u8 0, .int .u8 0, .int .u8 0, .int .u8 0, .int .u8 0, .int .u8 0, .int .u8 0, .int .u8 0, .int .u8 0, .int .u8 0, .int .u8 0, .int .u8 0, .int .u8 0] 31 (0, 0)) ∧ Below B w wr)
    case atStart => exact ⟨0, by omega, rfl, R6.out, RD.out, RB.out⟩
    case round =>
      obtain ⟨k, hk, rfl, hrow, hdg, hbel⟩ := hrel
      have HK0 := Lib.hid hk
      have R6 := Lib.hid hrow
      have RD := Lib.hid hdg
      have RB := Lib.hid hbel
      have hkn : k ≤ n := by omega
      clear hrow hdg hbel hk
      by_cases hlt : k < n
      · have hkl : k < l.length := by have := HN.out; omega
        have hlk : l[k]? = some l[k] := List.getElem?_eq_getElem hkl
        obtain ⟨b, o, rfl, hbw, hcell⟩ := HL.out (by simp; omega)
        have hck : wr.cell? ⟨b, o + k, none⟩ = some (.string l[k]) := by
          rw [RB.out.cell (p := ⟨b, o + k, none⟩) (by rw [← HB.out]; exact hbw)]
          exact hcell k _ (by simp [hlk])
        have HS := Lib.hid (wp.flat_snoc (fun s => wp.encB s.data.toList) hlk)
        have HLE := Lib.hid (wp.flat_le (fun s => wp.encB s.data.toList) l (k + 1))
        have HSTR : Hid (Str (hs.feed (hs.H0, []) (tagB tag :: (l.take k).flatMap fun s => wp.encB s.data.toList)) (1 + ((l.take k).flatMap fun s => wp.encB s.data.toList).length)) := by
          have := str_begin.feed (tagB tag :: (l.take k).flatMap fun s => wp.encB s.data.toList)
          rw [List.length_cons, Nat.add_comm _ 1, Nat.zero_add] at this
          exact this
        clear hcell hlk
        generalize l[k] = s at *
        generalize hP : (l.take k).flatMap (fun s => wp.encB s.data.toList) = Pk at *
        have HP := Lib.hid hP
        clear hP
        generalize hst : hs.feed (hs.H0, []) (tagB tag :: Pk) = st at *
        have HST := Lib.hid hst
        clear hst
        have HM : Hid (1 + Pk.length + (wp.encB s.data.toList).length ≤ 140737488355318) := by
          have h1 := HLE.out
          rw [HS.out, List.length_append] at h1
          have h2 := HTOT.out
          show _ ≤ _; omega
        go_upto_region 5 with fail
        obtain ⟨C, hC⟩ : ∃ C : Ctx2, C = ⟨w, g6, st, 1 + Pk.length, s⟩ := ⟨_, rfl⟩
        have HCG : Hid (C.g = g6) := by rw [hC]; rfl
        have HCS : Hid (C.s = s) := by rw [hC]; rfl
        have HCT : Hid (Str C.st C.m) := by rw [hC]; exact HSTR.out
        have HCI : Hid (C.wI = w) := by rw [hC]; rfl
        have HCM : Hid (C.m + (wp.encB C.s.data.toList).length ≤ 140737488355318) := by rw [hC]; exact HM.out
        have HBK : Hid ((hs.blk C.st.2).length = 64) := hs.blk_length (by have := HCT.out.lt; omega)
        have HBK2 : Hid ((hs.blk (hs.feed C.st (wp.encB C.s.data.toList)).2).length = 64) := hs.blk_length (by have := (HCT.out.feed (wp.encB C.s.data.toList)).lt; omega)
        have HSZ : Hid (s.size ≤ 140737488355318) := by
          have h1 := HM.out
          rw [wp.encB_eq, List.length_append] at h1
          have h2 : s.data.toList.length = s.size := by rw [Array.length_toList]; rfl
          show _ ≤ _; omega
        have HC := Lib.hid hC
        clear hC
        refine wk.region_inv (Inv2 C) (by kernel_rfl) (by kernel_rfl) ?g0 ?gstep ?gdone
        case g0 =>
          have hC := HC.out
          clear HC HCG HCS HCT HCI HCM HBK HBK2
          subst hC
          exact ⟨u22, u23, u24, u25, u26, none, 0, 0, by simp only [fr2, List.setIfInBounds_toArray, List.set_cons_zero, List.set_cons_succ], by rw [HB.out]; exact RB.out.drew, fun _ _ _ => rfl, Nat.le_refl _, fun _ => R6.out, by simp, by simp, by simp, by simp, by simp, by simp, by simp, by simp, by simp, by simp, by simp, by show w.heap.size ≤ g6; rw [HB.out]; omega⟩
        case gstep =>
          intro L a w1 hI i o ho hLi hdep
          obtain ⟨x22, x23, x24, x25, x26, A2, n2, c2, rfl, h⟩ := hI
          have hi : i < 6 := (Array.getElem?_eq_some_iff.1 ho).1
          have hi8 : i = 0 ∨ i = 1 ∨ i = 2 ∨ i = 3 ∨ i = 4 ∨ i = 5 := by omega
          rcases hi8 with rfl | rfl | rfl | rfl | rfl | rfl
          ·
            have ho2 := (Array.getElem?_eq_some_iff.1 ho).2
            simp only [List.getElem_toArray, List.getElem_cons_zero] at ho2
            subst ho2
            refine wk.op_step ho rfl fun K hK => ?_
            have HK := Lib.hid hK
            have H := Lib.hid h
            clear hK hdep ho h
            simp only [fr2, List.setIfInBounds_toArray, List.set_cons_zero, List.set_cons_succ]
            have hL5 : L 5 = false := by
              cases h5 : L 5 with
              | false => rfl
              | true => exact absurd (H.out.o40 (H.out.o54 h5)) (by rw [hLi]; simp)
            have hg := H.out.r6 hL5
            unfold rowS at hg
            have hz := size_toA size73 (stC_length (v := C.st.1) (n := (C.m : Int)) HBK.out)
            refine wp_load_row 98 (.tmp 5) rfl g6 rfl 98 (stC C.st.1 (hs.blk C.st.2) (C.m : Int)).toArray (0, 0) _ (by rw [HCG.out] at hg; exact hg) Tryd.underlying98 rfl hz ?_
            have h := H.out
            exact HK.out _ _ ⟨.agg (stC C.st.1 (hs.blk C.st.2) (C.m : Int)).toArray, x23, x24, x25, x26, A2, n2, c2, by simp only [fr2, Act.put, List.setIfInBounds_toArray, List.set_cons_zero, List.set_cons_succ], h.bel, h.oth, h.siz, h.r6, fun _ => rfl, h.c1, h.c2, h.r2, h.n2, h.c3, h.c4, h.c5, h.o4, fun _ => rfl, h.o54, h.gI⟩
          ·
            have ho2 := (Array.getElem?_eq_some_iff.1 ho).2
            simp only [List.getElem_toArray, List.getElem_cons_succ, List.getElem_cons_zero] at ho2
            subst ho2
            refine wk.op_step ho rfl fun K hK => ?_
            have HK := Lib.hid hK
            have H := Lib.hid h
            clear hK hdep ho h
            simp only [fr2, List.setIfInBounds_toArray, List.set_cons_zero, List.set_cons_succ]
            go_simp
            have h := H.out
            exact HK.out _ _ ⟨x22, .string s, x24, x25, x26, A2, n2, c2, by simp only [fr2, List.setIfInBounds_toArray, List.set_cons_zero, List.set_cons_succ], h.bel, h.oth, h.siz, h.r6, h.c0, fun _ => by rw [HCS.out], h.c2, h.r2, h.n2, h.c3, h.c4, h.c5, h.o4, h.o40, h.o54, h.gI⟩
          ·
            have ho2 := (Array.getElem?_eq_some_iff.1 ho).2
            simp only [List.getElem_toArray, List.getElem_cons_succ, List.getElem_cons_zero] at ho2
            subst ho2
            have d1 : L 1 = true := hdep { on := 1, ground := .data } (by simp) rfl
            refine wk.op_step ho rfl fun K hK => ?_
            have HK := Lib.hid hK
            have H := Lib.hid h
            clear hK hdep ho h
            have e := H.out.c1 d1
            rw [HCS.out] at e
            subst e
            simp only [fr2, List.setIfInBounds_toArray, List.set_cons_zero, List.set_cons_succ]
            go_simp
            refine (wi.bytes_out s w1 HSZ.out).mono ?_
            rintro e w2 ⟨v, rfl, hown, hb2⟩
            obtain ⟨A3, c3, rfl, hc31, hc32, hR⟩ := wp.RC.of_own hown
            have h := H.out.moved hb2
            exact HK.out _ _ ⟨x22, .string s, .slice A3 (wp.encB s.data.toList).length c3, x25, x26, A3, (wp.encB s.data.toList).length, c3, by simp only [fr2, List.setIfInBounds_toArray, List.set_cons_zero, List.set_cons_succ], h.bel, h.oth, h.siz, h.r6, h.c0, h.c1, fun _ => rfl, fun _ _ => by rw [HCS.out]; exact hR.rb, fun _ => by rw [HCS.out], h.c3, h.c4, h.c5, h.o4, h.o40, h.o54, h.gI⟩
          ·
            have ho2 := (Array.getElem?_eq_some_iff.1 ho).2
            simp only [List.getElem_toArray, List.getElem_cons_succ, List.getElem_cons_zero] at ho2
            subst ho2
            have d2 : L 2 = true := hdep { on := 2, ground := .data } (by simp) rfl
            refine wk.op_step ho rfl fun K hK => ?_
            have HK := Lib.hid hK
            have H := Lib.hid h
            clear hK hdep ho h
            have h := H.out
            have e := h.c2 d2
            have hr := h.r2 d2 hLi
            have hn2 := h.n2 d2
            subst e
            simp only [fr2, List.setIfInBounds_toArray, List.set_cons_zero, List.set_cons_succ]
            have hconv := wk.conv_str w1 75 5 9 Tryd.underlying75 Tryd.underlying5 Tryd.underlying9 A2 n2 c2 _ hn2 hr
            clear h hr hn2
            go_simp
            have h := H.out
            exact HK.out _ _ ⟨x22, x23, .slice A2 n2 c2, .string ⟨(wp.encB C.s.data.toList).toArray⟩, x26, A2, n2, c2, by simp only [fr2, List.setIfInBounds_toArray, List.set_cons_zero, List.set_cons_succ], h.bel, h.oth, h.siz, h.r6, h.c0, h.c1, fun _ => rfl, fun _ h3 => absurd h3 (by simp), h.n2, fun _ => rfl, h.c4, h.c5, fun _ => rfl, h.o40, h.o54, h.gI⟩
          ·
            have ho2 := (Array.getElem?_eq_some_iff.1 ho).2
            simp only [List.getElem_toArray, List.getElem_cons_succ, List.getElem_cons_zero] at ho2
            subst ho2
            have d0 : L 0 = true := hdep { on := 0, ground := .data } (by simp) rfl
            have d3 : L 3 = true := hdep { on := 3, ground := .data } (by simp) rfl
            refine wk.op_step ho rfl fun K hK => ?_
            have HK := Lib.hid hK
            have H := Lib.hid h
            clear hK hdep ho h
            have h := H.out
            have e := h.c0 d0
            subst e
            have e := h.c3 d3
            subst e
            have hA := add_calls C.st C.m ⟨(wp.encB C.s.data.toList).toArray⟩ w1 HCT.out (by show C.m + (wp.encB C.s.data.toList).toArray.size ≤ _; rw [List.size_toArray]; have := HCM.out; omega) (HT.out.below HT.out.1 (by have := h.bel; rw [HCI.out] at this; exact this))
            have HA : Hid (Calls Tryd.prog 61 #[strV C.st (C.m : Int), .string ⟨(wp.encB C.s.data.toList).toArray⟩] w1 fun e w' => e = .returned (strV (hs.feed C.st (wp.encB C.s.data.toList)) ((C.m + (wp.encB C.s.data.toList).length : Nat) : Int)) ∧ Below w1.heap.size w1 w') := hA
            clear h hA
            simp only [fr2, List.setIfInBounds_toArray, List.set_cons_zero, List.set_cons_succ]
            go_simp
            refine HA.out.mono ?_
            rintro e w2 ⟨rfl, hb2⟩
            have h := H.out.moved hb2
            exact HK.out _ _ ⟨strV C.st (C.m : Int), x23, x24, .string ⟨(wp.encB C.s.data.toList).toArray⟩, strV (hs.feed C.st (wp.encB C.s.data.toList)) ((C.m + (wp.encB C.s.data.toList).length : Nat) : Int), A2, n2, c2, by simp only [fr2, List.setIfInBounds_toArray, List.set_cons_zero, List.set_cons_succ], h.bel, h.oth, h.siz, h.r6, h.c0, h.c1, h.c2, h.r2, h.n2, h.c3, fun _ => rfl, h.c5, fun _ => d3, fun _ => d0, fun _ => rfl, h.gI⟩
          ·
            have ho2 := (Array.getElem?_eq_some_iff.1 ho).2
            simp only [List.getElem_toArray, List.getElem_cons_succ, List.getElem_cons_zero] at ho2
            subst ho2
            have d4 : L 4 = true := hdep { on := 4, ground := .data } (by simp) rfl
            refine wk.op_step ho rfl fun K hK => ?_
            have HK := Lib.hid hK
            have H := Lib.hid h
            clear hK hdep ho h
            have h := H.out
            have e := h.c4 d4
            subst e
            have hg := h.r6 hLi
            unfold rowS at hg
            rw [HCG.out] at hg
            clear h
            simp only [fr2, List.setIfInBounds_toArray, List.set_cons_zero, List.set_cons_succ]
            refine wp_store_row 98 (.tmp 5) (.tmp 26) rfl g6 (stC (hs.feed C.st (wp.encB C.s.data.toList)).1 (hs.blk (hs.feed C.st (wp.encB C.s.data.toList)).2) ((C.m + (wp.encB C.s.data.toList).length : Nat) : Int)).toArray rfl rfl 98 _ hg (size_toA size73 (stC_length HBK2.out)) (by rw [List.size_toArray, List.size_toArray, stC_length HBK.out, stC_length HBK2.out]) (Array.all_eq_true_iff_forall_mem.2 fun u hu => stC_ones _ _ _ u (by simpa using hu)) ?_
            have h := H.out
            refine HK.out _ _ ⟨x22, x23, x24, x25, strV (hs.feed C.st (wp.encB C.s.data.toList)) ((C.m + (wp.encB C.s.data.toList).length : Nat) : Int), A2, n2, c2, by simp only [fr2, Act.put, List.setIfInBounds_toArray, List.set_cons_zero, List.set_cons_succ], wk.below_setRow h.bel (by have := h.gI; rw [HCG.out] at this; exact this) _, fun k hk hg => ?_, by rw [size_setRow]; exact h.siz, fun h5 => absurd h5 (by simp), h.c0, h.c1, h.c2, fun h2 h3 => ?_, h.n2, h.c3, fun _ => rfl, fun _ => ?_, h.o4, h.o40, fun _ => d4, h.gI⟩
            · rw [setRow_other _ _ _ _ (by rw [HCG.out] at hg; exact hg)]; exact h.oth k hk hg
            · have h4 := h.o4 d4
              have h3' : L 3 = false := h3
              rw [h4] at h3'
              cases h3'
            · unfold rowS
              rw [HCG.out]
              exact setRow_heap _ _ _ _ _ _ hg
        case gdone =>
          intro L a w1 hL hI
          obtain ⟨x22, x23, x24, x25, x26, A2, n2, c2, rfl, h⟩ := hI
          have r6 := Lib.hid (h.c5 (hL 5 (by decide)))
          have rd : Hid (w1.heap[B]? = some (.cells #[.int .u8 0, .int .u8 0, .int .u8 0, .int .u8 0, .int .u8 0, .int .u8 0, .int .u8 0, .int .u8 0, .int .u8 0, .int .u8 0, .int .u8 0, .int .u8 0, .int .u8 0, .int .u8 0, .int .u8 0, .int .u8 0] 31 (0, 0))) := (h.oth B (wk.row_lt RD.out) (by rw [HCG.out]; omega)).trans RD.out
          have rb : Hid (Below B w w1) := by have := h.bel; rw [HCI.out, HB.out] at this; exact this
          clear h hL
          simp only [fr2, List.setIfInBounds_toArray, List.set_cons_zero, List.set_cons_succ]
          go_wp2_with fail
          go_roundg (gk - 1)
          case measure => have := HK0.out; omega
          case rel =>
            refine ⟨k + 1, by have := HK0.out; omega, by go_num, ?_, rd.out, rb.out⟩
            have h := r6.out
            rw [HC.out] at h
            have e : hs.feed (hs.H0, []) (tagB tag :: (l.take (k + 1)).flatMap fun s => wp.encB s.data.toList) = hs.feed st (wp.encB s.data.toList) := by
              rw [HS.out, ← HST.out, ← hs.feed_append]
              rfl
            rw [e, HS.out, List.length_append, ← Nat.add_assoc]
            exact h
      · obtain rfl : k = n := by omega
        have hkl : l.take k = l := by rw [← HN.out]; exact List.take_length
        have h6 := R6.out
        rw [hkl] at h6
        have HSTR : Hid (Str (hs.feed (hs.H0, []) (tagB tag :: l.flatMap fun s => wp.encB s.data.toList)) (1 + (l.flatMap fun s => wp.encB s.data.toList).length)) := by
          have := str_begin.feed (tagB tag :: l.flatMap fun s => wp.encB s.data.toList)
          rw [List.length_cons, Nat.add_comm _ 1, Nat.zero_add] at this
          exact this
        have HSHA : Hid (hs.out (hs.fin (hs.feed (hs.H0, []) (tagB tag :: l.flatMap fun s => wp.encB s.data.toList)) (1 + (l.flatMap fun s => wp.encB s.data.toList).length)) = hs.sha (tagB tag :: l.flatMap fun s => wp.encB s.data.toList)) := by
          have := sha_eq (tagB tag :: l.flatMap fun s => wp.encB s.data.toList)
          rw [List.length_cons, Nat.add_comm _ 1] at this
          exact this
        have htot := HTOT.out
        unfold rowS at h6
        generalize hMe : (l.flatMap fun s => wp.encB s.data.toList) = M at *
        have HME := Lib.hid hMe
        clear hMe
        generalize hs.feed (hs.H0, []) (tagB tag :: M) = st at *
        have hbl : (hs.blk st.2).length = 64 := hs.blk_length (by have := HSTR.out.lt; omega)
        have hz := size_toA size73 (stC_length (v := st.1) (n := ((1 + M.length : Nat) : Int)) hbl)
        have hTk := HT.out.below HT.out.1 (by have := RB.out; rw [← HB.out] at this; exact this)
        have HSC := Lib.hid (fun w' hT => sum_calls st (1 + M.length) w' HSTR.out (by omega) hT)
        rw [HSHA.out] at HSC
        have HTK := Lib.hid hTk
        have RD := Lib.hid RD.out
        clear hkl hbl hTk R6
        go_wp2_with (refine wpList_load_row rfl 98 (.tmp 5) rfl g6 rfl 98 (stC st.1 (hs.blk st.2) ((1 + M.length : Nat) : Int)).toArray (0, 0) _ h6 Tryd.underlying98 rfl hz ?_)
        refine (HSC.out wr HTK.out).mono ?_
        rintro e w2 ⟨rfl, hb2⟩
        have RD2 := Lib.hid (wk.row_below RD.out hb2)
        have RB2 := Lib.hid (RB.out.trans (hb2.mono (by have := wk.row_lt RD.out; omega)))
        have hcl : (wp.bc (hs.sha (tagB tag :: M))).length = 32 := by rw [wp.bc_length]; rfl
        generalize hsha : hs.sha (tagB tag :: M) = sh at *
        have HSH := Lib.hid hsha
        have hsl : sh.length = 32 := by rw [wp.bc_length] at hcl; exact hcl
        have HSL := Lib.hid hsl
        have hz32 := size_to size32 hcl
        have hz33 : z32.size = (wp.bc sh).length := by rw [hcl]; rfl
        unfold z32 at hz33
        have ho := wk.ones_bc sh
        clear hsha hcl hb2 h6 hz HSC HTK
        go_upto_region 9 with (refine wk.store_new rfl 102 (.tmp 8) (.tmp 29) rfl 102 _ (wp.bc sh) rfl rfl hz32 hz33 ho ?_)
        have q8 : ((w2.alloc (.cells (wp.bc sh).toArray 102)).alloc (.cells #[.int .u8 0, .int .u8 0, .int .u8 0, .int .u8 0, .int .u8 0, .int .u8 0, .int .u8 0, .int .u8 0, .int .u8 0, .int .u8 0, .int .u8 0, .int .u8 0, .int .u8 0, .int .u8 0, .int .u8 0, .int .u8 0] 31)).heap[w2.heap.size]? = some (.cells (wp.bc sh).toArray 102 (0, 0)) := heap_alloc2_old _ _ _
        have q9 : ((w2.alloc (.cells (wp.bc sh).toArray 102)).alloc (.cells #[.int .u8 0, .int .u8 0, .int .u8 0, .int .u8 0, .int .u8 0, .int .u8 0, .int .u8 0, .int .u8 0, .int .u8 0, .int .u8 0, .int .u8 0, .int .u8 0, .int .u8 0, .int .u8 0, .int .u8 0, .int .u8 0] 31)).heap[w2.heap.size + 1]? = some (.cells #[.int .u8 0, .int .u8 0, .int .u8 0, .int .u8 0, .int .u8 0, .int .u8 0, .int .u8 0, .int .u8 0, .int .u8 0, .int .u8 0, .int .u8 0, .int .u8 0, .int .u8 0, .int .u8 0, .int .u8 0, .int .u8 0] 31 (0, 0)) := heap_alloc2_new _ _ _
        have qb : Below w2.heap.size w2 ((w2.alloc (.cells (wp.bc sh).toArray 102)).alloc (.cells #[.int .u8 0, .int .u8 0, .int .u8 0, .int .u8 0, .int .u8 0, .int .u8 0, .int .u8 0, .int .u8 0, .int .u8 0, .int .u8 0, .int .u8 0, .int .u8 0, .int .u8 0, .int .u8 0, .int .u8 0, .int .u8 0] 31)) := ((Below.refl _ _).alloc (Nat.le_refl _) _).alloc (by simp) _
        have RD3 := Lib.hid (wk.row_below RD2.out qb)
        have RB3 := Lib.hid (RB2.out.trans (qb.mono (by have := wk.row_lt RD2.out; omega)))
        have HBG : Hid (B < w2.heap.size) := wk.row_lt RD2.out
        generalize (w2.alloc (.cells (wp.bc sh).toArray 102)).alloc (.cells #[.int .u8 0, .int .u8 0, .int .u8 0, .int .u8 0, .int .u8 0, .int .u8 0, .int .u8 0, .int .u8 0, .int .u8 0, .int .u8 0, .int .u8 0, .int .u8 0, .int .u8 0, .int .u8 0, .int .u8 0, .int .u8 0] 31) = w3 at *
        generalize w2.heap.size = G at *
        have R8 := Lib.hid q8
        have R9 := Lib.hid q9
        clear q8 q9 qb hz32 hz33 ho
        have hsrc : ∀ j v, (wp.bc (sh.take 16))[j]? = some v → w3.drew.cell? ((⟨G, 0, none⟩ : Addr).add j) = some v := fun j v hv => by
          rw [wk.add_at, Nat.zero_add]
          refine (cell_of_row w3 _ _ _ _ _ R8.out).trans ?_
          rw [List.getElem?_toArray]
          rw [show wp.bc (sh.take 16) = (wp.bc sh).take 16 from by simp [wp.bc, List.map_take], List.getElem?_take] at hv
          split at hv
          · exact hv
          · cases hv
        have hlen16 : (wp.bc (sh.take 16)).length = 16 := by rw [wp.bc_length, List.length_take]; omega
        have HSRC := Lib.hid hsrc
        have HL16 := Lib.hid hlen16
        clear hsrc hlen16 hsl
        go_region_law (refine step_copy_splice rfl (.tmp 30) (.tmp 31) 75 75 rfl 5 Tryd.underlying75 size_u8 (some ⟨G + 1, 0, none⟩) (some ⟨G, 0, none⟩) 16 16 32 32 rfl rfl (G + 1) 0 [.int .u8 0, .int .u8 0, .int .u8 0, .int .u8 0, .int .u8 0, .int .u8 0, .int .u8 0, .int .u8 0, .int .u8 0, .int .u8 0, .int .u8 0, .int .u8 0, .int .u8 0, .int .u8 0, .int .u8 0, .int .u8 0] 31 R9.out (wp.bc (sh.take 16)) (by rw [HL16.out]; rfl) (fun _ => ⟨rfl, _, rfl, HSRC.out⟩) (by rw [HL16.out]; decide) (wk.ones_bc _) (G + 1) w3.drew (Below.refl _ _) (Nat.le_refl _) ?_; intro w4 hg4 hb4)
        have h9 : w4.heap[G + 1]? = some (.cells (wp.bc (sh.take 16)).toArray 31 (0, 0)) := by
          have h := hg4.out
          have e : Go.splice [.int .u8 0, .int .u8 0, .int .u8 0, .int .u8 0, .int .u8 0, .int .u8 0, .int .u8 0, .int .u8 0, .int .u8 0, .int .u8 0, .int .u8 0, .int .u8 0, .int .u8 0, .int .u8 0, .int .u8 0, .int .u8 0] 0 (wp.bc (sh.take 16)) = wp.bc (sh.take 16) := by
            unfold Go.splice
            rw [HL16.out]
            simp
          rw [e] at h
          exact h
        have RD4 : w4.heap[B]? = some (.cells #[.int .u8 0, .int .u8 0, .int .u8 0, .int .u8 0, .int .u8 0, .int .u8 0, .int .u8 0, .int .u8 0, .int .u8 0, .int .u8 0, .int .u8 0, .int .u8 0, .int .u8 0, .int .u8 0, .int .u8 0, .int .u8 0] 31 (0, 0)) := (hb4.block B (by have := HBG.out; omega)).trans RD3.out
        have RB4 := Lib.hid (RB3.out.drew.trans (hb4.mono (by have := HBG.out; omega)))
        have hz1 := size_toA info55x HL16.out
        have hz2 := size_to info55x HL16.out
        have hz3 : (#[.int .u8 0, .int .u8 0, .int .u8 0, .int .u8 0, .int .u8 0, .int .u8 0, .int .u8 0, .int .u8 0, .int .u8 0, .int .u8 0, .int .u8 0, .int .u8 0, .int .u8 0, .int .u8 0, .int .u8 0, .int .u8 0] : Array Value).size = (wp.bc (sh.take 16)).length := by rw [HL16.out]; rfl
        have ho := wk.ones_bc (sh.take 16)
        clear hg4 hb4
        generalize hcs : wp.bc (sh.take 16) = cs at *
        have HCS := Lib.hid hcs
        clear hcs
        go_wp2_with (first | refine wpList_load_row rfl 31 (.tmp 9) rfl (G + 1) rfl 31 cs.toArray (0, 0) _ h9 Tryd.underlying31 rfl hz1 ?_ | refine wk.store_row rfl 31 (.tmp 4) (.tmp 33) rfl B cs rfl rfl 31 _ RD4 hz2 hz3 ho ?_)
        refine bodyPost_ret (v := .agg cs.toArray) (results_cell_row (fn := Tryd.f37) rfl _ _ B 31 cs.toArray (0, 0) _ rfl (setRow_heap _ _ _ _ _ _ RD4) Tryd.underlying31 rfl hz1) rfl ⟨?_, ?_⟩
        · rw [← HCS.out, ← HSH.out, ← HME.out]
        · rw [HB.out]; exact wk.below_setRow RB4.out (Nat.le_refl _) _
end Go.Proofs.YtmjmkkdmphgdnaaDoor.hi

namespace Go.Proofs.YtmjmkkdmphgdnaaDoor.hi

open Go.ChangeShapes Go.WideShapes Go.ChangeAt Go.RowKit

set_option linter.unusedVariables false

theorem xor8 (c d : UInt8) : bits .xor .u8 (c.toNat : Int) (d.toNat : Int) = ((c ^^^ d).toNat : Int) := by
  rw [UInt8.toNat_xor]
  exact hb.bits_xor_nat .u8 8 (by decide) hb.w8 c.toNat d.toNat c.toNat_lt d.toNat_lt

theorem own_new (w : World) (xs : List Value) (e : TypeId) (h : xs.length ≤ maxLen) : (w.alloc (.cells xs.toArray e)).ownsRow w.heap.size e 1 (.slice (some ⟨w.heap.size, 0, none⟩) xs.length xs.length) xs.length xs :=
  ⟨by rw [Nat.mul_one], .inr ⟨w.heap.size, xs.length, xs.toArray, rfl, Nat.le_refl _, heap_alloc_new _ _, Nat.le_refl _, h, by simp, by simp⟩⟩

set_option maxRecDepth 100000 in
set_option maxHeartbeats 1000000 in
theorem input_calls (tag : Int) (A : Option Addr) (n c : Nat) (l : List ByteArray) (w : World) (hn : l.length = n) (hnc : n ≤ c) (hc : c ≤ 9223372036854775807) (hl : wp.RC w A (l.map Value.string)) (htag : -9223372036854775808 ≤ tag ∧ tag ≤ 9223372036854775807)
    (htot : 1 + (l.flatMap fun s => wp.encB s.data.toList).length ≤ 140737488355318) :
    Calls Tryd.prog 65 #[.int .i64 tag, .slice A n c] w (wi.OutB (tagB tag :: l.flatMap fun s => wp.encB s.data.toList) w) := by
  obtain ⟨i0, hi, hz0, hz1, hz2⟩ := info_parts wi.info5
  have HL := Lib.hid hl
  have HN := Lib.hid hn
  have HT := Lib.hid htot
  clear hl hn htot
  have htg := tagB_eq tag
  generalize tagB tag = tb at *
  go_enter Tryd.func65, Tryd.ntmps65
  go_upto_region 2 with fail
  have hown0 : (w.alloc (.cells #[.int .u8 (tb.toNat : Int)] 5)).ownsRow w.heap.size 5 1 (.slice (some ⟨w.heap.size, 0, none⟩) 1 1) 1 (wp.bc [tb]) := own_new w (wp.bc [tb]) 5 (by rw [wp.bc_length]; show 1 ≤ maxLen; decide)
  have hbel0 : Below w.heap.size w (w.alloc (.cells #[.int .u8 (tb.toNat : Int)] 5)) := (Below.refl _ _).alloc (Nat.le_refl _) _
  generalize w.alloc (.cells #[.int .u8 (tb.toNat : Int)] 5) = w1 at *
  generalize (Value.slice (some ⟨w.heap.size, 0, none⟩) 1 1) = v0 at *
  generalize hB : w.heap.size = B at *
  have HB := Lib.hid hB
  have HO := Lib.hid hown0
  have HBL := Lib.hid hbel0
  clear hB hown0 hbel0
  go_wp2_with fail
  go_loopg [5, 6] n (fun g v x wr => ∃ k : Nat, k + g = n ∧ x = .int .i64 (k : Int) ∧ wr.ownsRow B 5 1 v (1 + ((l.take k).flatMap (fun s => wp.encB s.data.toList)).length) (wp.bc (tb :: (l.take k).flatMap (fun s => wp.encB s.data.toList))) ∧ Below B w wr)
  case atStart => exact ⟨0, by omega, rfl, HO.out, HBL.out⟩
  case round =>
    obtain ⟨k, hk, rfl, hown, hbel⟩ := hrel
    have HK := Lib.hid hk
    have hkn : k ≤ n := by omega
    have HBW : Hid (B ≤ wr.heap.size) := by have := hbel.size; have := HB.out; show _ ≤ _; omega
    have HBEL := Lib.hid hbel
    have HOWN := Lib.hid hown
    clear hk hown hbel
    by_cases hlt : k < n
    · have hkl : k < l.length := by have := HN.out; omega
      have hlk : l[k]? = some l[k] := List.getElem?_eq_getElem hkl
      obtain ⟨b, o, rfl, hbw, hcell⟩ := HL.out (by simp; omega)
      have hck : wr.cell? ⟨b, o + k, none⟩ = some (.string l[k]) := by
        rw [HBEL.out.cell (p := ⟨b, o + k, none⟩) (by rw [← HB.out]; exact hbw)]
        exact hcell k _ (by simp [hlk])
      have HS := Lib.hid (wp.flat_snoc (fun s => wp.encB s.data.toList) hlk)
      have hfl := wp.flat_le (fun s => wp.encB s.data.toList) l (k + 1)
      rw [HS.out, List.length_append] at hfl
      have htt := HT.out
      have HFL : Hid (1 + ((l.take k).flatMap (fun s => wp.encB s.data.toList)).length + (wp.encB l[k].data.toList).length ≤ 140737488355318) := by show _ ≤ _; omega
      clear hcell hlk hfl htt
      generalize l[k] = x at *
      generalize (l.take k).flatMap (fun s => wp.encB s.data.toList) = Pk at *
      go_wp2_with fail
      refine (wi.refBytes_out x wr (by have := HFL.out; have h3 := congrArg List.length (wp.encB_eq x); rw [List.length_append] at h3; have h4 : x.data.toList.length = x.size := by (rw [Array.length_toList]; rfl)
                                       omega)).mono ?_
      rintro e w2 ⟨v2, rfl, hown2, hbel2⟩
      obtain ⟨A2, c2, rfl, hc21, _, hR2⟩ := wp.RC.of_own hown2
      have hpos : 1 ≤ (wp.encB x.data.toList).length := by rw [wp.encB_eq, List.length_append]; have := wp.encI_pos (x.size : Int); omega
      obtain ⟨b2, o2, rfl, _, _⟩ := hR2.rb (by omega)
      have HR2 := Lib.hid (wk.RB.cells hR2.rb)
      have hownW := wk.ownsRow_below HOWN.out hbel2
      have HBW2 : Hid (B ≤ w2.heap.size) := by have := HBW.out; have := hbel2.size; show _ ≤ _; omega
      clear hown2 hR2 hpos
      go_wp2_with (at_builtin; refine wpList_append_own _ rfl _ _ 75 rfl B 5 i0 (.int .u8 0) 1 1 Tryd.underlying75 hi hz0 hz1 hz2 rfl (by decide) _ _ _ rfl hownW ⟨b2, o2, none⟩ _ _ (wp.bc (wp.encB x.data.toList)) rfl ?c0 HR2.out wp.bc_one ?c3 ?c4 ?c5 ?_)
      case c0 => rw [wp.bc_length, Nat.mul_one]
      case c3 => have := HFL.out; unfold maxLen; omega
      case c4 => have := HFL.out; omega
      case c5 => exact HBW2.out
      intro v3 w3 hown3 hgrow _
      go_wp2_with fail
      go_roundg (gk - 1)
      case measure => have := HK.out; omega
      case rel =>
        refine ⟨k + 1, by have := HK.out; omega, by go_num, ?_, (HBEL.out.trans (hbel2.mono HBW.out)).grown hgrow HBW2.out (fun q hq => (hownW.lt q hq).1)⟩
        rw [HS.out, ← List.cons_append, wp.bc_append, List.length_append, ← Nat.add_assoc]
        exact hown3
    · obtain rfl : k = n := by omega
      have hkl : l.take k = l := by rw [← HN.out]; exact List.take_length
      have h := HOWN.out
      rw [hkl] at h
      have H := Lib.hid h
      clear h hkl
      go_wp2_with fail
      go_ret
      refine ⟨_, rfl, ?_, by rw [HB.out]; exact HBEL.out⟩
      rw [List.length_cons, Nat.add_comm, HB.out]
      exact H.out
end Go.Proofs.YtmjmkkdmphgdnaaDoor.hi
