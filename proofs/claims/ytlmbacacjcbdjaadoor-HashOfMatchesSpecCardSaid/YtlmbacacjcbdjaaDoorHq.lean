
import Derived.Test.YtlmbacacjcbdjaaDoorHo

import Derived.Test.YtlmbacacjcbdjaaDoorHsy

import Derived.Deep.DeepCutAuto

namespace Go.Proofs.YtlmbacacjcbdjaaDoor.hi

open Go.ChangeShapes Go.WideShapes Go.ChangeAt Go.RowKit

set_option linter.unusedVariables false

theorem st_cell {w : World} {B : Nat} {v : hs.S8} {b : List UInt8} {n : Int} (h : w.heap[B]? = some (.cells (stC v b n).toArray 101 (0, 0))) {j : Nat} {x : UInt8} (hx : b[j]? = some x) : w.cell? ⟨B, 8 + j, none⟩ = some (.int .u8 (x.toNat : Int)) := by
  have hj : j < b.length := by
    rcases Nat.lt_or_ge j b.length with h' | h'
    · exact h'
    · rw [List.getElem?_eq_none h'] at hx; cases hx
  rw [cell_of_row _ _ _ _ _ _ h]
  unfold stC
  rw [List.getElem?_toArray, List.getElem?_append_right (by rw [u32s_l8_length]; omega), u32s_l8_length, Nat.add_sub_cancel_left, List.getElem?_append_left (by rw [wp.bc_length]; exact hj)]
  simp [wp.bc, hx]
theorem st_word {w : World} {B : Nat} {v : hs.S8} {b : List UInt8} {n : Int} (h : w.heap[B]? = some (.cells (stC v b n).toArray 101 (0, 0))) {j x : Nat} (hx : (l8 v)[j]? = some x) : w.cell? ⟨B, j, none⟩ = some (.int .u32 (x : Int)) := by
  have hj : j < (u32s (l8 v)).length := by
    rw [u32s_length]
    rcases Nat.lt_or_ge j (l8 v).length with h' | h'
    · exact h'
    · rw [List.getElem?_eq_none h'] at hx; cases hx
  rw [cell_of_row _ _ _ _ _ _ h]
  unfold stC
  rw [List.getElem?_toArray, List.getElem?_append_left hj]
  exact u32s_at hx
theorem st_size {w : World} {B : Nat} {v : hs.S8} {b : List UInt8} {n : Int} (h : w.heap[B]? = some (.cells (stC v b n).toArray 101 (0, 0))) (hb : b.length = 64) : w.cell? ⟨B, 72, none⟩ = some (.int .i64 n) := by
  unfold stC at h
  rw [← List.append_assoc] at h
  exact wk.cell_last h (by rw [List.length_append, u32s_l8_length, wp.bc_length, hb])
theorem st_set {w : World} {B : Nat} {v : hs.S8} {b : List UInt8} {n : Int} (h : w.heap[B]? = some (.cells (stC v b n).toArray 101 (0, 0))) {j : Nat} (hj : j < b.length) (x : UInt8) :
    (w.setCell ⟨B, 8 + j, none⟩ (.int .u8 (x.toNat : Int))).heap[B]? = some (.cells (stC v (b.set j x) n).toArray 101 (0, 0)) := by
  refine (heap_setCell_same _ _ _ _ _ _ h).trans ?_
  have : (stC v b n).toArray.setIfInBounds (8 + j) (.int .u8 (x.toNat : Int)) = (stC v (b.set j x) n).toArray := by
    apply Array.toList_inj.1
    simp only [stC, List.setIfInBounds_toArray]
    rw [List.set_append_right _ _ (by rw [u32s_l8_length]; omega), u32s_l8_length, Nat.add_sub_cancel_left, List.set_append_left _ _ (by rw [wp.bc_length]; exact hj)]
    simp [wp.bc, List.map_set]
  rw [this]
theorem bc_row_set {w : World} {G : Nat} {l : List UInt8} {t : TypeId} (h : w.heap[G]? = some (.cells (wp.bc l).toArray t (0, 0))) (k : Nat) (x : UInt8) :
    (w.setCell ⟨G, k, none⟩ (.int .u8 (x.toNat : Int))).heap[G]? = some (.cells (wp.bc (l.set k x)).toArray t (0, 0)) := by
  refine (heap_setCell_same _ _ _ _ _ _ h).trans ?_
  have : (wp.bc l).toArray.setIfInBounds k (.int .u8 (x.toNat : Int)) = (wp.bc (l.set k x)).toArray := by
    apply Array.toList_inj.1
    simp [wp.bc, List.map_set]
  rw [this]
theorem blk_set {l : List UInt8} (h : l.length < 64) (x : UInt8) : (hs.blk l).set l.length x = hs.blk (l ++ [x]) := by
  unfold hs.blk
  rw [List.set_append_right _ _ (Nat.le_refl _), Nat.sub_self, show 64 - l.length = (64 - (l ++ [x]).length) + 1 by simp; omega, List.replicate_succ]
  simp

theorem size32 : (Tryd.prog.info? 95).map (·.size) = some 32 := by kernel_rfl
def z32 : Array Value := #[.int .u8 0, .int .u8 0, .int .u8 0, .int .u8 0, .int .u8 0, .int .u8 0, .int .u8 0, .int .u8 0, .int .u8 0, .int .u8 0, .int .u8 0, .int .u8 0, .int .u8 0, .int .u8 0, .int .u8 0, .int .u8 0, .int .u8 0, .int .u8 0, .int .u8 0, .int .u8 0, .int .u8 0, .int .u8 0, .int .u8 0, .int .u8 0, .int .u8 0, .int .u8 0, .int .u8 0, .int .u8 0, .int .u8 0, .int .u8 0, .int .u8 0, .int .u8 0]

theorem fin_ok (s : hs.S8 × List UInt8) (n : Nat) : Ok8 (hs.fin s n) := by
  unfold hs.fin
  split <;> exact ok_plus _ _
theorem l8_lt {f : hs.S8} (h : Ok8 f) {q x : Nat} (hx : (l8 f)[q]? = some x) : x < 4294967296 := by
  have hm := List.mem_of_getElem? hx
  obtain ⟨a, b, c, d, e, f, g, k⟩ := h
  simp only [l8, List.mem_cons, List.not_mem_nil, or_false] at hm
  rcases hm with rfl | rfl | rfl | rfl | rfl | rfl | rfl | rfl <;> assumption
/-- the world once the mark is laid -/
def AfterPad (w : World) (B : Nat) (s0 : hs.S8 × List UInt8) (n : Nat) (wx : World) : Prop :=
  ∃ (v : hs.S8) (b : List UInt8), Ok8 v ∧ b.length = 64 ∧ hs.comp v (b.take 56 ++ hs.len8 n) = hs.fin s0 n ∧ wx.heap[B]? = some (.cells (stC v b (n : Int)).toArray 101 (0, 0)) ∧ wx.heap[B + 1]? = some (.cells z32 95 (0, 0)) ∧ Below B w wx

set_option maxRecDepth 100000 in
set_option maxHeartbeats 2000000 in
theorem sum_calls (s0 : hs.S8 × List UInt8) (n : Nat) (w : World) (hs0 : Str s0 n) (hn : n ≤ 1152921504606846976) (hT : TabK w) :
    Calls Tryd.prog 65 #[strV s0 (n : Int)] w fun e w' => e = .returned (.agg (wp.bc (hs.out (hs.fin s0 n))).toArray) ∧ Below w.heap.size w w' := by
  have HT := Lib.hid hT
  have HS := Lib.hid hs0
  obtain ⟨r, hr⟩ : ∃ r, r = n % 64 := ⟨_, rfl⟩
  have hr64 : r < 64 := by omega
  have hri : (n : Int) % 64 = (r : Int) := by omega
  have hrl := hs0.len
  rw [← hr] at hrl
  have HRL := Lib.hid hrl
  clear hT hs0 hrl hr
  unfold strV
  go_enter Tryd.func65, Tryd.ntmps65
  go_upto_region 1 with fail
  have q0 : ((w.alloc (.cells (stC s0.1 (hs.blk s0.2) (n : Int)).toArray 101)).alloc (.cells z32 95)).heap[w.heap.size]? = some (.cells (stC s0.1 (hs.blk s0.2) (n : Int)).toArray 101 (0, 0)) := heap_alloc2_old _ _ _
  have q1 : ((w.alloc (.cells (stC s0.1 (hs.blk s0.2) (n : Int)).toArray 101)).alloc (.cells z32 95)).heap[w.heap.size + 1]? = some (.cells z32 95 (0, 0)) := heap_alloc2_new _ _ _
  have qb : Below w.heap.size w ((w.alloc (.cells (stC s0.1 (hs.blk s0.2) (n : Int)).toArray 101)).alloc (.cells z32 95)) := ((Below.refl _ _).alloc (Nat.le_refl _) _).alloc (by simp) _
  unfold z32 at q0 q1 qb
  generalize (w.alloc (.cells (stC s0.1 (hs.blk s0.2) (n : Int)).toArray 101)).alloc (.cells #[.int .u8 0, .int .u8 0, .int .u8 0, .int .u8 0, .int .u8 0, .int .u8 0, .int .u8 0, .int .u8 0, .int .u8 0, .int .u8 0, .int .u8 0, .int .u8 0, .int .u8 0, .int .u8 0, .int .u8 0, .int .u8 0, .int .u8 0, .int .u8 0, .int .u8 0, .int .u8 0, .int .u8 0, .int .u8 0, .int .u8 0, .int .u8 0, .int .u8 0, .int .u8 0, .int .u8 0, .int .u8 0, .int .u8 0, .int .u8 0, .int .u8 0, .int .u8 0] 95) = W0 at *
  generalize hB : w.heap.size = B at *
  have HB := Lib.hid hB
  clear hB
  have hbl : (hs.blk s0.2).length = 64 := hs.blk_length (by have := HRL.out; omega)
  have c72 := st_size q0 hbl
  obtain ⟨z, hz⟩ : ∃ z, (hs.blk s0.2)[r]? = some z := ⟨_, List.getElem?_eq_getElem (by omega)⟩
  have cr := st_cell q0 hz
  have fr := frozen_of_row _ _ (8 + r) _ _ q0
  have QS := Lib.hid (st_set q0 (j := r) (by omega) 128)
  have QO : Hid ((W0.setCell ⟨B, 8 + r, none⟩ (.int .u8 128)).heap[B + 1]? = W0.heap[B + 1]?) := heap_setCell_other _ _ _ _ (by show B + 1 ≠ B; omega)
  have Q1 := Lib.hid q1
  have QB := Lib.hid qb
  have QB2 := Lib.hid (qb.setCell (p := ⟨B, 8 + r, none⟩) (Nat.le_refl _) (.int .u8 128))
  have HBL := Lib.hid hbl
  clear q0 q1 qb hz hbl
  go_upto_if 15 with fail
  have QS2 : Hid ((W0.setCell ⟨B, 8 + r, none⟩ (.int .u8 128)).heap[B]? = some (.cells (stC s0.1 (hs.blk (s0.2 ++ [128])) (n : Int)).toArray 101 (0, 0))) := by
    have h := QS.out
    have hl := HRL.out
    have h2 := blk_set (l := s0.2) (by omega) 128
    rw [hl] at h2
    rw [h2] at h
    exact h
  have hb2 : (hs.blk (s0.2 ++ [128])).length = 64 := hs.blk_length (by have := HRL.out; simp; omega)
  have HB2 := Lib.hid hb2
  have HNX := Lib.hid (fun w' hT => next_calls s0.1 (hs.blk (s0.2 ++ [128])) (n : Int) w' HS.out.ok hb2 hT)
  have hT1 := HT.out.below (by have := HT.out.1; have := HB.out; omega) QB2.out
  have HT1 := Lib.hid hT1
  clear hb2 hT1 c72 cr fr QS
  go_cut [1] from 3 to 17 (fun x wx => x = .pointer (some ⟨B, 0, none⟩) ∧ AfterPad w B s0 n wx)
  case first =>
    by_cases h56 : r < 56
    · go_wp2_with fail
      go_meet
      case rel =>
        exact ⟨rfl, s0.1, _, HS.out.ok, HB2.out, hs.fin_small n (by have := HRL.out; omega), QS2.out, QO.out.trans Q1.out, QB2.out⟩
    · have h56' : 56 ≤ r := by omega
      have hR3 := QS2.out
      have hsz3 := size_toA size73 (stC_length (v := s0.1) (n := (n : Int)) HB2.out)
      go_wp2_with (refine wpList_load_row rfl 101 (.tmp 1) rfl B rfl 101 (stC s0.1 (hs.blk (s0.2 ++ [128])) (n : Int)).toArray (0, 0) _ hR3 Tryd.underlying101 rfl hsz3 ?_)
      refine (HNX.out _ HT1.out).mono ?_
      rintro e w4 ⟨rfl, hb4⟩
      have q0 := wk.row_below hR3 hb4
      have q1 := Lib.hid (wk.row_below (QO.out.trans Q1.out) hb4)
      have hB4 := Lib.hid (QB2.out.trans (hb4.mono (by have := QB2.out.size; have := HB.out; omega)))
      have k1 := size_to size73 (stC_length (v := hs.comp s0.1 (hs.blk (s0.2 ++ [128]))) (blk := z64) (n := (n : Int)) rfl)
      have k2 : (stC s0.1 (hs.blk (s0.2 ++ [128])) (n : Int)).toArray.size = (stC (hs.comp s0.1 (hs.blk (s0.2 ++ [128]))) z64 (n : Int)).length := by rw [List.size_toArray, stC_length HB2.out, stC_length rfl]
      have k3 := stC_ones (hs.comp s0.1 (hs.blk (s0.2 ++ [128]))) z64 (n : Int)
      clear hb4 hR3 hsz3
      go_wp2_with (refine wk.store_row rfl 101 (.tmp 1) (.tmp 17) rfl B (stC (hs.comp s0.1 (hs.blk (s0.2 ++ [128]))) z64 (n : Int)) rfl rfl 101 _ q0 k1 k2 k3 ?_)
      go_meet
      case rel =>
        exact ⟨rfl, _, z64, ok_plus _ _, rfl, hs.fin_big n (by have := HRL.out; omega) (by have := HRL.out; omega), setRow_heap _ _ _ _ _ _ q0, by rw [setRow_other _ _ _ _ (by omega)]; exact q1.out, wk.below_setRow hB4.out (Nat.le_refl _) _⟩
  case rest =>
    obtain ⟨rfl, v, b, hv, hb, hfin, q0, q1, qb⟩ := hcut
    have c72 := st_size q0 hb
    have HV := Lib.hid hv
    have HB64 := Lib.hid hb
    have HFIN := Lib.hid hfin
    have R0 := Lib.hid q0
    have R1 := Lib.hid q1
    have RB := Lib.hid qb
    clear hv hb hfin q0 q1 qb QS2 HB2 HNX HT1 QO Q1 QB QB2 HBL
    go_wp2_with fail
    go_loopg [22] 8 (fun g x wr => ∃ k : Nat, k + g = 8 ∧ x = .int .i64 (k : Int) ∧ wr.heap[B]? = some (.cells (stC v (hs.lenb b n k) (n : Int)).toArray 101 (0, 0)) ∧ wr.heap[B + 1]? = some (.cells z32 95 (0, 0)) ∧ Below B w wr)
    case atStart => exact ⟨0, rfl, rfl, by rw [hs.lenb_zero n HB64.out]; exact R0.out, R1.out, RB.out⟩
    case round =>
      obtain ⟨k, hk, rfl, q0, q1, qb⟩ := hrel
      have HK := Lib.hid hk
      have R1 := Lib.hid q1
      have RB := Lib.hid qb
      by_cases hlt : k < 8
      · obtain ⟨m, hm⟩ : ∃ m, m = 63 - k := ⟨_, rfl⟩
        obtain ⟨s, hsh⟩ : ∃ s, s = 8 * k := ⟨_, rfl⟩
        have hmi : (63 : Int) - (k : Int) = (m : Int) := by omega
        have hm64 : m < 64 := by omega
        have hsi : (8 : Int) * (k : Int) = (s : Int) := by omega
        have hll := hs.lenb_length (b := b) n (k := k) HB64.out (by omega)
        obtain ⟨z, hz⟩ : ∃ z, (hs.lenb b n k)[m]? = some z := ⟨_, List.getElem?_eq_getElem (by omega)⟩
        have cr := st_cell q0 hz
        have fr := frozen_of_row _ _ (8 + m) _ _ q0
        have HST := Lib.hid (st_set q0 (j := m) (by omega) (UInt8.ofNat (8 * n / 2 ^ s)))
        have HLS := Lib.hid (hs.lenb_step (b := b) n HB64.out hlt)
        have HVX : Hid ((n : Int) * 8 / 2 ^ s % 256 = ((UInt8.ofNat (8 * n / 2 ^ s)).toNat : Int)) := by
          show _ = _
          rw [UInt8.toNat_ofNat', show (n : Int) * 8 = ((8 * n : Nat) : Int) by omega, show (256 : Int) = ((256 : Nat) : Int) from rfl, show ((2 : Int) ^ s) = ((2 ^ s : Nat) : Int) by simp, ← Int.natCast_ediv, ← Int.natCast_emod]
        have HM := Lib.hid hm
        have HS2 := Lib.hid hsh
        clear q0 q1 qb hz hll hm hsh hk
        go_wp2_with fail
        go_roundg (gk - 1)
        case measure => have := HK.out; omega
        case rel =>
          refine ⟨k + 1, by have := HK.out; omega, by go_num, ?_, (heap_setCell_other _ _ _ _ (by show B + 1 ≠ B; omega)).trans R1.out, RB.out.setCell (p := ⟨B, 8 + m, none⟩) (Nat.le_refl _) _⟩
          rw [HVX.out, ← HLS.out, ← HM.out, ← HS2.out]
          exact HST.out
      · obtain rfl : k = 8 := by omega
        have hl8 := hs.lenb_length (b := b) n (k := 8) HB64.out (by omega)
        have HL8 := Lib.hid hl8
        have hTk := HT.out.below (by have := HT.out.1; have := HB.out; omega) qb
        have HNX := Lib.hid (fun w' hT => next_calls v (hs.lenb b n 8) (n : Int) w' HV.out hl8 hT)
        have hsz3 := size_toA size73 (stC_length (v := v) (n := (n : Int)) hl8)
        have HTK := Lib.hid hTk
        have hff : hs.comp v (hs.lenb b n 8) = hs.fin s0 n := by rw [hs.lenb_full, HFIN.out]
        have HFF := Lib.hid hff
        clear hk hl8 hTk qb q1 hff
        go_wp2_with (refine wpList_load_row rfl 101 (.tmp 1) rfl B rfl 101 (stC v (hs.lenb b n 8) (n : Int)).toArray (0, 0) _ q0 Tryd.underlying101 rfl hsz3 ?_)
        refine (HNX.out _ HTK.out).mono ?_
        rw [HFF.out]
        rintro e w4 ⟨rfl, hb4⟩
        have p0 := wk.row_below q0 hb4
        have p1 := Lib.hid (wk.row_below R1.out hb4)
        have hB4 := Lib.hid (RB.out.trans (hb4.mono (by have := RB.out.size; have := HB.out; omega)))
        have HFO := Lib.hid (fin_ok s0 n)
        generalize hfe : hs.fin s0 n = f at *
        have HFE := Lib.hid hfe
        clear hfe
        have k1 := size_to size73 (stC_length (v := f) (blk := z64) (n := (n : Int)) rfl)
        have k2 : (stC v (hs.lenb b n 8) (n : Int)).toArray.size = (stC f z64 (n : Int)).length := by rw [List.size_toArray, stC_length HL8.out, stC_length rfl]
        have k3 := stC_ones f z64 (n : Int)
        clear hb4 hsz3 q0
        go_upto_region 12 with (refine wk.store_row rfl 101 (.tmp 1) (.tmp 36) rfl B (stC f z64 (n : Int)) rfl rfl 101 _ p0 k1 k2 k3 ?_)
        have hB5 := Lib.hid (wk.below_setRow hB4.out (Nat.le_refl B) (stC f z64 (n : Int)).toArray)
        have hr5 : Hid ((w4.setRow B (stC f z64 (n : Int)).toArray).heap[B]? = some (.cells (stC f z64 (n : Int)).toArray 101 (0, 0))) := setRow_heap _ _ _ _ _ _ p0
        have ho5 : Hid ((w4.setRow B (stC f z64 (n : Int)).toArray).heap[B + 1]? = some (.cells z32 95 (0, 0))) := by show _ = _; rw [setRow_other _ _ _ _ (by omega)]; exact p1.out
        have hg5 : Hid (B + 2 ≤ (w4.setRow B (stC f z64 (n : Int)).toArray).heap.size) := by
          have := wk.row_lt ho5.out
          show _ ≤ _; omega
        generalize w4.setRow B (stC f z64 (n : Int)).toArray = w5 at *
        clear p0 p1 k1 k2 k3
        generalize hG : w5.heap.size = G at *
        have HG := Lib.hid hG
        go_upto_region 13 with fail
        have hg6 := hg5.out
        clear hG
        go_wp2_with fail
        go_loopg [37] 32 (fun g x wr => ∃ k : Nat, k + g = 32 ∧ x = .int .i64 (k : Int) ∧ wr.heap[B]? = some (.cells (stC f z64 (n : Int)).toArray 101 (0, 0)) ∧ wr.heap[B + 1]? = some (.cells z32 95 (0, 0)) ∧ wr.heap[G]? = some (.cells (wp.bc (hs.part (hs.out f) 32 k)).toArray 95 (0, 0)) ∧ Below B w wr)
        case atStart =>
          refine ⟨0, rfl, rfl, ?_, ?_, ?_, hB5.out.alloc (by rw [HG.out]; omega) _⟩
          · rw [heap_alloc_old _ _ (by rw [HG.out]; omega)]; exact hr5.out
          · rw [heap_alloc_old _ _ (by rw [HG.out]; omega)]; exact ho5.out
          · rw [← HG.out, hs.part_zero]; exact heap_alloc_new w5 (.cells z32 95)
        case round =>
          obtain ⟨k, hk, rfl, q0, q1, q2, qb⟩ := hrel
          have HK := Lib.hid hk
          have R0 := Lib.hid q0
          have R1 := Lib.hid q1
          have R2 := Lib.hid q2
          have RB := Lib.hid qb
          by_cases hlt : k < 32
          · obtain ⟨q, hq⟩ : ∃ q, q = k / 4 := ⟨_, rfl⟩
            obtain ⟨m, hm⟩ : ∃ m, m = k % 4 := ⟨_, rfl⟩
            obtain ⟨s, hsh⟩ : ∃ s, s = 24 - m * 8 := ⟨_, rfl⟩
            have hqi : (k : Int) / 4 = (q : Int) := by omega
            have hq8 : q < 8 := by omega
            have hmi : (k : Int) % 4 = (m : Int) := by omega
            have hm4 : m ≤ 3 := by omega
            have hsi : (24 : Int) - (m : Int) * 8 = (s : Int) := by omega
            obtain ⟨x, hx⟩ : ∃ x, (l8 f)[q]? = some x := ⟨_, List.getElem?_eq_getElem (by show q < 8; exact hq8)⟩
            have cx := st_word q0 hx
            have hlen := hs.part_length (l := hs.out f) (k := k) (hs.out_length f) (by omega)
            obtain ⟨z, hz⟩ : ∃ z, (wp.bc (hs.part (hs.out f) 32 k))[k]? = some z := ⟨_, List.getElem?_eq_getElem (by rw [wp.bc_length, hlen]; exact hlt)⟩
            have cz : wr.cell? ⟨G, k, none⟩ = some z := by rw [cell_of_row _ _ _ _ _ _ q2, List.getElem?_toArray]; exact hz
            have fz := frozen_of_row _ _ k _ _ q2
            have hox := hs.out_at f hlt
            rw [← hq, ← hm, ← hsh, show hs.l8' f = l8 f from rfl, List.getD_eq_getElem?_getD, hx] at hox
            have HPS := Lib.hid (hs.part_step (hs.out_length f) hox)
            have hxl : x < 4294967296 :=
               l8_lt HFO.out hx
            have HVX : Hid ((x : Int) / 2 ^ s % 256 = ((UInt8.ofNat (x / 2 ^ s)).toNat : Int)) := by
              show _ = _
              rw [UInt8.toNat_ofNat', show (256 : Int) = ((256 : Nat) : Int) from rfl, show ((2 : Int) ^ s) = ((2 ^ s : Nat) : Int) by simp, ← Int.natCast_ediv, ← Int.natCast_emod]
            clear q0 q1 q2 qb hz hx hlen hq hm hsh hk hox
            go_wp2_with fail
            go_roundg (gk - 1)
            case measure => have := HK.out; omega
            case rel =>
              refine ⟨k + 1, by have := HK.out; omega, by go_num, (heap_setCell_other _ _ _ _ (by show B ≠ G; omega)).trans R0.out, (heap_setCell_other _ _ _ _ (by show B + 1 ≠ G; omega)).trans R1.out, ?_, RB.out.setCell (p := ⟨G, k, none⟩) (by show B ≤ G; omega) _⟩
              rw [HVX.out, ← HPS.out]
              exact bc_row_set R2.out k _
          · obtain rfl : k = 32 := by omega
            have hpf := hs.part_full (hs.out_length f)
            rw [hpf] at q2
            clear R2
            have hlo : (wp.bc (hs.out f)).length = 32 := by rw [wp.bc_length]; exact hs.out_length f
            have hz1 := size_toA size32 hlo
            have hz2 := size_to size32 hlo
            have hz3 : z32.size = (wp.bc (hs.out f)).length := by rw [hlo]; rfl
            have ho := wk.ones_bc (hs.out f)
            generalize hcs : wp.bc (hs.out f) = cs at *
            have HCS := Lib.hid hcs
            clear hcs hpf hlo q0 hk qb
            go_wp2_with (first | refine wpList_load_row rfl 95 (.tmp 6) rfl G rfl 95 cs.toArray (0, 0) _ q2 Tryd.underlying95 rfl hz1 ?_ | refine wk.store_row rfl 95 (.tmp 2) (.tmp 54) rfl (B + 1) cs rfl rfl 95 z32 q1 hz2 hz3 ho ?_)
            refine bodyPost_ret (v := .agg cs.toArray) (results_cell_row (fn := Tryd.f65) rfl _ _ (B + 1) 95 cs.toArray (0, 0) _ rfl (setRow_heap _ _ _ _ _ _ q1) Tryd.underlying95 rfl hz1) rfl ⟨?_, ?_⟩
            · rw [← HCS.out, ← HFE.out]
            · rw [HB.out]; exact wk.below_setRow RB.out (by omega) _
end Go.Proofs.YtlmbacacjcbdjaaDoor.hi
