/- Joined: Hq Hr Hu Pl2 Pl3. -/
import Derived.Test.YtjhagfggelhpkaaDoorG7

import Derived.Deep.DeepCutAuto

namespace Go.Proofs.YtjhagfggelhpkaaDoor.hi

open Go.ChangeShapes Go.WideShapes Go.ChangeAt Go.RowKit

set_option linter.unusedVariables false

theorem st_cell {w : World} {B : Nat} {v : hs.S8} {b : List UInt8} {n : Int} (h : w.heap[B]? = some (.cells (stC v b n).toArray 82 (0, 0))) {j : Nat} {x : UInt8} (hx : b[j]? = some x) : w.cell? ⟨B, 8 + j, none⟩ = some (.int .u8 (x.toNat : Int)) := by
  have hj : j < b.length := by
    rcases Nat.lt_or_ge j b.length with h' | h'
    · exact h'
    · rw [List.getElem?_eq_none h'] at hx; cases hx
  rw [cell_of_row _ _ _ _ _ _ h]
  unfold stC
  rw [List.getElem?_toArray, List.getElem?_append_right (by rw [u32s_l8_length]; omega), u32s_l8_length, Nat.add_sub_cancel_left, List.getElem?_append_left (by rw [wp.bc_length]; exact hj)]
  simp [wp.bc, hx]
theorem st_word {w : World} {B : Nat} {v : hs.S8} {b : List UInt8} {n : Int} (h : w.heap[B]? = some (.cells (stC v b n).toArray 82 (0, 0))) {j x : Nat} (hx : (l8 v)[j]? = some x) : w.cell? ⟨B, j, none⟩ = some (.int .u32 (x : Int)) := by
  have hj : j < (u32s (l8 v)).length := by
    rw [u32s_length]
    rcases Nat.lt_or_ge j (l8 v).length with h' | h'
    · exact h'
    · rw [List.getElem?_eq_none h'] at hx; cases hx
  rw [cell_of_row _ _ _ _ _ _ h]
  unfold stC
  rw [List.getElem?_toArray, List.getElem?_append_left hj]
  exact u32s_at hx
theorem st_size {w : World} {B : Nat} {v : hs.S8} {b : List UInt8} {n : Int} (h : w.heap[B]? = some (.cells (stC v b n).toArray 82 (0, 0))) (hb : b.length = 64) : w.cell? ⟨B, 72, none⟩ = some (.int .i64 n) := by
  unfold stC at h
  rw [← List.append_assoc] at h
  exact wk.cell_last h (by rw [List.length_append, u32s_l8_length, wp.bc_length, hb])
theorem st_set {w : World} {B : Nat} {v : hs.S8} {b : List UInt8} {n : Int} (h : w.heap[B]? = some (.cells (stC v b n).toArray 82 (0, 0))) {j : Nat} (hj : j < b.length) (x : UInt8) :
    (w.setCell ⟨B, 8 + j, none⟩ (.int .u8 (x.toNat : Int))).heap[B]? = some (.cells (stC v (b.set j x) n).toArray 82 (0, 0)) := by
  refine (heap_setCell_same _ _ _ _ _ _ h).trans ?_
  have : (stC v b n).toArray.setIfInBounds (8 + j) (.int .u8 (x.toNat : Int)) = (stC v (b.set j x) n).toArray := by
    apply Array.toList_inj.1
    simp only [stC, List.setIfInBounds_toArray]
    rw [List.set_append_right _ _ (by rw [u32s_l8_length]; omega), u32s_l8_length, Nat.add_sub_cancel_left, List.set_append_left _ _ (by rw [wp.bc_length]; exact hj)]
    simp [wp.bc, List.map_set]
  rw [this]
theorem bc_row_set {w : World} {G : Nat} {l : List UInt8} {t : TypeId} (h : w.heap[G]? = some (.cells (wp.bc l).toArray t (0, 0))) (k : Nat) (x : UInt8) :
    (w.setCell ⟨G, k, none⟩ (.int .u8 (x.toNat : Int))).heap[G]? = some (.cells (wp.bc (l.set k x)).toArray t (0, 0)) := by
  refine (heap_setCell_same _ _ _ _ _ _ h).trans ?_
  have : (wp.bc l).toArray.setIfInBounds k (.int .u8 (x.toNat : Int)) = (wp.bc (l.set k x)).toArray := by
    apply Array.toList_inj.1
    simp [wp.bc, List.map_set]
  rw [this]
theorem blk_set {l : List UInt8} (h : l.length < 64) (x : UInt8) : (hs.blk l).set l.length x = hs.blk (l ++ [x]) := by
  unfold hs.blk
  rw [List.set_append_right _ _ (Nat.le_refl _), Nat.sub_self, show 64 - l.length = (64 - (l ++ [x]).length) + 1 by simp; omega, List.replicate_succ]
  simp

theorem size32 : (Tryd.prog.info? 86).map (·.size) = some 32 := by kernel_rfl
def z32 : Array Value := #[.int .u8 0, .int .u8 0, .int .u8 0, .int .u8 0, .int .u8 0, .int .u8 0, .int .u8 0, .int .u8 0, .int .u8 0, .int .u8 0, .int .u8 0, .int .u8 0, .int .u8 0, .int .u8 0, .int .u8 0, .int .u8 0, .int .u8 0, .int .u8 0, .int .u8 0, .int .u8 0, .int .u8 0, .int .u8 0, .int .u8 0, .int .u8 0, .int .u8 0, .int .u8 0, .int .u8 0, .int .u8 0, .int .u8 0, .int .u8 0, .int .u8 0, .int .u8 0]

theorem fin_ok (s : hs.S8 × List UInt8) (n : Nat) : Ok8 (hs.fin s n) := by
  unfold hs.fin
  split <;> exact ok_plus _ _
theorem l8_lt {f : hs.S8} (h : Ok8 f) {q x : Nat} (hx : (l8 f)[q]? = some x) : x < 4294967296 := by
  have hm := List.mem_of_getElem? hx
  obtain ⟨a, b, c, d, e, f, g, k⟩ := h
  simp only [l8, List.mem_cons, List.not_mem_nil, or_false] at hm
  rcases hm with rfl | rfl | rfl | rfl | rfl | rfl | rfl | rfl <;> assumption
/-- the world once the mark is laid -/
def AfterPad (w : World) (B : Nat) (s0 : hs.S8 × List UInt8) (n : Nat) (wx : World) : Prop :=
  ∃ (v : hs.S8) (b : List UInt8), Ok8 v ∧ b.length = 64 ∧ hs.comp v (b.take 56 ++ hs.len8 n) = hs.fin s0 n ∧ wx.heap[B]? = some (.cells (stC v b (n : Int)).toArray 82 (0, 0)) ∧ wx.heap[B + 1]? = some (.cells z32 86 (0, 0)) ∧ Below B w wx

set_option maxRecDepth 100000 in
set_option maxHeartbeats 2000000 in
theorem sum_calls (s0 : hs.S8 × List UInt8) (n : Nat) (w : World) (hs0 : Str s0 n) (hn : n ≤ 1152921504606846976) (hT : TabK w) :
    Calls Tryd.prog 77 #[strV s0 (n : Int)] w fun e w' => e = .returned (.agg (wp.bc (hs.out (hs.fin s0 n))).toArray) ∧ Below w.heap.size w w' := by
  have HT := Lib.hid hT
  have HS := Lib.hid hs0
  obtain ⟨r, hr⟩ : ∃ r, r = n % 64 := ⟨_, rfl⟩
  have hr64 : r < 64 := by omega
  have hri : (n : Int) % 64 = (r : Int) := by omega
  have hrl := hs0.len
  rw [← hr] at hrl
  have HRL := Lib.hid hrl
  clear hT hs0 hrl hr
  unfold strV
  go_enter Tryd.func77, Tryd.ntmps77
  go_upto_region 1 with fail
  have q0 : ((w.alloc (.cells (stC s0.1 (hs.blk s0.2) (n : Int)).toArray 82)).alloc (.cells z32 86)).heap[w.heap.size]? = some (.cells (stC s0.1 (hs.blk s0.2) (n : Int)).toArray 82 (0, 0)) := heap_alloc2_old _ _ _
  have q1 : ((w.alloc (.cells (stC s0.1 (hs.blk s0.2) (n : Int)).toArray 82)).alloc (.cells z32 86)).heap[w.heap.size + 1]? = some (.cells z32 86 (0, 0)) := heap_alloc2_new _ _ _
  have qb : Below w.heap.size w ((w.alloc (.cells (stC s0.1 (hs.blk s0.2) (n : Int)).toArray 82)).alloc (.cells z32 86)) := ((Below.refl _ _).alloc (Nat.le_refl _) _).alloc (by simp) _
  unfold z32 at q0 q1 qb
  generalize (w.alloc (.cells (stC s0.1 (hs.blk s0.2) (n : Int)).toArray 82)).alloc (.cells #[.int .u8 0, .int .u8 0, .int .u8 0, .int .u8 0, .int .u8 0, .int .u8 0, .int .u8 0, .int .u8 0, .int .u8 0, .int .u8 0, .int .u8 0, .int .u8 0, .int .u8 0, .int .u8 0, .int .u8 0, .int .u8 0, .int .u8 0, .int .u8 0, .int .u8 0, .int .u8 0, .int .u8 0, .int .u8 0, .int .u8 0, .int .u8 0, .int .u8 0, .int .u8 0, .int .u8 0, .int .u8 0, .int .u8 0, .int .u8 0, .int .u8 0, .int .u8 0] 86) = W0 at *
  generalize hB : w.heap.size = B at *
  have HB := Lib.hid hB
  clear hB
  have hbl : (hs.blk s0.2).length = 64 := hs.blk_length (by have := HRL.out; omega)
  have c72 := st_size q0 hbl
  obtain ⟨z, hz⟩ : ∃ z, (hs.blk s0.2)[r]? = some z := ⟨_, List.getElem?_eq_getElem (by omega)⟩
  have cr := st_cell q0 hz
  have fr := frozen_of_row _ _ (8 + r) _ _ q0
  have QS := Lib.hid (st_set q0 (j := r) (by omega) 128)
  have QO : Hid ((W0.setCell ⟨B, 8 + r, none⟩ (.int .u8 128)).heap[B + 1]? = W0.heap[B + 1]?) := heap_setCell_other _ _ _ _ (by show B + 1 ≠ B; omega)
  have Q1 := Lib.hid q1
  have QB := Lib.hid qb
  have QB2 := Lib.hid (qb.setCell (p := ⟨B, 8 + r, none⟩) (Nat.le_refl _) (.int .u8 128))
  have HBL := Lib.hid hbl
  clear q0 q1 qb hz hbl
  go_upto_if 15 with fail
  have QS2 : Hid ((W0.setCell ⟨B, 8 + r, none⟩ (.int .u8 128)).heap[B]? = some (.cells (stC s0.1 (hs.blk (s0.2 ++ [128])) (n : Int)).toArray 82 (0, 0))) := by
    have h := QS.out
    have hl := HRL.out
    have h2 := blk_set (l := s0.2) (by omega) 128
    rw [hl] at h2
    rw [h2] at h
    exact h
  have hb2 : (hs.blk (s0.2 ++ [128])).length = 64 := hs.blk_length (by have := HRL.out; simp; omega)
  have HB2 := Lib.hid hb2
  have HNX := Lib.hid (fun w' hT => next_calls s0.1 (hs.blk (s0.2 ++ [128])) (n : Int) w' HS.out.ok hb2 hT)
  have hT1 := HT.out.below (by have := HT.out.1; have := HB.out; omega) QB2.out
  have HT1 := Lib.hid hT1
  clear hb2 hT1 c72 cr fr QS
  go_cut [1] from 3 to 17 (fun x wx => x = .pointer (some ⟨B, 0, none⟩) ∧ AfterPad w B s0 n wx)
  case first =>
    by_cases h56 : r < 56
    · go_wp2_with fail
      go_meet
      case rel =>
        exact ⟨rfl, s0.1, _, HS.out.ok, HB2.out, hs.fin_small n (by have := HRL.out; omega), QS2.out, QO.out.trans Q1.out, QB2.out⟩
    · have h56' : 56 ≤ r := by omega
      have hR3 := QS2.out
      have hsz3 := size_toA size73 (stC_length (v := s0.1) (n := (n : Int)) HB2.out)
      go_wp2_with (refine wpList_load_row rfl 82 (.tmp 1) rfl B rfl 82 (stC s0.1 (hs.blk (s0.2 ++ [128])) (n : Int)).toArray (0, 0) _ hR3 Tryd.underlying82 rfl hsz3 ?_)
      refine (HNX.out _ HT1.out).mono ?_
      rintro e w4 ⟨rfl, hb4⟩
      have q0 := wk.row_below hR3 hb4
      have q1 := Lib.hid (wk.row_below (QO.out.trans Q1.out) hb4)
      have hB4 := Lib.hid (QB2.out.trans (hb4.mono (by have := QB2.out.size; have := HB.out; omega)))
      have k1 := size_to size73 (stC_length (v := hs.comp s0.1 (hs.blk (s0.2 ++ [128]))) (blk := z64) (n := (n : Int)) rfl)
      have k2 : (stC s0.1 (hs.blk (s0.2 ++ [128])) (n : Int)).toArray.size = (stC (hs.comp s0.1 (hs.blk (s0.2 ++ [128]))) z64 (n : Int)).length := by rw [List.size_toArray, stC_length HB2.out, stC_length rfl]
      have k3 := stC_ones (hs.comp s0.1 (hs.blk (s0.2 ++ [128]))) z64 (n : Int)
      clear hb4 hR3 hsz3
      go_wp2_with (refine wk.store_row rfl 82 (.tmp 1) (.tmp 17) rfl B (stC (hs.comp s0.1 (hs.blk (s0.2 ++ [128]))) z64 (n : Int)) rfl rfl 82 _ q0 k1 k2 k3 ?_)
      go_meet
      case rel =>
        exact ⟨rfl, _, z64, ok_plus _ _, rfl, hs.fin_big n (by have := HRL.out; omega) (by have := HRL.out; omega), setRow_heap _ _ _ _ _ _ q0, by rw [setRow_other _ _ _ _ (by omega)]; exact q1.out, wk.below_setRow hB4.out (Nat.le_refl _) _⟩
  case rest =>
    obtain ⟨rfl, v, b, hv, hb, hfin, q0, q1, qb⟩ := hcut
    have c72 := st_size q0 hb
    have HV := Lib.hid hv
    have HB64 := Lib.hid hb
    have HFIN := Lib.hid hfin
    have R0 := Lib.hid q0
    have R1 := Lib.hid q1
    have RB := Lib.hid qb
    clear hv hb hfin q0 q1 qb QS2 HB2 HNX HT1 QO Q1 QB QB2 HBL
    go_wp2_with fail
    go_loopg [22] 8 (fun g x wr => ∃ k : Nat, k + g = 8 ∧ x = .int .i64 (k : Int) ∧ wr.heap[B]? = some (.cells (stC v (hs.lenb b n k) (n : Int)).toArray 82 (0, 0)) ∧ wr.heap[B + 1]? = some (.cells z32 86 (0, 0)) ∧ Below B w wr)
    case atStart => exact ⟨0, rfl, rfl, by rw [hs.lenb_zero n HB64.out]; exact R0.out, R1.out, RB.out⟩
    case round =>
      obtain ⟨k, hk, rfl, q0, q1, qb⟩ := hrel
      have HK := Lib.hid hk
      have R1 := Lib.hid q1
      have RB := Lib.hid qb
      by_cases hlt : k < 8
      · obtain ⟨m, hm⟩ : ∃ m, m = 63 - k := ⟨_, rfl⟩
        obtain ⟨s, hsh⟩ : ∃ s, s = 8 * k := ⟨_, rfl⟩
        have hmi : (63 : Int) - (k : Int) = (m : Int) := by omega
        have hm64 : m < 64 := by omega
        have hsi : (8 : Int) * (k : Int) = (s : Int) := by omega
        have hll := hs.lenb_length (b := b) n (k := k) HB64.out (by omega)
        obtain ⟨z, hz⟩ : ∃ z, (hs.lenb b n k)[m]? = some z := ⟨_, List.getElem?_eq_getElem (by omega)⟩
        have cr := st_cell q0 hz
        have fr := frozen_of_row _ _ (8 + m) _ _ q0
        have HST := Lib.hid (st_set q0 (j := m) (by omega) (UInt8.ofNat (8 * n / 2 ^ s)))
        have HLS := Lib.hid (hs.lenb_step (b := b) n HB64.out hlt)
        have HVX : Hid ((n : Int) * 8 / 2 ^ s % 256 = ((UInt8.ofNat (8 * n / 2 ^ s)).toNat : Int)) := by
          show _ = _
          rw [UInt8.toNat_ofNat', show (n : Int) * 8 = ((8 * n : Nat) : Int) by omega, show (256 : Int) = ((256 : Nat) : Int) from rfl, show ((2 : Int) ^ s) = ((2 ^ s : Nat) : Int) by simp, ← Int.natCast_ediv, ← Int.natCast_emod]
        have HM := Lib.hid hm
        have HS2 := Lib.hid hsh
        clear q0 q1 qb hz hll hm hsh hk
        go_wp2_with fail
        go_roundg (gk - 1)
        case measure => have := HK.out; omega
        case rel =>
          refine ⟨k + 1, by have := HK.out; omega, by go_num, ?_, (heap_setCell_other _ _ _ _ (by show B + 1 ≠ B; omega)).trans R1.out, RB.out.setCell (p := ⟨B, 8 + m, none⟩) (Nat.le_refl _) _⟩
          rw [HVX.out, ← HLS.out, ← HM.out, ← HS2.out]
          exact HST.out
      · obtain rfl : k = 8 := by omega
        have hl8 := hs.lenb_length (b := b) n (k := 8) HB64.out (by omega)
        have HL8 := Lib.hid hl8
        have hTk := HT.out.below (by have := HT.out.1; have := HB.out; omega) qb
        have HNX := Lib.hid (fun w' hT => next_calls v (hs.lenb b n 8) (n : Int) w' HV.out hl8 hT)
        have hsz3 := size_toA size73 (stC_length (v := v) (n := (n : Int)) hl8)
        have HTK := Lib.hid hTk
        have hff : hs.comp v (hs.lenb b n 8) = hs.fin s0 n := by rw [hs.lenb_full, HFIN.out]
        have HFF := Lib.hid hff
        clear hk hl8 hTk qb q1 hff
        go_wp2_with (refine wpList_load_row rfl 82 (.tmp 1) rfl B rfl 82 (stC v (hs.lenb b n 8) (n : Int)).toArray (0, 0) _ q0 Tryd.underlying82 rfl hsz3 ?_)
        refine (HNX.out _ HTK.out).mono ?_
        rw [HFF.out]
        rintro e w4 ⟨rfl, hb4⟩
        have p0 := wk.row_below q0 hb4
        have p1 := Lib.hid (wk.row_below R1.out hb4)
        have hB4 := Lib.hid (RB.out.trans (hb4.mono (by have := RB.out.size; have := HB.out; omega)))
        have HFO := Lib.hid (fin_ok s0 n)
        generalize hfe : hs.fin s0 n = f at *
        have HFE := Lib.hid hfe
        clear hfe
        have k1 := size_to size73 (stC_length (v := f) (blk := z64) (n := (n : Int)) rfl)
        have k2 : (stC v (hs.lenb b n 8) (n : Int)).toArray.size = (stC f z64 (n : Int)).length := by rw [List.size_toArray, stC_length HL8.out, stC_length rfl]
        have k3 := stC_ones f z64 (n : Int)
        clear hb4 hsz3 q0
        go_upto_region 12 with (refine wk.store_row rfl 82 (.tmp 1) (.tmp 36) rfl B (stC f z64 (n : Int)) rfl rfl 82 _ p0 k1 k2 k3 ?_)
        have hB5 := Lib.hid (wk.below_setRow hB4.out (Nat.le_refl B) (stC f z64 (n : Int)).toArray)
        have hr5 : Hid ((w4.setRow B (stC f z64 (n : Int)).toArray).heap[B]? = some (.cells (stC f z64 (n : Int)).toArray 82 (0, 0))) := setRow_heap _ _ _ _ _ _ p0
        have ho5 : Hid ((w4.setRow B (stC f z64 (n : Int)).toArray).heap[B + 1]? = some (.cells z32 86 (0, 0))) := by show _ = _; rw [setRow_other _ _ _ _ (by omega)]; exact p1.out
        have hg5 : Hid (B + 2 ≤ (w4.setRow B (stC f z64 (n : Int)).toArray).heap.size) := by
          have := wk.row_lt ho5.out
          show _ ≤ _; omega
        generalize w4.setRow B (stC f z64 (n : Int)).toArray = w5 at *
        clear p0 p1 k1 k2 k3
        generalize hG : w5.heap.size = G at *
        have HG := Lib.hid hG
        go_upto_region 13 with fail
        have hg6 := hg5.out
        clear hG
        go_wp2_with fail
        go_loopg [37] 32 (fun g x wr => ∃ k : Nat, k + g = 32 ∧ x = .int .i64 (k : Int) ∧ wr.heap[B]? = some (.cells (stC f z64 (n : Int)).toArray 82 (0, 0)) ∧ wr.heap[B + 1]? = some (.cells z32 86 (0, 0)) ∧ wr.heap[G]? = some (.cells (wp.bc (hs.part (hs.out f) 32 k)).toArray 86 (0, 0)) ∧ Below B w wr)
        case atStart =>
          refine ⟨0, rfl, rfl, ?_, ?_, ?_, hB5.out.alloc (by rw [HG.out]; omega) _⟩
          · rw [heap_alloc_old _ _ (by rw [HG.out]; omega)]; exact hr5.out
          · rw [heap_alloc_old _ _ (by rw [HG.out]; omega)]; exact ho5.out
          · rw [← HG.out, hs.part_zero]; exact heap_alloc_new w5 (.cells z32 86)
        case round =>
          obtain ⟨k, hk, rfl, q0, q1, q2, qb⟩ := hrel
          have HK := Lib.hid hk
          have R0 := Lib.hid q0
          have R1 := Lib.hid q1
          have R2 := Lib.hid q2
          have RB := Lib.hid qb
          by_cases hlt : k < 32
          · obtain ⟨q, hq⟩ : ∃ q, q = k / 4 := ⟨_, rfl⟩
            obtain ⟨m, hm⟩ : ∃ m, m = k % 4 := ⟨_, rfl⟩
            obtain ⟨s, hsh⟩ : ∃ s, s = 24 - m * 8 := ⟨_, rfl⟩
            have hqi : (k : Int) / 4 = (q : Int) := by omega
            have hq8 : q < 8 := by omega
            have hmi : (k : Int) % 4 = (m : Int) := by omega
            have hm4 : m ≤ 3 := by omega
            have hsi : (24 : Int) - (m : Int) * 8 = (s : Int) := by omega
            obtain ⟨x, hx⟩ : ∃ x, (l8 f)[q]? = some x := ⟨_, List.getElem?_eq_getElem (by show q < 8; exact hq8)⟩
            have cx := st_word q0 hx
            have hlen := hs.part_length (l := hs.out f) (k := k) (hs.out_length f) (by omega)
            obtain ⟨z, hz⟩ : ∃ z, (wp.bc (hs.part (hs.out f) 32 k))[k]? = some z := ⟨_, List.getElem?_eq_getElem (by rw [wp.bc_length, hlen]; exact hlt)⟩
            have cz : wr.cell? ⟨G, k, none⟩ = some z := by rw [cell_of_row _ _ _ _ _ _ q2, List.getElem?_toArray]; exact hz
            have fz := frozen_of_row _ _ k _ _ q2
            have hox := hs.out_at f hlt
            rw [← hq, ← hm, ← hsh, show hs.l8' f = l8 f from rfl, List.getD_eq_getElem?_getD, hx] at hox
            have HPS := Lib.hid (hs.part_step (hs.out_length f) hox)
            have hxl : x < 4294967296 :=
               l8_lt HFO.out hx
            have HVX : Hid ((x : Int) / 2 ^ s % 256 = ((UInt8.ofNat (x / 2 ^ s)).toNat : Int)) := by
              show _ = _
              rw [UInt8.toNat_ofNat', show (256 : Int) = ((256 : Nat) : Int) from rfl, show ((2 : Int) ^ s) = ((2 ^ s : Nat) : Int) by simp, ← Int.natCast_ediv, ← Int.natCast_emod]
            clear q0 q1 q2 qb hz hx hlen hq hm hsh hk hox
            go_wp2_with fail
            go_roundg (gk - 1)
            case measure => have := HK.out; omega
            case rel =>
              refine ⟨k + 1, by have := HK.out; omega, by go_num, (heap_setCell_other _ _ _ _ (by show B ≠ G; omega)).trans R0.out, (heap_setCell_other _ _ _ _ (by show B + 1 ≠ G; omega)).trans R1.out, ?_, RB.out.setCell (p := ⟨G, k, none⟩) (by show B ≤ G; omega) _⟩
              rw [HVX.out, ← HPS.out]
              exact bc_row_set R2.out k _
          · obtain rfl : k = 32 := by omega
            have hpf := hs.part_full (hs.out_length f)
            rw [hpf] at q2
            clear R2
            have hlo : (wp.bc (hs.out f)).length = 32 := by rw [wp.bc_length]; exact hs.out_length f
            have hz1 := size_toA size32 hlo
            have hz2 := size_to size32 hlo
            have hz3 : z32.size = (wp.bc (hs.out f)).length := by rw [hlo]; rfl
            have ho := wk.ones_bc (hs.out f)
            generalize hcs : wp.bc (hs.out f) = cs at *
            have HCS := Lib.hid hcs
            clear hcs hpf hlo q0 hk qb
            go_wp2_with (first | refine wpList_load_row rfl 86 (.tmp 6) rfl G rfl 86 cs.toArray (0, 0) _ q2 Tryd.underlying86 rfl hz1 ?_ | refine wk.store_row rfl 86 (.tmp 2) (.tmp 54) rfl (B + 1) cs rfl rfl 86 z32 q1 hz2 hz3 ho ?_)
            refine bodyPost_ret (v := .agg cs.toArray) (results_cell_row (fn := Tryd.f77) rfl _ _ (B + 1) 86 cs.toArray (0, 0) _ rfl (setRow_heap _ _ _ _ _ _ q1) Tryd.underlying86 rfl hz1) rfl ⟨?_, ?_⟩
            · rw [← HCS.out, ← HFE.out]
            · rw [HB.out]; exact wk.below_setRow RB.out (by omega) _
end Go.Proofs.YtjhagfggelhpkaaDoor.hi

namespace Go.Proofs.YtjhagfggelhpkaaDoor.hi

open Go.ChangeShapes Go.WideShapes Go.ChangeAt Go.RowKit

set_option linter.unusedVariables false

theorem sha_eq (l : List UInt8) : hs.out (hs.fin (hs.feed (hs.H0, []) l) l.length) = hs.sha l := rfl

end Go.Proofs.YtjhagfggelhpkaaDoor.hi

namespace Go.Proofs.YtjhagfggelhpkaaDoor.hi

open Go.ChangeShapes Go.WideShapes Go.ChangeAt Go.RowKit

set_option linter.unusedVariables false

theorem info55x : (Tryd.prog.info? 65).map (·.size) = some 16 := by kernel_rfl
def tagB (n : Int) : UInt8 := UInt8.ofNat (n % 256).toNat
theorem tagB_eq (n : Int) : IntKind.u8.wrap n = ((tagB n).toNat : Int) := by
  unfold tagB
  rw [IntKind.wrap_u8, UInt8.toNat_ofNat']
  omega
def fr1 (a0 : Act) (x5 x10 x11 x12 x13 x14 x15 : Value) : Act := { a0 with tmps := ((((((a0.tmps.setIfInBounds 5 x5).setIfInBounds 10 x10).setIfInBounds 11 x11).setIfInBounds 12 x12).setIfInBounds 13 x13).setIfInBounds 14 x14).setIfInBounds 15 x15 }
structure I1 (tag : Int) (w0 : World) (L : Nat → Bool) (x5 x10 x11 x12 x13 x14 x15 : Value) (g3 g6 : Nat) (old : Array Value) (w : World) : Prop where
  below : Below w0.heap.size w0 w
  c0 : L 0 = true → x10 = strV (hs.H0, []) 0
  c1 : L 1 = true → x11 = .int .i64 tag
  c2 : L 2 = true → x12 = .int .u8 ((tagB tag).toNat : Int)
  c3 : L 3 = true → x13 = .slice (some ⟨g3, 0, none⟩) 1 1
  r3 : L 3 = true → L 4 = false → wp.RB w (some ⟨g3, 0, none⟩) [tagB tag]
  k3 : L 3 = true → w0.heap.size ≤ g3
  c4 : L 4 = true → x14 = .string ⟨#[tagB tag]⟩
  c5 : L 5 = true → x15 = strV (hs.feed (hs.H0, []) [tagB tag]) 1
  c6 : L 6 = true → x5 = .pointer (some ⟨g6, 0, none⟩)
  k6 : L 6 = true → w0.heap.size ≤ g6
  r6 : L 6 = true → w.heap[g6]? = some (.cells old 82 (0, 0))
  z6 : L 6 = true → old.size = 73
  c7 : L 7 = true → old = (stC (hs.feed (hs.H0, []) [tagB tag]).1 (hs.blk (hs.feed (hs.H0, []) [tagB tag]).2) 1).toArray
  o5 : L 5 = true → L 4 = true
  o7 : L 7 = true → L 6 = true
def Inv1 (tag : Int) (a0 : Act) (w0 : World) (L : Nat → Bool) (a : Act) (w : World) : Prop := ∃ x5 x10 x11 x12 x13 x14 x15 g3 g6 old, a = fr1 a0 x5 x10 x11 x12 x13 x14 x15 ∧ I1 tag w0 L x5 x10 x11 x12 x13 x14 x15 g3 g6 old w
theorem I1.moved {tag : Int} {w0 : World} {L : Nat → Bool} {x5 x10 x11 x12 x13 x14 x15 : Value} {g3 g6 : Nat} {old : Array Value} {w w' : World} (h : I1 tag w0 L x5 x10 x11 x12 x13 x14 x15 g3 g6 old w) (hb : Below w.heap.size w w') : I1 tag w0 L x5 x10 x11 x12 x13 x14 x15 g3 g6 old w' :=
  ⟨h.below.trans (hb.mono h.below.size), h.c0, h.c1, h.c2, h.c3, fun h3 h4 => wk.RB.below (h.r3 h3 h4) hb, h.k3, h.c4, h.c5, h.c6, h.k6, fun h6 => wk.row_below (h.r6 h6) hb, h.z6, h.c7, h.o5, h.o7⟩

def fr2 (a0 : Act) (x22 x23 x24 x25 x26 : Value) : Act := { a0 with tmps := ((((a0.tmps.setIfInBounds 22 x22).setIfInBounds 23 x23).setIfInBounds 24 x24).setIfInBounds 25 x25).setIfInBounds 26 x26 }
def rowS (w : World) (g : Nat) (st : hs.S8 × List UInt8) (m : Nat) : Prop := w.heap[g]? = some (.cells (stC st.1 (hs.blk st.2) (m : Int)).toArray 82 (0, 0))
/-- what a round of Of's loop starts from -/
structure Ctx2 where
  wI : World
  g : Nat
  st : hs.S8 × List UInt8
  m : Nat
  s : ByteArray
structure I2 (C : Ctx2) (w0 : World) (L : Nat → Bool) (x22 x23 x24 x25 x26 : Value) (A : Option Addr) (n c : Nat) (w : World) : Prop where
  bel : Below C.wI.heap.size C.wI w
  oth : ∀ k, k < w0.heap.size → k ≠ C.g → w.heap[k]? = w0.heap[k]?
  siz : w0.heap.size ≤ w.heap.size
  r6 : L 5 = false → rowS w C.g C.st C.m
  c0 : L 0 = true → x22 = strV C.st (C.m : Int)
  c1 : L 1 = true → x23 = .string C.s
  c2 : L 2 = true → x24 = .slice A n c
  r2 : L 2 = true → L 3 = false → wp.RB w A (wp.encB C.s.data.toList)
  n2 : L 2 = true → (wp.encB C.s.data.toList).length = n
  c3 : L 3 = true → x25 = .string ⟨(wp.encB C.s.data.toList).toArray⟩
  c4 : L 4 = true → x26 = strV (hs.feed C.st (wp.encB C.s.data.toList)) ((C.m + (wp.encB C.s.data.toList).length : Nat) : Int)
  c5 : L 5 = true → rowS w C.g (hs.feed C.st (wp.encB C.s.data.toList)) (C.m + (wp.encB C.s.data.toList).length)
  o4 : L 4 = true → L 3 = true
  o40 : L 4 = true → L 0 = true
  o54 : L 5 = true → L 4 = true
  gI : C.wI.heap.size ≤ C.g
def Inv2 (C : Ctx2) (a0 : Act) (w0 : World) (L : Nat → Bool) (a : Act) (w : World) : Prop := ∃ x22 x23 x24 x25 x26 A n c, a = fr2 a0 x22 x23 x24 x25 x26 ∧ I2 C w0 L x22 x23 x24 x25 x26 A n c w
theorem I2.moved {C : Ctx2} {w0 : World} {L : Nat → Bool} {x22 x23 x24 x25 x26 : Value} {A : Option Addr} {n c : Nat} {w w' : World} (h : I2 C w0 L x22 x23 x24 x25 x26 A n c w) (hb : Below w.heap.size w w') : I2 C w0 L x22 x23 x24 x25 x26 A n c w' :=
  ⟨h.bel.trans (hb.mono h.bel.size), fun k hk hg => (hb.block k (Nat.lt_of_lt_of_le hk h.siz)).trans (h.oth k hk hg), Nat.le_trans h.siz hb.size, fun h5 => wk.row_below (h.r6 h5) hb, h.c0, h.c1, h.c2, fun h2 h3 => wk.RB.below (h.r2 h2 h3) hb, h.n2, h.c3, h.c4, fun h5 => wk.row_below (h.c5 h5) hb, h.o4, h.o40, h.o54, h.gI⟩

set_option maxRecDepth 100000 in
set_option maxHeartbeats 2000000 in
theorem of_calls (tag : Int) (A : Option Addr) (n c : Nat) (l : List ByteArray) (w : World) (hn : l.length = n) (hnc : n ≤ c) (hc : c ≤ 9223372036854775807) (hl : wp.RC w A (l.map Value.string)) (htag : -9223372036854775808 ≤ tag ∧ tag ≤ 9223372036854775807)
    (htot : 1 + (l.flatMap fun s => wp.encB s.data.toList).length ≤ 140737488355318) (hT : TabK w) :
    Calls Tryd.prog 58 #[.int .i64 tag, .slice A n c] w fun e w' => e = .returned (.agg (wp.bc ((hs.sha (tagB tag :: l.flatMap fun s => wp.encB s.data.toList)).take 16)).toArray) ∧ Below w.heap.size w w' := by
  have HT := Lib.hid hT
  clear hT
  go_enter Tryd.func58, Tryd.ntmps58
  go_upto_region 1 with fail
  have HB0 : Hid (Below w.heap.size w (w.alloc (.cells #[.int .u8 0, .int .u8 0, .int .u8 0, .int .u8 0, .int .u8 0, .int .u8 0, .int .u8 0, .int .u8 0, .int .u8 0, .int .u8 0, .int .u8 0, .int .u8 0, .int .u8 0, .int .u8 0, .int .u8 0, .int .u8 0] 65)).drew) := ((Below.refl _ _).alloc (Nat.le_refl _) _).drew
  refine wk.region_inv (Inv1 tag) (by kernel_rfl) (by kernel_rfl) ?h0 ?hstep ?hdone
  case h0 => exact ⟨undef, undef, undef, undef, undef, undef, undef, 0, 0, #[], by simp only [fr1, List.setIfInBounds_toArray, List.set_cons_zero, List.set_cons_succ], Below.refl _ _, by simp, by simp, by simp, by simp, by simp, by simp, by simp, by simp, by simp, by simp, by simp, by simp, by simp, by simp, by simp⟩
  case hstep =>
    intro L a w1 hI i o ho hLi hdep
    obtain ⟨x5, x10, x11, x12, x13, x14, x15, g3, g6, old, rfl, h⟩ := hI
    have hi : i < 8 := (Array.getElem?_eq_some_iff.1 ho).1
    have hi8 : i = 0 ∨ i = 1 ∨ i = 2 ∨ i = 3 ∨ i = 4 ∨ i = 5 ∨ i = 6 ∨ i = 7 := by omega
    rcases hi8 with rfl | rfl | rfl | rfl | rfl | rfl | rfl | rfl
    ·
      have ho2 := (Array.getElem?_eq_some_iff.1 ho).2
      simp only [List.getElem_toArray, List.getElem_cons_zero] at ho2
      subst ho2
      refine wk.op_step ho rfl fun K hK => ?_
      have HK := Lib.hid hK
      have H := Lib.hid h
      clear hK hdep ho h
      go_simp
      refine (begin_calls _).mono ?_
      rintro e w2 ⟨rfl, hb2⟩
      have h := H.out.moved hb2
      exact HK.out _ _ ⟨x5, strV (hs.H0, []) 0, x11, x12, x13, x14, x15, g3, g6, old, by simp only [fr1, List.setIfInBounds_toArray, List.set_cons_zero, List.set_cons_succ], h.below, fun _ => rfl, h.c1, h.c2, h.c3, h.r3, h.k3, h.c4, h.c5, h.c6, h.k6, h.r6, h.z6, h.c7, h.o5, h.o7⟩
    ·
      have ho2 := (Array.getElem?_eq_some_iff.1 ho).2
      simp only [List.getElem_toArray, List.getElem_cons_succ, List.getElem_cons_zero] at ho2
      subst ho2
      refine wk.op_step ho rfl fun K hK => ?_
      have HK := Lib.hid hK
      have H := Lib.hid h
      clear hK hdep ho h
      simp only [fr1, List.setIfInBounds_toArray, List.set_cons_zero, List.set_cons_succ]
      go_simp
      have h := H.out
      exact HK.out _ _ ⟨x5, x10, .int .i64 tag, x12, x13, x14, x15, g3, g6, old, by simp only [fr1, List.setIfInBounds_toArray, List.set_cons_zero, List.set_cons_succ], h.below, h.c0, fun _ => rfl, h.c2, h.c3, h.r3, h.k3, h.c4, h.c5, h.c6, h.k6, h.r6, h.z6, h.c7, h.o5, h.o7⟩
    ·
      have ho2 := (Array.getElem?_eq_some_iff.1 ho).2
      simp only [List.getElem_toArray, List.getElem_cons_succ, List.getElem_cons_zero] at ho2
      subst ho2
      have d1 : L 1 = true := hdep { on := 1, ground := .data } (by simp) rfl
      refine wk.op_step ho rfl fun K hK => ?_
      have HK := Lib.hid hK
      have H := Lib.hid h
      clear hK hdep ho h
      have h := H.out
      have e := h.c1 d1
      subst e
      simp only [fr1, List.setIfInBounds_toArray, List.set_cons_zero, List.set_cons_succ]
      clear h
      go_simp
      have h := H.out
      exact HK.out _ _ ⟨x5, x10, .int .i64 tag, .int .u8 (IntKind.u8.wrap tag), x13, x14, x15, g3, g6, old, by simp only [fr1, List.setIfInBounds_toArray, List.set_cons_zero, List.set_cons_succ], h.below, h.c0, fun _ => rfl, fun _ => by rw [tagB_eq], h.c3, h.r3, h.k3, h.c4, h.c5, h.c6, h.k6, h.r6, h.z6, h.c7, h.o5, h.o7⟩
    ·
      have ho2 := (Array.getElem?_eq_some_iff.1 ho).2
      simp only [List.getElem_toArray, List.getElem_cons_succ, List.getElem_cons_zero] at ho2
      subst ho2
      have d2 : L 2 = true := hdep { on := 2, ground := .data } (by simp) rfl
      refine wk.op_step ho rfl fun K hK => ?_
      have HK := Lib.hid hK
      have H := Lib.hid h
      clear hK hdep ho h
      have h := H.out
      have e := h.c2 d2
      subst e
      simp only [fr1, List.setIfInBounds_toArray, List.set_cons_zero, List.set_cons_succ]
      clear h
      go_simp
      have h := H.out.moved ((Below.refl _ _).alloc (Nat.le_refl _) (.cells #[.int .u8 ((tagB tag).toNat : Int)] 5))
      exact HK.out _ _ ⟨x5, x10, x11, .int .u8 ((tagB tag).toNat : Int), .slice (some ⟨w1.heap.size, 0, none⟩) 1 1, x14, x15, w1.heap.size, g6, old, by simp only [fr1, List.setIfInBounds_toArray, List.set_cons_zero, List.set_cons_succ], h.below, h.c0, h.c1, fun _ => rfl, fun _ => rfl, fun _ _ => wi.RB_new rfl [tagB tag] _ rfl, fun _ => H.out.below.size, h.c4, h.c5, h.c6, h.k6, h.r6, h.z6, h.c7, h.o5, h.o7⟩
    ·
      have ho2 := (Array.getElem?_eq_some_iff.1 ho).2
      simp only [List.getElem_toArray, List.getElem_cons_succ, List.getElem_cons_zero] at ho2
      subst ho2
      have d3 : L 3 = true := hdep { on := 3, ground := .data } (by simp) rfl
      refine wk.op_step ho rfl fun K hK => ?_
      have HK := Lib.hid hK
      have H := Lib.hid h
      clear hK hdep ho h
      have h := H.out
      have e := h.c3 d3
      have hr := h.r3 d3 hLi
      subst e
      simp only [fr1, List.setIfInBounds_toArray, List.set_cons_zero, List.set_cons_succ]
      have hconv := wk.conv_str w1 67 5 9 Tryd.underlying67 Tryd.underlying5 Tryd.underlying9 (some ⟨g3, 0, none⟩) 1 1 [tagB tag] rfl hr
      clear h hr
      go_simp
      have h := H.out
      exact HK.out _ _ ⟨x5, x10, x11, x12, .slice (some ⟨g3, 0, none⟩) 1 1, .string ⟨#[tagB tag]⟩, x15, g3, g6, old, by simp only [fr1, List.setIfInBounds_toArray, List.set_cons_zero, List.set_cons_succ], h.below, h.c0, h.c1, h.c2, fun _ => rfl, fun _ h4 => absurd h4 (by simp), h.k3, fun _ => rfl, h.c5, h.c6, h.k6, h.r6, h.z6, h.c7, fun _ => rfl, h.o7⟩
    ·
      have ho2 := (Array.getElem?_eq_some_iff.1 ho).2
      simp only [List.getElem_toArray, List.getElem_cons_succ, List.getElem_cons_zero] at ho2
      subst ho2
      have d0 : L 0 = true := hdep { on := 0, ground := .data } (by simp) rfl
      have d4 : L 4 = true := hdep { on := 4, ground := .data } (by simp) rfl
      refine wk.op_step ho rfl fun K hK => ?_
      have HK := Lib.hid hK
      have H := Lib.hid h
      clear hK hdep ho h
      have h := H.out
      have e := h.c0 d0
      subst e
      have e := h.c4 d4
      subst e
      have hA := add_calls (hs.H0, []) 0 ⟨#[tagB tag]⟩ w1 str_begin (by show 0 + 1 ≤ _; omega) (HT.out.below HT.out.1 (HB0.out.trans (h.below.mono HB0.out.size)))
      have HA : Hid (Calls Tryd.prog 75 #[strV (hs.H0, []) 0, .string ⟨#[tagB tag]⟩] w1 fun e w' => e = .returned (strV (hs.feed (hs.H0, []) [tagB tag]) 1) ∧ Below w1.heap.size w1 w') := hA
      clear h hA
      simp only [fr1, List.setIfInBounds_toArray, List.set_cons_zero, List.set_cons_succ]
      go_simp
      refine HA.out.mono ?_
      rintro e w2 ⟨rfl, hb2⟩
      have h := H.out.moved hb2
      exact HK.out _ _ ⟨x5, strV (hs.H0, []) 0, x11, x12, x13, .string ⟨#[tagB tag]⟩, strV (hs.feed (hs.H0, []) [tagB tag]) 1, g3, g6, old, by simp only [fr1, List.setIfInBounds_toArray, List.set_cons_zero, List.set_cons_succ], h.below, fun _ => rfl, h.c1, h.c2, h.c3, h.r3, h.k3, fun _ => rfl, fun _ => rfl, h.c6, h.k6, h.r6, h.z6, h.c7, fun _ => d4, h.o7⟩
    ·
      have ho2 := (Array.getElem?_eq_some_iff.1 ho).2
      simp only [List.getElem_toArray, List.getElem_cons_succ, List.getElem_cons_zero] at ho2
      subst ho2
      refine wk.op_step ho rfl fun K hK => ?_
      have HK := Lib.hid hK
      have H := Lib.hid h
      clear hK hdep ho h
      simp only [fr1, List.setIfInBounds_toArray, List.set_cons_zero, List.set_cons_succ]
      go_simp
      have h := H.out.moved ((Below.refl _ _).alloc (Nat.le_refl _) (.cells Tryd.zeroCells82 82))
      refine HK.out _ _ ⟨.pointer (some ⟨w1.heap.size, 0, none⟩), x10, x11, x12, x13, x14, x15, g3, w1.heap.size, Tryd.zeroCells82, by simp only [fr1, List.setIfInBounds_toArray, List.set_cons_zero, List.set_cons_succ], h.below, h.c0, h.c1, h.c2, h.c3, h.r3, h.k3, h.c4, h.c5, fun _ => rfl, fun _ => H.out.below.size, fun _ => heap_alloc_new _ _, fun _ => rfl, fun h7 => ?_, h.o5, fun _ => rfl⟩
      have := H.out.o7 h7
      rw [hLi] at this
      cases this
    ·
      have ho2 := (Array.getElem?_eq_some_iff.1 ho).2
      simp only [List.getElem_toArray, List.getElem_cons_succ, List.getElem_cons_zero] at ho2
      subst ho2
      have d5 : L 5 = true := hdep { on := 5, ground := .data } (by simp) rfl
      have d6 : L 6 = true := hdep { on := 6, ground := .data } (by simp) rfl
      refine wk.op_step ho rfl fun K hK => ?_
      have HK := Lib.hid hK
      have H := Lib.hid h
      clear hK hdep ho h
      have h := H.out
      have e := h.c5 d5
      subst e
      have e := h.c6 d6
      subst e
      have hr6 := h.r6 d6
      have hz6 := h.z6 d6
      clear h
      simp only [fr1, List.setIfInBounds_toArray, List.set_cons_zero, List.set_cons_succ]
      refine wp_store_row 82 (.tmp 5) (.tmp 15) rfl g6 (stC (hs.feed (hs.H0, []) [tagB tag]).1 (hs.blk (hs.feed (hs.H0, []) [tagB tag]).2) 1).toArray rfl rfl 82 old hr6 (size_toA size73 (stC_length rfl)) (by rw [hz6]; rfl) (Array.all_eq_true_iff_forall_mem.2 fun u hu => stC_ones _ _ _ u (by simpa using hu)) ?_
      have h := H.out
      refine HK.out _ _ ⟨.pointer (some ⟨g6, 0, none⟩), x10, x11, x12, x13, x14, strV (hs.feed (hs.H0, []) [tagB tag]) 1, g3, g6, (stC (hs.feed (hs.H0, []) [tagB tag]).1 (hs.blk (hs.feed (hs.H0, []) [tagB tag]).2) 1).toArray, by simp only [fr1, Act.put, List.setIfInBounds_toArray, List.set_cons_zero, List.set_cons_succ], wk.below_setRow h.below (h.k6 d6) _, h.c0, h.c1, h.c2, h.c3, fun h3 h4 => ?_, h.k3, h.c4, fun _ => rfl, fun _ => rfl, h.k6, fun _ => setRow_heap _ _ _ _ _ _ (h.r6 d6), fun _ => rfl, fun _ => rfl, h.o5, fun _ => d6⟩
      have h5 := h.o5 d5
      have h4' : L 4 = false := h4
      rw [h5] at h4'
      cases h4'
  case hdone =>
    intro L a w1 hL hI
    obtain ⟨x5, x10, x11, x12, x13, x14, x15, g3, g6, old, rfl, h⟩ := hI
    have e6 := h.c6 (hL 6 (by decide))
    have e7 := h.c7 (hL 7 (by decide))
    have r6 := h.r6 (hL 6 (by decide))
    have k6 := h.k6 (hL 6 (by decide))
    have hbz := h.below
    rw [e7] at r6
    subst e6
    clear h e7 hL
    have hdg : w1.heap[w.heap.size]? = some (.cells #[.int .u8 0, .int .u8 0, .int .u8 0, .int .u8 0, .int .u8 0, .int .u8 0, .int .u8 0, .int .u8 0, .int .u8 0, .int .u8 0, .int .u8 0, .int .u8 0, .int .u8 0, .int .u8 0, .int .u8 0, .int .u8 0] 65 (0, 0)) := by
      refine (hbz.block _ (by simp)).trans ?_
      exact heap_alloc_new w _
    have hbw := HB0.out.trans (hbz.mono HB0.out.size)
    have k6' : w.heap.size + 1 ≤ g6 := by have h : (w.alloc (.cells #[.int .u8 0, .int .u8 0, .int .u8 0, .int .u8 0, .int .u8 0, .int .u8 0, .int .u8 0, .int .u8 0, .int .u8 0, .int .u8 0, .int .u8 0, .int .u8 0, .int .u8 0, .int .u8 0, .int .u8 0, .int .u8 0] 65)).drew.heap.size = w.heap.size + 1 := by simp
                                          rw [h] at k6; exact k6
    clear hbz k6 HB0
    generalize hB : w.heap.size = B at *
    have HB := Lib.hid hB
    clear hB
    simp only [fr1, List.setIfInBounds_toArray, List.set_cons_zero, List.set_cons_succ]
    have R6 := Lib.hid r6
    have RD := Lib.hid hdg
    have RB := Lib.hid hbw
    clear r6 hdg hbw
    go_wp2_with fail
    have HL := Lib.hid hl
    have HN := Lib.hid hn
    have HTOT := Lib.hid htot
    clear hl hn htot
    go_loopg [18] n (fun g x wr => ∃ k : Nat, k + g = n ∧ x = .int .i64 (k : Int) ∧ rowS wr g6 (hs.feed (hs.H0, []) (tagB tag :: (l.take k).flatMap fun s => wp.encB s.data.toList)) (1 + ((l.take k).flatMap fun s => wp.encB s.data.toList).length) ∧ wr.heap[B]? = some (.cells #[.int .u8 0, .int .u8 0, .int .u8 0, .int .u8 0, .int .u8 0, .int .u8 0, .int .u8 0, .int .u8 0, .int .u8 0, .int .u8 0, .int .u8 0, .int .u8 0, .int .u8 0, .int .u8 0, .int .u8 0, .int .u8 0] 65 (0, 0)) ∧ Below B w wr)
    case atStart => exact ⟨0, by omega, rfl, R6.out, RD.out, RB.out⟩
    case round =>
      obtain ⟨k, hk, rfl, hrow, hdg, hbel⟩ := hrel
      have HK0 := Lib.hid hk
      have R6 := Lib.hid hrow
      have RD := Lib.hid hdg
      have RB := Lib.hid hbel
      have hkn : k ≤ n := by omega
      clear hrow hdg hbel hk
      by_cases hlt : k < n
      · have hkl : k < l.length := by have := HN.out; omega
        have hlk : l[k]? = some l[k] := List.getElem?_eq_getElem hkl
        obtain ⟨b, o, rfl, hbw, hcell⟩ := HL.out (by simp; omega)
        have hck : wr.cell? ⟨b, o + k, none⟩ = some (.string l[k]) := by
          rw [RB.out.cell (p := ⟨b, o + k, none⟩) (by rw [← HB.out]; exact hbw)]
          exact hcell k _ (by simp [hlk])
        have HS := Lib.hid (wp.flat_snoc (fun s => wp.encB s.data.toList) hlk)
        have HLE := Lib.hid (wp.flat_le (fun s => wp.encB s.data.toList) l (k + 1))
        have HSTR : Hid (Str (hs.feed (hs.H0, []) (tagB tag :: (l.take k).flatMap fun s => wp.encB s.data.toList)) (1 + ((l.take k).flatMap fun s => wp.encB s.data.toList).length)) := by
          have := str_begin.feed (tagB tag :: (l.take k).flatMap fun s => wp.encB s.data.toList)
          rw [List.length_cons, Nat.add_comm _ 1, Nat.zero_add] at this
          exact this
        clear hcell hlk
        generalize l[k] = s at *
        generalize hP : (l.take k).flatMap (fun s => wp.encB s.data.toList) = Pk at *
        have HP := Lib.hid hP
        clear hP
        generalize hst : hs.feed (hs.H0, []) (tagB tag :: Pk) = st at *
        have HST := Lib.hid hst
        clear hst
        have HM : Hid (1 + Pk.length + (wp.encB s.data.toList).length ≤ 140737488355318) := by
          have h1 := HLE.out
          rw [HS.out, List.length_append] at h1
          have h2 := HTOT.out
          show _ ≤ _; omega
        go_upto_region 5 with fail
        obtain ⟨C, hC⟩ : ∃ C : Ctx2, C = ⟨w, g6, st, 1 + Pk.length, s⟩ := ⟨_, rfl⟩
        have HCG : Hid (C.g = g6) := by rw [hC]; rfl
        have HCS : Hid (C.s = s) := by rw [hC]; rfl
        have HCT : Hid (Str C.st C.m) := by rw [hC]; exact HSTR.out
        have HCI : Hid (C.wI = w) := by rw [hC]; rfl
        have HCM : Hid (C.m + (wp.encB C.s.data.toList).length ≤ 140737488355318) := by rw [hC]; exact HM.out
        have HBK : Hid ((hs.blk C.st.2).length = 64) := hs.blk_length (by have := HCT.out.lt; omega)
        have HBK2 : Hid ((hs.blk (hs.feed C.st (wp.encB C.s.data.toList)).2).length = 64) := hs.blk_length (by have := (HCT.out.feed (wp.encB C.s.data.toList)).lt; omega)
        have HSZ : Hid (s.size ≤ 140737488355318) := by
          have h1 := HM.out
          rw [wp.encB_eq, List.length_append] at h1
          have h2 : s.data.toList.length = s.size := by rw [Array.length_toList]; rfl
          show _ ≤ _; omega
        have HC := Lib.hid hC
        clear hC
        refine wk.region_inv (Inv2 C) (by kernel_rfl) (by kernel_rfl) ?g0 ?gstep ?gdone
        case g0 =>
          have hC := HC.out
          clear HC HCG HCS HCT HCI HCM HBK HBK2
          subst hC
          exact ⟨u22, u23, u24, u25, u26, none, 0, 0, by simp only [fr2, List.setIfInBounds_toArray, List.set_cons_zero, List.set_cons_succ], by rw [HB.out]; exact RB.out.drew, fun _ _ _ => rfl, Nat.le_refl _, fun _ => R6.out, by simp, by simp, by simp, by simp, by simp, by simp, by simp, by simp, by simp, by simp, by simp, by show w.heap.size ≤ g6; rw [HB.out]; omega⟩
        case gstep =>
          intro L a w1 hI i o ho hLi hdep
          obtain ⟨x22, x23, x24, x25, x26, A2, n2, c2, rfl, h⟩ := hI
          have hi : i < 6 := (Array.getElem?_eq_some_iff.1 ho).1
          have hi8 : i = 0 ∨ i = 1 ∨ i = 2 ∨ i = 3 ∨ i = 4 ∨ i = 5 := by omega
          rcases hi8 with rfl | rfl | rfl | rfl | rfl | rfl
          ·
            have ho2 := (Array.getElem?_eq_some_iff.1 ho).2
            simp only [List.getElem_toArray, List.getElem_cons_zero] at ho2
            subst ho2
            refine wk.op_step ho rfl fun K hK => ?_
            have HK := Lib.hid hK
            have H := Lib.hid h
            clear hK hdep ho h
            simp only [fr2, List.setIfInBounds_toArray, List.set_cons_zero, List.set_cons_succ]
            have hL5 : L 5 = false := by
              cases h5 : L 5 with
              | false => rfl
              | true => exact absurd (H.out.o40 (H.out.o54 h5)) (by rw [hLi]; simp)
            have hg := H.out.r6 hL5
            unfold rowS at hg
            have hz := size_toA size73 (stC_length (v := C.st.1) (n := (C.m : Int)) HBK.out)
            refine wp_load_row 82 (.tmp 5) rfl g6 rfl 82 (stC C.st.1 (hs.blk C.st.2) (C.m : Int)).toArray (0, 0) _ (by rw [HCG.out] at hg; exact hg) Tryd.underlying82 rfl hz ?_
            have h := H.out
            exact HK.out _ _ ⟨.agg (stC C.st.1 (hs.blk C.st.2) (C.m : Int)).toArray, x23, x24, x25, x26, A2, n2, c2, by simp only [fr2, Act.put, List.setIfInBounds_toArray, List.set_cons_zero, List.set_cons_succ], h.bel, h.oth, h.siz, h.r6, fun _ => rfl, h.c1, h.c2, h.r2, h.n2, h.c3, h.c4, h.c5, h.o4, fun _ => rfl, h.o54, h.gI⟩
          ·
            have ho2 := (Array.getElem?_eq_some_iff.1 ho).2
            simp only [List.getElem_toArray, List.getElem_cons_succ, List.getElem_cons_zero] at ho2
            subst ho2
            refine wk.op_step ho rfl fun K hK => ?_
            have HK := Lib.hid hK
            have H := Lib.hid h
            clear hK hdep ho h
            simp only [fr2, List.setIfInBounds_toArray, List.set_cons_zero, List.set_cons_succ]
            go_simp
            have h := H.out
            exact HK.out _ _ ⟨x22, .string s, x24, x25, x26, A2, n2, c2, by simp only [fr2, List.setIfInBounds_toArray, List.set_cons_zero, List.set_cons_succ], h.bel, h.oth, h.siz, h.r6, h.c0, fun _ => by rw [HCS.out], h.c2, h.r2, h.n2, h.c3, h.c4, h.c5, h.o4, h.o40, h.o54, h.gI⟩
          ·
            have ho2 := (Array.getElem?_eq_some_iff.1 ho).2
            simp only [List.getElem_toArray, List.getElem_cons_succ, List.getElem_cons_zero] at ho2
            subst ho2
            have d1 : L 1 = true := hdep { on := 1, ground := .data } (by simp) rfl
            refine wk.op_step ho rfl fun K hK => ?_
            have HK := Lib.hid hK
            have H := Lib.hid h
            clear hK hdep ho h
            have e := H.out.c1 d1
            rw [HCS.out] at e
            subst e
            simp only [fr2, List.setIfInBounds_toArray, List.set_cons_zero, List.set_cons_succ]
            go_simp
            refine (wi.bytes_out s w1 HSZ.out).mono ?_
            rintro e w2 ⟨v, rfl, hown, hb2⟩
            obtain ⟨A3, c3, rfl, hc31, hc32, hR⟩ := wp.RC.of_own hown
            have h := H.out.moved hb2
            exact HK.out _ _ ⟨x22, .string s, .slice A3 (wp.encB s.data.toList).length c3, x25, x26, A3, (wp.encB s.data.toList).length, c3, by simp only [fr2, List.setIfInBounds_toArray, List.set_cons_zero, List.set_cons_succ], h.bel, h.oth, h.siz, h.r6, h.c0, h.c1, fun _ => rfl, fun _ _ => by rw [HCS.out]; exact hR.rb, fun _ => by rw [HCS.out], h.c3, h.c4, h.c5, h.o4, h.o40, h.o54, h.gI⟩
          ·
            have ho2 := (Array.getElem?_eq_some_iff.1 ho).2
            simp only [List.getElem_toArray, List.getElem_cons_succ, List.getElem_cons_zero] at ho2
            subst ho2
            have d2 : L 2 = true := hdep { on := 2, ground := .data } (by simp) rfl
            refine wk.op_step ho rfl fun K hK => ?_
            have HK := Lib.hid hK
            have H := Lib.hid h
            clear hK hdep ho h
            have h := H.out
            have e := h.c2 d2
            have hr := h.r2 d2 hLi
            have hn2 := h.n2 d2
            subst e
            simp only [fr2, List.setIfInBounds_toArray, List.set_cons_zero, List.set_cons_succ]
            have hconv := wk.conv_str w1 67 5 9 Tryd.underlying67 Tryd.underlying5 Tryd.underlying9 A2 n2 c2 _ hn2 hr
            clear h hr hn2
            go_simp
            have h := H.out
            exact HK.out _ _ ⟨x22, x23, .slice A2 n2 c2, .string ⟨(wp.encB C.s.data.toList).toArray⟩, x26, A2, n2, c2, by simp only [fr2, List.setIfInBounds_toArray, List.set_cons_zero, List.set_cons_succ], h.bel, h.oth, h.siz, h.r6, h.c0, h.c1, fun _ => rfl, fun _ h3 => absurd h3 (by simp), h.n2, fun _ => rfl, h.c4, h.c5, fun _ => rfl, h.o40, h.o54, h.gI⟩
          ·
            have ho2 := (Array.getElem?_eq_some_iff.1 ho).2
            simp only [List.getElem_toArray, List.getElem_cons_succ, List.getElem_cons_zero] at ho2
            subst ho2
            have d0 : L 0 = true := hdep { on := 0, ground := .data } (by simp) rfl
            have d3 : L 3 = true := hdep { on := 3, ground := .data } (by simp) rfl
            refine wk.op_step ho rfl fun K hK => ?_
            have HK := Lib.hid hK
            have H := Lib.hid h
            clear hK hdep ho h
            have h := H.out
            have e := h.c0 d0
            subst e
            have e := h.c3 d3
            subst e
            have hA := add_calls C.st C.m ⟨(wp.encB C.s.data.toList).toArray⟩ w1 HCT.out (by show C.m + (wp.encB C.s.data.toList).toArray.size ≤ _; rw [List.size_toArray]; have := HCM.out; omega) (HT.out.below HT.out.1 (by have := h.bel; rw [HCI.out] at this; exact this))
            have HA : Hid (Calls Tryd.prog 75 #[strV C.st (C.m : Int), .string ⟨(wp.encB C.s.data.toList).toArray⟩] w1 fun e w' => e = .returned (strV (hs.feed C.st (wp.encB C.s.data.toList)) ((C.m + (wp.encB C.s.data.toList).length : Nat) : Int)) ∧ Below w1.heap.size w1 w') := hA
            clear h hA
            simp only [fr2, List.setIfInBounds_toArray, List.set_cons_zero, List.set_cons_succ]
            go_simp
            refine HA.out.mono ?_
            rintro e w2 ⟨rfl, hb2⟩
            have h := H.out.moved hb2
            exact HK.out _ _ ⟨strV C.st (C.m : Int), x23, x24, .string ⟨(wp.encB C.s.data.toList).toArray⟩, strV (hs.feed C.st (wp.encB C.s.data.toList)) ((C.m + (wp.encB C.s.data.toList).length : Nat) : Int), A2, n2, c2, by simp only [fr2, List.setIfInBounds_toArray, List.set_cons_zero, List.set_cons_succ], h.bel, h.oth, h.siz, h.r6, h.c0, h.c1, h.c2, h.r2, h.n2, h.c3, fun _ => rfl, h.c5, fun _ => d3, fun _ => d0, fun _ => rfl, h.gI⟩
          ·
            have ho2 := (Array.getElem?_eq_some_iff.1 ho).2
            simp only [List.getElem_toArray, List.getElem_cons_succ, List.getElem_cons_zero] at ho2
            subst ho2
            have d4 : L 4 = true := hdep { on := 4, ground := .data } (by simp) rfl
            refine wk.op_step ho rfl fun K hK => ?_
            have HK := Lib.hid hK
            have H := Lib.hid h
            clear hK hdep ho h
            have h := H.out
            have e := h.c4 d4
            subst e
            have hg := h.r6 hLi
            unfold rowS at hg
            rw [HCG.out] at hg
            clear h
            simp only [fr2, List.setIfInBounds_toArray, List.set_cons_zero, List.set_cons_succ]
            refine wp_store_row 82 (.tmp 5) (.tmp 26) rfl g6 (stC (hs.feed C.st (wp.encB C.s.data.toList)).1 (hs.blk (hs.feed C.st (wp.encB C.s.data.toList)).2) ((C.m + (wp.encB C.s.data.toList).length : Nat) : Int)).toArray rfl rfl 82 _ hg (size_toA size73 (stC_length HBK2.out)) (by rw [List.size_toArray, List.size_toArray, stC_length HBK.out, stC_length HBK2.out]) (Array.all_eq_true_iff_forall_mem.2 fun u hu => stC_ones _ _ _ u (by simpa using hu)) ?_
            have h := H.out
            refine HK.out _ _ ⟨x22, x23, x24, x25, strV (hs.feed C.st (wp.encB C.s.data.toList)) ((C.m + (wp.encB C.s.data.toList).length : Nat) : Int), A2, n2, c2, by simp only [fr2, Act.put, List.setIfInBounds_toArray, List.set_cons_zero, List.set_cons_succ], wk.below_setRow h.bel (by have := h.gI; rw [HCG.out] at this; exact this) _, fun k hk hg => ?_, by rw [size_setRow]; exact h.siz, fun h5 => absurd h5 (by simp), h.c0, h.c1, h.c2, fun h2 h3 => ?_, h.n2, h.c3, fun _ => rfl, fun _ => ?_, h.o4, h.o40, fun _ => d4, h.gI⟩
            · rw [setRow_other _ _ _ _ (by rw [HCG.out] at hg; exact hg)]; exact h.oth k hk hg
            · have h4 := h.o4 d4
              have h3' : L 3 = false := h3
              rw [h4] at h3'
              cases h3'
            · unfold rowS
              rw [HCG.out]
              exact setRow_heap _ _ _ _ _ _ hg
        case gdone =>
          intro L a w1 hL hI
          obtain ⟨x22, x23, x24, x25, x26, A2, n2, c2, rfl, h⟩ := hI
          have r6 := Lib.hid (h.c5 (hL 5 (by decide)))
          have rd : Hid (w1.heap[B]? = some (.cells #[.int .u8 0, .int .u8 0, .int .u8 0, .int .u8 0, .int .u8 0, .int .u8 0, .int .u8 0, .int .u8 0, .int .u8 0, .int .u8 0, .int .u8 0, .int .u8 0, .int .u8 0, .int .u8 0, .int .u8 0, .int .u8 0] 65 (0, 0))) := (h.oth B (wk.row_lt RD.out) (by rw [HCG.out]; omega)).trans RD.out
          have rb : Hid (Below B w w1) := by have := h.bel; rw [HCI.out, HB.out] at this; exact this
          clear h hL
          simp only [fr2, List.setIfInBounds_toArray, List.set_cons_zero, List.set_cons_succ]
          go_wp2_with fail
          go_roundg (gk - 1)
          case measure => have := HK0.out; omega
          case rel =>
            refine ⟨k + 1, by have := HK0.out; omega, by go_num, ?_, rd.out, rb.out⟩
            have h := r6.out
            rw [HC.out] at h
            have e : hs.feed (hs.H0, []) (tagB tag :: (l.take (k + 1)).flatMap fun s => wp.encB s.data.toList) = hs.feed st (wp.encB s.data.toList) := by
              rw [HS.out, ← HST.out, ← hs.feed_append]
              rfl
            rw [e, HS.out, List.length_append, ← Nat.add_assoc]
            exact h
      · obtain rfl : k = n := by omega
        have hkl : l.take k = l := by rw [← HN.out]; exact List.take_length
        have h6 := R6.out
        rw [hkl] at h6
        have HSTR : Hid (Str (hs.feed (hs.H0, []) (tagB tag :: l.flatMap fun s => wp.encB s.data.toList)) (1 + (l.flatMap fun s => wp.encB s.data.toList).length)) := by
          have := str_begin.feed (tagB tag :: l.flatMap fun s => wp.encB s.data.toList)
          rw [List.length_cons, Nat.add_comm _ 1, Nat.zero_add] at this
          exact this
        have HSHA : Hid (hs.out (hs.fin (hs.feed (hs.H0, []) (tagB tag :: l.flatMap fun s => wp.encB s.data.toList)) (1 + (l.flatMap fun s => wp.encB s.data.toList).length)) = hs.sha (tagB tag :: l.flatMap fun s => wp.encB s.data.toList)) := by
          have := sha_eq (tagB tag :: l.flatMap fun s => wp.encB s.data.toList)
          rw [List.length_cons, Nat.add_comm _ 1] at this
          exact this
        have htot := HTOT.out
        unfold rowS at h6
        generalize hMe : (l.flatMap fun s => wp.encB s.data.toList) = M at *
        have HME := Lib.hid hMe
        clear hMe
        generalize hs.feed (hs.H0, []) (tagB tag :: M) = st at *
        have hbl : (hs.blk st.2).length = 64 := hs.blk_length (by have := HSTR.out.lt; omega)
        have hz := size_toA size73 (stC_length (v := st.1) (n := ((1 + M.length : Nat) : Int)) hbl)
        have hTk := HT.out.below HT.out.1 (by have := RB.out; rw [← HB.out] at this; exact this)
        have HSC := Lib.hid (fun w' hT => sum_calls st (1 + M.length) w' HSTR.out (by omega) hT)
        rw [HSHA.out] at HSC
        have HTK := Lib.hid hTk
        have RD := Lib.hid RD.out
        clear hkl hbl hTk R6
        go_wp2_with (refine wpList_load_row rfl 82 (.tmp 5) rfl g6 rfl 82 (stC st.1 (hs.blk st.2) ((1 + M.length : Nat) : Int)).toArray (0, 0) _ h6 Tryd.underlying82 rfl hz ?_)
        refine (HSC.out wr HTK.out).mono ?_
        rintro e w2 ⟨rfl, hb2⟩
        have RD2 := Lib.hid (wk.row_below RD.out hb2)
        have RB2 := Lib.hid (RB.out.trans (hb2.mono (by have := wk.row_lt RD.out; omega)))
        have hcl : (wp.bc (hs.sha (tagB tag :: M))).length = 32 := by rw [wp.bc_length]; rfl
        generalize hsha : hs.sha (tagB tag :: M) = sh at *
        have HSH := Lib.hid hsha
        have hsl : sh.length = 32 := by rw [wp.bc_length] at hcl; exact hcl
        have HSL := Lib.hid hsl
        have hz32 := size_to size32 hcl
        have hz33 : z32.size = (wp.bc sh).length := by rw [hcl]; rfl
        unfold z32 at hz33
        have ho := wk.ones_bc sh
        clear hsha hcl hb2 h6 hz HSC HTK
        go_upto_region 9 with (refine wk.store_new rfl 86 (.tmp 8) (.tmp 29) rfl 86 _ (wp.bc sh) rfl rfl hz32 hz33 ho ?_)
        have q8 : ((w2.alloc (.cells (wp.bc sh).toArray 86)).alloc (.cells #[.int .u8 0, .int .u8 0, .int .u8 0, .int .u8 0, .int .u8 0, .int .u8 0, .int .u8 0, .int .u8 0, .int .u8 0, .int .u8 0, .int .u8 0, .int .u8 0, .int .u8 0, .int .u8 0, .int .u8 0, .int .u8 0] 65)).heap[w2.heap.size]? = some (.cells (wp.bc sh).toArray 86 (0, 0)) := heap_alloc2_old _ _ _
        have q9 : ((w2.alloc (.cells (wp.bc sh).toArray 86)).alloc (.cells #[.int .u8 0, .int .u8 0, .int .u8 0, .int .u8 0, .int .u8 0, .int .u8 0, .int .u8 0, .int .u8 0, .int .u8 0, .int .u8 0, .int .u8 0, .int .u8 0, .int .u8 0, .int .u8 0, .int .u8 0, .int .u8 0] 65)).heap[w2.heap.size + 1]? = some (.cells #[.int .u8 0, .int .u8 0, .int .u8 0, .int .u8 0, .int .u8 0, .int .u8 0, .int .u8 0, .int .u8 0, .int .u8 0, .int .u8 0, .int .u8 0, .int .u8 0, .int .u8 0, .int .u8 0, .int .u8 0, .int .u8 0] 65 (0, 0)) := heap_alloc2_new _ _ _
        have qb : Below w2.heap.size w2 ((w2.alloc (.cells (wp.bc sh).toArray 86)).alloc (.cells #[.int .u8 0, .int .u8 0, .int .u8 0, .int .u8 0, .int .u8 0, .int .u8 0, .int .u8 0, .int .u8 0, .int .u8 0, .int .u8 0, .int .u8 0, .int .u8 0, .int .u8 0, .int .u8 0, .int .u8 0, .int .u8 0] 65)) := ((Below.refl _ _).alloc (Nat.le_refl _) _).alloc (by simp) _
        have RD3 := Lib.hid (wk.row_below RD2.out qb)
        have RB3 := Lib.hid (RB2.out.trans (qb.mono (by have := wk.row_lt RD2.out; omega)))
        have HBG : Hid (B < w2.heap.size) := wk.row_lt RD2.out
        generalize (w2.alloc (.cells (wp.bc sh).toArray 86)).alloc (.cells #[.int .u8 0, .int .u8 0, .int .u8 0, .int .u8 0, .int .u8 0, .int .u8 0, .int .u8 0, .int .u8 0, .int .u8 0, .int .u8 0, .int .u8 0, .int .u8 0, .int .u8 0, .int .u8 0, .int .u8 0, .int .u8 0] 65) = w3 at *
        generalize w2.heap.size = G at *
        have R8 := Lib.hid q8
        have R9 := Lib.hid q9
        clear q8 q9 qb hz32 hz33 ho
        have hsrc : ∀ j v, (wp.bc (sh.take 16))[j]? = some v → w3.drew.cell? ((⟨G, 0, none⟩ : Addr).add j) = some v := fun j v hv => by
          rw [wk.add_at, Nat.zero_add]
          refine (cell_of_row w3 _ _ _ _ _ R8.out).trans ?_
          rw [List.getElem?_toArray]
          rw [show wp.bc (sh.take 16) = (wp.bc sh).take 16 from by simp [wp.bc, List.map_take], List.getElem?_take] at hv
          split at hv
          · exact hv
          · cases hv
        have hlen16 : (wp.bc (sh.take 16)).length = 16 := by rw [wp.bc_length, List.length_take]; omega
        have HSRC := Lib.hid hsrc
        have HL16 := Lib.hid hlen16
        clear hsrc hlen16 hsl
        go_region_law (refine step_copy_splice rfl (.tmp 30) (.tmp 31) 67 67 rfl 5 Tryd.underlying67 size_u8 (some ⟨G + 1, 0, none⟩) (some ⟨G, 0, none⟩) 16 16 32 32 rfl rfl (G + 1) 0 [.int .u8 0, .int .u8 0, .int .u8 0, .int .u8 0, .int .u8 0, .int .u8 0, .int .u8 0, .int .u8 0, .int .u8 0, .int .u8 0, .int .u8 0, .int .u8 0, .int .u8 0, .int .u8 0, .int .u8 0, .int .u8 0] 65 R9.out (wp.bc (sh.take 16)) (by rw [HL16.out]; rfl) (fun _ => ⟨rfl, _, rfl, HSRC.out⟩) (by rw [HL16.out]; decide) (wk.ones_bc _) (G + 1) w3.drew (Below.refl _ _) (Nat.le_refl _) ?_; intro w4 hg4 hb4)
        have h9 : w4.heap[G + 1]? = some (.cells (wp.bc (sh.take 16)).toArray 65 (0, 0)) := by
          have h := hg4.out
          have e : Go.splice [.int .u8 0, .int .u8 0, .int .u8 0, .int .u8 0, .int .u8 0, .int .u8 0, .int .u8 0, .int .u8 0, .int .u8 0, .int .u8 0, .int .u8 0, .int .u8 0, .int .u8 0, .int .u8 0, .int .u8 0, .int .u8 0] 0 (wp.bc (sh.take 16)) = wp.bc (sh.take 16) := by
            unfold Go.splice
            rw [HL16.out]
            simp
          rw [e] at h
          exact h
        have RD4 : w4.heap[B]? = some (.cells #[.int .u8 0, .int .u8 0, .int .u8 0, .int .u8 0, .int .u8 0, .int .u8 0, .int .u8 0, .int .u8 0, .int .u8 0, .int .u8 0, .int .u8 0, .int .u8 0, .int .u8 0, .int .u8 0, .int .u8 0, .int .u8 0] 65 (0, 0)) := (hb4.block B (by have := HBG.out; omega)).trans RD3.out
        have RB4 := Lib.hid (RB3.out.drew.trans (hb4.mono (by have := HBG.out; omega)))
        have hz1 := size_toA info55x HL16.out
        have hz2 := size_to info55x HL16.out
        have hz3 : (#[.int .u8 0, .int .u8 0, .int .u8 0, .int .u8 0, .int .u8 0, .int .u8 0, .int .u8 0, .int .u8 0, .int .u8 0, .int .u8 0, .int .u8 0, .int .u8 0, .int .u8 0, .int .u8 0, .int .u8 0, .int .u8 0] : Array Value).size = (wp.bc (sh.take 16)).length := by rw [HL16.out]; rfl
        have ho := wk.ones_bc (sh.take 16)
        clear hg4 hb4
        generalize hcs : wp.bc (sh.take 16) = cs at *
        have HCS := Lib.hid hcs
        clear hcs
        go_wp2_with (first | refine wpList_load_row rfl 65 (.tmp 9) rfl (G + 1) rfl 65 cs.toArray (0, 0) _ h9 Tryd.underlying65 rfl hz1 ?_ | refine wk.store_row rfl 65 (.tmp 4) (.tmp 33) rfl B cs rfl rfl 65 _ RD4 hz2 hz3 ho ?_)
        refine bodyPost_ret (v := .agg cs.toArray) (results_cell_row (fn := Tryd.f58) rfl _ _ B 65 cs.toArray (0, 0) _ rfl (setRow_heap _ _ _ _ _ _ RD4) Tryd.underlying65 rfl hz1) rfl ⟨?_, ?_⟩
        · rw [← HCS.out, ← HSH.out, ← HME.out]
        · rw [HB.out]; exact wk.below_setRow RB4.out (Nat.le_refl _) _
end Go.Proofs.YtjhagfggelhpkaaDoor.hi
/- Plain facts on what is written and what is read: no program here. -/
namespace Go.Proofs.YtjhagfggelhpkaaDoor.wp

open Go.RowKit

theorem ret_bool {b : Bool} (h : b = true) : Ending.returned (.bool b) = .returned (.bool true) := by rw [h]

/-- a text: all bytes but the last one have the mark, the last one has not, and is not 0 where there are more -/
def Whole : List UInt8 → Prop
  | [] => False
  | [c] => c.toNat < 128
  | c :: d :: r => 128 ≤ c.toNat ∧ Whole (d :: r) ∧ (r = [] → d.toNat ≠ 0)

theorem whole_uvarint (q : Nat) : Whole (Lib.uvarint q) ∧ gv (Lib.uvarint q) = q ∧ (0 < q → Lib.uvarint q ≠ [0]) := by
  induction q using Nat.strongRecOn with
  | _ q ih =>
    rcases Nat.lt_or_ge q 128 with h | h
    · rw [Lib.uvarint_small h]
      have e : q.toUInt8.toNat = q := by simp [Nat.toUInt8, UInt8.toNat_ofNat']; omega
      refine ⟨by show _ < _; omega, by simp [gv, e]; omega, fun h0 h1 => ?_⟩
      have h2 : q.toUInt8 = 0 := by simpa using h1
      rw [h2] at e
      simp at e
      omega
    · obtain ⟨h1, h2, h3⟩ := ih (q / 128) (by omega)
      rw [Lib.uvarint_big h]
      have e : (q % 128 + 128).toUInt8.toNat = q % 128 + 128 := by simp [Nat.toUInt8, UInt8.toNat_ofNat']; omega
      refine ⟨?_, ?_, ?_⟩
      · have h4 := Lib.uvarint_pos (q / 128)
        cases hu : Lib.uvarint (q / 128) with
        | nil => rw [hu] at h4; simp at h4
        | cons d r =>
          rw [hu] at h1
          refine ⟨by omega, h1, fun hr hd => ?_⟩
          subst hr
          have hd0 : d = 0 := by rw [← UInt8.toNat_inj]; simpa using hd
          exact h3 (by omega) (by rw [hu, hd0])
      · simp only [gv, h2, e]; omega
      · intro _ hh
        have := congrArg List.length hh
        have h4 := Lib.uvarint_pos (q / 128)
        simp only [List.length_cons, List.length_nil] at this
        omega

theorem gv_pos : ∀ (l : List UInt8), Whole l → (∀ c, l = [c] → c.toNat ≠ 0) → 0 < gv l
  | [], h, _ => h.elim
  | [c], h, h0 => by have := h0 c rfl; have h' : c.toNat < 128 := h; simp [gv]; omega
  | c :: d :: r, h, _ => by
    have := gv_pos (d :: r) h.2.1 (fun e he => by
      have : r = [] ∧ d = e := by simpa [and_comm] using he
      rw [← this.2]; exact h.2.2 this.1)
    simp only [gv] at this ⊢
    omega

theorem uvarint_gv : ∀ (l : List UInt8), Whole l → Lib.uvarint (gv l) = l
  | [], h => h.elim
  | [c], h => by
    have h' : c.toNat < 128 := h
    have e : gv [c] = c.toNat := by simp [gv]; omega
    rw [e, Lib.uvarint_small h']
    simp [Nat.toUInt8]
  | c :: d :: r, h => by
    have hr := uvarint_gv (d :: r) h.2.1
    have hp := gv_pos (d :: r) h.2.1 (fun e he => by
      have : r = [] ∧ d = e := by simpa [and_comm] using he
      rw [← this.2]; exact h.2.2 this.1)
    have hc := h.1
    have hc2 := c.toNat_lt
    have e1 : gv (c :: d :: r) % 128 = c.toNat % 128 := by rw [gv]; omega
    have e2 : gv (c :: d :: r) / 128 = gv (d :: r) := by rw [gv]; omega
    rw [Lib.uvarint_big (by rw [gv]; omega), e1, e2, hr]
    congr 1
    rw [← UInt8.toNat_inj]
    simp [Nat.toUInt8, UInt8.toNat_ofNat']
    omega

theorem whole_high : ∀ (l t : List UInt8), Whole l → High (l ++ t) (l.length - 1) ∧ ∃ c, (l ++ t)[l.length - 1]? = some c ∧ c.toNat < 128 ∧ (0 < l.length - 1 → c.toNat ≠ 0)
  | [], _, h => h.elim
  | [c], t, h => ⟨High.zero _, c, by simp, h, fun h0 => absurd h0 (by simp)⟩
  | c :: d :: r, t, h => by
    obtain ⟨h1, e, he, h2, h3⟩ := whole_high (d :: r) t h.2.1
    have el : (d :: r).length - 1 + 1 = (c :: d :: r).length - 1 := by simp
    refine ⟨?_, e, ?_, h2, fun _ => ?_⟩
    · rw [← el]
      intro j u hj hu
      cases j with
      | zero => simp at hu; rw [← hu]; exact h.1
      | succ j => exact h1 j u (by omega) (by simpa using hu)
    · rw [← el]; simpa using he
    · rcases Nat.eq_zero_or_pos ((d :: r).length - 1) with h0 | h0
      · have hr : r = [] := List.eq_nil_of_length_eq_zero (by simpa using h0)
        subst hr
        have : d = e := by simpa using he
        rw [← this]; exact h.2.2 rfl
      · exact h3 h0

/-- what is written is read again, whatever follows it -/
theorem getI_encI {n : Int} (h0 : -9223372036854775808 ≤ n) (h1 : n ≤ 9223372036854775807) (t : List UInt8) : getI (encI n ++ t) = (n, ((encI n).length : Int), 0) := by
  obtain ⟨hw, hg, _⟩ := whole_uvarint (Lib.zigzag n)
  have hz := Lib.zigzag_lt h0 h1
  obtain ⟨hh, c, hc, hc1, hc2⟩ := whole_high _ t hw
  have hl := encI_length h0 h1
  have hp := encI_pos n
  unfold encI at *
  have hk : (Lib.uvarint (Lib.zigzag n)).length - 1 < 10 := by omega
  have ht : (Lib.uvarint (Lib.zigzag n) ++ t).take ((Lib.uvarint (Lib.zigzag n)).length - 1 + 1) = Lib.uvarint (Lib.zigzag n) := by
    rw [show (Lib.uvarint (Lib.zigzag n)).length - 1 + 1 = (Lib.uvarint (Lib.zigzag n)).length by omega]; simp
  have hgt := gv_take hc
  rw [ht, hg] at hgt
  rw [getI_some hh hk hc hc1, ht, hg, unz_zigzag, if_neg]
  · rw [show (Lib.uvarint (Lib.zigzag n)).length - 1 + 1 = (Lib.uvarint (Lib.zigzag n)).length by omega]
  · rintro (⟨h9, hx⟩ | ⟨ha, hb⟩)
    · rw [h9] at hgt
      have h5 : 128 ^ 9 * 2 ≤ 128 ^ 9 * (c.toNat % 128) := Nat.mul_le_mul_left _ (by omega)
      omega
    · exact hc2 ha hb

/-- what is read has been written -/
theorem whole_of_high : ∀ (l : List UInt8) (k : Nat), High l k → ∀ c, l[k]? = some c → c.toNat < 128 → (0 < k → c.toNat ≠ 0) → Whole (l.take (k + 1))
  | [], k, _, c, hc, _, _ => by simp at hc
  | a :: r, 0, _, c, hc, h8, _ => by
    have : a = c := by simpa using hc
    subst this
    simpa [Whole] using h8
  | a :: r, k + 1, h, c, hc, h8, h0 => by
    have hr : High r k := fun j u hj hu => h (j + 1) u (by omega) (by simpa using hu)
    have hc' : r[k]? = some c := by simpa using hc
    have h9 := h0 (by omega)
    have ih := whole_of_high r k hr c hc' h8 (fun _ => h9)
    have ha := h 0 a (by omega) (by simp)
    cases r with
    | nil => simp at hc'
    | cons b s =>
      rw [List.take_succ_cons, List.take_succ_cons] at *
      refine ⟨ha, ih, fun hs => ?_⟩
      rcases k with _ | k
      · have : b = c := by simpa using hc'
        rw [this]; exact h9
      · exfalso
        have : s = [] := by simpa using hs
        subst this
        simp at hc'

theorem encI_getI (l : List UInt8) (h : (getI l).2.2 = 0) : l.take (getI l).2.1.toNat = encI (getI l).1 ∧ ((encI (getI l).1).length : Int) = (getI l).2.1 := by
  by_cases hk : ∃ k c, High l k ∧ k < 10 ∧ l[k]? = some c ∧ c.toNat < 128
  · obtain ⟨k, c, hh, hk10, hc, h8⟩ := hk
    have hs := getI_some hh hk10 hc h8
    rw [hs] at h ⊢
    split at h
    · cases h
    · rename_i hno
      rw [if_neg hno]
      have hw := whole_of_high l k hh c hc h8 (fun h0 h1 => hno (.inr ⟨h0, h1⟩))
      have hkl : k < l.length := by
        rcases Nat.lt_or_ge k l.length with h' | h'
        · exact h'
        · rw [List.getElem?_eq_none h'] at hc; cases hc
      dsimp only
      have e : encI (unz (gv (l.take (k + 1)))) = l.take (k + 1) := by
        unfold encI
        rw [zigzag_unz, uvarint_gv _ hw]
      rw [e]
      refine ⟨by rw [Int.toNat_natCast], ?_⟩
      rw [List.length_take, Nat.min_eq_left (by omega)]
  · exfalso
    have hall : High l (min l.length 10) := by
      have : ∀ k, k ≤ min l.length 10 → High l k := by
        intro k
        induction k with
        | zero => intro _; exact High.zero _
        | succ k ih =>
          intro hk'
          have hkl : k < l.length := by omega
          have hlk : l[k]? = some l[k] := List.getElem?_eq_getElem hkl
          refine (ih (by omega)).succ hlk ?_
          rcases Nat.lt_or_ge l[k].toNat 128 with h' | h'
          · exact absurd ⟨k, l[k], ih (by omega), by omega, hlk, h'⟩ hk
          · exact h'
      exact this _ (Nat.le_refl _)
    rw [getI_none hall rfl] at h
    split at h <;> simp at h

/-- a beginning of a text is too short -/
theorem getI_short {n : Int} (h0 : -9223372036854775808 ≤ n) (h1 : n ≤ 9223372036854775807) {k : Nat} (hk : k < (encI n).length) : getI ((encI n).take k) = (0, 0, 10) := by
  obtain ⟨hw, _, _⟩ := whole_uvarint (Lib.zigzag n)
  obtain ⟨hh, _⟩ := whole_high _ [] hw
  have hl := encI_length h0 h1
  unfold encI at *
  rw [List.append_nil] at hh
  have hlen : ((Lib.uvarint (Lib.zigzag n)).take k).length = k := by rw [List.length_take]; omega
  have hhk : High ((Lib.uvarint (Lib.zigzag n)).take k) k := fun j u hj hu => by
    rw [List.getElem?_take_of_lt hj] at hu
    exact hh j u (by omega) hu
  rw [getI_none hhk (by rw [hlen]; omega), if_neg (by rw [hlen]; omega)]
end Go.Proofs.YtjhagfggelhpkaaDoor.wp
/- Plain facts on lists that are written and read: no program here. -/
namespace Go.Proofs.YtjhagfggelhpkaaDoor.wp

open Go.RowKit

set_option linter.unusedVariables false

section

variable {α : Type} {one : List UInt8 → α × Int × Int} {enc : α → List UInt8}

/-- what is read one behind the other has been written so -/
theorem getN_canon (h1 : ∀ l, (one l).2.2 = 0 → 0 ≤ (one l).2.1 ∧ (one l).2.1 ≤ l.length ∧ l.take (one l).2.1.toNat = enc (one l).1) (l : List UInt8) :
    ∀ (k : Nat) (acc : List α) (used : Int), 0 ≤ used → used ≤ l.length → (getN one l k acc used).2.2 = 0 →
      ∃ s, (getN one l k acc used).1 = acc ++ s ∧ s.length = k ∧ used ≤ (getN one l k acc used).2.1 ∧ (getN one l k acc used).2.1 ≤ l.length ∧ l.take (getN one l k acc used).2.1.toNat = l.take used.toNat ++ s.flatMap enc
  | 0, acc, used, h0, hl, _ => ⟨[], by simp [getN], rfl, by simp [getN], by simpa [getN] using hl, by simp [getN]⟩
  | k + 1, acc, used, h0, hl, he => by
    rw [getN] at he ⊢
    by_cases hz : (one (l.drop used.toNat)).2.2 = 0
    · obtain ⟨ha, hb, hc⟩ := h1 _ hz
      have hdl : ((l.drop used.toNat).length : Int) = l.length - used := by rw [List.length_drop]; omega
      rw [if_neg (by simp [hz])] at he ⊢
      obtain ⟨s, e1, e2, e3, e4, e5⟩ := getN_canon h1 l k _ _ (by omega) (by omega) he
      refine ⟨(one (l.drop used.toNat)).1 :: s, by rw [e1, List.append_assoc]; rfl, by simp [e2], by omega, e4, ?_⟩
      rw [e5, List.flatMap_cons, ← hc, ← List.append_assoc, show (used + (one (l.drop used.toNat)).2.1).toNat = used.toNat + (one (l.drop used.toNat)).2.1.toNat from by omega, List.take_add]
    · rw [if_pos hz] at he
      exact absurd he hz

/-- what is written one behind the other is read again -/
theorem getN_round (xs : List α) : ∀ (l t : List UInt8) (acc : List α) (used : Int), 0 ≤ used → (∀ x ∈ xs, ∀ t, one (enc x ++ t) = (x, ((enc x).length : Int), 0)) → l.drop used.toNat = xs.flatMap enc ++ t →
      getN one l xs.length acc used = (acc ++ xs, used + ((xs.flatMap enc).length : Int), 0) := by
  induction xs with
  | nil => intro l t acc used _ _ _; simp [getN]
  | cons x r ih =>
    intro l t acc used h0 h1 hd
    have hx := h1 x List.mem_cons_self (r.flatMap enc ++ t)
    rw [List.flatMap_cons, List.append_assoc] at hd
    have hd2 : l.drop (used + ((enc x).length : Int)).toNat = r.flatMap enc ++ t := by
      rw [show (used + ((enc x).length : Int)).toNat = used.toNat + (enc x).length from by omega, ← List.drop_drop, hd, List.drop_left]
    have := ih l t (acc ++ [x]) (used + ((enc x).length : Int)) (by omega) (fun y hy => h1 y (List.mem_cons_of_mem _ hy)) hd2
    rw [List.length_cons, getN, hd, hx, if_neg (by simp), this]
    simp only [List.append_assoc, List.singleton_append, List.flatMap_cons, List.length_append, Int.natCast_add, Int.add_assoc]

/-- a beginning of it is too short -/
theorem getN_short (xs : List α) : ∀ (l : List UInt8) (j : Nat) (acc : List α) (used : Int), 0 ≤ used → (∀ x ∈ xs, ∀ t, one (enc x ++ t) = (x, ((enc x).length : Int), 0)) →
      (∀ x ∈ xs, ∀ i, i < (enc x).length → (one ((enc x).take i)).2.2 = 10) → l.drop used.toNat = (xs.flatMap enc).take j → j < (xs.flatMap enc).length → (getN one l xs.length acc used).2.2 = 10 := by
  induction xs with
  | nil => intro l j acc used _ _ _ _ hj; simp at hj
  | cons x r ih =>
    intro l j acc used h0 h1 h2 hd hj
    rw [List.length_cons, getN]
    rcases Nat.lt_or_ge j (enc x).length with hlt | hge
    · have : l.drop used.toNat = (enc x).take j := by rw [hd, List.flatMap_cons, List.take_append_of_le_length (by omega)]
      have h10 := h2 x List.mem_cons_self j hlt
      rw [this, if_pos (by rw [h10]; decide)]
      exact h10
    · have e1 : (List.flatMap enc (x :: r)).take j = enc x ++ (r.flatMap enc).take (j - (enc x).length) := by
        rw [List.flatMap_cons, List.take_append, List.take_of_length_le (by omega)]
      have hx := h1 x List.mem_cons_self ((r.flatMap enc).take (j - (enc x).length))
      rw [e1] at hd
      rw [hd, hx, if_neg (by simp)]
      refine ih l (j - (enc x).length) _ _ (by dsimp only; omega) (fun y hy => h1 y (List.mem_cons_of_mem _ hy)) (fun y hy => h2 y (List.mem_cons_of_mem _ hy)) ?_ ?_
      · dsimp only
        rw [show (used + ((enc x).length : Int)).toNat = used.toNat + (enc x).length from by omega, ← List.drop_drop, hd, List.drop_left]
      · rw [List.flatMap_cons, List.length_append] at hj
        omega

end

theorem getC_ok {l : List UInt8} {least : Nat} (h : (getC l least).2.2 = 0) : (getI l).2.2 = 0 ∧ getC l least = ((getI l).1, (getI l).2.1, 0) ∧ 0 ≤ (getI l).1 := by
  unfold getC at h ⊢
  split at h
  · rename_i h'; exact absurd h h'
  · rename_i h'
    split at h
    · simp at h
    · rename_i h2
      split at h
      · simp at h
      · rename_i h3
        rw [if_neg h', if_neg h2, if_neg h3]
        exact ⟨by simpa using h', rfl, by omega⟩

/-- a text that is read has been written -/
theorem encB_getB (l : List UInt8) (h : (getB l).2.2 = 0) : l.take (getB l).2.1.toNat = encB (getB l).1 ∧ (getB l).1.length ≤ l.length := by
  unfold getB at h ⊢
  by_cases hc : (getC l 1).2.2 = 0
  · rw [if_neg (by simp [hc])]
    obtain ⟨h1, h2, h3⟩ := getC_ok hc
    have hf := getC_facts l 1 (by decide)
    obtain ⟨e1, e2⟩ := encI_getI l h1
    have hfi := getI_facts l
    rw [h2] at hf ⊢
    simp only at hf ⊢
    have hlen : ((l.drop (getI l).2.1.toNat).take (getI l).1.toNat).length = (getI l).1.toNat := by
      rw [List.length_take, List.length_drop]; omega
    refine ⟨?_, by omega⟩
    unfold encB
    rw [hlen, Int.toNat_of_nonneg h3, ← e1, show ((getI l).2.1 + (getI l).1).toNat = (getI l).2.1.toNat + (getI l).1.toNat from by omega, List.take_add]
  · rw [if_pos hc] at h
    exact absurd h hc

theorem getC_round {cnt least : Nat} (hc : cnt ≤ 9223372036854775807) (h1 : 1 ≤ least) (t : List UInt8) (ht : least * cnt ≤ t.length) : getC (encI (cnt : Int) ++ t) least = ((cnt : Int), ((encI (cnt : Int)).length : Int), 0) := by
  have hr := getI_encI (n := (cnt : Int)) (by omega) (by omega) t
  unfold getC
  rw [hr, if_neg (by simp), if_neg (by simp), if_neg]
  simp only [List.length_append]
  have e : ((encI (cnt : Int)).length + t.length : Nat) - ((encI (cnt : Int)).length : Int) = (t.length : Int) := by omega
  rw [e]
  have : (least * cnt : Int) ≤ t.length := by exact_mod_cast ht
  have h2 : (cnt : Int) ≤ (t.length : Int) / (least : Int) := (Int.le_ediv_iff_mul_le (by omega)).2 (by rw [Int.mul_comm]; exact this)
  omega

theorem getB_round (s t : List UInt8) (hs : s.length ≤ 9223372036854775807) : getB (encB s ++ t) = (s, ((encB s).length : Int), 0) := by
  unfold getB encB
  rw [List.append_assoc, getC_round hs (by decide) (s ++ t) (by simp), if_neg (by simp)]
  simp only [Int.toNat_natCast, List.drop_left, List.take_left, List.length_append, Int.natCast_add]

theorem getC_short {cnt least : Nat} (hc : cnt ≤ 9223372036854775807) (h1 : 1 ≤ least) (t : List UInt8) (j : Nat) (hj : j < (encI (cnt : Int)).length + t.length) (ht : t.length ≤ least * cnt) :
    (getC ((encI (cnt : Int) ++ t).take j) least).2.2 = 10 := by
  rcases Nat.lt_or_ge j (encI (cnt : Int)).length with h | h
  · rw [List.take_append_of_le_length (by omega)]
    have := getI_short (n := (cnt : Int)) (by omega) (by omega) h
    unfold getC
    rw [this, if_pos (by decide)]
  · have e : (encI (cnt : Int) ++ t).take j = encI (cnt : Int) ++ t.take (j - (encI (cnt : Int)).length) := by
      rw [List.take_append, List.take_of_length_le h]
    have hr := getI_encI (n := (cnt : Int)) (by omega) (by omega) (t.take (j - (encI (cnt : Int)).length))
    rw [e]
    unfold getC
    rw [hr, if_neg (by simp), if_neg (by simp), if_pos]
    simp only [List.length_append, List.length_take]
    have e2 : ((encI (cnt : Int)).length + min (j - (encI (cnt : Int)).length) t.length : Nat) - ((encI (cnt : Int)).length : Int) = ((j - (encI (cnt : Int)).length : Nat) : Int) := by omega
    rw [e2]
    refine (Int.ediv_lt_iff_lt_mul (by omega)).2 ?_
    have : (t.length : Int) ≤ (least * cnt : Int) := by exact_mod_cast ht
    rw [Int.mul_comm]
    omega

theorem getB_short (s : List UInt8) (hs : s.length ≤ 9223372036854775807) (j : Nat) (hj : j < (encB s).length) : (getB ((encB s).take j)).2.2 = 10 := by
  unfold encB at *
  have := getC_short (least := 1) hs (by decide) s j (by rw [List.length_append] at hj; exact hj) (by simp)
  unfold getB
  rw [if_pos (by rw [this]; decide)]
  exact this

/-! lists of integers, of texts, of digests -/
theorem getI_one (l : List UInt8) (h : (getI l).2.2 = 0) : 0 ≤ (getI l).2.1 ∧ (getI l).2.1 ≤ l.length ∧ l.take (getI l).2.1.toNat = encI (getI l).1 := by
  have hf := getI_facts l
  exact ⟨hf.2.2.1, hf.2.2.2.1, (encI_getI l h).1⟩
theorem getB_one (l : List UInt8) (h : (getB l).2.2 = 0) : 0 ≤ (getB l).2.1 ∧ (getB l).2.1 ≤ l.length ∧ l.take (getB l).2.1.toNat = encB (getB l).1 := by
  have hf := getB_facts l
  exact ⟨hf.1, hf.2.1, (encB_getB l h).1⟩

theorem getL_canon {α : Type} {one : List UInt8 → α × Int × Int} {enc : α → List UInt8} (h1 : ∀ l, (one l).2.2 = 0 → 0 ≤ (one l).2.1 ∧ (one l).2.1 ≤ l.length ∧ l.take (one l).2.1.toNat = enc (one l).1) (least : Nat) (hl : 1 ≤ least) (l : List UInt8)
    (h : (getL one least l).2.2 = 0) : l.take (getL one least l).2.1.toNat = encI ((getL one least l).1.length : Int) ++ (getL one least l).1.flatMap enc ∧ 0 ≤ (getL one least l).2.1 ∧ (getL one least l).2.1 ≤ l.length := by
  unfold getL at h ⊢
  by_cases hc : (getC l least).2.2 = 0
  · rw [if_neg (by simp [hc])] at h ⊢
    obtain ⟨i1, i2, i3⟩ := getC_ok hc
    have hf := getC_facts l least hl
    obtain ⟨e1, e2⟩ := encI_getI l i1
    have hfi := getI_facts l
    rw [i2] at hf h ⊢
    simp only at hf h ⊢
    obtain ⟨s, s1, s2, s3, s4, s5⟩ := getN_canon h1 l _ [] _ hfi.2.2.1 hfi.2.2.2.1 h
    refine ⟨?_, by omega, s4⟩
    rw [s5, s1, e1, List.nil_append, s2, Int.toNat_of_nonneg i3]
  · rw [if_pos hc] at h
    exact absurd h hc

theorem getL_round {α : Type} {one : List UInt8 → α × Int × Int} {enc : α → List UInt8} (xs : List α) (least : Nat) (hl : 1 ≤ least) (hx : xs.length ≤ 9223372036854775807) (hle : ∀ x ∈ xs, least ≤ (enc x).length)
    (h1 : ∀ x ∈ xs, ∀ t, one (enc x ++ t) = (x, ((enc x).length : Int), 0)) (t : List UInt8) :
    getL one least (encI (xs.length : Int) ++ xs.flatMap enc ++ t) = (xs, ((encI (xs.length : Int) ++ xs.flatMap enc).length : Int), 0) := by
  have hsum : least * xs.length ≤ (xs.flatMap enc).length := by
    clear h1 hx
    induction xs with
    | nil => simp
    | cons x r ih =>
      have := hle x List.mem_cons_self
      have := ih fun y hy => hle y (List.mem_cons_of_mem _ hy)
      rw [List.flatMap_cons, List.length_append, List.length_cons, Nat.mul_add]
      omega
  unfold getL
  rw [List.append_assoc, getC_round hx hl _ (by rw [List.length_append]; omega), if_neg (by simp)]
  simp only [Int.toNat_natCast]
  rw [getN_round xs _ t [] _ (by omega) h1 (by rw [Int.toNat_natCast, List.drop_left])]
  simp

theorem getL_short {α : Type} {one : List UInt8 → α × Int × Int} {enc : α → List UInt8} (xs : List α) (least : Nat) (hl : 1 ≤ least) (hx : xs.length ≤ 9223372036854775807)
    (h1 : ∀ x ∈ xs, ∀ t, one (enc x ++ t) = (x, ((enc x).length : Int), 0)) (h2 : ∀ x ∈ xs, ∀ i, i < (enc x).length → (one ((enc x).take i)).2.2 = 10) (j : Nat) (hj : j < (encI (xs.length : Int) ++ xs.flatMap enc).length) :
    (getL one least ((encI (xs.length : Int) ++ xs.flatMap enc).take j)).2.2 = 10 := by
  have hIl := encI_length (n := (xs.length : Int)) (by omega) (by omega)
  rw [List.length_append] at hj
  unfold getL
  rcases Nat.lt_or_ge j (encI (xs.length : Int)).length with h | h
  · have e : (getC ((encI (xs.length : Int) ++ xs.flatMap enc).take j) least).2.2 = 10 := by
      rw [List.take_append_of_le_length (by omega)]
      have := getI_short (n := (xs.length : Int)) (by omega) (by omega) h
      unfold getC
      rw [this, if_pos (by decide)]
    rw [if_pos (by rw [e]; decide)]
    exact e
  · have e : (encI (xs.length : Int) ++ xs.flatMap enc).take j = encI (xs.length : Int) ++ (xs.flatMap enc).take (j - (encI (xs.length : Int)).length) := by
      rw [List.take_append, List.take_of_length_le h]
    rw [e]
    have hr := getI_encI (n := (xs.length : Int)) (by omega) (by omega) ((xs.flatMap enc).take (j - (encI (xs.length : Int)).length))
    by_cases hc : (getC (encI (xs.length : Int) ++ (xs.flatMap enc).take (j - (encI (xs.length : Int)).length)) least).2.2 = 0
    · obtain ⟨_, i2, _⟩ := getC_ok hc
      rw [if_neg (by simp [hc]), i2, hr]
      simp only [Int.toNat_natCast]
      exact getN_short xs _ (j - (encI (xs.length : Int)).length) [] _ (by omega) h1 h2 (by rw [Int.toNat_natCast, List.drop_left]) (by omega)
    · rw [if_pos hc]
      unfold getC at hc ⊢
      rw [hr] at hc ⊢
      rw [if_neg (by simp)] at hc ⊢
      rw [if_neg (by simp)] at hc ⊢
      split at hc
      · rename_i h'; rw [if_pos h']
      · simp at hc

/-- digests are cut out of the bytes -/
theorem getD1_round (d t : List UInt8) (hd : d.length = 16) : getD1 (id d ++ t) = (d, ((id d).length : Int), 0) := by
  unfold getD1
  simp only [id]
  rw [hd, ← hd, List.take_left, hd]
  rfl
theorem getL_D_short (xs : List (List UInt8)) (h16 : ∀ d ∈ xs, d.length = 16) (hx : xs.length ≤ 576460752303423487) (j : Nat) (hj : j < (encDs xs).length) : (getL getD1 16 ((encDs xs).take j)).2.2 = 10 := by
  have hfl : (xs.flatMap id).length = 16 * xs.length := by
    clear hj hx
    induction xs with
    | nil => rfl
    | cons x r ih =>
      have h1 := h16 x List.mem_cons_self
      have h2 := ih fun d hd => h16 d (List.mem_cons_of_mem _ hd)
      rw [List.flatMap_cons, List.length_append, h2, List.length_cons]
      simp only [id, h1]
      omega
  unfold encDs at *
  have := getC_short (cnt := xs.length) (least := 16) (by omega) (by decide) (xs.flatMap id) j (by rw [List.length_append] at hj; exact hj) (by omega)
  unfold getL
  rw [if_pos (by rw [this]; decide)]
  exact this
theorem getL_D_canon (l : List UInt8) (h : (getL getD1 16 l).2.2 = 0) : l.take (getL getD1 16 l).2.1.toNat = encDs (getL getD1 16 l).1 ∧ 0 ≤ (getL getD1 16 l).2.1 ∧ (getL getD1 16 l).2.1 ≤ l.length ∧ ∀ d ∈ (getL getD1 16 l).1, d.length = 16 := by
  have key : ∀ (k : Nat) (acc : List (List UInt8)) (used : Nat), used + 16 * k ≤ l.length → (∀ d ∈ acc, d.length = 16) →
      ∃ s, getN getD1 l k acc (used : Int) = (acc ++ s, ((used + 16 * k : Nat) : Int), 0) ∧ s.length = k ∧ l.take (used + 16 * k) = l.take used ++ s.flatMap id ∧ ∀ d ∈ acc ++ s, d.length = 16 := by
    intro k
    induction k with
    | zero => intro acc used _ ha; exact ⟨[], by simp [getN], rfl, by simp, by simpa using ha⟩
    | succ k ih =>
      intro acc used hu ha
      have hdl : ((l.drop used).take 16).length = 16 := by rw [List.length_take, List.length_drop]; omega
      obtain ⟨s, s1, s2, s3, s4⟩ := ih (acc ++ [(l.drop used).take 16]) (used + 16) (by omega) (fun d hd => by
        rcases List.mem_append.1 hd with h | h
        · exact ha d h
        · rw [List.mem_singleton.1 h]; exact hdl)
      refine ⟨(l.drop used).take 16 :: s, ?_, by simp [s2], ?_, by simpa using s4⟩
      · rw [getN]
        simp only [getD1, ne_eq, not_true, if_false, Int.toNat_natCast]
        have s1' : getN getD1 l k (acc ++ [(l.drop used).take 16]) ((used : Int) + 16) = _ := s1
        rw [s1', List.append_assoc, show used + 16 + 16 * k = used + 16 * (k + 1) by omega]
        rfl
      · rw [show used + 16 * (k + 1) = used + 16 + 16 * k by omega, s3, List.take_add, List.flatMap_cons, List.append_assoc]
        rfl
  unfold getL at h ⊢
  by_cases hc : (getC l 16).2.2 = 0
  · rw [if_neg (by simp [hc])] at h ⊢
    obtain ⟨i1, i2, i3⟩ := getC_ok hc
    have hf := getC_facts l 16 (by decide)
    obtain ⟨e1, e2⟩ := encI_getI l i1
    have hfi := getI_facts l
    rw [i2] at hf h ⊢
    simp only at hf h ⊢
    obtain ⟨s, s1, s2, s3, s4⟩ := key (getI l).1.toNat [] (getI l).2.1.toNat (by omega) (by simp)
    rw [Int.toNat_of_nonneg hfi.2.2.1] at s1
    rw [s1]
    simp only [List.nil_append] at s4 ⊢
    refine ⟨?_, by omega, by omega, s4⟩
    rw [Int.toNat_natCast, s3, e1]
    unfold encDs
    rw [s2, Int.toNat_of_nonneg i3]
  · rw [if_pos hc] at h
    exact absurd h hc
end Go.Proofs.YtjhagfggelhpkaaDoor.wp
