
import Derived.Test.YtlmbacacjcbdjaaDoorHm

import Derived.Test.YtlmbacacjcbdjaaDoorKit4

namespace Go.Proofs.YtlmbacacjcbdjaaDoor.hi

open Go.ChangeShapes Go.WideShapes Go.ChangeAt Go.RowKit

set_option linter.unusedVariables false

/-- the cells of a stream -/
def stC (v : hs.S8) (blk : List UInt8) (n : Int) : List Value := u32s (l8 v) ++ (wp.bc blk ++ [Value.int .i64 n])
theorem stC_length {v : hs.S8} {blk : List UInt8} {n : Int} (h : blk.length = 64) : (stC v blk n).length = 73 := by
  unfold stC; rw [List.length_append, u32s_l8_length, List.length_append, wp.bc_length, h]; rfl
theorem size73 : (Tryd.prog.info? 101).map (·.size) = some 73 := by kernel_rfl
theorem size_to {t : TypeId} {n : Nat} {cs : List Value} (hs : (Tryd.prog.info? t).map (·.size) = some n) (h : cs.length = n) : (Tryd.prog.info? t).map (·.size) = some cs.length := by rw [h]; exact hs
theorem size_toA {t : TypeId} {n : Nat} {cs : List Value} (hs : (Tryd.prog.info? t).map (·.size) = some n) (h : cs.length = n) : (Tryd.prog.info? t).map (·.size) = some cs.toArray.size := by rw [List.size_toArray, h]; exact hs
theorem stC_ones (v : hs.S8) (blk : List UInt8) (n : Int) : wk.Ones (stC v blk n) := (ones_u32s _).append ((wk.ones_bc _).append (wk.ones_one _ _))
theorem bc64_length {b : List UInt8} (h : b.length = 64) : (wp.bc b).length = 64 := by rw [wp.bc_length]; exact h
def z64 : List UInt8 := List.replicate 64 0

set_option maxRecDepth 100000 in
set_option maxHeartbeats 1000000 in
theorem next_calls (v : hs.S8) (blk : List UInt8) (n : Int) (w : World) (hv : Ok8 v) (hb : blk.length = 64) (hT : TabK w) :
    Calls Tryd.prog 86 #[.agg (stC v blk n).toArray] w fun e w' => e = .returned (.agg (stC (hs.comp v blk) z64 n).toArray) ∧ Below w.heap.size w w' := by
  have HC := Lib.hid (fun w' => comp_calls v blk w' hv hb)
  have HT := Lib.hid hT
  have s8 := size_to size8 (u32s_l8_length v)
  have s64 := size_to size64b (bc64_length hb)
  have HB64 := Lib.hid hb
  clear hT hb hv
  go_enter Tryd.func86, Tryd.ntmps86
  go_wp2_with (first | refine wk.load_agg rfl 98 (.tmp 3) rfl ⟨w.heap.size, 0, none⟩ rfl (u32s (l8 v)) _ ?ha Tryd.underlying98 rfl s8 ?_ | refine wk.load_agg rfl 99 (.tmp 5) rfl ⟨w.heap.size, 8, none⟩ rfl (wp.bc blk) _ ?hc Tryd.underlying99 rfl s64 ?_)
  case ha => exact wk.row_mid (pre := []) (mid := u32s (l8 v)) (post := wp.bc blk ++ [Value.int IntKind.i64 n]) (heap_alloc2_old _ _ _) rfl
  case hc => exact wk.row_mid (pre := u32s (l8 v)) (mid := wp.bc blk) (post := [Value.int .i64 n]) (heap_alloc2_old _ _ _) (u32s_l8_length v)
  have hbz : Below w.heap.size w ((w.alloc (.cells (stC v blk n).toArray 101)).alloc (.cells Tryd.zeroCells101 101)) := ((Below.refl _ _).alloc (Nat.le_refl _) _).alloc (by simp) _
  have hr0 : ((w.alloc (.cells (stC v blk n).toArray 101)).alloc (.cells Tryd.zeroCells101 101)).heap[w.heap.size]? = some (.cells (u32s (l8 v) ++ (wp.bc blk ++ [Value.int .i64 n])).toArray 101 (0, 0)) := heap_alloc2_old _ _ _
  have hr1 : ((w.alloc (.cells (stC v blk n).toArray 101)).alloc (.cells Tryd.zeroCells101 101)).heap[w.heap.size + 1]? = some (.cells Tryd.zeroCells101 101 (0, 0)) := heap_alloc2_new _ _ _
  generalize ((w.alloc (.cells (stC v blk n).toArray 101)).alloc (.cells Tryd.zeroCells101 101)) = w2 at *
  have hT2 := HT.out.below HT.out.1 hbz
  refine (HC.out w2 hT2).mono ?_
  rintro e w1 ⟨rfl, hb1⟩
  have q0 := wk.row_below hr0 hb1
  have q1 := wk.row_below hr1 hb1
  have hbq : Below w.heap.size w w1 := hbz.trans (hb1.mono hbz.size)
  clear hr0 hr1 hb1 hbz hT2 HC
  generalize hv2 : hs.comp v blk = v2 at *
  have HV2 := Lib.hid hv2
  clear hv2
  generalize hB : w.heap.size = B at *
  have HB := Lib.hid hB
  clear hB
  have s8' := size_to size8 (u32s_l8_length v2)
  have o8 := ones_u32s (l8 v2)
  have m8 : (u32s (l8 v)).length = (u32s (l8 v2)).length := by rw [u32s_l8_length, u32s_l8_length]
  have sz := size_to size64b (bc64_length (b := z64) rfl)
  have oz := wk.ones_bc z64
  have mz : (wp.bc blk).length = (wp.bc z64).length := by rw [bc64_length HB64.out, bc64_length (b := z64) rfl]
  have q0a : (w1.setRow B ([] ++ (u32s (l8 v2) ++ (wp.bc blk ++ [Value.int .i64 n]))).toArray).heap[B]? = some (.cells (u32s (l8 v2) ++ (wp.bc blk ++ [Value.int .i64 n])).toArray 101 (0, 0)) := setRow_heap _ _ _ _ _ _ q0
  have q0b : ((w1.setRow B ([] ++ (u32s (l8 v2) ++ (wp.bc blk ++ [Value.int .i64 n]))).toArray).setRow B (u32s (l8 v2) ++ (wp.bc z64 ++ [Value.int .i64 n])).toArray).heap[B]? = some (.cells (stC v2 z64 n).toArray 101 (0, 0)) := setRow_heap _ _ _ _ _ _ q0a
  have q1b : ((w1.setRow B ([] ++ (u32s (l8 v2) ++ (wp.bc blk ++ [Value.int .i64 n]))).toArray).setRow B (u32s (l8 v2) ++ (wp.bc z64 ++ [Value.int .i64 n])).toArray).heap[B + 1]? = some (.cells Tryd.zeroCells101 101 (0, 0)) := by
    rw [setRow_other _ _ _ _ (by omega), setRow_other _ _ _ _ (by omega)]; exact q1
  have sS := size_toA size73 (stC_length (v := v2) (blk := z64) (n := n) rfl)
  have sS' := size_to size73 (stC_length (v := v2) (blk := z64) (n := n) rfl)
  have zS : (Tryd.zeroCells101).size = (stC v2 z64 n).length := by rw [stC_length rfl]; rfl
  have oS := stC_ones v2 z64 n
  go_wp2_with (first | refine wk.store_mid rfl 98 (.tmp 8) (.tmp 7) rfl B 0 (u32s (l8 v2)) [] (u32s (l8 v)) (wp.bc blk ++ [Value.int .i64 n]) rfl rfl 101 q0 rfl m8 s8' o8 ?_ | refine wk.store_mid rfl 99 (.tmp 10) (.tmp 9) rfl B 8 (wp.bc z64) (u32s (l8 v2)) (wp.bc blk) [Value.int .i64 n] rfl rfl 101 q0a rfl mz sz oz ?_ | refine wpList_load_row rfl 101 (.tmp 1) rfl B rfl 101 (stC v2 z64 n).toArray (0, 0) _ q0b Tryd.underlying101 rfl sS ?_ | refine wk.store_row rfl 101 (.tmp 2) (.tmp 11) rfl (B + 1) (stC v2 z64 n) rfl rfl 101 _ q1b sS' zS oS ?_)
  refine bodyPost_ret (v := .agg (stC v2 z64 n).toArray) (results_cell_row (fn := Tryd.f86) rfl _ _ (B + 1) 101 (stC v2 z64 n).toArray (0, 0) _ rfl (setRow_heap _ _ _ _ _ _ q1b) Tryd.underlying101 rfl sS) rfl ⟨?_, ?_⟩
  · rw [HV2.out]
  · rw [HB.out]; exact wk.below_setRow (wk.below_setRow (wk.below_setRow hbq (Nat.le_refl _) _) (Nat.le_refl _) _) (by omega) _
end Go.Proofs.YtlmbacacjcbdjaaDoor.hi
