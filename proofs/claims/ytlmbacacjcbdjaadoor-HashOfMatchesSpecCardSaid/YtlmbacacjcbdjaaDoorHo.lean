
import Derived.Test.YtlmbacacjcbdjaaDoorHn

import Derived.Test.YtlmbacacjcbdjaaDoorKit5

import Derived.Test.YtlmbacacjcbdjaaDoorHsx

namespace Go.Proofs.YtlmbacacjcbdjaaDoor.hi

open Go.ChangeShapes Go.WideShapes Go.ChangeAt Go.RowKit

set_option linter.unusedVariables false

/-- a message so far, as the program's struct -/
def strV (s : hs.S8 × List UInt8) (n : Int) : Value := .agg (stC s.1 (hs.blk s.2) n).toArray
/-- a message of n bytes -/
structure Str (s : hs.S8 × List UInt8) (n : Nat) : Prop where
  ok : Ok8 s.1
  len : s.2.length = n % 64
theorem Str.lt {s : hs.S8 × List UInt8} {n : Nat} (h : Str s n) : s.2.length < 64 := by rw [h.len]; omega
theorem ok_push {s : hs.S8 × List UInt8} (h : Ok8 s.1) (c : UInt8) : Ok8 (hs.push s c).1 := by
  unfold hs.push
  split
  · exact ok_plus _ _
  · exact h
theorem ok_feed {s : hs.S8 × List UInt8} (h : Ok8 s.1) (l : List UInt8) : Ok8 (hs.feed s l).1 := by
  induction l generalizing s with
  | nil => exact h
  | cons c l ih => exact ih (ok_push h c)
theorem Str.feed {s : hs.S8 × List UInt8} {n : Nat} (h : Str s n) (l : List UInt8) : Str (hs.feed s l) (n + l.length) := by
  refine ⟨ok_feed h.ok l, ?_⟩
  rw [hs.feed_length h.lt, h.len]; omega
theorem ok_H0 : Ok8 hs.H0 := ⟨by decide, by decide, by decide, by decide, by decide, by decide, by decide, by decide⟩
theorem str_begin : Str (hs.H0, []) 0 := ⟨ok_H0, rfl⟩

set_option maxRecDepth 100000 in
theorem size_u8 : (Tryd.prog.info? 5).map (·.size) = some 1 := by kernel_rfl

set_option maxRecDepth 100000 in
theorem begin_calls (w : World) :
    Calls Tryd.prog 63 #[] w fun e w' => e = .returned (strV (hs.H0, []) 0) ∧ Below w.heap.size w w' := by
  go_enter Tryd.func63, Tryd.ntmps63
  go_wp2_with (refine wk.store_new rfl 101 (.tmp 0) (.tmp 2) rfl 101 _ (stC hs.H0 (hs.blk []) 0) rfl rfl (size_to size73 (stC_length rfl)) rfl (stC_ones _ _ _) ?_)
  refine bodyPost_ret (v := .agg (stC hs.H0 (hs.blk []) 0).toArray) (results_cell_row (fn := Tryd.f63) rfl _ _ w.heap.size 101 (stC hs.H0 (hs.blk []) 0).toArray (0, 0) _ rfl (heap_alloc_new _ _) Tryd.underlying101 rfl (size_toA size73 (stC_length rfl))) rfl ⟨rfl, (Below.refl _ _).alloc (Nat.le_refl _) _⟩

set_option maxRecDepth 100000 in
set_option maxHeartbeats 1000000 in
theorem add_calls (s0 : hs.S8 × List UInt8) (n0 : Nat) (s : ByteArray) (w : World) (hs0 : Str s0 n0) (hn : n0 + s.size ≤ 1152921504606846976) (hT : TabK w) :
    Calls Tryd.prog 64 #[strV s0 (n0 : Int), .string s] w fun e w' => e = .returned (strV (hs.feed s0 s.data.toList) ((n0 + s.size : Nat) : Int)) ∧ Below w.heap.size w w' := by
  have HT := Lib.hid hT
  have HS := Lib.hid hs0
  clear hT hs0
  unfold strV
  go_enter Tryd.func64, Tryd.ntmps64
  go_wp2_with fail
  generalize hB : w.heap.size = B at *
  have HB := Lib.hid hB
  clear hB
  go_loopg [1] s.size (fun g x wr => ∃ (t : ByteArray) (n : Nat) (st : hs.S8 × List UInt8), x = .string t ∧ t.size = g ∧ Str st n ∧ n + g = n0 + s.size ∧ hs.feed st t.data.toList = hs.feed s0 s.data.toList ∧ wr.heap[B]? = some (.cells (stC st.1 (hs.blk st.2) (n : Int)).toArray 101 (0, 0)) ∧ wr.heap[B + 1]? = some (.cells Tryd.zeroCells101 101 (0, 0)) ∧ Below B w wr)
  case atStart =>
    have hB := HB.out
    subst hB
    exact ⟨s, n0, s0, rfl, rfl, HS.out, rfl, rfl, heap_alloc2_old _ _ _, heap_alloc2_new _ _ _, ((Below.refl _ _).alloc (Nat.le_refl _) _).alloc (by simp) _⟩
  case round =>
    obtain ⟨t, n, st, rfl, ht, hst, hng, hf, hc0, hc1, hbel⟩ := hrel
    have hcell : wr.cell? ⟨B, 72, none⟩ = some (.int .i64 (n : Int)) := by
      rw [cell_of_row _ _ _ _ _ _ hc0]
      unfold stC
      rw [List.getElem?_toArray, List.getElem?_append_right (by rw [u32s_l8_length]; omega), List.getElem?_append_right (by rw [u32s_l8_length, wp.bc_length, hs.blk_length (by have := hst.lt; omega)]; omega)]
      rw [u32s_l8_length, wp.bc_length, hs.blk_length (by have := hst.lt; omega)]
      rfl
    have HF := Lib.hid hf
    have HC0 := Lib.hid hc0
    have HC1 := Lib.hid hc1
    have HST := Lib.hid hst
    have HBEL := Lib.hid hbel
    clear hf hc0 hc1 hst hbel
    obtain rfl : t.size = gk := ht
    by_cases hlt : 0 < t.size
    · have hr64 : n % 64 < 64 := Nat.mod_lt _ (by decide)
      have hrn : ((n : Int) % 64).toNat = n % 64 := by omega
      have hsl : ∀ w' : World, (Instr.sliceAt 99 (.pointer (some ⟨B, 8, none⟩)) (some (.int .i64 ((n : Int) % 64))) none none).run Tryd.prog w' = .ok (.slice (some ⟨B, 8 + n % 64, none⟩) (64 - n % 64) (64 - n % 64)) w' := fun w' => by
        rw [run_sliceAt_array_l w' 99 ⟨B, 8, none⟩ Tryd.underlying99 .i64 ((n : Int) % 64) (by omega) (by show _ ≤ ((64 : Nat) : Int); omega), show Tryd.prog.elem 99 = 5 from by kernel_rfl, wk.run_sizeOf w' _ 1 size_u8]
        simp only [Result.andThen, slicedAt, hrn]
        rw [show Tryd.prog.arrayLen 99 = 64 from by kernel_rfl, if_neg (by omega), wk.add_at, Nat.mul_one]
      obtain ⟨c, hc⟩ : ∃ c, c = Nat.min t.size (64 - n % 64) := ⟨_, rfl⟩
      have hc1 : c ≤ t.size := by rw [hc]; exact Nat.min_le_left _ _
      have hc2 : n % 64 + c ≤ 64 := by have : c ≤ 64 - n % 64 := (by rw [hc]; exact Nat.min_le_right _ _); omega
      have hc3 : 0 < c := by rw [hc]; exact Nat.lt_min.2 ⟨hlt, by omega⟩
      have HSP := Lib.hid (hs.blk_split (l := st.2) c (by rw [HST.out.len]; exact hc2))
      have HCN := Lib.hid hc.symm
      clear hc
      have hrow : wr.heap[B]? = some (.cells ((u32s (l8 st.1) ++ wp.bc st.2) ++ (wp.bc (List.replicate c 0) ++ (wp.bc (List.replicate (64 - st.2.length - c) 0) ++ [Value.int .i64 (n : Int)]))).toArray 101 (0, 0)) := by
        have h := HC0.out
        unfold stC at h
        rw [HSP.out, wp.bc_append, wp.bc_append, List.append_assoc, List.append_assoc] at h
        rw [List.append_assoc]
        exact h
      have hpl : (u32s (l8 st.1) ++ wp.bc st.2).length = 8 + n % 64 := by rw [List.length_append, u32s_l8_length, wp.bc_length, HST.out.len]
      have htl : (t.data.toList.take c).length = c := by rw [List.length_take, Array.length_toList]; exact Nat.min_eq_left hc1
      have hnl : (st.2 ++ t.data.toList.take c).length = n % 64 + c := by rw [List.length_append, htl, HST.out.len]
      have hrw : ∀ x : Int, (u32s (l8 st.1) ++ wp.bc st.2) ++ (wp.bc (t.data.toList.take c) ++ (wp.bc (List.replicate (64 - st.2.length - c) 0) ++ [Value.int .i64 x])) = (u32s (l8 st.1) ++ wp.bc (hs.blk (st.2 ++ t.data.toList.take c))) ++ [Value.int .i64 x] := fun x => by
        have e := hs.blk_join (l := st.2) (r := t.data.toList.take c)
        rw [htl] at e
        rw [← e, wp.bc_append, wp.bc_append]
        simp only [List.append_assoc]
      have hpl2 : (u32s (l8 st.1) ++ wp.bc (hs.blk (st.2 ++ t.data.toList.take c))).length = 72 := by rw [List.length_append, u32s_l8_length, wp.bc_length, hs.blk_length (by omega)]
      have HROW := Lib.hid hrow
      have HPL := Lib.hid hpl
      have HRW := Lib.hid hrw
      have HPL2 := Lib.hid hpl2
      have HNL := Lib.hid hnl
      have HTL := Lib.hid htl
      have hsum : (n : Int) + (c : Int) = ((n + c : Nat) : Int) := by omega
      have HSUM := Lib.hid hsum
      have HW : Hid (IntKind.i64.wrap ((n : Int) + (c : Int)) = ((n + c : Nat) : Int)) := by show _ = _; rw [IntKind.wrap_i64]; omega
      have HM : Hid (((n + c : Nat) : Int) % 64 = (((n + c) % 64 : Nat) : Int)) := by show _ = _; omega
      clear hrow hpl hrn hrw hpl2 hnl htl hsum
      have HFD1 : (n + c) % 64 = 0 → Hid (hs.feed st (t.data.toList.take c) = (hs.comp st.1 (st.2 ++ t.data.toList.take c), [])) := fun h => hs.feed_eq (by rw [← List.length_append, HNL.out]; omega) (by rw [HTL.out]; exact hc3)
      have HFD2 : ¬ (n + c) % 64 = 0 → Hid (hs.feed st (t.data.toList.take c) = (st.1, st.2 ++ t.data.toList.take c)) := fun h => hs.feed_lt (by rw [← List.length_append, HNL.out]; omega)
      have HF2 : Hid (hs.feed (hs.feed st (t.data.toList.take c)) (t.extract c t.size).data.toList = hs.feed s0 s.data.toList) := by
        show _ = _
        rw [← hs.feed_append, ← HF.out]
        congr 1
        rw [wk.ext_list, List.take_append_drop]
      have HST2 : Hid (Str (hs.feed st (t.data.toList.take c)) (n + c)) := by
        have := HST.out.feed (t.data.toList.take c)
        rw [HTL.out] at this
        exact this
      have htx : (t.extract c t.size).size = t.size - c := by simp
      have HTX := Lib.hid htx
      clear htx
      generalize hst2 : hs.feed st (t.data.toList.take c) = st2 at *
      clear hst2
      by_cases h0 : (n + c) % 64 = 0
      · have hi0 : ((n : Int) + (c : Int)) % 64 = 0 := by omega
        have HFD := HFD1 h0
        clear HFD1 HFD2
        have hnl : (st.2 ++ t.data.toList.take c).length = 64 := by rw [HNL.out]; omega
        have HN64 := Lib.hid hnl
        have HNX := Lib.hid (fun w' hT => next_calls st.1 (st.2 ++ t.data.toList.take c) ((n : Int) + (c : Int)) w' HST.out.ok HN64.out hT)
        have HBF : Hid (hs.blk (st.2 ++ t.data.toList.take c) = st.2 ++ t.data.toList.take c) := hs.blk_full hnl
        clear hnl
        go_wp2_with (first | refine wpList_load_row rfl 101 (.tmp 2) rfl B rfl 101 (stC st.1 (st.2 ++ t.data.toList.take c) ((n : Int) + (c : Int))).toArray (0, 0) _ HR3.out Tryd.underlying101 rfl hsz3 ?_ | (refine wk.copy_str_n rfl (.tmp 13) (.tmp 14) 77 9 rfl 5 Tryd.underlying77 size_u8 B (8 + n % 64) (64 - n % 64) (64 - n % 64) c rfl t rfl 101 _ _ _ HROW.out HPL.out (by rw [wp.bc_length, List.length_replicate]) HCN.out ?_; intro w2 HR2 HO2 HB2; have hR2 := HR2.out; rw [HRW.out] at hR2; have hcell2 := wk.cell_last hR2 HPL2.out; have hfr2 := frozen_of_row _ _ 72 _ _ hR2; have hR3 := wk.row_last (u := Value.int .i64 ((n : Int) + (c : Int))) hR2 HPL2.out; rw [HBF.out, List.append_assoc] at hR3; have HR3 : Hid ((w2.setCell ⟨B, 72, none⟩ (Value.int .i64 ((n : Int) + (c : Int)))).heap[B]? = some (.cells (stC st.1 (st.2 ++ t.data.toList.take c) ((n : Int) + (c : Int))).toArray 101 (0, 0))) := hR3; have hsz3 := size_toA size73 (stC_length (v := st.1) (n := (n : Int) + (c : Int)) HN64.out); clear hR2 hR3))
        have hB3 : Below B w (w2.setCell ⟨B, 72, none⟩ (Value.int .i64 ((n : Int) + (c : Int)))) := (HB2.out B w HBEL.out (Nat.le_refl _)).setCell (p := ⟨B, 72, none⟩) (Nat.le_refl _) _
        have hT3 := HT.out.below (by have := HT.out.1; have := HB.out; omega) hB3
        have hO3 : (w2.setCell ⟨B, 72, none⟩ (Value.int .i64 ((n : Int) + (c : Int)))).heap[B + 1]? = some (.cells Tryd.zeroCells101 101 (0, 0)) := by
          rw [heap_setCell_other _ _ _ _ (by show B + 1 ≠ B; omega), HO2.out _ (by omega)]; exact HC1.out
        have hR3 := HR3.out
        generalize w2.setCell ⟨B, 72, none⟩ (Value.int .i64 ((n : Int) + (c : Int))) = w3 at *
        refine (HNX.out w3 hT3).mono ?_
        rintro e w4 ⟨rfl, hb4⟩
        have q0 := wk.row_below hR3 hb4
        have q1 := Lib.hid (wk.row_below hO3 hb4)
        have hB4 := Lib.hid (hB3.trans (hb4.mono (by have := hB3.size; have := HB.out; omega)))
        have hz4 : hs.blk st2.2 = z64 := by rw [HFD.out]; rfl
        have hz5 : stC (hs.comp st.1 (st.2 ++ t.data.toList.take c)) z64 ((n : Int) + (c : Int)) = stC st2.1 (hs.blk st2.2) ((n + c : Nat) : Int) := by rw [hz4, HFD.out, HSUM.out]
        have HZ5 := Lib.hid hz5
        have k1 := size_to size73 (stC_length (v := hs.comp st.1 (st.2 ++ t.data.toList.take c)) (blk := z64) (n := (n : Int) + (c : Int)) rfl)
        have k2 : (stC st.1 (st.2 ++ t.data.toList.take c) ((n : Int) + (c : Int))).toArray.size = (stC (hs.comp st.1 (st.2 ++ t.data.toList.take c)) z64 ((n : Int) + (c : Int))).length := by rw [List.size_toArray, stC_length HN64.out, stC_length rfl]
        have k3 := stC_ones (hs.comp st.1 (st.2 ++ t.data.toList.take c)) z64 ((n : Int) + (c : Int))
        clear hz4 hz5 hb4 hO3 hT3 hB3 hR3
        go_wp2_with (refine wk.store_row rfl 101 (.tmp 2) (.tmp 29) rfl B (stC (hs.comp st.1 (st.2 ++ t.data.toList.take c)) z64 ((n : Int) + (c : Int))) rfl rfl 101 _ q0 k1 k2 k3 ?_)
        go_roundg (t.size - c)
        case measure => omega
        case rel =>
          refine ⟨t.extract c t.size, n + c, st2, rfl, HTX.out, HST2.out, by omega, HF2.out, ?_, ?_, wk.below_setRow hB4.out (Nat.le_refl _) _⟩
          · rw [← HZ5.out]; exact setRow_heap _ _ _ _ _ _ q0
          · rw [setRow_other _ _ _ _ (by omega)]; exact q1.out
      · have hi0 : ((n : Int) + (c : Int)) % 64 ≠ 0 := by omega
        have hi1 : ((((n : Int) + (c : Int)) % 64) == 0) = false := by simpa using hi0
        have HFD := HFD2 h0
        clear HFD1 HFD2
        go_wp2_with (refine wk.copy_str_n rfl (.tmp 13) (.tmp 14) 77 9 rfl 5 Tryd.underlying77 size_u8 B (8 + n % 64) (64 - n % 64) (64 - n % 64) c rfl t rfl 101 _ _ _ HROW.out HPL.out (by rw [wp.bc_length, List.length_replicate]) HCN.out ?_; intro w2 HR2 HO2 HB2; have hR2 := HR2.out; rw [HRW.out] at hR2; have hcell2 := wk.cell_last hR2 HPL2.out; have hfr2 := frozen_of_row _ _ 72 _ _ hR2; have hR3 := wk.row_last (u := Value.int .i64 ((n : Int) + (c : Int))) hR2 HPL2.out; rw [List.append_assoc] at hR3; have HR3 : Hid ((w2.setCell ⟨B, 72, none⟩ (Value.int .i64 ((n : Int) + (c : Int)))).heap[B]? = some (.cells (stC st.1 (hs.blk (st.2 ++ t.data.toList.take c)) ((n : Int) + (c : Int))).toArray 101 (0, 0))) := hR3; clear hR2 hR3)
        go_roundg (t.size - c)
        case measure => omega
        case rel =>
          refine ⟨t.extract c t.size, n + c, st2, rfl, HTX.out, HST2.out, by omega, HF2.out, ?_, ?_, (HB2.out B w HBEL.out (Nat.le_refl _)).setCell (p := ⟨B, 72, none⟩) (Nat.le_refl _) _⟩
          · rw [HFD.out, ← HSUM.out]; exact HR3.out
          · rw [heap_setCell_other _ _ _ _ (by show B + 1 ≠ B; omega), HO2.out _ (by omega)]; exact HC1.out
    · obtain h0 : t.size = 0 := by omega
      have hst := HST.out
      have hnt : t.data.toList = [] := List.eq_nil_of_length_eq_zero (by rw [Array.length_toList]; exact h0)
      have hfs := HF.out
      rw [hnt, hs.feed_nil] at hfs
      have hnn : n = n0 + s.size := by omega
      have HFS := Lib.hid hfs
      have HNN := Lib.hid hnn
      have hbl : (hs.blk st.2).length = 64 := hs.blk_length (by have := hst.lt; omega)
      have hz1 := size_toA size73 (stC_length (v := st.1) (n := (n : Int)) hbl)
      have hz2 := size_to size73 (stC_length (v := st.1) (n := (n : Int)) hbl)
      have hz3 : (Tryd.zeroCells101).size = (stC st.1 (hs.blk st.2) (n : Int)).length := by rw [stC_length hbl]; rfl
      have ho := stC_ones st.1 (hs.blk st.2) (n : Int)
      have q0 := HC0.out
      have q1 := HC1.out
      clear hnt hfs hnn hst hbl
      go_wp2_with (first | refine wpList_load_row rfl 101 (.tmp 2) rfl B rfl 101 (stC st.1 (hs.blk st.2) (n : Int)).toArray (0, 0) _ q0 Tryd.underlying101 rfl hz1 ?_ | refine wk.store_row rfl 101 (.tmp 4) (.tmp 30) rfl (B + 1) (stC st.1 (hs.blk st.2) (n : Int)) rfl rfl 101 _ q1 hz2 hz3 ho ?_)
      refine bodyPost_ret (v := .agg (stC st.1 (hs.blk st.2) (n : Int)).toArray) (results_cell_row (fn := Tryd.f64) rfl _ _ (B + 1) 101 (stC st.1 (hs.blk st.2) (n : Int)).toArray (0, 0) _ rfl (setRow_heap _ _ _ _ _ _ q1) Tryd.underlying101 rfl hz1) rfl ⟨?_, ?_⟩
      · rw [← HFS.out, ← HNN.out]
      · rw [HB.out]; exact wk.below_setRow HBEL.out (by omega) _
end Go.Proofs.YtlmbacacjcbdjaaDoor.hi
