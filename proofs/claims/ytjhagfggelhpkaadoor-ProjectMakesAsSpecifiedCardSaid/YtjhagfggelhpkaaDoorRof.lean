
import Derived.Test.YtjhagfggelhpkaaDoorRq

import Derived.Test.YtjhagfggelhpkaaDoorG2

import Derived.Deep.RegionHeldLaw

import Derived.Deep.RegionWith

namespace Go.Proofs.YtjhagfggelhpkaaDoor.hi

open Go.ChangeShapes Go.WideShapes Go.ChangeAt Go.RowKit

set_option linter.unusedVariables false
def z16 : Array Value := #[.int .u8 0, .int .u8 0, .int .u8 0, .int .u8 0, .int .u8 0, .int .u8 0, .int .u8 0, .int .u8 0, .int .u8 0, .int .u8 0, .int .u8 0, .int .u8 0, .int .u8 0, .int .u8 0, .int .u8 0, .int .u8 0]
set_option maxRecDepth 100000 in
set_option maxHeartbeats 4000000 in
theorem rshort_calls (A : Option Addr) (n c : Nat) (l : List UInt8) (w : World) (hn : l.length = n) (hnc : n ≤ c) (hc : c ≤ 9223372036854775807) (hl : wp.RB w A l) (hsm : n ≤ 100000) (hT : TabC w) :
    Calls Tryd.prog 89 #[.slice A n c] w fun e w' => e = .returned (.agg (wp.bc ((hs.sha l).take 16)).toArray) ∧ Below w.heap.size w w' := by
  have HN := Lib.hid hn
  have HL := Lib.hid hl
  have HT := Lib.hid hT
  clear hn hl hT
  go_enter Tryd.func89, Tryd.ntmps89
  go_upto_region 1 with fail
  have q0 : (w.alloc (.cells z16 65)).heap[w.heap.size]? = some (.cells z16 65 (0, 0)) := heap_alloc_new _ _
  have hb1 : Below w.heap.size w (w.alloc (.cells z16 65)) := (Below.refl _ _).alloc (Nat.le_refl _) _
  change Code.wp _ _ _ _ (w.alloc (.cells z16 65))
  have hS := rsum_calls A n c l (w.alloc (.cells z16 65)) HN.out hnc hc (wk.RB.below HL.out hb1) hsm (HT.out.below HT.out.1 hb1)
  generalize w.alloc (.cells z16 65) = w1 at *
  generalize hB : w.heap.size = B at *
  have HB := Lib.hid hB
  have hE : (hs.sha l).length = 32 := rfl
  generalize hse : hs.sha l = S at *
  have HSE := Lib.hid hse
  have hsB1 : B < w1.heap.size := wk.row_lt q0
  have HE := Lib.hid hE
  have HS := Lib.hid hS
  have Q0 := Lib.hid q0
  have HB1 := Lib.hid hb1
  clear hB hE hS q0 hb1 hse
  go_wp2_with fail
  refine HS.out.mono ?_
  rintro e w2 ⟨rfl, hb2⟩
  have Q0 := Lib.hid (wk.row_below Q0.out hb2)
  have HB2 := Lib.hid (HB1.out.trans (hb2.mono (by omega)))
  have hGB : B < w2.heap.size := by have := hb2.size; omega
  have hz := size_to size32 (by rw [wp.bc_length]; exact HE.out : (wp.bc S).length = _)
  have hz' : z32.size = (wp.bc S).length := by rw [wp.bc_length, HE.out]; rfl
  unfold z32 at hz'
  have ho := wk.ones_bc S
  clear hb2 HS
  go_upto_region 2 with (refine wk.store_new rfl 86 (.tmp 3) (.tmp 7) rfl 86 _ (wp.bc S) rfl rfl hz hz' ho ?_)
  have q : (w2.alloc (.cells (wp.bc S).toArray 86)).heap[w2.heap.size]? = some (.cells (wp.bc S).toArray 86 (0, 0)) := heap_alloc_new _ _
  have hbn : Below w2.heap.size w2 (w2.alloc (.cells (wp.bc S).toArray 86)) := (Below.refl _ _).alloc (Nat.le_refl _) _
  have Q0 := Lib.hid (wk.row_below Q0.out hbn)
  have HB3 := Lib.hid (HB2.out.trans (hbn.mono (by omega)))
  generalize w2.alloc (.cells (wp.bc S).toArray 86) = w3 at *
  generalize w2.heap.size = G at *
  have Q := Lib.hid q
  clear q hbn hz hz' ho
  go_upto_region 3 with (refine wk.store_new rfl 65 (.tmp 4) (.tmp 8) rfl 65 _ (wp.bc (List.replicate 16 0)) rfl rfl (size_to info55x rfl) rfl (wk.ones_bc _) ?_)
  have q : (w3.alloc (.cells (wp.bc (List.replicate 16 0)).toArray 65)).heap[w3.heap.size]? = some (.cells (wp.bc (List.replicate 16 0)).toArray 65 (0, 0)) := heap_alloc_new _ _
  have hbn : Below w3.heap.size w3 (w3.alloc (.cells (wp.bc (List.replicate 16 0)).toArray 65)) := (Below.refl _ _).alloc (Nat.le_refl _) _
  have hG2 : G < w3.heap.size := wk.row_lt Q.out
  have Q0 := Lib.hid (wk.row_below Q0.out hbn)
  have Q := Lib.hid (wk.row_below Q.out hbn)
  have HB4 := Lib.hid (HB3.out.trans (hbn.mono (by omega)))
  generalize w3.alloc (.cells (wp.bc (List.replicate 16 0)).toArray 65) = w4 at *
  generalize w3.heap.size = E at *
  have Q2 := Lib.hid q
  clear q hbn
  go_wp2_with fail
  go_loopg [5] 16 (fun mm x wq => ∃ k : Nat, k + mm = 16 ∧ x = .int .i64 (k : Int) ∧ wq.heap[B]? = some (.cells z16 65 (0, 0)) ∧ wq.heap[G]? = some (.cells (wp.bc S).toArray 86 (0, 0)) ∧ wq.heap[E]? = some (.cells (wp.bc (hs.part (S.take 16) 16 k)).toArray 65 (0, 0)) ∧ Below B w wq)
  case atStart => exact ⟨0, rfl, rfl, Q0.out, Q.out, by rw [hs.part_zero]; exact Q2.out, HB4.out⟩
  case round =>
    obtain ⟨k, hk, rfl, q0, q1, q2, qb⟩ := hrel
    have HK := Lib.hid hk
    have S0 := Lib.hid q0
    have S1 := Lib.hid q1
    have S2 := Lib.hid q2
    have SB := Lib.hid qb
    have hD : (S.take 16).length = 16 := by rw [List.length_take, HE.out]; rfl
    by_cases hlt : k < 16
    · have hkl : k < S.length := by rw [HE.out]; omega
      have e1 : S[k]? = some S[k] := List.getElem?_eq_getElem hkl
      have cx : wr.cell? ⟨G, k, none⟩ = some (.int .u8 (S[k].toNat : Int)) := by rw [cell_of_row _ _ _ _ _ _ q1, List.getElem?_toArray]; simp [wp.bc, e1]
      have hlen := hs.part_length (l := S.take 16) (k := k) hD (by omega)
      obtain ⟨z, hz⟩ : ∃ z, (wp.bc (hs.part (S.take 16) 16 k))[k]? = some z := ⟨_, List.getElem?_eq_getElem (by rw [wp.bc_length, hlen]; exact hlt)⟩
      have cz : wr.cell? ⟨E, k, none⟩ = some z := by rw [cell_of_row _ _ _ _ _ _ q2, List.getElem?_toArray]; exact hz
      have fz := frozen_of_row _ _ k _ _ q2
      have HPS := Lib.hid (hs.part_step (l := S.take 16) (n := 16) (k := k) (x := S[k]) hD (by rw [List.getElem?_take, if_pos hlt]; exact e1))
      have i32 : (k : Int) < 32 := by omega
      clear q0 q1 q2 qb hz hlen hk e1
      generalize S[k] = x at *
      go_wp2_with fail
      go_roundg (gk - 1)
      case measure => have := HK.out; omega
      case rel =>
        refine ⟨k + 1, by have := HK.out; omega, by go_num, (heap_setCell_other _ _ _ _ (by show B ≠ E; omega)).trans S0.out, (heap_setCell_other _ _ _ _ (by show G ≠ E; omega)).trans S1.out, ?_, SB.out.setCell (p := ⟨E, k, none⟩) (by show B ≤ E; omega) _⟩
        rw [← HPS.out]
        exact bc_row_set S2.out k _
    · obtain rfl : k = 16 := by omega
      have hpf := hs.part_full hD
      rw [hpf] at q2
      clear S2
      have hlo : (wp.bc (S.take 16)).length = 16 := by rw [wp.bc_length]; exact hD
      have hz1 := size_toA info55x hlo
      have hz2 := size_to info55x hlo
      have hz3 : z16.size = (wp.bc (S.take 16)).length := by rw [hlo]; rfl
      have ho := wk.ones_bc (S.take 16)
      generalize hcs : wp.bc (S.take 16) = cs at *
      have HCS := Lib.hid hcs
      clear hcs hpf hlo hk qb
      go_wp2_with (first | refine wpList_load_row rfl 65 (.tmp 4) rfl E rfl 65 cs.toArray (0, 0) _ q2 Tryd.underlying65 rfl hz1 ?_ | refine wk.store_row rfl 65 (.tmp 2) (.tmp 18) rfl B cs rfl rfl 65 z16 q0 hz2 hz3 ho ?_)
      refine bodyPost_ret (v := .agg cs.toArray) (results_cell_row (fn := Tryd.f89) rfl _ _ B 65 cs.toArray (0, 0) _ rfl (setRow_heap _ _ _ _ _ _ q0) Tryd.underlying65 rfl hz1) rfl ⟨by rw [HSE.out, HCS.out], ?_⟩
      rw [HB.out]; exact wk.below_setRow SB.out (Nat.le_refl _) _
end Go.Proofs.YtjhagfggelhpkaaDoor.hi

namespace Go.Proofs.YtjhagfggelhpkaaDoor.hashOfMatchesSpec

open Go.ChangeShapes Go.WideShapes Go.ChangeAt Go.RowKit

set_option linter.unusedVariables false
def flat (l : List ByteArray) : List UInt8 := l.flatMap fun s => wp.encB s.data.toList
theorem flat_le : ∀ {l : List ByteArray}, (∀ s ∈ l, s.size ≤ 400) → (flat l).length ≤ 410 * l.length
  | [], _ => by simp [flat]
  | s :: r, h => by
    have ih := flat_le (l := r) (fun x hx => h x (by simp [hx]))
    have hs := h s (by simp)
    have hz : s.data.toList.length = s.size := by rw [Array.length_toList]; rfl
    have he := wp.encI_length (n := (s.data.toList.length : Int)) (by omega) (by omega)
    show (wp.encB s.data.toList ++ flat r).length ≤ _
    unfold wp.encB
    rw [List.length_append, List.length_append, List.length_cons]
    omega
theorem few_flat {l : List ByteArray} (h : hi.fewB l = true) : (flat l).length ≤ 4920 := by
  unfold hi.fewB at h
  rw [Bool.and_eq_true, decide_eq_true_iff] at h
  have := flat_le (l := l) (fun s hs => of_decide_eq_true (List.all_eq_true.1 h.2 s hs))
  omega
theorem and255 (n : Int) : bits .and .i64 n 255 = n % 256 := by
  have e : (BitVec.ofInt 64 255).toNat = 2 ^ 8 - 1 := by decide
  have h : (BitVec.ofInt IntKind.i64.bits n &&& BitVec.ofInt IntKind.i64.bits 255).toNat = (n % 256).toNat := by
    rw [BitVec.toNat_and, show IntKind.i64.bits = 64 from rfl, e, Nat.and_two_pow_sub_one_eq_mod, BitVec.toNat_ofInt]
    omega
  show IntKind.i64.wrap _ = _
  rw [h, IntKind.wrap_i64]
  omega
theorem tag255 (n : Int) : hi.tagB (n % 256) = hi.tagB n := by
  unfold hi.tagB
  rw [Int.emod_emod_of_dvd n (by decide : (256 : Int) ∣ 256)]
open hi in
set_option maxRecDepth 100000 in
set_option maxHeartbeats 4000000 in
theorem rof_calls (tag : Int) (A : Option Addr) (n c : Nat) (l : List ByteArray) (w : World) (hn : l.length = n) (hnc : n ≤ c) (hc : c ≤ 9223372036854775807) (hl : wp.RC w A (l.map Value.string)) (htag : -9223372036854775808 ≤ tag ∧ tag ≤ 9223372036854775807)
    (htot : 1 + (flat l).length ≤ 100000) (hT : TabC w) :
    Calls Tryd.prog 80 #[.int .i64 tag, .slice A n c] w fun e w' => e = .returned (.agg (wp.bc ((hs.sha (tagB tag :: flat l)).take 16)).toArray) ∧ Below w.heap.size w w' := by
  have HN := Lib.hid hn
  have HL := Lib.hid hl
  have HT := Lib.hid hT
  clear hn hl hT
  go_enter Tryd.func80, Tryd.ntmps80
  go_upto_region 1 with fail
  have q0 : (w.alloc (.cells z16 65)).heap[w.heap.size]? = some (.cells z16 65 (0, 0)) := heap_alloc_new _ _
  have hb1 : Below w.heap.size w (w.alloc (.cells z16 65)) := (Below.refl _ _).alloc (Nat.le_refl _) _
  change Code.wp _ _ _ _ (w.alloc (.cells z16 65))
  have hI := input_calls tag A n c l (w.alloc (.cells z16 65)) HN.out hnc hc (wp.RC.below HL.out hb1) htag (by show 1 + (flat l).length ≤ _; omega)
  have hT1 := HT.out.below HT.out.1 hb1
  generalize w.alloc (.cells z16 65) = w1 at *
  generalize hB : w.heap.size = B at *
  have HB := Lib.hid hB
  obtain ⟨M, hM⟩ : ∃ M, M = tagB tag :: l.flatMap (fun s => wp.encB s.data.toList) := ⟨_, rfl⟩
  rw [← hM] at hI
  have hML : M.length ≤ 100000 := by rw [hM]; show (flat l).length + 1 ≤ _; omega
  have HM : Hid (M = tagB tag :: flat l) := hM
  have hsB1 : B < w1.heap.size := wk.row_lt q0
  have HI := Lib.hid hI
  have Q0 := Lib.hid q0
  have HB1 := Lib.hid hb1
  have HT1 := Lib.hid hT1
  clear hB hI q0 hb1 hM hT1
  go_wp2_with fail
  refine HI.out.mono ?_
  rintro e w2 ⟨v, rfl, hown, hb2⟩
  obtain ⟨A2, c2, rfl, hc21, hc22, hR2⟩ := wp.RC.of_own hown
  have Q0 := Lib.hid (wk.row_below Q0.out hb2)
  have HB2 := Lib.hid (HB1.out.trans (hb2.mono (by omega)))
  have hS := rshort_calls A2 M.length c2 M w2 rfl hc21 (by unfold maxLen at hc22; omega) hR2.rb hML (HT1.out.below HT1.out.1 hb2)
  have hsB2 : B < w2.heap.size := by have := hb2.size; omega
  have hE : ((hs.sha M).take 16).length = 16 := rfl
  generalize hse : (hs.sha M).take 16 = D at *
  have HSE := Lib.hid hse
  have HS := Lib.hid hS
  have HE := Lib.hid hE
  generalize M.length = ML at *
  clear hown hb2 hR2 hS hE hse HI
  go_wp2_with fail
  refine HS.out.mono ?_
  rintro e w3 ⟨rfl, hb3⟩
  have q0 := wk.row_below Q0.out hb3
  have HB3 := Lib.hid (HB2.out.trans (hb3.mono (by omega)))
  have hlo : (wp.bc D).length = 16 := by rw [wp.bc_length]; exact HE.out
  have hz1 := size_toA info55x hlo
  have hz2 := size_to info55x hlo
  have hz3 : z16.size = (wp.bc D).length := by rw [hlo]; rfl
  have ho := wk.ones_bc D
  clear hb3 HS Q0
  generalize hcs : wp.bc D = cs at *
  have HCS := Lib.hid hcs
  clear hcs hlo
  go_wp2_with (refine wk.store_row rfl 65 (.tmp 4) (.tmp 8) rfl B cs rfl rfl 65 z16 q0 hz2 hz3 ho ?_)
  refine bodyPost_ret (v := .agg cs.toArray) (results_cell_row (fn := Tryd.f80) rfl _ _ B 65 cs.toArray (0, 0) _ rfl (setRow_heap _ _ _ _ _ _ q0) Tryd.underlying65 rfl hz1) rfl ⟨by rw [← HM.out, HSE.out, HCS.out], ?_⟩
  rw [HB.out]; exact wk.below_setRow HB3.out (Nat.le_refl _) _
end Go.Proofs.YtjhagfggelhpkaaDoor.hashOfMatchesSpec
