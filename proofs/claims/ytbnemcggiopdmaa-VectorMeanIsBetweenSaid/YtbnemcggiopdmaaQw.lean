/- The reference's Encode, Decode. -/
import Derived.Test.YtbnemcggiopdmaaQv

import Derived.Test.YtbnemcggiopdmaaREnc

import Derived.Test.YtbnemcggiopdmaaRDec

namespace Go.Proofs.Ytbnemcggiopdmaa.vk

open Go.ChangeShapes Go.WideShapes Go.ChangeAt Go.RowKit

set_option linter.unusedVariables false
set_option maxRecDepth 100000 in
theorem rencode_calls (A : Option Addr) (n c : Nat) (l : List Int) (w : World) (h : wo.IsI w A n c l) (hn : n ≤ 1099511627776) :
    Calls Try.prog 35 #[.slice A n c] w fun e w' => ∃ A' c', e = .returned (.slice A' (wp.encIs l).length c') ∧ wo.IsB w' A' (wp.encIs l).length c' (wp.encIs l) ∧ Below w.heap.size w w' := by
  have hlen := vq.encIs_length l h.2.2.2.2 (by have := h.1; omega)
  have H := Lib.hid ((wi.refInts_out A n c l w h.1 h.2.1 h.2.2.1 h.2.2.2.1 h.2.2.2.2 (by have := h.1; omega)).mono fun e w' hh => isB_of_out hh)
  clear h hlen
  generalize wp.encIs l = E at *
  go_enter Try.func35, Try.ntmps35
  go_wp2_with fail
  refine H.out.mono ?_
  rintro e w' ⟨A', c', rfl, hI, hb⟩
  have HI := Lib.hid hI
  have HB := Lib.hid hb
  clear hI hb
  go_wp2_with fail
  go_ret
  exact ⟨A', c', rfl, HI.out, HB.out⟩
theorem infoR : (Try.prog.info? 43).map (·.size) = some 2 := by kernel_rfl
theorem ones2 {a b : Value} (ha : a.oneCell' = true := by rfl) (hb : b.oneCell' = true := by rfl) : ∀ u ∈ [a, b], u.oneCell' = true := by
  intro u hu
  simp only [List.mem_cons, List.not_mem_nil, or_false] at hu
  rcases hu with rfl | rfl <;> assumption
theorem own_low {w : World} {B n : Nat} {v : Value} {xs : List Value} {e : TypeId} (h : w.ownsRow B e 1 v n xs) : ∀ b, v.ownBlock = some b → B ≤ b := fun b hb => (h.lt b hb).1
theorem isI_setRow {w : World} {A : Option Addr} {n c g : Nat} {l : List Int} {cs : Array Value} (h : wo.IsI w A n c l) (hg : ∀ b o, A = some ⟨b, o, none⟩ → b ≠ g) : wo.IsI (w.setRow g cs) A n c l := by
  refine ⟨h.1, h.2.1, h.2.2.1, fun hl => ?_, h.2.2.2.2⟩
  obtain ⟨b, o, hA, hb, hc⟩ := h.2.2.2.1 hl
  refine ⟨b, o, hA, by simpa [World.setRow] using hb, fun j u hu => ?_⟩
  rw [← hc j u hu]
  have := hg b o hA
  unfold World.cell? World.setRow
  simp only [Array.getElem?_modify, if_neg (Ne.symm this)]
set_option maxRecDepth 100000 in
set_option maxHeartbeats 2000000 in
theorem rdecode_calls (A : Option Addr) (n c : Nat) (l : List UInt8) (w : World) (h : wo.IsB w A n c l) (hn : n ≤ 1099511627776) :
    Calls Try.prog 33 #[.slice A n c] w fun e w' => ∃ A' n' c', e = .returned (.agg #[.slice A' n' c', .int .i64 (vq.dec l).2]) ∧ wo.IsI w' A' n' c' (vq.dec l).1 ∧ Below w.heap.size w w' := by
  have hb0 := below_new w (.cells #[.slice none 0 0, .int .i64 0] 43)
  have hq0 := heap_alloc_new w (.cells #[.slice none 0 0, .int .i64 0] 43)
  have hz0 := size_new w (.cells #[.slice none 0 0, .int .i64 0] 43)
  obtain ⟨hln, hnc, hc, hR⟩ := isB_below h hb0
  have H := Lib.hid (wi.refGetInts_any A n c l _ hnc hc hln hR hn)
  have HBD := Lib.hid (vq.getL_bd l)
  have hf : (wp.getL wp.getI 1 l).2.2 = 0 → (wp.getL wp.getI 1 l).2.1 ≤ l.length := fun h => (wp.getL_canon (one := wp.getI) (enc := wp.encI) wp.getI_one 1 (by omega) l h).2.2
  have hE := vq.dec_eq l
  rw [hln] at hE hf
  have HE := Lib.hid hE
  clear hE hR hln h
  generalize vq.dec l = D at *
  generalize wp.getL wp.getI 1 l = R at *
  obtain ⟨r1, r2, r3⟩ := R
  dsimp only at *
  go_enter Try.func33, Try.ntmps33
  go_wp2_with fail
  refine H.out.mono ?_
  rintro e w1 ⟨v, rfl, hown, hb1⟩
  rw [hz0] at hown hb1
  have hlow0 := own_low hown
  obtain ⟨A1, c1, rfl, hI⟩ := isI_of_own hown HBD.out
  have HLOW : Hid (∀ b o, A1 = some ⟨b, o, none⟩ → b ≠ w.heap.size) := fun b o e => by subst e; have := hlow0 b rfl; omega
  have HI := Lib.hid hI
  have Q1 : Hid (w1.heap[w.heap.size]? = some (.cells #[.slice none 0 0, .int .i64 0] 43 (0, 0))) := (hb1.block _ (by omega)).trans hq0
  have HB1 : Hid (Below w.heap.size w w1) := hb0.trans (hb1.mono (by omega))
  clear hown hI hb1 hq0 hb0 hz0 H hlow0
  have hE := HE.out
  by_cases h3 : r3 = 0
  · have hr2 := hf h3
    rw [if_neg (by simpa using h3)] at hE
    by_cases h2 : r2 < (n : Int)
    · rw [if_pos h2] at hE
      have HE2 := Lib.hid hE
      clear hE HE
      go_wp2_with (refine wk.store_row rfl 43 (.tmp 2) (.tmp 20) rfl w.heap.size [.slice none 0 0, .int .i64 11] rfl rfl 43 _ Q1.out infoR rfl ones2 ?_)
      refine bodyPost_ret (v := .agg #[.slice none 0 0, .int .i64 11]) (results_cell_row (fn := Try.f33) rfl _ _ w.heap.size 43 #[.slice none 0 0, .int .i64 11] (0, 0) _ rfl (setRow_heap _ _ _ _ _ _ Q1.out) Try.underlying43 rfl (by kernel_rfl)) rfl ?_
      rw [HE2.out]
      exact ⟨none, 0, 0, rfl, isI_nil _, wk.below_setRow HB1.out (Nat.le_refl _) _⟩
    · rw [if_neg h2] at hE
      have hr : r2 = (n : Int) := by omega
      have HV := Lib.hid (rvalid_calls A1 r1.length c1 r1 w1 HI.out)
      cases hv : vq.valid r1
      · rw [hv] at HV hE
        rw [if_neg (by simp)] at hE
        have HE2 := Lib.hid hE
        clear hE HE hf hv h2
        go_wp2_with fail
        refine HV.out.mono ?_
        rintro e w' ⟨rfl, rfl⟩
        go_wp2_with (refine wk.store_row rfl 43 (.tmp 2) (.tmp 24) rfl w.heap.size [.slice none 0 0, .int .i64 40] rfl rfl 43 _ Q1.out infoR rfl ones2 ?_)
        refine bodyPost_ret (v := .agg #[.slice none 0 0, .int .i64 40]) (results_cell_row (fn := Try.f33) rfl _ _ w.heap.size 43 #[.slice none 0 0, .int .i64 40] (0, 0) _ rfl (setRow_heap _ _ _ _ _ _ Q1.out) Try.underlying43 rfl (by kernel_rfl)) rfl ?_
        rw [HE2.out]
        exact ⟨none, 0, 0, rfl, isI_nil _, wk.below_setRow HB1.out (Nat.le_refl _) _⟩
      · rw [hv] at HV hE
        rw [if_pos rfl] at hE
        have HE2 := Lib.hid hE
        clear hE HE hf hv h2
        go_wp2_with fail
        refine HV.out.mono ?_
        rintro e w' ⟨rfl, rfl⟩
        go_wp2_with (refine wk.store_row rfl 43 (.tmp 2) (.tmp 26) rfl w.heap.size [.slice A1 r1.length c1, .int .i64 0] rfl rfl 43 _ Q1.out infoR rfl ones2 ?_)
        refine bodyPost_ret (v := .agg #[.slice A1 r1.length c1, .int .i64 0]) (results_cell_row (fn := Try.f33) rfl _ _ w.heap.size 43 #[.slice A1 r1.length c1, .int .i64 0] (0, 0) _ rfl (setRow_heap _ _ _ _ _ _ Q1.out) Try.underlying43 rfl (by kernel_rfl)) rfl ?_
        rw [HE2.out]
        have hlow := HLOW.out
        exact ⟨A1, r1.length, c1, rfl, isI_setRow HI.out hlow, wk.below_setRow HB1.out (Nat.le_refl _) _⟩
  · rw [if_pos h3] at hE
    have HE2 := Lib.hid hE
    clear hE HE
    go_wp2_with (refine wk.store_row rfl 43 (.tmp 2) (.tmp 15) rfl w.heap.size [.slice none 0 0, .int .i64 r3] rfl rfl 43 _ Q1.out infoR rfl ones2 ?_)
    refine bodyPost_ret (v := .agg #[.slice none 0 0, .int .i64 r3]) (results_cell_row (fn := Try.f33) rfl _ _ w.heap.size 43 #[.slice none 0 0, .int .i64 r3] (0, 0) _ rfl (setRow_heap _ _ _ _ _ _ Q1.out) Try.underlying43 rfl (by kernel_rfl)) rfl ?_
    rw [HE2.out]
    exact ⟨none, 0, 0, rfl, isI_nil _, wk.below_setRow HB1.out (Nat.le_refl _) _⟩
end Go.Proofs.Ytbnemcggiopdmaa.vk
