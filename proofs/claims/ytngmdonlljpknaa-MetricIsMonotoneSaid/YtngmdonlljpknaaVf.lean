/- The reference's ring: two searches by halves. -/
import Derived.Test.YtngmdonlljpknaaVe

namespace Go.Proofs.Ytngmdonlljpknaa.me

open Go.ChangeShapes Go.WideShapes Go.ChangeAt Go.RowKit

open Go.Proofs.Ytngmdonlljpknaa.vk

set_option linter.unusedVariables false
theorem low_side {m a t b : Int} (ha : 0 ≤ a) (ha2 : a ≤ 134217728) (ht : 0 ≤ t) (hb : 0 ≤ b) (hba : b ≤ a) : low m a b ≤ t ↔ rlo m a t ≤ b := by
  have h := ring_iff (m := m) ha ht hb (by omega)
  have h2 := a_in (m := m) ha ha2 ht
  rw [← h]
  omega
theorem high_side {m a t b : Int} (ha : 0 ≤ a) (ha2 : a ≤ 134217728) (ht : 0 ≤ t) (hab : a ≤ b) (hb2 : b ≤ 134217728) : low m a b ≤ t ↔ b ≤ high m a t := by
  have h := ring_iff (m := m) ha ht (show 0 ≤ b by omega) hb2
  have h2 := a_in (m := m) ha ha2 ht
  rw [← h]
  omega
theorem rlo_nonneg {m a t : Int} (ha : 0 ≤ a) (ht : 0 ≤ t) : 0 ≤ rlo m a t := by
  unfold rlo
  have := low_nonneg (m := m) ha ht
  split <;> omega
theorem row2_set0 {w : World} {g : Nat} {x y v : Value} {t : TypeId} (h : w.heap[g]? = some (.cells #[x, y] t (0, 0))) : (w.setCell ⟨g, 0, none⟩ v).heap[g]? = some (.cells #[v, y] t (0, 0)) := heap_setCell_same _ _ _ _ _ _ h
theorem row2_set1 {w : World} {g : Nat} {x y v : Value} {t : TypeId} (h : w.heap[g]? = some (.cells #[x, y] t (0, 0))) : (w.setCell ⟨g, 1, none⟩ v).heap[g]? = some (.cells #[x, v] t (0, 0)) := heap_setCell_same _ _ _ _ _ _ h
structure RR (B : Nat) (w wr : World) (lo hi : Int) : Prop where
  res : wr.heap[B]? = some (.cells #[.int .i64 0, .int .i64 0] 29 (0, 0))
  out : wr.heap[B + 1]? = some (.cells #[.int .i64 lo, .int .i64 hi] 29 (0, 0))
  bel : Below B w wr
theorem RR.lo {B : Nat} {w wr : World} {lo hi : Int} (h : RR B w wr lo hi) : wr.cell? ⟨B + 1, 0, none⟩ = some (.int .i64 lo) := by rw [cell_of_row _ _ _ _ _ _ h.out]; rfl
theorem RR.hi {B : Nat} {w wr : World} {lo hi : Int} (h : RR B w wr lo hi) : wr.cell? ⟨B + 1, 1, none⟩ = some (.int .i64 hi) := by rw [cell_of_row _ _ _ _ _ _ h.out]; rfl
theorem RR.set0 {B : Nat} {w wr : World} {lo hi v : Int} (h : RR B w wr lo hi) : RR B w (wr.setCell ⟨B + 1, 0, none⟩ (.int .i64 v)) v hi :=
  ⟨by rw [heap_setCell_other _ _ _ _ (by simp)]; exact h.res, row2_set0 h.out, h.bel.setCell (by simp) _⟩
theorem RR.set1 {B : Nat} {w wr : World} {lo hi v : Int} (h : RR B w wr lo hi) : RR B w (wr.setCell ⟨B + 1, 1, none⟩ (.int .i64 v)) lo v :=
  ⟨by rw [heap_setCell_other _ _ _ _ (by simp)]; exact h.res, row2_set1 h.out, h.bel.setCell (by simp) _⟩
set_option maxRecDepth 100000 in
set_option maxHeartbeats 4000000 in
theorem rring_calls (m a t : Int) (w : World) (ha : 0 ≤ a) (ht : 0 ≤ t) (ha2 : a ≤ 134217728) (ht2 : t ≤ 134217728) :
    Calls Try.prog 16 #[.int .i64 m, .int .i64 a, .int .i64 t] w fun e w' => e = .returned (.agg #[.int .i64 (rlo m a t), .int .i64 (high m a t)]) ∧ Below w.heap.size w w' := by
  have HLO := Lib.hid (fun b => low_side (m := m) (t := t) (b := b) ha ha2 ht)
  have HHI := Lib.hid (fun b => high_side (m := m) (t := t) (b := b) ha ha2 ht)
  have HC := Lib.hid (fun b w' hb hb2 => rlow_calls m a b w' ha hb ha2 hb2)
  have hin := a_in (m := m) ha ha2 ht
  have hlo0 := rlo_nonneg (m := m) ha ht
  have hhi2 := high_le m a t
  generalize hX : rlo m a t = X at *
  generalize hY : high m a t = Y at *
  clear hX hY
  obtain ⟨B, hB⟩ : ∃ B, B = w.heap.size := ⟨_, rfl⟩
  have HBW := Lib.hid hB
  have HR0 : Hid (RR B w ((w.alloc (.cells #[.int .i64 0, .int .i64 0] 29 (0, 0))).alloc (.cells #[.int .i64 a, .int .i64 a] 29 (0, 0))) a a) := by
    subst hB
    refine Lib.hid ⟨?_, ?_, ?_⟩
    · rw [show ∀ o, (w.alloc (.cells #[.int .i64 0, .int .i64 0] 29 (0, 0))).alloc o |>.heap[w.heap.size]? = (w.alloc (.cells #[.int .i64 0, .int .i64 0] 29 (0, 0))).heap[w.heap.size]? from fun o => (below_new _ o).block _ (by rw [size_new]; omega)]
      exact heap_alloc_new _ _
    · rw [← size_new w (.cells #[.int .i64 0, .int .i64 0] 29 (0, 0))]
      exact heap_alloc_new _ _
    · exact ((Below.refl _ _).alloc (Nat.le_refl _) _).alloc (by rw [size_new]; omega) _
  go_enter Try.func16, Try.ntmps16
  go_wp2
  rw [← hB]
  clear hB
  go_loopg [8] (a + 1).toNat (fun g x wr => ∃ lo from' : Int, x = .int .i64 from' ∧ -1 ≤ from' ∧ from' < X ∧ X ≤ lo ∧ lo ≤ a ∧ (lo - from').toNat ≤ g ∧ RR B w wr lo a)
  case atStart => exact ⟨a, -1, rfl, by omega, by omega, by omega, by omega, by omega, HR0.out⟩
  case round =>
    obtain ⟨lo, fr, rfl, h1, h2, h3, h4, h5, hR⟩ := hrel
    have hcl := hR.lo
    have hch := hR.hi
    have hfr := frozen_of_row _ _ 0 _ _ hR.out
    have HR := Lib.hid hR
    have H5 := Lib.hid h5
    clear hR h5
    by_cases hgt : 1 < lo - fr
    · have hd : (lo - fr) / 2 ≤ lo - fr - 1 ∧ 1 ≤ (lo - fr) / 2 := by omega
      have hm1 : fr < fr + (lo - fr) / 2 := by omega
      have hm2 : fr + (lo - fr) / 2 < lo := by omega
      have hC := HC.out (fr + (lo - fr) / 2) wr (by omega) (by omega)
      have hL := HLO.out (fr + (lo - fr) / 2) (by omega) (by omega)
      generalize hM : (lo - fr) / 2 = d at *
      have HCC := Lib.hid hC
      have HLL := Lib.hid hL
      generalize low m a (fr + d) = L at *
      clear hC hL
      by_cases hle : L ≤ t
      · go_wp2_with (refine HCC.out.mono ?_; rintro e w' ⟨rfl, rfl⟩)
        go_roundg (gk - 1)
        case measure => have := H5.out; omega
        case rel => exact ⟨fr + d, fr, rfl, h1, h2, HLL.out.1 hle, by omega, by have := H5.out; omega, HR.out.set0⟩
      · go_wp2_with (refine HCC.out.mono ?_; rintro e w' ⟨rfl, rfl⟩)
        go_roundg (gk - 1)
        case measure => have := H5.out; omega
        case rel => exact ⟨lo, fr + d, rfl, by omega, by have := HLL.out; omega, h3, h4, by have := H5.out; omega, HR.out⟩
    · obtain rfl : lo = X := by omega
      have HR2 := Lib.hid HR.out
      go_wp2
      clear hcl hch hfr h1 h2 h3 h4 hgt H5 HR HLO hlo0 HR0
      obtain ⟨w3, rfl⟩ : ∃ w3 : World, w3 = wr := ⟨_, rfl⟩
      go_loopg [10] (134217729 - a).toNat (fun g x wr => ∃ hi en : Int, x = .int .i64 en ∧ en ≤ 134217729 ∧ Y < en ∧ hi ≤ Y ∧ a ≤ hi ∧ (en - hi).toNat ≤ g ∧ RR B w wr lo hi)
      case atStart => exact ⟨a, 134217729, rfl, by omega, by omega, by omega, by omega, by omega, HR2.out⟩
      case round =>
        obtain ⟨hi, en, rfl, h1, h2, h3, h4, h5, hR⟩ := hrel
        have hcl := hR.lo
        have hch := hR.hi
        have hfr := frozen_of_row _ _ 1 _ _ hR.out
        have HR := Lib.hid hR
        have H5 := Lib.hid h5
        clear hR h5
        by_cases hgt : 1 < en - hi
        · have hd : (en - hi) / 2 ≤ en - hi - 1 ∧ 1 ≤ (en - hi) / 2 := by omega
          have hm1 : hi < hi + (en - hi) / 2 := by omega
          have hm2 : hi + (en - hi) / 2 < en := by omega
          have hC := HC.out (hi + (en - hi) / 2) wr (by omega) (by omega)
          have hL := HHI.out (hi + (en - hi) / 2) (by omega) (by omega)
          generalize hM : (en - hi) / 2 = d at *
          have HCC := Lib.hid hC
          have HLL := Lib.hid hL
          generalize low m a (hi + d) = L at *
          clear hC hL
          by_cases hle : L ≤ t
          · go_wp2_with (refine HCC.out.mono ?_; rintro e w' ⟨rfl, rfl⟩)
            go_roundg (gk - 1)
            case measure => have := H5.out; omega
            case rel => exact ⟨hi + d, en, rfl, h1, h2, HLL.out.1 hle, by omega, by have := H5.out; omega, HR.out.set1⟩
          · go_wp2_with (refine HCC.out.mono ?_; rintro e w' ⟨rfl, rfl⟩)
            go_roundg (gk - 1)
            case measure => have := H5.out; omega
            case rel => exact ⟨hi, hi + d, rfl, by omega, by have := HLL.out; omega, h3, h4, by have := H5.out; omega, HR.out⟩
        · obtain rfl : hi = Y := by omega
          have hc0 : wr.cell? ⟨B, 0, none⟩ = some (.int .i64 0) := by rw [cell_of_row _ _ _ _ _ _ HR.out.res]; rfl
          have hc1 : wr.cell? ⟨B, 1, none⟩ = some (.int .i64 0) := by rw [cell_of_row _ _ _ _ _ _ HR.out.res]; rfl
          have hf0 := frozen_of_row _ _ 0 _ _ HR.out.res
          have hf1 := frozen_of_row _ _ 1 _ _ HR.out.res
          go_wp2
          refine bodyPost_ret (v := .agg #[.int .i64 lo, .int .i64 hi]) (results_cell_row (fn := Try.f16) rfl _ _ B 29 #[.int .i64 lo, .int .i64 hi] (0, 0) _ rfl (row2_set1 (row2_set0 HR.out.res)) Try.underlying29 rfl (by kernel_rfl)) rfl ⟨rfl, ?_⟩
          rw [← HBW.out]
          exact (HR.out.bel.setCell (Nat.le_refl _) _).setCell (Nat.le_refl _) _
end Go.Proofs.Ytngmdonlljpknaa.me
