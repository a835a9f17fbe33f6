/- Sub. -/
import Derived.Test.YtbnemcggiopdmaaQf

import Derived.Deep.RegionLaw

namespace Go.Proofs.Ytbnemcggiopdmaa.vk

open Go.ChangeShapes Go.WideShapes Go.ChangeAt Go.RowKit

set_option linter.unusedVariables false
abbrev iv (l : List Int) : List Value := l.map (Value.int .i64)
theorem isI_of_own {w : World} {B n : Nat} {v : Value} {l : List Int} (h : w.ownsRow B 3 1 v n (iv l)) (hb : ∀ x ∈ l, -9223372036854775808 ≤ x ∧ x ≤ 9223372036854775807) : ∃ A c, v = .slice A n c ∧ wo.IsI w A n c l := by
  have hl : l.length = n := by have := h.1; simpa [iv] using this
  obtain ⟨A, c, rfl, h1, h2, hR⟩ := wp.RC.of_own h
  exact ⟨A, c, rfl, hl, h1, by unfold maxLen at h2; omega, hR, hb⟩
set_option maxRecDepth 100000 in
set_option maxHeartbeats 1000000 in
theorem sub1_calls (B g g' : Nat) (A A' : Option Addr) (n n' c c' k : Nat) (a b : List Int) (v : Value) (acc : List Int) (x y : Int) (w : World) (hg : Box w g (.slice A n c)) (hg' : Box w g' (.slice A' n' c')) (h : wo.IsI w A n c a) (h' : wo.IsI w A' n' c' b)
    (hx : a[k]? = some x) (hy : b[k]? = some y) (h1 : -2000 ≤ x) (h2 : x ≤ 2000) (h3 : -2000 ≤ y) (h4 : y ≤ 2000) (m : Nat) (hown : w.ownsRow B 3 1 v m (iv acc)) (hB : B ≤ w.heap.size) (hm0 : m ≤ 1000) :
    Calls Try.prog 43 #[v, .int .i64 k, .pointer (some ⟨g, 0, none⟩), .pointer (some ⟨g', 0, none⟩)] w fun e w' => ∃ v', e = .returned v' ∧ w'.ownsRow B 3 1 v' (m + 1) (iv (acc ++ [x - y])) ∧ Below B w w' := by
  obtain ⟨i0, hi, hz0, hz1, hz2⟩ := info_parts wi.infoI
  obtain ⟨hk, b1, o1, rfl, hc1⟩ := isI_get h hx
  obtain ⟨hk', b2, o2, rfl, hc2⟩ := isI_get h' hy
  have hcb := hg.cell
  have hcb' := hg'.cell
  have hm := h.2.2.1
  have hm' := h'.2.2.1
  have hn := h.2.1
  have hn' := h'.2.1
  have HOWN := Lib.hid hown
  have HM1 : Hid (m + 1 ≤ maxLen) := by show _ ≤ _; unfold maxLen; omega
  have HM2 : Hid ((m + 1) * 8 ≤ 140737488355328) := by show _ ≤ _; omega
  have HM3 : Hid (B ≤ (w.alloc (.cells #[.int .i64 (x - y)] 3)).drew.heap.size) := by show _ ≤ _; simp; omega
  have HO : Hid (∀ u ∈ [Value.int .i64 (x - y)], u.oneCell' = true) := by intro u hu; simp at hu; subst hu; rfl
  have HCN : Hid (∀ j u, [Value.int .i64 (x - y)][j]? = some u → (w.alloc (.cells #[.int .i64 (x - y)] 3)).drew.cell? ((⟨w.heap.size, 0, none⟩ : Addr).add j) = some u) := wk.cells_new w [.int .i64 (x - y)] 3
  have HBW := Lib.hid hB
  have hwr : IntKind.i64.wrap (x - y) = x - y := by rw [IntKind.wrap_i64]; omega
  clear h h' hg hg' hx hy hown hB
  go_enter Try.func43, Try.ntmps43
  go_wp2_with fail
  go_region_law (rw [if_pos (by rfl)]; refine wp_append_own _ (.tmp 7) (.tmp 17) 22 rfl B 3 i0 (.int .i64 0) 1 8 Try.underlying22 hi hz0 hz1 hz2 rfl (by decide) _ _ _ rfl (HOWN.out.drew.alloc _) ⟨w.heap.size, 0, none⟩ 1 1 [.int .i64 (x - y)] rfl rfl HCN.out HO.out HM1.out HM2.out HM3.out ?_; intro v' w2 hown' hgrow _)
  all_goals
    have hb2 : Below B w w2 := (((Below.refl _ _).alloc HBW.out _).drew).grown hgrow (by have := HBW.out; simp; omega) (fun g hg => (HOWN.out.lt g hg).1)
    have HB2 := Lib.hid hb2
    have HO2 := Lib.hid hown'
    clear hb2 hgrow hown'
    go_wp2_with fail
    go_ret
    refine ⟨_, rfl, ?_, HB2.out⟩
    have h := HO2.out
    unfold iv
    rw [List.map_append]
    exact h
set_option maxRecDepth 100000 in
set_option maxHeartbeats 1000000 in
theorem sub_calls (A A' : Option Addr) (n c c' : Nat) (a b : List Int) (w : World) (h : wo.IsI w A n c a) (h' : wo.IsI w A' n c' b) (ha : Few a) (hb : Few b) (hn : n ≤ 32) :
    Calls Try.prog 20 #[.slice A n c, .slice A' n c'] w fun e w' => ∃ A2 c2, e = .returned (.slice A2 n c2) ∧ wo.IsI w' A2 n c2 (vq.sub a b) ∧ Below w.heap.size w w' := by
  obtain ⟨i0, hi, hz0, hz1, hz2⟩ := info_parts wi.infoI
  have hl := h.1
  have hl' := h'.1
  have hls := vq.sub_length (a := a) (b := b) (by omega)
  obtain ⟨hx1, hx2, hB⟩ := box2 w (.slice A n c) (.slice A' n c') 22 22
  have h1 := isI_below h hB
  have h2 := isI_below h' hB
  have HC := Lib.hid (fun w' => common_same A A' n c c' w' (by omega))
  have hz : ((w.alloc (.cells #[.slice A n c] 22)).alloc (.cells #[.slice A' n c'] 22)).heap.size = w.heap.size + 2 := by rw [size_new, size_new]
  have hc1 := hx1.cell
  have hc2 := hx2.cell
  have HX1 := Lib.hid hx1
  have HX2 := Lib.hid hx2
  have H1 := Lib.hid h1
  have H2 := Lib.hid h2
  have HB := Lib.hid hB
  have HZ := Lib.hid hz
  clear hx1 hx2 h1 h2 h h' hB hz
  go_enter Try.func20, Try.ntmps20
  go_wp2_with fail
  refine (HC.out _).mono ?_
  rintro e w' ⟨rfl, rfl⟩
  generalize (w.alloc (.cells #[.slice A n c] 22)).alloc (.cells #[.slice A' n c'] 22) = w2 at *
  go_wp2_with (at_make; refine wpList_make_own _ rfl _ _ 22 rfl w2.heap.size 3 i0 (.int .i64 0) 1 Try.underlying22 hi hz0 hz1 _ _ _ n rfl rfl rfl ?b2 ?b3 ?b4 ?_)
  case b2 => rw [hz2]; omega
  case b3 => unfold maxLen; omega
  case b4 => exact Nat.le_refl _
  intro w3 hown3 hgr3
  have hbel3 : Below w2.heap.size w2 w3 := (Below.refl _ _).grown hgr3 (Nat.le_refl _) (fun k hk => by cases hk)
  have hF := fold_ints 43 #[.pointer (some ⟨w.heap.size, 0, none⟩), .pointer (some ⟨w.heap.size + 1, 0, none⟩)] (fun _ _ => by kernel_rfl) n (by omega)
    (fun k v w' => w'.ownsRow w2.heap.size 3 1 v k (iv ((vq.sub a b).take k)) ∧ Below w2.heap.size w2 w')
    w3 (.slice (some ⟨w2.heap.size, 0, none⟩) 0 n)
    (fun k v w' hk ⟨ho, hb'⟩ => by
      have e1 := len_of (l := a) (k := k) (by omega)
      have e2 := len_of (l := b) (k := k) (by omega)
      have e3 := vq.sub_at e1 e2
      have f1 := ha.at e1
      have f2 := hb.at e2
      refine (sub1_calls w2.heap.size w.heap.size (w.heap.size + 1) A A' n n c c' k a b v _ _ _ w' (HX1.out.below hb') (HX2.out.below hb') (isI_below H1.out hb') (isI_below H2.out hb') e1 e2 f1.1 f1.2 f2.1 f2.2 k ho hb'.size (by omega)).mono ?_
      rintro e w4 ⟨v', rfl, ho', hb4⟩
      exact ⟨_, rfl, by rw [vq.take_snoc e3]; exact ho', hb'.trans hb4⟩)
    ⟨hown3, hbel3⟩
  have HF := Lib.hid hF
  have HE : Hid ((vq.sub a b).take n = vq.sub a b) := List.take_of_length_le (by omega)
  have HBD : Hid (∀ x ∈ vq.sub a b, -9223372036854775808 ≤ x ∧ x ≤ 9223372036854775807) := fun x hx => by
    obtain ⟨p, hp, rfl⟩ := List.mem_map.1 hx
    have h1 := List.of_mem_zip hp
    have := ha _ h1.1; have := hb _ h1.2
    omega
  have HBT : Hid (∀ w', Below w2.heap.size w2 w' → Below w.heap.size w w') := fun w' hb => Below.andThen HB.out hb
  clear hF HX1 HX2 H1 H2 ha hb hl hl' hls hown3 hgr3 hbel3 HC HZ HB
  go_wp2_with fail
  trace_state
  refine HF.out.mono ?_
  rintro e w' ⟨v, rfl, ho, hb⟩
  rw [HE.out] at ho
  obtain ⟨A2, c2, rfl, hI⟩ := isI_of_own ho HBD.out
  have HI := Lib.hid hI
  have HBB := Lib.hid (HBT.out _ hb)
  clear hI hb ho
  go_wp2_with fail
  go_ret
  exact ⟨A2, c2, rfl, HI.out, HBB.out⟩
end Go.Proofs.Ytbnemcggiopdmaa.vk
