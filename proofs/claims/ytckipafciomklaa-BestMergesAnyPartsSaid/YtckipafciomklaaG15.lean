/- Joined: Ih. -/
import Derived.Test.YtckipafciomklaaG14
/- The reference's Decode. -/
namespace Go.Proofs.Ytckipafciomklaa.bk

open Go.ChangeShapes Go.WideShapes Go.ChangeAt Go.RowKit

open Go.Proofs.Ytckipafciomklaa.bq Go.Proofs.Ytckipafciomklaa.vk Go.Proofs.Ytckipafciomklaa.wk

set_option linter.unusedVariables false
attribute [local go_sem] Oper.semAt_some
/-- a variable of the reference's type Read -/
def RdC (w : World) (g : Nat) (a b : Value) : Prop := w.heap[g]? = some (.cells #[a, b] 47 (0, 0))
theorem RdC.lt {w : World} {g : Nat} {a b : Value} (h : RdC w g a b) : g < w.heap.size := (Array.getElem?_eq_some_iff.1 h).1
theorem RdC.below {w w' : World} {g : Nat} {a b : Value} (h : RdC w g a b) (hb : Below w.heap.size w w') : RdC w' g a b := (hb.block g h.lt).trans h
theorem RdC.c0 {w : World} {g : Nat} {a b : Value} (h : RdC w g a b) : w.cell? ⟨g, 0, none⟩ = some a := by rw [cell_of_row _ _ _ _ _ _ h]; rfl
theorem RdC.c1 {w : World} {g : Nat} {a b : Value} (h : RdC w g a b) : w.cell? ⟨g, 1, none⟩ = some b := by rw [cell_of_row _ _ _ _ _ _ h]; rfl
theorem RdC.f {w : World} {g : Nat} {a b : Value} (h : RdC w g a b) (j : Nat) : w.frozen? ⟨g, j, none⟩ = false := frozen_of_row _ _ _ _ _ h
theorem RdC.set0 {w : World} {g : Nat} {a b : Value} (h : RdC w g a b) (u : Value) : RdC (w.setCell ⟨g, 0, none⟩ u) g u b := heap_setCell_same w g 0 #[a, b] 47 u h
theorem RdC.set1 {w : World} {g : Nat} {a b : Value} (h : RdC w g a b) (u : Value) : RdC (w.setCell ⟨g, 1, none⟩ u) g a u := heap_setCell_same w g 1 #[a, b] 47 u h
theorem isH_row {w : World} {g : Nat} {a b : Value} {A : Option Addr} {n c : Nat} {l : List H} (h : IsH w A n c l) (hg : RdC w g a b) (j : Nat) (u : Value) (hne : ∀ b' o, A = some ⟨b', o, none⟩ → b' ≠ g) : IsH (w.setCell ⟨g, j, none⟩ u) A n c l := by
  refine ⟨h.1, h.2.1, h.2.2.1, ?_, h.2.2.2.2⟩
  intro hlt
  obtain ⟨b', o, e, hb, hc⟩ := h.2.2.2.1 hlt
  refine ⟨b', o, e, by simpa [World.setCell] using hb, fun i v hv => ?_⟩
  rw [← hc i v hv]
  unfold World.cell?
  rw [Below.heap_setCell _ _ _ _ (fun e2 => hne b' o e e2)]
set_option maxRecDepth 100000 in
set_option maxHeartbeats 16000000 in
theorem rdecode_calls {b : List UInt8} {A : Option Addr} {n c : Nat} (k : Int) (w : World) (h : wo.IsB w A n c b) (hn : n ≤ 1300) : Calls Try.prog 32 #[.slice A n c, .int .i64 k] w fun e w' => ∃ A' n' c', e = .returned (.agg #[.slice A' n' c', .int .i64 (decR b k).2]) ∧ IsH w' A' n' c' (decR b k).1 ∧ Below w.heap.size w w' := by
  have hb0 := below_new w (.cells #[.slice none 0 0, .int .i64 0] 47)
  have HZ0 : Hid (RdC (w.alloc (.cells #[.slice none 0 0, .int .i64 0] 47)) w.heap.size (.slice none 0 0) (.int .i64 0)) := heap_alloc_new w _
  obtain ⟨hln, hnc, hc, hR⟩ := vk.isB_below h hb0
  have H := Lib.hid (wi.refGetInts_any A n c b _ hnc hc hln hR (by omega))
  have HBD := Lib.hid (vq.getL_bd b)
  have HLE := Lib.hid (getL_len b)
  have HUS := Lib.hid (used_le b)
  have HLN : Hid (b.length ≤ 1300) := by show _ ≤ _; omega
  have HLN2 : Hid (b.length = n) := hln
  have hE : decR b k = if (wp.getL wp.getI 1 b).2.2 ≠ 0 then ([], (wp.getL wp.getI 1 b).2.2) else if (wp.getL wp.getI 1 b).2.1 < (n : Int) then ([], 11) else if (wp.getL wp.getI 1 b).1.length % 3 ≠ 0 then ([], 3) else if vld (hits (wp.getL wp.getI 1 b).1) k then (hits (wp.getL wp.getI 1 b).1, 0) else ([], 3) := by unfold decR; rw [hln]
  have HE := Lib.hid hE
  have HB0 := Lib.hid hb0
  clear hE hR hln hb0 h
  generalize decR b k = D at *
  generalize wp.getL wp.getI 1 b = R at *
  obtain ⟨r1, r2, r3⟩ := R
  dsimp only at *
  go_enter Try.func32, Try.ntmps32
  go_wp2_with fail
  refine H.out.mono ?_
  rintro e w2 ⟨v0, rfl, hown, hb⟩
  have HB2 := Lib.hid (HB0.out.trans (hb.mono HB0.out.size))
  have HZ2 := Lib.hid (HZ0.out.below hb)
  by_cases h3 : r3 = 0
  · have hus := HUS.out h3
    have hln2 := HLN2.out
    by_cases h2 : r2 < (n : Int)
    · have HE2 : Hid (D = ([], 11)) := by show _ = _; rw [HE.out, if_neg (by simpa using h3), if_pos h2]
      have hne : (r2 != (n : Int)) = true := by simp; omega
      clear hown hb
      subst h3
      have hz0 := HZ2.out.c0
      have hz1 := HZ2.out.f 0
      have hz2 := (HZ2.out.set0 (.slice none 0 0)).c1
      have hz3 := (HZ2.out.set0 (.slice none 0 0)).f 1
      go_wp2_with fail
      exact bodyPost_ret (v := .agg #[.slice none 0 0, .int .i64 11]) (results_cell_row (fn := Try.f32) rfl _ _ w.heap.size 47 #[.slice none 0 0, .int .i64 11] (0, 0) _ rfl ((HZ2.out.set0 _).set1 _) Try.underlying47 rfl (by kernel_rfl)) rfl ⟨none, 0, 0, by rw [HE2.out], by rw [HE2.out]; exact isH_nil _, (HB2.out.setCell (p := ⟨w.heap.size, 0, none⟩) (Nat.le_refl _) _).setCell (p := ⟨w.heap.size, 1, none⟩) (Nat.le_refl _) _⟩
    · obtain rfl : r2 = (n : Int) := by omega
      obtain ⟨A1, c1, rfl, hI⟩ := isI_of_own hown HBD.out
      have HI := Lib.hid hI
      have hI2 := hI.2.1
      have hI3 := hI.2.2.1
      have hnb : r1.length ≤ 1300 := by have := HLE.out h3; have := HLN.out; omega
      obtain ⟨i0, hi, hz0, hz1, hz2⟩ := info_parts infoHt
      have hhl : (hits r1).length = r1.length / 3 := by rw [hits_length]
      have HHL := Lib.hid hhl
      clear hown hb hI hhl hus
      subst h3
      go_wp2_with fail
      go_loopg [8, 9] r1.length (fun gg s x wr => ∃ (kk q : Nat) (v : Value), q + gg = r1.length ∧ q = 3 * kk ∧ x = .int .i64 (q : Int) ∧ v = s ∧ Below w2.heap.size w2 wr ∧ wr.ownsRow w2.heap.size 27 3 v kk (fl ((hits r1).take kk)))
      case atStart => exact ⟨0, 0, _, by omega, rfl, rfl, rfl, Below.refl _ _, by simpa [fl] using World.ownsRow_nil _ _ _ _⟩
      case round =>
        obtain ⟨kk, q, v, hk, hq, rfl, rfl, hbel, hown⟩ := hrel
        have HK := Lib.hid hk
        have HQ := Lib.hid hq
        have HBEL := Lib.hid hbel
        have HOW := Lib.hid hown
        have HBW : Hid (w2.heap.size ≤ wr.heap.size) := hbel.size
        have hqn : q ≤ r1.length := by omega
        have hk1 : kk ≤ 1300 := by omega
        clear hk hq hbel hown
        by_cases hlt : q + 2 < r1.length
        · obtain ⟨a0, a1, a2, hx0, hx1, hx2, hxx⟩ := hits_at (l := r1) (k := kk) (by have := HQ.out; omega)
          rw [← HQ.out] at hx0 hx1 hx2
          have hlt0 : (q : Int) + 2 < (r1.length : Int) := by omega
          have hi0 : (q : Int) < (r1.length : Int) := by omega
          have h01 : (0 : Int) ≤ (q : Int) + 1 := by omega
          have h02 : (0 : Int) ≤ (q : Int) + 2 := by omega
          have ht1 : ((q : Int) + 1).toNat = q + 1 := by omega
          have ht2 : ((q : Int) + 2).toNat = q + 2 := by omega
          obtain ⟨-, b1, o1, eA, -⟩ := vk.isI_get HI.out hx0
          subst eA
          have HC0 : Hid (∀ u, Below w2.heap.size w2 u → u.cell? ⟨b1, o1 + q, none⟩ = some (.int .i64 a0)) := fun u hu => by
            obtain ⟨-, b, o, e, hc⟩ := vk.isI_get (vk.isI_below HI.out hu) hx0; cases e; exact hc
          have HC1 : Hid (∀ u, Below w2.heap.size w2 u → u.cell? ⟨b1, o1 + (q + 1), none⟩ = some (.int .i64 a1)) := fun u hu => by
            obtain ⟨-, b, o, e, hc⟩ := vk.isI_get (vk.isI_below HI.out hu) hx1; cases e; exact hc
          have HC2 : Hid (∀ u, Below w2.heap.size w2 u → u.cell? ⟨b1, o1 + (q + 2), none⟩ = some (.int .i64 a2)) := fun u hu => by
            obtain ⟨-, b, o, e, hc⟩ := vk.isI_get (vk.isI_below HI.out hu) hx2; cases e; exact hc
          have HTK := Lib.hid (take_succ' hxx)
          clear hx0 hx1 hx2 hxx
          go_wp2_with fail
          refine wk.region_tailK 17 [.is (v), .is (.slice (some ⟨b1, o1, none⟩) r1.length c1), .is (.int .i64 (q : Int)), .is (.pointer (some ⟨b1, o1 + q, none⟩)), .is (.int .i64 a0), .is (.slice (some ⟨b1, o1, none⟩) r1.length c1), .is (.int .i64 (q : Int)), .is (.int .i64 ((q + 1 : Nat) : Int)), .is (.pointer (some ⟨b1, o1 + (q + 1), none⟩)), .is (.int .i64 a1), .is (.slice (some ⟨b1, o1, none⟩) r1.length c1), .is (.int .i64 (q : Int)), .is (.int .i64 ((q + 2 : Nat) : Int)), .is (.pointer (some ⟨b1, o1 + (q + 2), none⟩)), .is (.int .i64 a2), .is (.agg #[.int .i64 a0, .int .i64 a1, .int .i64 a2]), .st (fun u x => ∃ g, x = .slice (some ⟨g, 0, none⟩) 1 1 ∧ RowH u g (a0, a1, a2)) (fun u u2 x h hb => by obtain ⟨g, h1, h2⟩ := h; exact ⟨g, h1, h2.below hb⟩)] [some 32, some 33, some 34, some 35, some 36, some 37, some 38, some 39, some 40, some 41, some 42, some 43, some 44, some 45, some 46, some 47, some 48] (by kernel_rfl) (by kernel_rfl) (by kernel_rfl) (by kernel_rfl) [] (by kernel_rfl) (by intro p hp; cases hp) (by kernel_rfl) (by kernel_rfl) ?hstep ?hdone
          case hstep =>
            intro i o ho hi hns E w4 hb4 D hold
            have hi2 : i = 0 ∨ i = 1 ∨ i = 2 ∨ i = 3 ∨ i = 4 ∨ i = 5 ∨ i = 6 ∨ i = 7 ∨ i = 8 ∨ i = 9 ∨ i = 10 ∨ i = 11 ∨ i = 12 ∨ i = 13 ∨ i = 14 ∨ i = 15 ∨ i = 16 := by omega
            clear hi
            rcases hi2 with rfl | rfl | rfl | rfl | rfl | rfl | rfl | rfl | rfl | rfl | rfl | rfl | rfl | rfl | rfl | rfl | rfl
            ·
              have ho2 := (Array.getElem?_eq_some_iff.1 ho).2
              simp only [List.getElem_toArray, List.getElem_cons_zero] at ho2
              subst ho2
              clear ho
              have e8 := hold 8 (by kernel_rfl)
              exact wk.does_move rfl (by rw [e8]; rfl)
            ·
              have ho2 := (Array.getElem?_eq_some_iff.1 ho).2
              simp only [List.getElem_toArray, List.getElem_cons_succ, List.getElem_cons_zero] at ho2
              subst ho2
              clear ho
              have e5 := D.old 5 (by kernel_rfl)
              exact wk.does_move rfl (by rw [e5]; rfl)
            ·
              have ho2 := (Array.getElem?_eq_some_iff.1 ho).2
              simp only [List.getElem_toArray, List.getElem_cons_succ, List.getElem_cons_zero] at ho2
              subst ho2
              clear ho
              have e9 := D.old 9 (by kernel_rfl)
              exact wk.does_move rfl (by rw [e9]; rfl)
            ·
              have ho2 := (Array.getElem?_eq_some_iff.1 ho).2
              simp only [List.getElem_toArray, List.getElem_cons_succ, List.getElem_cons_zero] at ho2
              subst ho2
              clear ho
              have e33 := D.is { on := 1, ground := .data } (by simp) rfl rfl 33 rfl
              have e34 := D.is { on := 2, ground := .data } (by simp) rfl rfl 34 rfl
              exact wk.does_run (by simp only [execOp]; rw [show E (.tmp 33) = _ from e33, show E (.tmp 34) = _ from e34]; go_simp; try (intro h0; omega)) rfl
            ·
              have ho2 := (Array.getElem?_eq_some_iff.1 ho).2
              simp only [List.getElem_toArray, List.getElem_cons_succ, List.getElem_cons_zero] at ho2
              subst ho2
              clear ho
              have e35 := D.is { on := 3, ground := .data } (by simp) rfl rfl 35 rfl
              exact wk.does_load1 rfl e35 (HC0.out _ (HBEL.out.trans (((Below.refl _ _).drew.trans hb4).mono HBEL.out.size))) Try.underlying3 rfl rfl
            ·
              have ho2 := (Array.getElem?_eq_some_iff.1 ho).2
              simp only [List.getElem_toArray, List.getElem_cons_succ, List.getElem_cons_zero] at ho2
              subst ho2
              clear ho
              have e5 := D.old 5 (by kernel_rfl)
              exact wk.does_move rfl (by rw [e5]; rfl)
            ·
              have ho2 := (Array.getElem?_eq_some_iff.1 ho).2
              simp only [List.getElem_toArray, List.getElem_cons_succ, List.getElem_cons_zero] at ho2
              subst ho2
              clear ho
              have e9 := D.old 9 (by kernel_rfl)
              exact wk.does_move rfl (by rw [e9]; rfl)
            ·
              have ho2 := (Array.getElem?_eq_some_iff.1 ho).2
              simp only [List.getElem_toArray, List.getElem_cons_succ, List.getElem_cons_zero] at ho2
              subst ho2
              clear ho
              have e38 := D.is { on := 6, ground := .data } (by simp) rfl rfl 38 rfl
              exact wk.does_run (by simp only [execOp]; rw [show E (.tmp 38) = _ from e38, show E (.const (.int .i64 1)) = .int .i64 1 from D.con _]; go_simp; try (rw [IntKind.wrap_i64]; omega)) rfl
            ·
              have ho2 := (Array.getElem?_eq_some_iff.1 ho).2
              simp only [List.getElem_toArray, List.getElem_cons_succ, List.getElem_cons_zero] at ho2
              subst ho2
              clear ho
              have e37 := D.is { on := 5, ground := .data } (by simp) rfl rfl 37 rfl
              have e39 := D.is { on := 7, ground := .data } (by simp) rfl rfl 39 rfl
              exact wk.does_run (by simp only [execOp]; rw [show E (.tmp 37) = _ from e37, show E (.tmp 39) = _ from e39]; go_simp; try (intro h0; omega)) rfl
            ·
              have ho2 := (Array.getElem?_eq_some_iff.1 ho).2
              simp only [List.getElem_toArray, List.getElem_cons_succ, List.getElem_cons_zero] at ho2
              subst ho2
              clear ho
              have e40 := D.is { on := 8, ground := .data } (by simp) rfl rfl 40 rfl
              exact wk.does_load1 rfl e40 (HC1.out _ (HBEL.out.trans (((Below.refl _ _).drew.trans hb4).mono HBEL.out.size))) Try.underlying3 rfl rfl
            ·
              have ho2 := (Array.getElem?_eq_some_iff.1 ho).2
              simp only [List.getElem_toArray, List.getElem_cons_succ, List.getElem_cons_zero] at ho2
              subst ho2
              clear ho
              have e5 := D.old 5 (by kernel_rfl)
              exact wk.does_move rfl (by rw [e5]; rfl)
            ·
              have ho2 := (Array.getElem?_eq_some_iff.1 ho).2
              simp only [List.getElem_toArray, List.getElem_cons_succ, List.getElem_cons_zero] at ho2
              subst ho2
              clear ho
              have e9 := D.old 9 (by kernel_rfl)
              exact wk.does_move rfl (by rw [e9]; rfl)
            ·
              have ho2 := (Array.getElem?_eq_some_iff.1 ho).2
              simp only [List.getElem_toArray, List.getElem_cons_succ, List.getElem_cons_zero] at ho2
              subst ho2
              clear ho
              have e43 := D.is { on := 11, ground := .data } (by simp) rfl rfl 43 rfl
              exact wk.does_run (by simp only [execOp]; rw [show E (.tmp 43) = _ from e43, show E (.const (.int .i64 2)) = .int .i64 2 from D.con _]; go_simp; try (rw [IntKind.wrap_i64]; omega)) rfl
            ·
              have ho2 := (Array.getElem?_eq_some_iff.1 ho).2
              simp only [List.getElem_toArray, List.getElem_cons_succ, List.getElem_cons_zero] at ho2
              subst ho2
              clear ho
              have e42 := D.is { on := 10, ground := .data } (by simp) rfl rfl 42 rfl
              have e44 := D.is { on := 12, ground := .data } (by simp) rfl rfl 44 rfl
              exact wk.does_run (by simp only [execOp]; rw [show E (.tmp 42) = _ from e42, show E (.tmp 44) = _ from e44]; go_simp; try (intro h0; omega)) rfl
            ·
              have ho2 := (Array.getElem?_eq_some_iff.1 ho).2
              simp only [List.getElem_toArray, List.getElem_cons_succ, List.getElem_cons_zero] at ho2
              subst ho2
              clear ho
              have e45 := D.is { on := 13, ground := .data } (by simp) rfl rfl 45 rfl
              exact wk.does_load1 rfl e45 (HC2.out _ (HBEL.out.trans (((Below.refl _ _).drew.trans hb4).mono HBEL.out.size))) Try.underlying3 rfl rfl
            ·
              have ho2 := (Array.getElem?_eq_some_iff.1 ho).2
              simp only [List.getElem_toArray, List.getElem_cons_succ, List.getElem_cons_zero] at ho2
              subst ho2
              clear ho
              have e36 := D.is { on := 4, ground := .data } (by simp) rfl rfl 36 rfl
              have e41 := D.is { on := 9, ground := .data } (by simp) rfl rfl 41 rfl
              have e46 := D.is { on := 14, ground := .data } (by simp) rfl rfl 46 rfl
              exact wk.does_run (by simp only [execOp, List.map_toArray, List.map_cons, List.map_nil]; rw [show E (.tmp 36) = _ from e36, show E (.tmp 41) = _ from e41, show E (.tmp 46) = _ from e46]; go_simp) rfl
            ·
              have ho2 := (Array.getElem?_eq_some_iff.1 ho).2
              simp only [List.getElem_toArray, List.getElem_cons_succ, List.getElem_cons_zero] at ho2
              subst ho2
              clear ho
              have e47 := D.is { on := 15, ground := .data } (by simp) rfl rfl 47 rfl
              refine wk.does_new (v := .slice (some ⟨w4.heap.size, 0, none⟩) 1 1) (w' := w4.alloc (.cells #[.int .i64 a0, .int .i64 a1, .int .i64 a2] 27)) (by simp only [execOp, List.map_toArray, List.map_cons, List.map_nil]; rw [show E (.tmp 47) = _ from e47]; go_simp) (below_new _ _) ⟨_, rfl, RowH.new _ (a0, a1, a2)⟩
          case hdone =>
            intro vals w4 hb4 hv
            have h0 := hv 0 (by omega)
            have h16 := hv 16 (by omega)
            clear hv
            replace h0 : vals 0 = (v) := h0
            simp only [List.drop_succ_cons, List.drop_zero, wk.setL, List.setIfInBounds_toArray, List.set_cons_zero, List.set_cons_succ, Nat.zero_add, Nat.reduceAdd, h0]
            generalize vals 1 = x1
            generalize vals 2 = x2
            generalize vals 3 = x3
            generalize vals 4 = x4
            generalize vals 5 = x5
            generalize vals 6 = x6
            generalize vals 7 = x7
            generalize vals 8 = x8
            generalize vals 9 = x9
            generalize vals 10 = x10
            generalize vals 11 = x11
            generalize vals 12 = x12
            generalize vals 13 = x13
            generalize vals 14 = x14
            generalize vals 15 = x15
            generalize vals 16 = x16 at *
            obtain ⟨g, rfl, hrow⟩ := h16
            have hbb := (Below.refl wr.heap.size wr).drew.trans hb4
            have HO2 := Lib.hid (keptB HOW.out hbb)
            have HB4 := Lib.hid (HBEL.out.trans (hbb.mono HBW.out))
            have HROW := Lib.hid hrow
            clear hb4 hbb hrow
            go_wp2_with (at_builtin; refine wpList_append_own _ rfl _ _ 22 rfl w2.heap.size 27 i0 (.agg #[.int .i64 0, .int .i64 0, .int .i64 0]) 3 24 Try.underlying22 hi hz0 hz1 hz2 rfl (by decide) _ _ _ rfl HO2.out ⟨g, 0, none⟩ 1 1 (rv (a0, a1, a2)) rfl rfl HROW.out.cells ones3 ?c3 ?c4 ?c5 ?_)
            case c3 => unfold maxLen; omega
            case c4 => omega
            case c5 => exact HB4.out.size
            intro v5 w5 hown5 hg5 _
            have HB5 := Lib.hid (HB4.out.grown hg5 HB4.out.size (fun g hg => (HO2.out.lt g hg).1))
            have HOW5 := Lib.hid hown5
            clear hown5 hg5
            go_wp2_with fail
            go_roundg (gk - 3)
            case measure => have := HK.out; omega
            case rel => exact ⟨kk + 1, q + 3, _, by have := HK.out; omega, by have := HQ.out; omega, by go_num, rfl, HB5.out, by have h := HOW5.out; rw [HTK.out, fl_append]; simpa [fl] using h⟩
        · have hk3 : kk = r1.length / 3 := by have := HQ.out; omega
          have hlt0 : ¬ (q : Int) + 2 < (r1.length : Int) := by omega
          have ho : wr.ownsRow w2.heap.size 27 3 v kk (fl (hits r1)) := by have := HOW.out; rw [List.take_of_length_le (by rw [HHL.out]; omega)] at this; exact this
          obtain ⟨A7, c7, rfl, hI⟩ := isH_of_own ho (hits_wd HBD.out)
          have HI7 := Lib.hid hI
          have HNE : Hid (∀ b' o, A7 = some ⟨b', o, none⟩ → b' ≠ w.heap.size) := fun b' o e => by
            subst e
            have := (ho.lt b' rfl).1
            have := HZ2.out.lt
            omega
          have HZ7 := Lib.hid (HZ2.out.below HBEL.out)
          have HB7 := Lib.hid (HB2.out.trans (HBEL.out.mono HB2.out.size))
          clear ho hI hk3
          by_cases hmod : r1.length % 3 = 0
          · have hq1 : (r1.length : Int) % 3 = 0 := by omega
            have hq2 : (r1.length : Int).tmod 3 = 0 := by rw [Int.tmod_eq_emod_of_nonneg (by omega)]; exact hq1
            go_wp2_with fail
            refine (rvalid_calls _ _ HI7.out).mono ?_
            rintro e w8 ⟨rfl, hb8⟩
            have HZ8 := Lib.hid (HZ7.out.below hb8)
            have HB8 := Lib.hid (HB7.out.trans (hb8.mono HB7.out.size))
            have HI8 := Lib.hid (HI7.out.below hb8)
            clear hb8
            have HE8 : Hid (D = if vld (hits r1) k then (hits r1, 0) else ([], 3)) := by show _ = _; rw [HE.out, if_neg (by simp), if_neg (by omega), if_neg (by simpa using hmod)]
            cases hvv : vld (hits r1) k with
            | false =>
              have HE9 : Hid (D = ([], 3)) := by show _ = _; rw [HE8.out, hvv]; rfl
              have hz0 := HZ8.out.c0
              have hz1 := HZ8.out.f 0
              have hz2 := (HZ8.out.set0 (.slice none 0 0)).c1
              have hz3 := (HZ8.out.set0 (.slice none 0 0)).f 1
              go_wp2_with fail
              exact bodyPost_ret (v := .agg #[.slice none 0 0, .int .i64 3]) (results_cell_row (fn := Try.f32) rfl _ _ w.heap.size 47 #[.slice none 0 0, .int .i64 3] (0, 0) _ rfl ((HZ8.out.set0 _).set1 _) Try.underlying47 rfl (by kernel_rfl)) rfl ⟨none, 0, 0, by rw [HE9.out], by rw [HE9.out]; exact isH_nil _, (HB8.out.setCell (p := ⟨w.heap.size, 0, none⟩) (Nat.le_refl _) _).setCell (p := ⟨w.heap.size, 1, none⟩) (Nat.le_refl _) _⟩
            | true =>
              have HE9 : Hid (D = (hits r1, 0)) := by show _ = _; rw [HE8.out, hvv]; rfl
              have hz0 := HZ8.out.c0
              have hz1 := HZ8.out.f 0
              have hz2 := (HZ8.out.set0 (.slice A7 kk c7)).c1
              have hz3 := (HZ8.out.set0 (.slice A7 kk c7)).f 1
              go_wp2_with fail
              refine bodyPost_ret (v := .agg #[.slice A7 kk c7, .int .i64 0]) (results_cell_row (fn := Try.f32) rfl _ _ w.heap.size 47 #[.slice A7 kk c7, .int .i64 0] (0, 0) _ rfl ((HZ8.out.set0 _).set1 _) Try.underlying47 rfl (by kernel_rfl)) rfl ⟨A7, kk, c7, by rw [HE9.out], ?_, (HB8.out.setCell (p := ⟨w.heap.size, 0, none⟩) (Nat.le_refl _) _).setCell (p := ⟨w.heap.size, 1, none⟩) (Nat.le_refl _) _⟩
              rw [HE9.out]
              exact isH_row (isH_row HI8.out HZ8.out 0 _ HNE.out) (HZ8.out.set0 _) 1 _ HNE.out
          · have hq1 : (r1.length : Int) % 3 ≠ 0 := by omega
            have hq2 : (r1.length : Int).tmod 3 ≠ 0 := by rw [Int.tmod_eq_emod_of_nonneg (by omega)]; exact hq1
            have HE9 : Hid (D = ([], 3)) := by show _ = _; rw [HE.out, if_neg (by simp), if_neg (by omega), if_pos hmod]
            have hz0 := HZ7.out.c0
            have hz1 := HZ7.out.f 0
            have hz2 := (HZ7.out.set0 (.slice none 0 0)).c1
            have hz3 := (HZ7.out.set0 (.slice none 0 0)).f 1
            go_wp2_with fail
            exact bodyPost_ret (v := .agg #[.slice none 0 0, .int .i64 3]) (results_cell_row (fn := Try.f32) rfl _ _ w.heap.size 47 #[.slice none 0 0, .int .i64 3] (0, 0) _ rfl ((HZ7.out.set0 _).set1 _) Try.underlying47 rfl (by kernel_rfl)) rfl ⟨none, 0, 0, by rw [HE9.out], by rw [HE9.out]; exact isH_nil _, (HB7.out.setCell (p := ⟨w.heap.size, 0, none⟩) (Nat.le_refl _) _).setCell (p := ⟨w.heap.size, 1, none⟩) (Nat.le_refl _) _⟩
  · have HE2 : Hid (D = ([], r3)) := by show _ = _; rw [HE.out, if_pos h3]
    clear hown hb
    have hz0 := HZ2.out.c0
    have hz1 := HZ2.out.f 0
    have hz2 := (HZ2.out.set0 (.slice none 0 0)).c1
    have hz3 := (HZ2.out.set0 (.slice none 0 0)).f 1
    go_wp2_with fail
    exact bodyPost_ret (v := .agg #[.slice none 0 0, .int .i64 r3]) (results_cell_row (fn := Try.f32) rfl _ _ w.heap.size 47 #[.slice none 0 0, .int .i64 r3] (0, 0) _ rfl ((HZ2.out.set0 _).set1 _) Try.underlying47 rfl (by kernel_rfl)) rfl ⟨none, 0, 0, by rw [HE2.out], by rw [HE2.out]; exact isH_nil _, (HB2.out.setCell (p := ⟨w.heap.size, 0, none⟩) (Nat.le_refl _) _).setCell (p := ⟨w.heap.size, 1, none⟩) (Nat.le_refl _) _⟩
end Go.Proofs.Ytckipafciomklaa.bk
