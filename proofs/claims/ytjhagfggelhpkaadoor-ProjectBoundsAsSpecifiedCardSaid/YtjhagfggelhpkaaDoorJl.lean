/- Bounds: the reference. -/
import Derived.Test.YtjhagfggelhpkaaDoorG10

namespace Go.Proofs.YtjhagfggelhpkaaDoor.jk

open Go.ChangeShapes Go.WideShapes Go.ChangeAt Go.RowKit

open Go.Proofs.YtjhagfggelhpkaaDoor.jq Go.Proofs.YtjhagfggelhpkaaDoor.vk Go.Proofs.YtjhagfggelhpkaaDoor.wk

set_option linter.unusedVariables false
theorem up_quo {x n : Int} (hn : 0 < n) (h0 : 0 ≤ x) : (x / n * n < x → up x n = x / n + 1) ∧ (¬ x / n * n < x → up x n = x / n) := by
  have h1 := Int.emod_add_mul_ediv x n
  have h2 := Int.emod_nonneg x (show n ≠ 0 by omega)
  have h3 := Int.emod_lt_of_pos x hn
  have e : x / n * n = n * (x / n) := Int.mul_comm _ _
  rw [e]
  constructor
  · intro h
    refine up_char hn ?_ ?_
    · rw [Int.mul_add]; omega
    · rw [show x / n + 1 - 1 = x / n by omega]; exact h
  · intro h
    refine up_char hn ?_ ?_
    · omega
    · rw [Int.mul_sub]; omega
set_option maxRecDepth 100000 in
theorem refup_calls (x n : Int) (w : World) (h0 : 0 ≤ x) (h1 : x ≤ 4611686018427387904) (hn : n ≤ 1099511627776) (hn0 : 0 < n) :
    Calls Tryd.prog 67 #[.int .i64 x, .int .i64 n] w fun e w' => e = .returned (.int .i64 (up x n)) ∧ w' = w := by
  have hq := up_quo hn0 h0
  have htd : x.tdiv n = x / n := Int.tdiv_eq_ediv_of_nonneg h0
  have hd0 : 0 ≤ x / n := Int.ediv_nonneg h0 (by omega)
  have hd1 : x / n ≤ x := Int.ediv_le_self n h0
  have hm0 : 0 ≤ x / n * n := Int.mul_nonneg hd0 (by omega)
  have hm1 : x / n * n ≤ x := Int.ediv_mul_le x (by omega)
  have hnz : ¬ n = 0 := by omega
  by_cases h : x / n * n < x
  · rw [hq.1 h]
    clear hq
    go_enter Tryd.func67, Tryd.ntmps67
    go_wp2_with fail
    go_ret
    exact ⟨rfl, rfl⟩
  · rw [hq.2 h]
    clear hq
    go_enter Tryd.func67, Tryd.ntmps67
    go_wp2_with fail
    go_ret
    exact ⟨rfl, rfl⟩
theorem outside_alt (r : R) (x : Int) : max (max 0 (r.1 - x)) (x - r.2) = outside r x := by unfold outside; omega
set_option maxRecDepth 100000 in
set_option maxHeartbeats 4000000 in
theorem refone_calls (m : Int) (hm : M3 m) {l q : List Int} {r : R} {d c1 c2 : Nat} {A1 A2 : Option Addr} (w : World) (h1 : wo.IsI w A1 d c1 l) (h2 : wo.IsI w A2 d c2 q) (hl : ∀ x ∈ l, -16 ≤ x ∧ x ≤ 16) (hnz : ∃ x ∈ l, x ≠ 0) (hq : vq.Vec q) (hd : d ≤ 32)
    (hr : (-2147483648 ≤ r.1 ∧ r.1 ≤ 1073741824) ∧ -1073741824 ≤ r.2 ∧ r.2 ≤ 2147483648) (hlh : r.1 ≤ r.2) :
    Calls Tryd.prog 49 #[.int .i64 m, .slice A1 d c1, rgv r, .slice A2 d c2] w fun e w' => e = .returned (.int .i64 (one m l r q)) ∧ Below w.heap.size w w' := by
  have hdt := dot_small (a := l) (b := q) hl (fun x hx => ⟨hq.lo x hx, hq.hi x hx⟩) (by rw [h1.1]; exact hd)
  have hfl : Few l := fun x hx => by have := hl x hx; omega
  have hpos : ∀ k, 1 ≤ k → k ≤ 3 → 0 < vq.norm k l := fun k hk1 hk3 => by
    have h0 := vq.norm_nonneg k l
    rcases Int.lt_or_le 0 (vq.norm k l) with h | h
    · exact h
    · obtain ⟨x, hx, hx0⟩ := hnz
      exact absurd (vq.norm_zero hk1 hk3 (show vq.norm k l = 0 by omega) x hx) hx0
  have hbd : ∀ k, vq.norm k l ≤ 128000000 := fun k => (norm_bd k hfl (by rw [h1.1]; exact hd)).2
  have HB := Lib.hid (below_new w (.cells #[.int .i64 r.1, .int .i64 r.2] 47))
  have HD := Lib.hid (rdot_calls A1 A2 d c1 c2 l q _ (isI_below h1 HB.out) (isI_below h2 HB.out) hfl (few_of hq) hd)
  have HN := Lib.hid (fun k q' (hk1 : 1 ≤ k) (hk3 : k ≤ 3) => rnorm_calls k A1 d c1 l (World.drewN (w.alloc (.cells #[.int .i64 r.1, .int .i64 r.2] 47)) q') hk1 hk3 (isI_drewN (isI_below h1 HB.out) q') hfl hd)
  have HPOS := Lib.hid hpos
  have HBD := Lib.hid hbd
  have HONE := Lib.hid (one_sl hm l r q)
  have hoa : (vq.dot l q < r.1 ∧ outside r (vq.dot l q) = r.1 - vq.dot l q) ∨ (¬ vq.dot l q < r.1 ∧ r.2 < vq.dot l q ∧ outside r (vq.dot l q) = vq.dot l q - r.2) ∨ (¬ vq.dot l q < r.1 ∧ ¬ r.2 < vq.dot l q ∧ outside r (vq.dot l q) = 0) := by unfold outside; omega
  have hon := outside_nonneg r (vq.dot l q)
  have hob : outside r (vq.dot l q) ≤ 2147483648 := by unfold outside; omega
  clear h1 h2 hl hnz hq hfl hpos hbd
  obtain ⟨dt, hdt0⟩ : ∃ dt, vq.dot l q = dt := ⟨_, rfl⟩
  rw [hdt0] at hoa hon hob hdt HD HONE
  obtain ⟨ou, hou⟩ : ∃ ou, outside r dt = ou := ⟨_, rfl⟩
  rw [hou] at hoa hon hob HONE
  obtain ⟨rz, hrz⟩ : ∃ rz, one m l r q = rz := ⟨_, rfl⟩
  rw [hrz] at HONE ⊢
  clear hdt0 hou hrz
  obtain ⟨lo, hi⟩ := r
  dsimp only at hr hoa hlh
  have hsq : 0 ≤ ou * ou ∧ ou * ou ≤ 4611686018427387904 := ⟨Int.mul_nonneg hon hon, by have := Int.mul_le_mul hob hob hon (by omega); omega⟩
  unfold rgv
  dsimp only
  rcases hoa with ⟨h1, rfl⟩ | ⟨h1, h2, rfl⟩ | ⟨h1, h2, rfl⟩
  · rcases hm with rfl | rfl | rfl
    · go_enter Tryd.func49, Tryd.ntmps49
      go_wp2_with fail
      refine HD.out.mono ?_
      rintro e w' ⟨rfl, q1, rfl⟩
      go_wp2_with fail
      have H3 := Lib.hid (HN.out 3 q1 (by omega) (by omega))
      refine H3.out.mono ?_
      rintro e w' ⟨rfl, q2, rfl⟩
      go_wp2_with fail
      refine (refup_calls ((lo - dt)) (vq.norm 3 l) _ (by omega) (by omega) (by have := HBD.out 3; omega) (HPOS.out 3 (by omega) (by omega))).mono ?_
      rintro e w' ⟨rfl, rfl⟩
      go_wp2_with fail
      go_ret
      exact ⟨by rw [HONE.out]; rfl, below_drewN HB.out (q1 + q2)⟩
    · go_enter Tryd.func49, Tryd.ntmps49
      go_wp2_with fail
      refine HD.out.mono ?_
      rintro e w' ⟨rfl, q1, rfl⟩
      go_wp2_with fail
      have H3 := Lib.hid (HN.out 2 q1 (by omega) (by omega))
      refine H3.out.mono ?_
      rintro e w' ⟨rfl, q2, rfl⟩
      go_wp2_with fail
      refine (refup_calls ((lo - dt) * (lo - dt)) (vq.norm 2 l) _ (by omega) (by omega) (by have := HBD.out 2; omega) (HPOS.out 2 (by omega) (by omega))).mono ?_
      rintro e w' ⟨rfl, rfl⟩
      go_wp2_with fail
      go_ret
      exact ⟨by rw [HONE.out]; rfl, below_drewN HB.out (q1 + q2)⟩
    · go_enter Tryd.func49, Tryd.ntmps49
      go_wp2_with fail
      refine HD.out.mono ?_
      rintro e w' ⟨rfl, q1, rfl⟩
      go_wp2_with fail
      have H3 := Lib.hid (HN.out 1 q1 (by omega) (by omega))
      refine H3.out.mono ?_
      rintro e w' ⟨rfl, q2, rfl⟩
      go_wp2_with fail
      refine (refup_calls ((lo - dt)) (vq.norm 1 l) _ (by omega) (by omega) (by have := HBD.out 1; omega) (HPOS.out 1 (by omega) (by omega))).mono ?_
      rintro e w' ⟨rfl, rfl⟩
      go_wp2_with fail
      go_ret
      exact ⟨by rw [HONE.out]; rfl, below_drewN HB.out (q1 + q2)⟩
  · rcases hm with rfl | rfl | rfl
    · go_enter Tryd.func49, Tryd.ntmps49
      go_wp2_with fail
      refine HD.out.mono ?_
      rintro e w' ⟨rfl, q1, rfl⟩
      go_wp2_with fail
      have H3 := Lib.hid (HN.out 3 q1 (by omega) (by omega))
      refine H3.out.mono ?_
      rintro e w' ⟨rfl, q2, rfl⟩
      go_wp2_with fail
      refine (refup_calls ((dt - hi)) (vq.norm 3 l) _ (by omega) (by omega) (by have := HBD.out 3; omega) (HPOS.out 3 (by omega) (by omega))).mono ?_
      rintro e w' ⟨rfl, rfl⟩
      go_wp2_with fail
      go_ret
      exact ⟨by rw [HONE.out]; rfl, below_drewN HB.out (q1 + q2)⟩
    · go_enter Tryd.func49, Tryd.ntmps49
      go_wp2_with fail
      refine HD.out.mono ?_
      rintro e w' ⟨rfl, q1, rfl⟩
      go_wp2_with fail
      have H3 := Lib.hid (HN.out 2 q1 (by omega) (by omega))
      refine H3.out.mono ?_
      rintro e w' ⟨rfl, q2, rfl⟩
      go_wp2_with fail
      refine (refup_calls ((dt - hi) * (dt - hi)) (vq.norm 2 l) _ (by omega) (by omega) (by have := HBD.out 2; omega) (HPOS.out 2 (by omega) (by omega))).mono ?_
      rintro e w' ⟨rfl, rfl⟩
      go_wp2_with fail
      go_ret
      exact ⟨by rw [HONE.out]; rfl, below_drewN HB.out (q1 + q2)⟩
    · go_enter Tryd.func49, Tryd.ntmps49
      go_wp2_with fail
      refine HD.out.mono ?_
      rintro e w' ⟨rfl, q1, rfl⟩
      go_wp2_with fail
      have H3 := Lib.hid (HN.out 1 q1 (by omega) (by omega))
      refine H3.out.mono ?_
      rintro e w' ⟨rfl, q2, rfl⟩
      go_wp2_with fail
      refine (refup_calls ((dt - hi)) (vq.norm 1 l) _ (by omega) (by omega) (by have := HBD.out 1; omega) (HPOS.out 1 (by omega) (by omega))).mono ?_
      rintro e w' ⟨rfl, rfl⟩
      go_wp2_with fail
      go_ret
      exact ⟨by rw [HONE.out]; rfl, below_drewN HB.out (q1 + q2)⟩
  · rcases hm with rfl | rfl | rfl
    · go_enter Tryd.func49, Tryd.ntmps49
      go_wp2_with fail
      refine HD.out.mono ?_
      rintro e w' ⟨rfl, q1, rfl⟩
      go_wp2_with fail
      have H3 := Lib.hid (HN.out 3 q1 (by omega) (by omega))
      refine H3.out.mono ?_
      rintro e w' ⟨rfl, q2, rfl⟩
      go_wp2_with fail
      refine (refup_calls ((0 : Int)) (vq.norm 3 l) _ (by omega) (by omega) (by have := HBD.out 3; omega) (HPOS.out 3 (by omega) (by omega))).mono ?_
      rintro e w' ⟨rfl, rfl⟩
      go_wp2_with fail
      go_ret
      exact ⟨by rw [HONE.out]; rfl, below_drewN HB.out (q1 + q2)⟩
    · go_enter Tryd.func49, Tryd.ntmps49
      go_wp2_with fail
      refine HD.out.mono ?_
      rintro e w' ⟨rfl, q1, rfl⟩
      go_wp2_with fail
      have H3 := Lib.hid (HN.out 2 q1 (by omega) (by omega))
      refine H3.out.mono ?_
      rintro e w' ⟨rfl, q2, rfl⟩
      go_wp2_with fail
      refine (refup_calls ((0 : Int) * (0 : Int)) (vq.norm 2 l) _ (by omega) (by omega) (by have := HBD.out 2; omega) (HPOS.out 2 (by omega) (by omega))).mono ?_
      rintro e w' ⟨rfl, rfl⟩
      go_wp2_with fail
      go_ret
      exact ⟨by rw [HONE.out]; rfl, below_drewN HB.out (q1 + q2)⟩
    · go_enter Tryd.func49, Tryd.ntmps49
      go_wp2_with fail
      refine HD.out.mono ?_
      rintro e w' ⟨rfl, q1, rfl⟩
      go_wp2_with fail
      have H3 := Lib.hid (HN.out 1 q1 (by omega) (by omega))
      refine H3.out.mono ?_
      rintro e w' ⟨rfl, q2, rfl⟩
      go_wp2_with fail
      refine (refup_calls ((0 : Int)) (vq.norm 1 l) _ (by omega) (by omega) (by have := HBD.out 1; omega) (HPOS.out 1 (by omega) (by omega))).mono ?_
      rintro e w' ⟨rfl, rfl⟩
      go_wp2_with fail
      go_ret
      exact ⟨by rw [HONE.out]; rfl, below_drewN HB.out (q1 + q2)⟩
set_option maxRecDepth 100000 in
set_option maxHeartbeats 4000000 in
theorem refbound_calls (m : Int) (hm : M3 m) {L : List (List Int)} {r : List R} {qv : List Int} {d n c c' c2 : Nat} {A A' A2 : Option Addr} (w : World) (h : BArgs w L r qv d n c A c' A' c2 A2) (hor : ∀ x ∈ r, x.1 ≤ x.2) :
    Calls Tryd.prog 33 #[.int .i64 m, .slice A n c, .slice A' n c', .slice A2 d c2] w fun e w' => e = .returned (.int .i64 (bound m L r qv)) ∧ Below w.heap.size w w' := by
  have hm1 := h.isL.2.2.1
  have hn1 := h.isL.2.1
  have hm2 := h.isR.2.2.1
  have hn2 := h.isR.2.1
  have H := Lib.hid h
  have HQ := Lib.hid h.isQ
  have HD : Hid (d ≤ 32) := h.fit.d32
  have HM := Lib.hid hm
  have HOR := Lib.hid hor
  obtain ⟨bv, hbv⟩ : ∃ bv, bound m L r qv = bv := ⟨_, rfl⟩
  rw [hbv]
  have HBV := Lib.hid hbv
  clear h hbv hm hor
  go_enter Tryd.func33, Tryd.ntmps33
  go_wp2_with fail
  go_loopg [9, 10] n (fun g v x wr => ∃ k : Nat, k + g = n ∧ v = .int .i64 (((ones m L r qv).take k).foldl max 0) ∧ x = .int .i64 (k : Int) ∧ Below w.heap.size w wr)
  case atStart => exact ⟨0, by omega, rfl, rfl, Below.refl _ _⟩
  case round =>
    obtain ⟨k, hk, rfl, rfl, hbel⟩ := hrel
    have HK := Lib.hid hk
    have HB := Lib.hid hbel
    have hkn : k ≤ n := by omega
    clear hk hbel
    by_cases hlt : k < n
    · obtain ⟨b, o, A1, n1, c1, l1, rfl, hb1', hc1', hI1', hL1⟩ := isVV_get H.out.isL hlt
      obtain ⟨b2, o2, r1, rfl, hr1', hr2', hb2', hR1, -⟩ := isR_get H.out.isR hlt
      have hmem := List.mem_of_getElem? hL1
      obtain rfl : d = n1 := by rw [← hI1'.1]; exact (H.out.fit.len _ hmem).symm
      have hc1 := (Below.cell (p := ⟨b, o + k, none⟩) HB.out hb1').trans hc1'
      have hr1 := (Below.cell (p := ⟨b2, o2 + k * 2, none⟩) HB.out hb2').trans hr1'
      have hr2 := (Below.cell (p := ⟨b2, o2 + k * 2 + 1, none⟩) HB.out hb2').trans hr2'
      have hb1 := Nat.lt_of_lt_of_le hb1' HB.out.size
      have hb2 := Nat.lt_of_lt_of_le hb2' HB.out.size
      have HL1 := Lib.hid (isI_below hI1' HB.out)
      have HFL : Hid (∀ x ∈ l1, -16 ≤ x ∧ x ≤ 16) := fun x hx => ⟨H.out.fit.lo _ hmem x hx, H.out.fit.hi _ hmem x hx⟩
      have HNZ := Lib.hid (H.out.fit.nz _ hmem)
      have HBW : Hid (Below w.heap.size w wr) := HB.out
      have HR1 := Lib.hid (And.intro (H.out.rng r1 (List.mem_of_getElem? hR1)) (HOR.out r1 (List.mem_of_getElem? hR1)))
      have HS0 := Lib.hid (ones_bd (m := m) (q := qv) k hL1 hR1)
      obtain ⟨sv, hsv⟩ : ∃ sv, one m l1 r1 qv = sv := ⟨_, rfl⟩
      rw [hsv] at HS0
      have HSV := Lib.hid hsv
      generalize ((ones m L r qv).take k).foldl max 0 = s at *
      obtain ⟨mx, hmx⟩ : ∃ mx, max s sv = mx := ⟨_, rfl⟩
      rw [hmx] at HS0
      have HS := HS0
      have HMX := Lib.hid hmx
      have hlt0 : (k : Int) < (n : Int) := by omega
      clear hb1' hc1' hI1' hL1 hr1' hr2' hb2' hR1 hmem hsv hmx HS0
      go_wp2_with fail
      refine wk.region_tailK 13 [.is (.int .i64 s), .is (.int .i64 m), .is (.slice (some ⟨b, o, none⟩) n c), .is (.int .i64 (k : Int)), .is (.pointer (some ⟨b, o + k, none⟩)), .is (.slice A1 d c1), .is (.slice (some ⟨b2, o2, none⟩) n c'), .is (.int .i64 (k : Int)), .is (.pointer (some ⟨b2, o2 + k * 2, none⟩)), .is (rgv r1), .is (.slice A2 d c2), .is (.int .i64 sv), .is (.int .i64 mx)] [some 17, some 18, some 19, some 20, some 21, some 22, some 23, some 24, some 25, some 26, some 27, some 28, some 29] (by kernel_rfl) (by kernel_rfl) (by kernel_rfl) (by kernel_rfl) [] (by kernel_rfl) (by intro p hp; cases hp) (by kernel_rfl) (by kernel_rfl) ?hstep ?hdone
      case hstep =>
        intro i o ho hi hns E w4 hb4 D hold
        have hi2 : i = 0 ∨ i = 1 ∨ i = 2 ∨ i = 3 ∨ i = 4 ∨ i = 5 ∨ i = 6 ∨ i = 7 ∨ i = 8 ∨ i = 9 ∨ i = 10 ∨ i = 11 ∨ i = 12 := by omega
        clear hi
        rcases hi2 with rfl | rfl | rfl | rfl | rfl | rfl | rfl | rfl | rfl | rfl | rfl | rfl | rfl
        ·
          have ho2 := (Array.getElem?_eq_some_iff.1 ho).2
          simp only [List.getElem_toArray, List.getElem_cons_zero] at ho2
          subst ho2
          clear ho
          have e9 := hold 9 (by kernel_rfl)
          exact wk.does_move rfl (by rw [e9]; rfl)
        ·
          have ho2 := (Array.getElem?_eq_some_iff.1 ho).2
          simp only [List.getElem_toArray, List.getElem_cons_succ, List.getElem_cons_zero] at ho2
          subst ho2
          clear ho
          have e0 := D.old 0 (by kernel_rfl)
          exact wk.does_move rfl (by rw [e0]; rfl)
        ·
          have ho2 := (Array.getElem?_eq_some_iff.1 ho).2
          simp only [List.getElem_toArray, List.getElem_cons_succ, List.getElem_cons_zero] at ho2
          subst ho2
          clear ho
          have e1 := D.old 1 (by kernel_rfl)
          exact wk.does_move rfl (by rw [e1]; rfl)
        ·
          have ho2 := (Array.getElem?_eq_some_iff.1 ho).2
          simp only [List.getElem_toArray, List.getElem_cons_succ, List.getElem_cons_zero] at ho2
          subst ho2
          clear ho
          have e10 := D.old 10 (by kernel_rfl)
          exact wk.does_move rfl (by rw [e10]; rfl)
        ·
          have ho2 := (Array.getElem?_eq_some_iff.1 ho).2
          simp only [List.getElem_toArray, List.getElem_cons_succ, List.getElem_cons_zero] at ho2
          subst ho2
          clear ho
          have e19 := D.is { on := 2, ground := .data } (by simp) rfl rfl 19 rfl
          have e20 := D.is { on := 3, ground := .data } (by simp) rfl rfl 20 rfl
          exact wk.does_run (by simp only [execOp]; rw [e19, e20]; go_simp) rfl
        ·
          have ho2 := (Array.getElem?_eq_some_iff.1 ho).2
          simp only [List.getElem_toArray, List.getElem_cons_succ, List.getElem_cons_zero] at ho2
          subst ho2
          clear ho
          have e21 := D.is { on := 4, ground := .data } (by simp) rfl rfl 21 rfl
          exact wk.does_load1 rfl e21 ((Below.cell (p := ⟨_, _, none⟩) ((Below.refl _ _).drew.trans hb4 : Below wr.heap.size wr w4) hb1).trans hc1) Tryd.underlying24 rfl rfl
        ·
          have ho2 := (Array.getElem?_eq_some_iff.1 ho).2
          simp only [List.getElem_toArray, List.getElem_cons_succ, List.getElem_cons_zero] at ho2
          subst ho2
          clear ho
          have e2 := D.old 2 (by kernel_rfl)
          exact wk.does_move rfl (by rw [e2]; rfl)
        ·
          have ho2 := (Array.getElem?_eq_some_iff.1 ho).2
          simp only [List.getElem_toArray, List.getElem_cons_succ, List.getElem_cons_zero] at ho2
          subst ho2
          clear ho
          have e10 := D.old 10 (by kernel_rfl)
          exact wk.does_move rfl (by rw [e10]; rfl)
        ·
          have ho2 := (Array.getElem?_eq_some_iff.1 ho).2
          simp only [List.getElem_toArray, List.getElem_cons_succ, List.getElem_cons_zero] at ho2
          subst ho2
          clear ho
          have e23 := D.is { on := 6, ground := .data } (by simp) rfl rfl 23 rfl
          have e24 := D.is { on := 7, ground := .data } (by simp) rfl rfl 24 rfl
          exact wk.does_run (by simp only [execOp]; rw [e23, e24]; go_simp) rfl
        ·
          have ho2 := (Array.getElem?_eq_some_iff.1 ho).2
          simp only [List.getElem_toArray, List.getElem_cons_succ, List.getElem_cons_zero] at ho2
          subst ho2
          clear ho
          have e25 := D.is { on := 8, ground := .data } (by simp) rfl rfl 25 rfl
          exact wk.does_load_agg rfl e25 (cs := [.int .i64 r1.1, .int .i64 r1.2]) (fun j v hj => by
            rcases (by have := (List.getElem?_eq_some_iff.1 hj).1; simp at this; omega : j = 0 ∨ j = 1) with rfl | rfl
            · simp at hj; rw [← hj]; exact ((Below.cell (p := ⟨_, _, none⟩) ((Below.refl _ _).drew.trans hb4 : Below wr.heap.size wr w4) hb2).trans hr1)
            · simp at hj; rw [← hj]; exact ((Below.cell (p := ⟨_, _, none⟩) ((Below.refl _ _).drew.trans hb4 : Below wr.heap.size wr w4) hb2).trans hr2)) Tryd.underlying47 rfl (by kernel_rfl) rfl
        ·
          have ho2 := (Array.getElem?_eq_some_iff.1 ho).2
          simp only [List.getElem_toArray, List.getElem_cons_succ, List.getElem_cons_zero] at ho2
          subst ho2
          clear ho
          have e3 := D.old 3 (by kernel_rfl)
          exact wk.does_move rfl (by rw [e3]; rfl)
        ·
          have ho2 := (Array.getElem?_eq_some_iff.1 ho).2
          simp only [List.getElem_toArray, List.getElem_cons_succ, List.getElem_cons_zero] at ho2
          subst ho2
          clear ho
          have e18 := D.is { on := 1, ground := .data } (by simp) rfl rfl 18 rfl
          have e22 := D.is { on := 5, ground := .data } (by simp) rfl rfl 22 rfl
          have e26 := D.is { on := 9, ground := .data } (by simp) rfl rfl 26 rfl
          have e27 := D.is { on := 10, ground := .data } (by simp) rfl rfl 27 rfl
          refine wk.does_fn (f := 49) (vs := #[.int .i64 m, .slice A1 d c1, rgv r1, .slice A2 d c2]) rfl (D.fn _) (by simp [e18, e22, e26, e27]) (by go_simp) ?_
          refine (refone_calls m HM.out w4 (isI_below HL1.out ((Below.refl _ _).drew.trans hb4 : Below wr.heap.size wr w4)) (isI_below HQ.out (Below.andThen HBW.out ((Below.refl _ _).drew.trans hb4 : Below wr.heap.size wr w4))) HFL.out HNZ.out H.out.vec HD.out HR1.out.1 HR1.out.2).mono ?_
          rintro e w5 ⟨rfl, hb5⟩
          exact ⟨_, rfl, hb5, by exact congrArg (Value.int .i64) HSV.out⟩
        ·
          have ho2 := (Array.getElem?_eq_some_iff.1 ho).2
          simp only [List.getElem_toArray, List.getElem_cons_succ, List.getElem_cons_zero] at ho2
          subst ho2
          clear ho
          have e17 := D.is { on := 0, ground := .data } (by simp) rfl rfl 17 rfl
          have e28 := D.is { on := 11, ground := .data } (by simp) rfl rfl 28 rfl
          exact wk.does_run (v := .int .i64 mx) (by unfold execOp; first | (go_simp; rw [HMX.out]; done) | (dsimp only; go_simp; rw [HMX.out])) rfl
      case hdone =>
        intro vals w4 hb4 hv
        have h12 := hv 12 (by omega)
        clear hv
        replace h12 : vals 12 = (.int .i64 mx) := h12
        simp only [List.drop_succ_cons, List.drop_zero, wk.setL, List.setIfInBounds_toArray, List.set_cons_zero, List.set_cons_succ, Nat.zero_add, Nat.reduceAdd, h12]
        generalize vals 0 = x0
        generalize vals 1 = x1
        generalize vals 2 = x2
        generalize vals 3 = x3
        generalize vals 4 = x4
        generalize vals 5 = x5
        generalize vals 6 = x6
        generalize vals 7 = x7
        generalize vals 8 = x8
        generalize vals 9 = x9
        generalize vals 10 = x10
        generalize vals 11 = x11
        have HBZ := Lib.hid (HB.out.trans (((Below.refl _ _).drew.trans hb4 : Below wr.heap.size wr w4).mono HB.out.size))
        clear hb4
        go_wp2_with fail
        go_roundg (gk - 1)
        case measure => have := HK.out; omega
        case rel => exact ⟨k + 1, by have := HK.out; omega, by rw [HS.out], by go_num, HBZ.out⟩
    · have hkk : k = n := by omega
      have hv := HBV.out
      have hE : (ones m L r qv).take k = ones m L r qv := List.take_of_length_le (by rw [ones_len, H.out.isL.1, H.out.isR.1]; omega)
      rw [hE]
      unfold bound at hv
      rw [hv]
      clear hv hE
      go_wp2_with fail
      go_ret
      exact ⟨rfl, HB.out⟩
end Go.Proofs.YtjhagfggelhpkaaDoor.jk
