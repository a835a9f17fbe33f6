/- Projections and ranges: the reference. -/
import Derived.Test.YtjhagfggelhpkaaDoorG10

namespace Go.Proofs.YtjhagfggelhpkaaDoor.jk

open Go.ChangeShapes Go.WideShapes Go.ChangeAt Go.RowKit

open Go.Proofs.YtjhagfggelhpkaaDoor.jq Go.Proofs.YtjhagfggelhpkaaDoor.vk Go.Proofs.YtjhagfggelhpkaaDoor.wk

set_option linter.unusedVariables false
set_option maxRecDepth 100000 in
set_option maxHeartbeats 4000000 in
theorem refjoin_calls {a b' : List R} {n c c' : Nat} {A A' : Option Addr} (w : World) (h : IsR w A n c a) (h' : IsR w A' n c' b') (hn : n ≤ 1000) :
    Calls Tryd.prog 18 #[.slice A n c, .slice A' n c'] w fun e w' => ∃ v', e = .returned v' ∧ w'.ownsRow w.heap.size 47 2 v' n (fl (join a b')) ∧ Below w.heap.size w w' := by
  obtain ⟨i0, hi, hz0, hz1, hz2⟩ := info_parts infoRg
  have hm := h.2.2.1
  have hnc := h.2.1
  have hm' := h'.2.2.1
  have hnc' := h'.2.1
  have H := Lib.hid h
  have H' := Lib.hid h'
  have HAL : Hid ((join a b').length = n) := by show _ = _; rw [join_len (by rw [h.1, h'.1]), h.1]
  clear h h'
  have hnI : (i0.bytes : Nat) * n ≤ 281474976710656 := by rw [hz2]; omega
  generalize hG : w.heap.size = B at *
  have HG := Lib.hid hG
  clear hG
  go_enter Tryd.func18, Tryd.ntmps18
  go_wp2_with fail
  go_loopg [5, 6] n (fun g v x wr => ∃ (k : Nat) (v0 : Value), k + g = n ∧ v0 = v ∧ x = .int .i64 (k : Int) ∧ wr.ownsRow B 47 2 v0 k (fl ((join a b').take k)) ∧ Below B w wr)
  case atStart => exact ⟨0, _, by omega, rfl, rfl, World.ownsRow_nil _ _ _ _, Below.refl _ _⟩
  case round =>
    obtain ⟨k, v0, hk, rfl, rfl, hown, hbel⟩ := hrel
    have HK := Lib.hid hk
    have HOWN2 := Lib.hid hown
    have HBEL := Lib.hid hbel
    have HBW : Hid (B ≤ wr.heap.size) := by have := hbel.size; have := HG.out; show _ ≤ _; omega
    have hkn : k ≤ n := by omega
    by_cases hlt : k < n
    · have hb0 : Below w.heap.size w wr := by rw [HG.out]; exact hbel
      obtain ⟨b, o, ⟨x1, x2⟩, rfl, hx1, hx2, hb1, hX, hwx⟩ := isR_get (isR_below H.out hb0) hlt
      obtain ⟨b2, o2, ⟨y1, y2⟩, rfl, hy1, hy2, hb2, hY, hwy⟩ := isR_get (isR_below H'.out hb0) hlt
      dsimp only at hx1 hx2 hy1 hy2
      have hS := jq.take_snoc (join_at hX hY)
      unfold join1 at hS
      dsimp only at hS
      obtain ⟨mn, hmn⟩ : ∃ mn, min x1 y1 = mn := ⟨_, rfl⟩
      obtain ⟨mx, hmx⟩ : ∃ mx, max x2 y2 = mx := ⟨_, rfl⟩
      rw [hmn, hmx] at hS
      have HMN := Lib.hid hmn
      have HMX := Lib.hid hmx
      have HS := Lib.hid hS
      have h1' : (k : Int) < (n : Int) := by omega
      clear hown hbel hb0 hk hX hY hwx hwy hS hmn hmx
      go_wp2_with fail
      refine wk.region_tailK 25 [.is (v0), .is (.slice (some ⟨b, o, none⟩) n c), .is (.int .i64 (k : Int)), .is (.pointer (some ⟨b, o + k * 2, none⟩)), .is (.pointer (some ⟨b, o + k * 2, none⟩)), .is (.int .i64 x1), .is (.slice (some ⟨b2, o2, none⟩) n c'), .is (.int .i64 (k : Int)), .is (.pointer (some ⟨b2, o2 + k * 2, none⟩)), .is (.pointer (some ⟨b2, o2 + k * 2, none⟩)), .is (.int .i64 y1), .is (.int .i64 mn), .is (.slice (some ⟨b, o, none⟩) n c), .is (.int .i64 (k : Int)), .is (.pointer (some ⟨b, o + k * 2, none⟩)), .is (.pointer (some ⟨b, o + k * 2 + 1, none⟩)), .is (.int .i64 x2), .is (.slice (some ⟨b2, o2, none⟩) n c'), .is (.int .i64 (k : Int)), .is (.pointer (some ⟨b2, o2 + k * 2, none⟩)), .is (.pointer (some ⟨b2, o2 + k * 2 + 1, none⟩)), .is (.int .i64 y2), .is (.int .i64 mx), .is (.agg #[.int .i64 mn, .int .i64 mx]), .st (fun u x => ∃ g, x = .slice (some ⟨g, 0, none⟩) 1 1 ∧ RowR u g (mn) (mx)) (fun u u2 x h hb => by obtain ⟨g, h1, h2⟩ := h; exact ⟨g, h1, h2.below hb⟩)] [some 13, some 14, some 15, some 16, some 17, some 18, some 19, some 20, some 21, some 22, some 23, some 24, some 25, some 26, some 27, some 28, some 29, some 30, some 31, some 32, some 33, some 34, some 35, some 36, some 37] (by kernel_rfl) (by kernel_rfl) (by kernel_rfl) (by kernel_rfl) [] (by kernel_rfl) (by intro p hp; cases hp) (by kernel_rfl) (by kernel_rfl) ?hstep ?hdone
      case hstep =>
        intro i o ho hi hns E w4 hb4 D hold
        have hi2 : i = 0 ∨ i = 1 ∨ i = 2 ∨ i = 3 ∨ i = 4 ∨ i = 5 ∨ i = 6 ∨ i = 7 ∨ i = 8 ∨ i = 9 ∨ i = 10 ∨ i = 11 ∨ i = 12 ∨ i = 13 ∨ i = 14 ∨ i = 15 ∨ i = 16 ∨ i = 17 ∨ i = 18 ∨ i = 19 ∨ i = 20 ∨ i = 21 ∨ i = 22 ∨ i = 23 ∨ i = 24 := by omega
        clear hi
        rcases hi2 with rfl | rfl | rfl | rfl | rfl | rfl | rfl | rfl | rfl | rfl | rfl | rfl | rfl | rfl | rfl | rfl | rfl | rfl | rfl | rfl | rfl | rfl | rfl | rfl | rfl
        ·
          have ho2 := (Array.getElem?_eq_some_iff.1 ho).2
          simp only [List.getElem_toArray, List.getElem_cons_zero] at ho2
          subst ho2
          clear ho
          have e5 := hold 5 (by kernel_rfl)
          exact wk.does_move rfl (by rw [e5]; rfl)
        ·
          have ho2 := (Array.getElem?_eq_some_iff.1 ho).2
          simp only [List.getElem_toArray, List.getElem_cons_succ, List.getElem_cons_zero] at ho2
          subst ho2
          clear ho
          have e0 := D.old 0 (by kernel_rfl)
          exact wk.does_move rfl (by rw [e0]; rfl)
        ·
          have ho2 := (Array.getElem?_eq_some_iff.1 ho).2
          simp only [List.getElem_toArray, List.getElem_cons_succ, List.getElem_cons_zero] at ho2
          subst ho2
          clear ho
          have e6 := D.old 6 (by kernel_rfl)
          exact wk.does_move rfl (by rw [e6]; rfl)
        ·
          have ho2 := (Array.getElem?_eq_some_iff.1 ho).2
          simp only [List.getElem_toArray, List.getElem_cons_succ, List.getElem_cons_zero] at ho2
          subst ho2
          clear ho
          have e14 := D.is { on := 1, ground := .data } (by simp) rfl rfl 14 rfl
          have e15 := D.is { on := 2, ground := .data } (by simp) rfl rfl 15 rfl
          exact wk.does_run (by simp only [execOp]; rw [e14, e15]; go_simp) rfl
        ·
          have ho2 := (Array.getElem?_eq_some_iff.1 ho).2
          simp only [List.getElem_toArray, List.getElem_cons_succ, List.getElem_cons_zero] at ho2
          subst ho2
          clear ho
          have e16 := D.is { on := 3, ground := .data } (by simp) rfl rfl 16 rfl
          exact wk.does_run (by simp only [execOp]; rw [e16]; go_simp) rfl
        ·
          have ho2 := (Array.getElem?_eq_some_iff.1 ho).2
          simp only [List.getElem_toArray, List.getElem_cons_succ, List.getElem_cons_zero] at ho2
          subst ho2
          clear ho
          have e17 := D.is { on := 4, ground := .data } (by simp) rfl rfl 17 rfl
          exact wk.does_load1 rfl e17 ((Below.cell (p := ⟨_, _, none⟩) ((Below.refl _ _).drew.trans hb4 : Below wr.heap.size wr w4) hb1).trans hx1) Tryd.underlying3 rfl rfl
        ·
          have ho2 := (Array.getElem?_eq_some_iff.1 ho).2
          simp only [List.getElem_toArray, List.getElem_cons_succ, List.getElem_cons_zero] at ho2
          subst ho2
          clear ho
          have e1 := D.old 1 (by kernel_rfl)
          exact wk.does_move rfl (by rw [e1]; rfl)
        ·
          have ho2 := (Array.getElem?_eq_some_iff.1 ho).2
          simp only [List.getElem_toArray, List.getElem_cons_succ, List.getElem_cons_zero] at ho2
          subst ho2
          clear ho
          have e6 := D.old 6 (by kernel_rfl)
          exact wk.does_move rfl (by rw [e6]; rfl)
        ·
          have ho2 := (Array.getElem?_eq_some_iff.1 ho).2
          simp only [List.getElem_toArray, List.getElem_cons_succ, List.getElem_cons_zero] at ho2
          subst ho2
          clear ho
          have e19 := D.is { on := 6, ground := .data } (by simp) rfl rfl 19 rfl
          have e20 := D.is { on := 7, ground := .data } (by simp) rfl rfl 20 rfl
          exact wk.does_run (by simp only [execOp]; rw [e19, e20]; go_simp) rfl
        ·
          have ho2 := (Array.getElem?_eq_some_iff.1 ho).2
          simp only [List.getElem_toArray, List.getElem_cons_succ, List.getElem_cons_zero] at ho2
          subst ho2
          clear ho
          have e21 := D.is { on := 8, ground := .data } (by simp) rfl rfl 21 rfl
          exact wk.does_run (by simp only [execOp]; rw [e21]; go_simp) rfl
        ·
          have ho2 := (Array.getElem?_eq_some_iff.1 ho).2
          simp only [List.getElem_toArray, List.getElem_cons_succ, List.getElem_cons_zero] at ho2
          subst ho2
          clear ho
          have e22 := D.is { on := 9, ground := .data } (by simp) rfl rfl 22 rfl
          exact wk.does_load1 rfl e22 ((Below.cell (p := ⟨_, _, none⟩) ((Below.refl _ _).drew.trans hb4 : Below wr.heap.size wr w4) hb2).trans hy1) Tryd.underlying3 rfl rfl
        ·
          have ho2 := (Array.getElem?_eq_some_iff.1 ho).2
          simp only [List.getElem_toArray, List.getElem_cons_succ, List.getElem_cons_zero] at ho2
          subst ho2
          clear ho
          have e18 := D.is { on := 5, ground := .data } (by simp) rfl rfl 18 rfl
          have e23 := D.is { on := 10, ground := .data } (by simp) rfl rfl 23 rfl
          exact wk.does_run (v := .int .i64 mn) (by unfold execOp; first | (go_simp; rw [HMN.out]; done) | (dsimp only; go_simp; rw [HMN.out])) rfl
        ·
          have ho2 := (Array.getElem?_eq_some_iff.1 ho).2
          simp only [List.getElem_toArray, List.getElem_cons_succ, List.getElem_cons_zero] at ho2
          subst ho2
          clear ho
          have e0 := D.old 0 (by kernel_rfl)
          exact wk.does_move rfl (by rw [e0]; rfl)
        ·
          have ho2 := (Array.getElem?_eq_some_iff.1 ho).2
          simp only [List.getElem_toArray, List.getElem_cons_succ, List.getElem_cons_zero] at ho2
          subst ho2
          clear ho
          have e6 := D.old 6 (by kernel_rfl)
          exact wk.does_move rfl (by rw [e6]; rfl)
        ·
          have ho2 := (Array.getElem?_eq_some_iff.1 ho).2
          simp only [List.getElem_toArray, List.getElem_cons_succ, List.getElem_cons_zero] at ho2
          subst ho2
          clear ho
          have e25 := D.is { on := 12, ground := .data } (by simp) rfl rfl 25 rfl
          have e26 := D.is { on := 13, ground := .data } (by simp) rfl rfl 26 rfl
          exact wk.does_run (by simp only [execOp]; rw [e25, e26]; go_simp) rfl
        ·
          have ho2 := (Array.getElem?_eq_some_iff.1 ho).2
          simp only [List.getElem_toArray, List.getElem_cons_succ, List.getElem_cons_zero] at ho2
          subst ho2
          clear ho
          have e27 := D.is { on := 14, ground := .data } (by simp) rfl rfl 27 rfl
          exact wk.does_run (by simp only [execOp]; rw [e27]; go_simp) rfl
        ·
          have ho2 := (Array.getElem?_eq_some_iff.1 ho).2
          simp only [List.getElem_toArray, List.getElem_cons_succ, List.getElem_cons_zero] at ho2
          subst ho2
          clear ho
          have e28 := D.is { on := 15, ground := .data } (by simp) rfl rfl 28 rfl
          exact wk.does_load1 rfl e28 ((Below.cell (p := ⟨_, _, none⟩) ((Below.refl _ _).drew.trans hb4 : Below wr.heap.size wr w4) hb1).trans hx2) Tryd.underlying3 rfl rfl
        ·
          have ho2 := (Array.getElem?_eq_some_iff.1 ho).2
          simp only [List.getElem_toArray, List.getElem_cons_succ, List.getElem_cons_zero] at ho2
          subst ho2
          clear ho
          have e1 := D.old 1 (by kernel_rfl)
          exact wk.does_move rfl (by rw [e1]; rfl)
        ·
          have ho2 := (Array.getElem?_eq_some_iff.1 ho).2
          simp only [List.getElem_toArray, List.getElem_cons_succ, List.getElem_cons_zero] at ho2
          subst ho2
          clear ho
          have e6 := D.old 6 (by kernel_rfl)
          exact wk.does_move rfl (by rw [e6]; rfl)
        ·
          have ho2 := (Array.getElem?_eq_some_iff.1 ho).2
          simp only [List.getElem_toArray, List.getElem_cons_succ, List.getElem_cons_zero] at ho2
          subst ho2
          clear ho
          have e30 := D.is { on := 17, ground := .data } (by simp) rfl rfl 30 rfl
          have e31 := D.is { on := 18, ground := .data } (by simp) rfl rfl 31 rfl
          exact wk.does_run (by simp only [execOp]; rw [e30, e31]; go_simp) rfl
        ·
          have ho2 := (Array.getElem?_eq_some_iff.1 ho).2
          simp only [List.getElem_toArray, List.getElem_cons_succ, List.getElem_cons_zero] at ho2
          subst ho2
          clear ho
          have e32 := D.is { on := 19, ground := .data } (by simp) rfl rfl 32 rfl
          exact wk.does_run (by simp only [execOp]; rw [e32]; go_simp) rfl
        ·
          have ho2 := (Array.getElem?_eq_some_iff.1 ho).2
          simp only [List.getElem_toArray, List.getElem_cons_succ, List.getElem_cons_zero] at ho2
          subst ho2
          clear ho
          have e33 := D.is { on := 20, ground := .data } (by simp) rfl rfl 33 rfl
          exact wk.does_load1 rfl e33 ((Below.cell (p := ⟨_, _, none⟩) ((Below.refl _ _).drew.trans hb4 : Below wr.heap.size wr w4) hb2).trans hy2) Tryd.underlying3 rfl rfl
        ·
          have ho2 := (Array.getElem?_eq_some_iff.1 ho).2
          simp only [List.getElem_toArray, List.getElem_cons_succ, List.getElem_cons_zero] at ho2
          subst ho2
          clear ho
          have e29 := D.is { on := 16, ground := .data } (by simp) rfl rfl 29 rfl
          have e34 := D.is { on := 21, ground := .data } (by simp) rfl rfl 34 rfl
          exact wk.does_run (v := .int .i64 mx) (by unfold execOp; first | (go_simp; rw [HMX.out]; done) | (dsimp only; go_simp; rw [HMX.out])) rfl
        ·
          have ho2 := (Array.getElem?_eq_some_iff.1 ho).2
          simp only [List.getElem_toArray, List.getElem_cons_succ, List.getElem_cons_zero] at ho2
          subst ho2
          clear ho
          have e24 := D.is { on := 11, ground := .data } (by simp) rfl rfl 24 rfl
          have e35 := D.is { on := 22, ground := .data } (by simp) rfl rfl 35 rfl
          exact wk.does_run (by simp only [execOp, List.map_toArray, List.map_cons, List.map_nil]; rw [e24, e35]; go_simp) rfl
        ·
          have ho2 := (Array.getElem?_eq_some_iff.1 ho).2
          simp only [List.getElem_toArray, List.getElem_cons_succ, List.getElem_cons_zero] at ho2
          subst ho2
          clear ho
          have e36 := D.is { on := 23, ground := .data } (by simp) rfl rfl 36 rfl
          refine wk.does_new (v := .slice (some ⟨w4.heap.size, 0, none⟩) 1 1) (w' := w4.alloc (.cells #[.int .i64 (mn), .int .i64 (mx)] 47)) (by simp only [execOp, List.map_toArray, List.map_cons, List.map_nil]; rw [e36]; go_simp) (below_new _ _) ⟨_, rfl, RowR.new _ _ _⟩
      case hdone =>
        intro vals w4 hb4 hv
        have h0 := hv 0 (by omega)
        have h24 := hv 24 (by omega)
        clear hv
        replace h0 : vals 0 = (v0) := h0
        simp only [List.drop_succ_cons, List.drop_zero, wk.setL, List.setIfInBounds_toArray, List.set_cons_zero, List.set_cons_succ, Nat.zero_add, Nat.reduceAdd, h0]
        generalize vals 1 = x1
        generalize vals 2 = x2
        generalize vals 3 = x3
        generalize vals 4 = x4
        generalize vals 5 = x5
        generalize vals 6 = x6
        generalize vals 7 = x7
        generalize vals 8 = x8
        generalize vals 9 = x9
        generalize vals 10 = x10
        generalize vals 11 = x11
        generalize vals 12 = x12
        generalize vals 13 = x13
        generalize vals 14 = x14
        generalize vals 15 = x15
        generalize vals 16 = x16
        generalize vals 17 = x17
        generalize vals 18 = x18
        generalize vals 19 = x19
        generalize vals 20 = x20
        generalize vals 21 = x21
        generalize vals 22 = x22
        generalize vals 23 = x23
        generalize vals 24 = x24 at *
        obtain ⟨g, rfl, hg⟩ := h24
        have HOW := Lib.hid (keptB HOWN2.out ((Below.refl _ _).drew.trans hb4 : Below wr.heap.size wr w4))
        have HCG := Lib.hid hg.cells
        have HBELx := Lib.hid (HBEL.out.trans (((Below.refl _ _).drew.trans hb4 : Below wr.heap.size wr w4).mono HBW.out))
        have HBWx : Hid (B ≤ w4.heap.size) := by have := HBW.out; have := ((Below.refl _ _).drew.trans hb4 : Below wr.heap.size wr w4).size; show _ ≤ _; omega
        clear hb4 hg
        go_wp2_with (at_builtin; refine wpList_append_own _ rfl _ _ 29 rfl B 47 i0 (.agg #[.int .i64 0, .int .i64 0]) 2 16 Tryd.underlying29 hi hz0 hz1 hz2 rfl (by decide) _ _ _ rfl HOW.out ⟨g, 0, none⟩ 1 1 [.int .i64 mn, .int .i64 mx] rfl rfl HCG.out ?c2 ?c3 ?c4 ?c5 ?_)
        case c2 => exact ones2
        case c3 => unfold maxLen; omega
        case c4 => omega
        case c5 => exact HBWx.out
        intro v' w5 hown2 hgrow _
        have hbe : Below B w w5 := HBELx.out.grown hgrow (by have := HBWx.out; omega) (fun q hq => (HOW.out.lt q hq).1)
        have HB5 := Lib.hid hbe
        have HO5 := Lib.hid hown2
        clear hown2 hgrow hbe
        go_wp2_with fail
        go_roundg (gk - 1)
        case measure => have := HK.out; omega
        case rel =>
          refine ⟨k + 1, _, by have := HK.out; omega, rfl, by go_num, ?_, HB5.out⟩
          have h := HO5.out
          rw [HS.out, fl_append]
          exact h
    · obtain rfl : k = n := by omega
      have ho := hown
      rw [List.take_of_length_le (by have := HAL.out; omega)] at ho
      have HI2 := Lib.hid ho
      clear ho hown hbel
      go_wp2_with fail
      go_ret
      exact ⟨_, rfl, by first | exact HI2.out | (rw [HG.out]; exact HI2.out), by first | exact HBEL.out | (rw [HG.out]; exact HBEL.out)⟩
set_option maxRecDepth 100000 in
set_option maxHeartbeats 4000000 in
theorem refapply_calls {L : List (List Int)} {qv : List Int} {d n c c2 : Nat} {A A2 : Option Addr} (w : World) (h : IsVV w A n c L) (h2 : wo.IsI w A2 d c2 qv) (hf : Fit L d) (hv : vq.Vec qv) :
    Calls Tryd.prog 20 #[.slice A n c, .slice A2 d c2] w fun e w' => ∃ v', e = .returned v' ∧ w'.ownsRow w.heap.size 3 1 v' n (iv (apply L qv)) ∧ Below w.heap.size w w' := by
  obtain ⟨i0, hi, hz0, hz1, hz2⟩ := info_parts wi.infoI
  have hm := h.2.2.1
  have hnc := h.2.1
  have hn8 : n ≤ 8 := by rw [← h.1]; exact hf.l8
  have H := Lib.hid h
  have H2 := Lib.hid h2
  have HF := Lib.hid hf
  have HV := Lib.hid hv
  have HAL : Hid ((apply L qv).length = n) := by show _ = _; rw [apply_len, h.1]
  clear h h2 hf hv
  generalize hG : w.heap.size = B at *
  have HG := Lib.hid hG
  clear hG
  go_enter Tryd.func20, Tryd.ntmps20
  go_wp2_with fail
  go_loopg [5, 6] n (fun g v x wr => ∃ (k : Nat), k + g = n ∧ x = .int .i64 (k : Int) ∧ wr.ownsRow B 3 1 v k (iv ((apply L qv).take k)) ∧ Below B w wr)
  case atStart => exact ⟨0, by omega, rfl, World.ownsRow_nil _ _ _ _, Below.refl _ _⟩
  case round =>
    obtain ⟨k, hk, rfl, hown, hbel⟩ := hrel
    have HK := Lib.hid hk
    have HOWN2 := Lib.hid hown
    have HBEL := Lib.hid hbel
    have hkn : k ≤ n := by omega
    by_cases hlt : k < n
    · have hb1 : Below w.heap.size w wr := by rw [HG.out]; exact hbel
      obtain ⟨b, o, A1, n1, c1, l1, rfl, hbb, hcc, hI1, hL1⟩ := isVV_get (isVV_below H.out hb1) hlt
      have hmem := List.mem_of_getElem? hL1
      obtain rfl : d = n1 := by rw [← hI1.1]; exact (HF.out.len _ hmem).symm
      have HFL : Hid (Few l1) := fun x hx => by have := HF.out.lo _ hmem x hx; have := HF.out.hi _ hmem x hx; omega
      have HDC := Lib.hid (rdot_calls A1 A2 d c1 c2 l1 qv wr hI1 (isI_below H2.out hb1) HFL.out (few_of HV.out) HF.out.d32)
      have HS : Hid ((apply L qv).take (k + 1) = (apply L qv).take k ++ [vq.dot l1 qv]) := jq.take_snoc (apply_at hL1)
      have h1' : (k : Int) < (n : Int) := by omega
      generalize vq.dot l1 qv = z at *
      clear hown hbel hb1 hk hbb hI1 hL1 hmem
      go_wp2_with fail
      refine HDC.out.mono ?_
      rintro e w5 ⟨rfl, q5, rfl⟩
      have hB5 : B ≤ wr.heap.size := by have := HBEL.out.size; have := HG.out; omega
      have HOWN3 : Hid ((wr.drewN q5).ownsRow B 3 1 _ k _) := HOWN2.out
      have HBEL5 := Lib.hid (below_drewN HBEL.out q5)
      have HBW : Hid (B ≤ (wr.drewN q5).heap.size) := hB5
      clear hB5 hcc
      generalize wr.drewN q5 = w5 at *
      go_wp2_with (at_builtin; refine wpList_append_own _ rfl _ _ 24 rfl B 3 i0 (.int .i64 0) 1 8 Tryd.underlying24 hi hz0 hz1 hz2 rfl (by decide) _ _ _ rfl (HOWN3.out.alloc _) ⟨w5.heap.size, 0, none⟩ 1 1 [.int .i64 z] rfl rfl ?c1 ?c2 ?c3 ?c4 ?c5 ?_)
      case c1 => exact cell_one_new _ _ _
      case c2 => simp [Value.oneCell']
      case c3 => unfold maxLen; omega
      case c4 => omega
      case c5 => have := HBW.out; simp; omega
      intro v' w2 hown2 hgrow _
      have hbe : Below B w w2 := (HBEL5.out.alloc HBW.out _).grown hgrow (by have := HBW.out; simp; omega) (fun q hq => (HOWN3.out.lt q hq).1)
      have HB2 := Lib.hid hbe
      have HO2 := Lib.hid hown2
      clear hown2 hgrow hbe
      go_wp2_with fail
      go_roundg (gk - 1)
      case measure => have := HK.out; omega
      case rel =>
        refine ⟨k + 1, by have := HK.out; omega, by go_num, ?_, HB2.out⟩
        have h := HO2.out
        rw [HS.out]
        unfold iv at h ⊢
        rw [List.map_append]
        simpa using h
    · obtain rfl : k = n := by omega
      have ho := hown
      rw [List.take_of_length_le (by have := HAL.out; omega)] at ho
      have HI2 := Lib.hid ho
      clear ho hown hbel
      go_wp2_with fail
      go_ret
      exact ⟨_, rfl, by first | exact HI2.out | (rw [HG.out]; exact HI2.out), by first | exact HBEL.out | (rw [HG.out]; exact HBEL.out)⟩
theorem widk_one (r : List R) : widk r 1 = 0 := by
  rw [widk_succ]
  unfold wstep
  split <;> rfl
set_option maxRecDepth 100000 in
set_option maxHeartbeats 4000000 in
theorem refwidest_calls {r : List R} {n c : Nat} {A : Option Addr} (w : World) (h : IsR w A n c r) (hb : ∀ x ∈ r, (-2147483648 ≤ x.1 ∧ x.1 ≤ 2147483648) ∧ -2147483648 ≤ x.2 ∧ x.2 ≤ 2147483648) (h1 : 1 ≤ n) :
    Calls Tryd.prog 28 #[.slice A n c] w fun e w' => e = .returned (.int .i64 (widest r : Nat)) ∧ ∃ q, w' = w.drewN q := by
  have hm := h.2.2.1
  have hnc := h.2.1
  have hE : widest r = widk r n := by unfold widest; rw [h.1]
  rw [hE]
  have H := Lib.hid h
  have HBD := Lib.hid hb
  clear h hE hb
  go_enter Tryd.func28, Tryd.ntmps28
  go_wp2_with fail
  go_loopg [3, 4] (n - 1) (fun g v x wr => ∃ k q : Nat, k + g = n ∧ 1 ≤ k ∧ x = .int .i64 (k : Int) ∧ v = .int .i64 (widk r k : Nat) ∧ wr = w.drewN q)
  case atStart => exact ⟨1, 0, by omega, by omega, rfl, by rw [widk_one]; rfl, rfl⟩
  case round =>
    obtain ⟨k, q, hk, hk1, rfl, rfl, rfl⟩ := hrel
    have HK := Lib.hid hk
    have hkn : k ≤ n := by omega
    clear hk
    by_cases hlt : k < n
    · obtain ⟨b, o, ⟨lo, hi⟩, rfl, hx1, hx2, hb1, hX, hwx⟩ := isR_get H.out hlt
      have hwk : widk r k < n := by have := widk_lt r k; omega
      have HS := Lib.hid (widk_succ r k)
      generalize widk r k = wk at *
      obtain ⟨b2, o2, ⟨lo2, hi2⟩, e2, hy1, hy2, hb2, hY, hwy⟩ := isR_get H.out hwk
      cases e2
      dsimp only at hx1 hx2 hy1 hy2
      have q1 := HBD.out _ (List.mem_of_getElem? hX)
      have q2 := HBD.out _ (List.mem_of_getElem? hY)
      have HT : Hid (wstep r wk k = if hi - lo > hi2 - lo2 then k else wk) := by
        show _ = _
        unfold wstep wide
        rw [getD_at hX, getD_at hY]
      have hlt0 : (k : Int) < (n : Int) := by omega
      have hlt1 : (wk : Int) < (n : Int) := by omega
      clear hX hY hwx hwy hb1 hb2
      by_cases hg : hi - lo > hi2 - lo2
      · have HT2 : Hid (wstep r wk k = k) := by show _ = _; rw [HT.out, if_pos hg]
        go_wp2_with fail
        go_quiet (fail)
        go_wp2_with fail
        go_roundg (gk - 1)
        case measure => have := HK.out; omega
        case rel => exact ⟨k + 1, _, by have := HK.out; omega, by omega, by go_num, by rw [HS.out, HT2.out], by first | rfl | exact drewN_add _ _ _⟩
      · have HT2 : Hid (wstep r wk k = wk) := by show _ = _; rw [HT.out, if_neg hg]
        go_wp2_with fail
        go_quiet (fail)
        go_wp2_with fail
        go_roundg (gk - 1)
        case measure => have := HK.out; omega
        case rel => exact ⟨k + 1, _, by have := HK.out; omega, by omega, by go_num, by rw [HS.out, HT2.out], by first | rfl | exact drewN_add _ _ _⟩
    · obtain rfl : k = n := by omega
      go_wp2_with fail
      go_ret
      exact ⟨rfl, q, rfl⟩
set_option maxRecDepth 100000 in
set_option maxHeartbeats 4000000 in
theorem refhas_calls {r : List R} {s : List Int} {n c c' : Nat} {A A' : Option Addr} (w : World) (h : IsR w A n c r) (h' : wo.IsI w A' n c' s) :
    Calls Tryd.prog 26 #[.slice A n c, .slice A' n c'] w fun e w' => e = .returned (.bool (has r s)) ∧ ∃ q, w' = w.drewN q := by
  have hm := h.2.2.1
  have hnc := h.2.1
  have hm' := h'.2.2.1
  have hnc' := h'.2.1
  have hE : has r s = hasAll r s := by unfold has; rw [h.1, h'.1]; simp
  rw [hE]
  have H := Lib.hid h
  have H' := Lib.hid h'
  have HZ : Hid ((r.zip s).length = n) := by show _ = _; rw [List.length_zip, h.1, h'.1]; omega
  clear h h' hE
  go_enter Tryd.func26, Tryd.ntmps26
  go_wp2_with fail
  go_loopg [5] n (fun g x wr => ∃ k q : Nat, k + g = n ∧ x = .int .i64 (k : Int) ∧ wr = w.drewN q ∧ ((r.zip s).take k).all (fun p => in1 p.1 p.2) = true)
  case atStart => exact ⟨0, 0, by omega, rfl, rfl, by simp⟩
  case round =>
    obtain ⟨k, q, hk, rfl, rfl, hr⟩ := hrel
    have HK := Lib.hid hk
    have HR := Lib.hid hr
    have hkn : k ≤ n := by omega
    clear hk hr
    by_cases hlt : k < n
    · obtain ⟨b, o, ⟨lo, hi⟩, rfl, hx1, hx2, hb1, hX, hwx⟩ := isR_get H.out hlt
      obtain ⟨b2, o2, y, rfl, hy1, hY, -, -⟩ := isI_at H'.out hlt
      dsimp only at hx1 hx2
      have HS := Lib.hid (hasAll_snoc hX hY)
      have HXY : Hid ((r.zip s)[k]? = some ((lo, hi), y)) := jq.zip_at hX hY
      have hlt0 : (k : Int) < (n : Int) := by omega
      clear hX hY hwx hb1
      by_cases g1 : y < lo
      · have HN : Hid (in1 (lo, hi) y = false) := by show _ = _; unfold in1; simp; omega
        go_wp2_with fail
        go_quiet (fail)
        go_wp2_with fail
        go_ret
        refine ⟨?_, _, by first | rfl | exact drewN_add _ _ _⟩
        have h1 : hasAll r s = false := by
          unfold hasAll
          rw [List.all_eq_false]
          exact ⟨_, List.mem_of_getElem? HXY.out, by simp [HN.out]⟩
        rw [h1]; rfl
      · by_cases g2 : hi < y
        · have HN : Hid (in1 (lo, hi) y = false) := by show _ = _; unfold in1; simp; omega
          go_wp2_with fail
          go_quiet (fail)
          go_wp2_with fail
          go_ret
          refine ⟨?_, _, by first | rfl | exact drewN_add _ _ _⟩
          have h1 : hasAll r s = false := by
            unfold hasAll
            rw [List.all_eq_false]
            exact ⟨_, List.mem_of_getElem? HXY.out, by simp [HN.out]⟩
          rw [h1]; rfl
        · have HN : Hid (in1 (lo, hi) y = true) := by show _ = _; unfold in1; simp; omega
          go_wp2_with fail
          go_quiet (fail)
          go_wp2_with fail
          go_roundg (gk - 1)
          case measure => have := HK.out; omega
          case rel => exact ⟨k + 1, _, by have := HK.out; omega, by go_num, by first | rfl | exact drewN_add _ _ _, by rw [HS.out, HR.out, HN.out]; rfl⟩
    · go_wp2_with fail
      go_ret
      refine ⟨?_, q, rfl⟩
      have h1 := HR.out
      rw [List.take_of_length_le (by have := HZ.out; omega)] at h1
      unfold hasAll
      rw [h1]; rfl
theorem below_setRow' {B : Nat} {a w : World} (h : Below B a w) {g : Nat} (hg : B ≤ g) (cs : Array Value) : Below B a (w.setRow g cs) :=
  h.trans ⟨rfl, rfl, rfl, by simp [World.setRow], fun k hk => setRow_other w g k cs (by omega)⟩
def colr (l m : List Int) (T : List (List Int)) : R := T.foldl (fun r v => join1 r (vq.dot l v, vq.dot l v)) (vq.dot l m, vq.dot l m)
theorem colr_snoc (l m : List Int) {T : List (List Int)} {k : Nat} {v : List Int} (h : T[k]? = some v) : colr l m (T.take (k + 1)) = join1 (colr l m (T.take k)) (vq.dot l v, vq.dot l v) := by
  unfold colr
  rw [jq.take_snoc h, List.foldl_append]; rfl
theorem of_at {L : List (List Int)} {m l : List Int} {T : List (List Int)} {k : Nat} (h : L[k]? = some l) : (ofR L (m :: T))[k]? = some (colr l m T) := by
  have key : ∀ (T : List (List Int)) (a : List R) (x : R), a[k]? = some x → (T.foldl (fun acc v => join acc (pts (apply L v))) a)[k]? = some (T.foldl (fun r v => join1 r (vq.dot l v, vq.dot l v)) x) := by
    intro T
    induction T with
    | nil => intro a x hx; exact hx
    | cons v T ih =>
      intro a x hx
      rw [List.foldl_cons, List.foldl_cons]
      exact ih _ _ (join_at hx (pts_at (apply_at h)))
  exact key T _ _ (pts_at (apply_at h))
set_option maxRecDepth 100000 in
set_option maxHeartbeats 8000000 in
theorem refof_calls {L V : List (List Int)} {d n c nv cv : Nat} {A AV : Option Addr} (w : World) (h : IsVV w A n c L) (hV : IsVV w AV nv cv V) (hf : Fit L d) (h1 : 1 ≤ nv) (hd : ∀ l ∈ V, l.length = d) (hv : ∀ l ∈ V, vq.Vec l) :
    Calls Tryd.prog 19 #[.slice A n c, .slice AV nv cv] w fun e w' => ∃ A' c', e = .returned (.slice A' n c') ∧ IsR w' A' n c' (ofR L V) ∧ Below w.heap.size w w' := by
  obtain ⟨i0, hi, hz0, hz1, hz2⟩ := info_parts infoRg
  have HIN := Lib.hid (in_of hf hv (by rw [hV.1]; exact h1))
  have hlV := hV.1
  obtain ⟨m, T, rfl⟩ : ∃ m T, V = m :: T := by
    cases V with
    | nil => simp at hlV; omega
    | cons m T => exact ⟨m, T, rfl⟩
  have hn8 : n ≤ 8 := by rw [← h.1]; exact hf.l8
  have hmA := h.2.2.1
  have hncA := h.2.1
  have hmV := hV.2.2.1
  have hncV := hV.2.1
  have H := Lib.hid h
  have HV := Lib.hid hV
  have HF := Lib.hid hf
  have HD := Lib.hid hd
  have HVV := Lib.hid hv
  have HTL : Hid (T.length + 1 = nv) := hlV
  have HAL : Hid ((ofR L (m :: T)).length = n) := by show _ = _; rw [ofR_len, h.1]
  clear h hV hf hd hv hlV
  generalize hG : w.heap.size = B at *
  have HG := Lib.hid hG
  clear hG
  go_enter Tryd.func19, Tryd.ntmps19
  go_wp2_with fail
  go_loopg [5, 6] n (fun g v x wr => ∃ (k : Nat) (v0 : Value), k + g = n ∧ v0 = v ∧ x = .int .i64 (k : Int) ∧ wr.ownsRow B 47 2 v0 k (fl ((ofR L (m :: T)).take k)) ∧ Below B w wr)
  case atStart => exact ⟨0, _, by omega, rfl, rfl, World.ownsRow_nil _ _ _ _, Below.refl _ _⟩
  case round =>
    obtain ⟨k, v0, hk, rfl, rfl, hown, hbel⟩ := hrel
    have HK := Lib.hid hk
    have HOWN := Lib.hid hown
    have HBEL := Lib.hid hbel
    have hkn : k ≤ n := by omega
    by_cases hlt : k < n
    · have hb1 : Below w.heap.size w wr := by rw [HG.out]; exact hbel
      have hBw : B ≤ wr.heap.size := by have := hbel.size; have := HG.out; omega
      obtain ⟨b, o, A1, n1, c1, l1, rfl, hbb, hcc, hI1, hL1⟩ := isVV_get (isVV_below H.out hb1) hlt
      obtain ⟨b2, o2, A2, n2, c2, l2, rfl, hbb2, hcc2, hI2, hL2⟩ := isVV_get (isVV_below HV.out hb1) (k := 0) (by omega)
      simp at hL2
      subst hL2
      rw [Nat.add_zero] at hcc2
      have hmem := List.mem_of_getElem? hL1
      obtain rfl : d = n1 := by rw [← hI1.1]; exact (HF.out.len _ hmem).symm
      obtain rfl : d = n2 := by rw [← hI2.1]; exact (HD.out m (by simp)).symm
      have HFL : Hid (Few l1) := fun x hx => by have := HF.out.lo _ hmem x hx; have := HF.out.hi _ hmem x hx; omega
      have HDC := Lib.hid (fun q => rdot_calls A1 A2 d c1 c2 l1 m (wr.drewN q) (isI_drewN hI1 q) (isI_drewN hI2 q) HFL.out (few_of (HVV.out m (by simp))) HF.out.d32)
      have HS := Lib.hid (jq.take_snoc (of_at (m := m) (T := T) hL1))
      have HI1 := Lib.hid hI1
      have HCOL0 : Hid (colr l1 m (T.take 0) = (vq.dot l1 m, vq.dot l1 m)) := rfl
      have hlt0 : (k : Int) < (n : Int) := by omega
      have hlt1 : (0 : Int) < (nv : Int) := by omega
      have hlt1' : 0 < nv := by omega
      have hbE : b < wr.heap.size := hbb
      have HVw := Lib.hid (isVV_below HV.out hb1)
      have HBB := Lib.hid hbb
      have HCC := Lib.hid hcc
      generalize hz : vq.dot l1 m = z at *
      clear hown hbel hb1 hk hbb hbb2 hI1 hI2 hL1 hmem hz
      go_wp2_with fail
      go_quiet (exact Calls.quiet_of (HDC.out _))
      obtain ⟨w1, hw1⟩ : ∃ w1, w1 = wr := ⟨_, rfl⟩
      subst hw1
      go_upto_region 7 with (refine wk.store_row rfl 47 (.tmp 8) (.tmp 27) rfl w1.heap.size [.int .i64 z, .int .i64 z] rfl rfl 47 _ (heap_alloc_new _ _) (by kernel_rfl) rfl ones2 ?_)
      generalize hg0 : w1.heap.size = g0 at *
      have HG0 := Lib.hid hg0
      clear hg0 hcc hcc2
      go_wp2_with fail
      go_loopg [9] (nv - 1) (fun g x wr => ∃ i : Nat, i + g = nv ∧ 1 ≤ i ∧ x = .int .i64 (i : Int) ∧ RowR wr g0 (colr l1 m (T.take (i - 1))).1 (colr l1 m (T.take (i - 1))).2 ∧ Below g0 w1 wr)
      case atStart =>
        refine ⟨1, by omega, by omega, rfl, ?_, ?_⟩
        · rw [show 1 - 1 = 0 from rfl, HCOL0.out]
          first | exact setRow_heap _ _ _ _ _ _ (heap_alloc_new _ _) | (rw [← HG0.out]; exact setRow_heap _ _ _ _ _ _ (heap_alloc_new _ _))
        · rw [← HG0.out]; exact below_setRow' ((below_drewN (Below.refl _ _) _).alloc (Nat.le_refl _) _) (Nat.le_refl _) _
      case round =>
        obtain ⟨i, hi0, hi1, rfl, hrow, hbel2⟩ := hrel
        have HI0 := Lib.hid hi0
        have HROW := Lib.hid hrow
        have HBEL2 := Lib.hid hbel2
        have hin : i ≤ nv := by omega
        have hbw1 : Below w1.heap.size w1 wr := by rw [HG0.out]; exact hbel2
        have hcc := (Below.cell (p := ⟨b, o + k, none⟩) hbw1 (by rw [HG0.out]; exact HBB.out)).trans HCC.out
        have hc0 : wr.cell? ⟨g0, 0, none⟩ = some (.int .i64 (colr l1 m (T.take (i - 1))).1) := by rw [cell_of_row _ _ _ _ _ _ hrow]; rfl
        have hc1 : wr.cell? ⟨g0, 1, none⟩ = some (.int .i64 (colr l1 m (T.take (i - 1))).2) := by rw [cell_of_row _ _ _ _ _ _ hrow]; rfl
        by_cases hli : i < nv
        · obtain ⟨b3, o3, A3, n3, c3, v3, e3, hbb3, hcc3, hI3, hL3⟩ := isVV_get (isVV_below HVw.out hbw1) hli
          cases e3
          have hT : T[i - 1]? = some v3 := by
            rw [show i = i - 1 + 1 by omega, List.getElem?_cons_succ] at hL3; exact hL3
          have hvm : v3 ∈ m :: T := List.mem_of_getElem? hL3
          obtain rfl : d = n3 := by rw [← hI3.1]; exact (HD.out v3 hvm).symm
          have HDC3 := Lib.hid (fun q => rdot_calls A1 A3 d c1 c3 l1 v3 (wr.drewN q) (isI_drewN (isI_below HI1.out hbw1) q) (isI_drewN hI3 q) HFL.out (few_of (HVV.out v3 hvm)) HF.out.d32)
          have hS := colr_snoc l1 m hT
          rw [show i - 1 + 1 = i by omega] at hS
          have HS3 := Lib.hid hS
          clear hS hT hvm hI3 hL3 hbb3 hbel2 hrow hi0
          generalize hz3 : vq.dot l1 v3 = z3 at *
          generalize colr l1 m (T.take (i - 1)) = cr at *
          obtain ⟨x1, x2⟩ := cr
          dsimp only at hc0 hc1
          obtain ⟨mn, hmn⟩ : ∃ mn, min x1 z3 = mn := ⟨_, rfl⟩
          obtain ⟨mx, hmx⟩ : ∃ mx, max x2 z3 = mx := ⟨_, rfl⟩
          have HS4 : Hid (colr l1 m (T.take i) = (mn, mx)) := by show _ = _; rw [HS3.out]; unfold join1; dsimp only; rw [hmn, hmx]
          have hli0 : (i : Int) < (nv : Int) := by omega
          clear HS3 hz3
          go_wp2_with fail
          go_quiet (exact Calls.quiet_of (HDC3.out _))
          go_wp2_with (refine wk.store_row rfl 47 (.tmp 8) (.tmp 51) rfl g0 [.int .i64 mn, .int .i64 mx] rfl rfl 47 _ (show (wr.drewN _).heap[g0]? = _ from HROW.out) (by kernel_rfl) rfl ones2 ?_)
          go_roundg (gk - 1)
          case measure => have := HI0.out; omega
          case rel =>
            refine ⟨i + 1, by have := HI0.out; omega, by omega, by go_num, ?_, below_setRow' (below_drewN HBEL2.out _) (Nat.le_refl _) _⟩
            rw [show i + 1 - 1 = i by omega, HS4.out]
            exact setRow_heap _ _ _ _ _ _ (show (wr.drewN _).heap[g0]? = _ from HROW.out)
        · have hii : i - 1 = T.length := by have := HTL.out; omega
          rw [hii, List.take_length] at hc0 hc1 hrow
          have HSO := HS
          have HOW := Lib.hid (keptB HOWN.out hbw1)
          have HBZ : Hid (Below B w wr) := HBEL.out.trans (hbw1.mono (by rw [HG0.out]; exact hBw))
          have HBW : B ≤ wr.heap.size := by have := hbw1.size; have := HG0.out; omega
          clear hi0 hrow hbel2 hcc hbw1 HROW
          generalize colr l1 m T = cr at *
          obtain ⟨x1, x2⟩ := cr
          dsimp only at hc0 hc1
          go_wp2_with (at_builtin; refine wpList_append_own _ rfl _ _ 29 rfl B 47 i0 (.agg #[.int .i64 0, .int .i64 0]) 2 16 Tryd.underlying29 hi hz0 hz1 hz2 rfl (by decide) _ _ _ rfl (HOW.out.alloc _) ⟨wr.heap.size, 0, none⟩ 1 1 [.int .i64 x1, .int .i64 x2] rfl rfl ?c1 ?c2 ?c3 ?c4 ?c5 ?_)
          case c1 => exact cell_two_new _ _ _ _
          case c2 => exact ones2
          case c3 => unfold maxLen; omega
          case c4 => omega
          case c5 => simp; omega
          intro v' w5 hown2 hgrow _
          have hbe : Below B w w5 := (HBZ.out.alloc HBW _).grown hgrow (by simp; omega) (fun q hq => (HOW.out.lt q hq).1)
          have HB5 := Lib.hid hbe
          have HO5 := Lib.hid hown2
          clear hown2 hgrow hbe
          go_wp2_with fail
          go_roundg (n - (k + 1))
          case measure => have := HK.out; omega
          case rel =>
            refine ⟨k + 1, _, by omega, rfl, by go_num, ?_, HB5.out⟩
            have hO := HO5.out
            rw [HSO.out, fl_append]
            exact hO
    · obtain rfl : k = n := by omega
      have ho := HOWN.out
      rw [List.take_of_length_le (by have := HAL.out; omega)] at ho
      obtain ⟨A', c', rfl, hR⟩ := isR_of_own ho (fun x hx => by have := HIN.out x hx; unfold In at this; unfold Wd; omega)
      have HR := Lib.hid hR
      clear ho hR hown hbel
      go_wp2_with fail
      go_ret
      exact ⟨_, _, rfl, HR.out, by first | exact HBEL.out | (rw [HG.out]; exact HBEL.out)⟩
end Go.Proofs.YtjhagfggelhpkaaDoor.jk
