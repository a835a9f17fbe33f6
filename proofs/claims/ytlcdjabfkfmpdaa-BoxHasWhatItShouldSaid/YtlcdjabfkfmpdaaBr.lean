/- The reference's Nearest. -/
import Derived.Test.YtlcdjabfkfmpdaaBq

import Derived.Test.YtlcdjabfkfmpdaaVal6

import Derived.Laws.EntriesVeiled

namespace Go.Proofs.Ytlcdjabfkfmpdaa.bk

open Go.ChangeShapes Go.WideShapes Go.ChangeAt Go.RowKit

open Go.Proofs.Ytlcdjabfkfmpdaa.bq Go.Proofs.Ytlcdjabfkfmpdaa.vk Go.Proofs.Ytlcdjabfkfmpdaa.wk

set_option linter.unusedVariables false
def nearest (p : Pair) (v : List Int) : List Int := (List.range v.length).map fun i => min (max (at' v i) (at' p.1 i)) (at' p.2 i)
theorem map_snoc' (n : Nat) (f : Nat → Int) {k : Nat} (hk : k < n) : ((List.range n).map f).take (k + 1) = ((List.range n).map f).take k ++ [f k] := by
  rw [List.take_add_one]
  congr 1
  simp [hk]
set_option maxRecDepth 100000 in
set_option maxHeartbeats 4000000 in
theorem nearest_calls (bv : Value) (p : Pair) (A : Option Addr) (n c : Nat) (vv : List Int) (w : World) (h : IsX w bv p) (h2 : wo.IsI w A n c vv) (hl1 : p.1.length = n) (hl2 : p.2.length = n) (hn : n ≤ 1000) :
    Calls Try.prog 39 #[bv, .slice A n c] w fun e w' => ∃ x, e = .returned x ∧ IsV w' x (nearest p vv) ∧ Below w.heap.size w w' := by
  obtain ⟨i0, hi, hz0, hz1, hz2⟩ := info_parts wi.infoI
  obtain ⟨A1, n1, c1, A1', n1', c1', rfl, hi1, hi2⟩ := h
  have hm := h2.2.2.1
  have hm1 := hi1.2.2.1
  have hm2 := hi2.2.2.1
  have hnc := h2.2.1
  have hnc1 := hi1.2.1
  have hnc2 := hi2.2.1
  obtain rfl : n1 = n := by rw [← hi1.1, hl1]
  obtain rfl : n1' = n1 := by rw [← hi2.1, hl2]
  have H1 := Lib.hid hi1
  have H2 := Lib.hid hi2
  have H := Lib.hid h2
  have HBN : Hid (∀ x ∈ nearest p vv, -9223372036854775808 ≤ x ∧ x ≤ 9223372036854775807) := fun x hx => by
    simp only [nearest, List.mem_map, List.mem_range] at hx
    obtain ⟨i, hi, rfl⟩ := hx
    rw [H.out.1] at hi
    have q1 := H.out.2.2.2.2 (at' vv i) (List.mem_of_getElem? (of_at (by rw [H.out.1]; omega)))
    have q2 := H1.out.2.2.2.2 (at' p.1 i) (List.mem_of_getElem? (of_at (by omega)))
    have q3 := H2.out.2.2.2.2 (at' p.2 i) (List.mem_of_getElem? (of_at (by omega)))
    omega
  have HLN : Hid ((nearest p vv).length = n1') := by show _ = _; rw [nearest, List.length_map, List.length_range, H.out.1]
  have HSN : Hid (∀ k, k < n1' → (nearest p vv).take (k + 1) = (nearest p vv).take k ++ [min (max (at' vv k) (at' p.1 k)) (at' p.2 k)]) := fun k hk => map_snoc' _ _ (by rw [H.out.1]; exact hk)
  obtain ⟨ls, hls⟩ : ∃ ls, nearest p vv = ls := ⟨_, rfl⟩
  rw [hls] at HBN HLN HSN ⊢
  have HB0 := Lib.hid (below_new w (.cells #[.slice A1 n1' c1, .slice A1' n1' c1'] 25))
  have HT0 := Lib.hid (Two.new w (.slice A1 n1' c1) (.slice A1' n1' c1') 25)
  clear h2 hi1 hi2 hl1 hl2 hls
  go_enter Try.func39, Try.ntmps39
  go_wp2_with fail
  generalize hG : w.heap.size = B at *
  have HG := Lib.hid hG
  clear hG
  go_loopg [5, 6] n1' (fun g v x wr => ∃ (k : Nat), k + g = n1' ∧ x = .int .i64 (k : Int) ∧ wr.ownsRow (B + 1) 3 1 v k (iv (ls.take k)) ∧ Below B w wr ∧ Two wr B (.slice A1 n1' c1) (.slice A1' n1' c1'))
  case atStart => exact ⟨0, by omega, rfl, World.ownsRow_nil _ _ _ _, HB0.out, HT0.out⟩
  case round =>
    obtain ⟨k, hk, rfl, hown, hbel, hT⟩ := hrel
    have HK := Lib.hid hk
    have HOWN := Lib.hid hown
    have HBEL := Lib.hid hbel
    have HT := Lib.hid hT
    have hkn : k ≤ n1' := by omega
    have HBW : Hid (B + 1 ≤ wr.heap.size) := by have := hT.lt; show _ ≤ _; omega
    by_cases hlt : k < n1'
    · have hbb : Below w.heap.size w wr := by rw [HG.out]; exact hbel
      obtain ⟨b1, o1, rfl, hc1, hb1⟩ := isI_get (isI_below H.out hbb) hlt
      obtain ⟨b2, o2, rfl, hc2, hb2⟩ := isI_get (isI_below H1.out hbb) (show k < n1' by omega)
      obtain ⟨b3, o3, rfl, hc3, hb3⟩ := isI_get (isI_below H2.out hbb) (show k < n1' by omega)
      have hlt0 : (k : Int) < (n1' : Int) := by omega
      have hlt1 : (k : Int) < (n1' : Int) := by omega
      have hlt2 : (k : Int) < (n1' : Int) := by omega
      have hS := HSN.out k hlt
      generalize at' vv k = x at *
      generalize at' p.1 k = y at *
      generalize at' p.2 k = z at *
      obtain ⟨m1, hm1'⟩ : ∃ m1, max x y = m1 := ⟨_, rfl⟩
      rw [hm1'] at hS
      obtain ⟨m2, hm2'⟩ : ∃ m2, min m1 z = m2 := ⟨_, rfl⟩
      rw [hm2'] at hS
      have HS := Lib.hid hS
      clear hk hown hbel hbb hS hT
      go_wp2_with fail
      refine wk.region_tailK 18 [.is u5, .is (.slice (some ⟨b1, o1, none⟩) n1' c), .is (.int .i64 (k : Int)), .is (.pointer (some ⟨b1, o1 + k, none⟩)), .is (.int .i64 x), .is (.pointer (some ⟨B, 0, none⟩)), .is (.slice (some ⟨b2, o2, none⟩) n1' c1), .is (.int .i64 (k : Int)), .is (.pointer (some ⟨b2, o2 + k, none⟩)), .is (.int .i64 y), .is (.int .i64 m1), .is (.pointer (some ⟨B, 1, none⟩)), .is (.slice (some ⟨b3, o3, none⟩) n1' c1'), .is (.int .i64 (k : Int)), .is (.pointer (some ⟨b3, o3 + k, none⟩)), .is (.int .i64 z), .is (.int .i64 m2), .st (fun u x => ∃ g, x = .slice (some ⟨g, 0, none⟩) 1 1 ∧ One u g 3 (.int .i64 m2)) (fun u u2 x h hb => by obtain ⟨g, h1, h2⟩ := h; exact ⟨g, h1, h2.below hb⟩)] [some 13, some 14, some 15, some 16, some 17, some 18, some 19, some 20, some 21, some 22, some 23, some 24, some 25, some 26, some 27, some 28, some 29, some 30] (by kernel_rfl) (by kernel_rfl) (by kernel_rfl) (by kernel_rfl) [] (by kernel_rfl) (by intro p hp; cases hp) (by kernel_rfl) (by kernel_rfl) ?hstep ?hdone
      case hstep =>
        intro i o ho hi hns E w4 hb4 D hold
        have hi2 : i = 0 ∨ i = 1 ∨ i = 2 ∨ i = 3 ∨ i = 4 ∨ i = 5 ∨ i = 6 ∨ i = 7 ∨ i = 8 ∨ i = 9 ∨ i = 10 ∨ i = 11 ∨ i = 12 ∨ i = 13 ∨ i = 14 ∨ i = 15 ∨ i = 16 ∨ i = 17 := by omega
        clear hi
        rcases hi2 with rfl | rfl | rfl | rfl | rfl | rfl | rfl | rfl | rfl | rfl | rfl | rfl | rfl | rfl | rfl | rfl | rfl | rfl
        ·
          have ho2 := (Array.getElem?_eq_some_iff.1 ho).2
          simp only [List.getElem_toArray, List.getElem_cons_zero] at ho2
          subst ho2
          clear ho
          have e5 := hold 5 (by kernel_rfl)
          exact wk.does_move rfl (by rw [e5]; rfl)
        ·
          have ho2 := (Array.getElem?_eq_some_iff.1 ho).2
          simp only [List.getElem_toArray, List.getElem_cons_succ, List.getElem_cons_zero] at ho2
          subst ho2
          clear ho
          have e1 := D.old 1 (by kernel_rfl)
          exact wk.does_move rfl (by rw [e1]; rfl)
        ·
          have ho2 := (Array.getElem?_eq_some_iff.1 ho).2
          simp only [List.getElem_toArray, List.getElem_cons_succ, List.getElem_cons_zero] at ho2
          subst ho2
          clear ho
          have e6 := D.old 6 (by kernel_rfl)
          exact wk.does_move rfl (by rw [e6]; rfl)
        ·
          have ho2 := (Array.getElem?_eq_some_iff.1 ho).2
          simp only [List.getElem_toArray, List.getElem_cons_succ, List.getElem_cons_zero] at ho2
          subst ho2
          clear ho
          have e14 := D.is { on := 1, ground := .data } (by simp) rfl rfl 14 rfl
          have e15 := D.is { on := 2, ground := .data } (by simp) rfl rfl 15 rfl
          exact wk.does_run (by simp only [execOp]; rw [e14, e15]; go_simp) rfl
        ·
          have ho2 := (Array.getElem?_eq_some_iff.1 ho).2
          simp only [List.getElem_toArray, List.getElem_cons_succ, List.getElem_cons_zero] at ho2
          subst ho2
          clear ho
          have e16 := D.is { on := 3, ground := .data } (by simp) rfl rfl 16 rfl
          exact wk.does_load1 rfl e16 ((((Below.refl _ _).drew.trans hb4 : Below wr.heap.size wr w4).cell (p := ⟨_, _, none⟩) hb1).trans hc1) Try.underlying3 rfl rfl
        ·
          have ho2 := (Array.getElem?_eq_some_iff.1 ho).2
          simp only [List.getElem_toArray, List.getElem_cons_succ, List.getElem_cons_zero] at ho2
          subst ho2
          clear ho
          have e2 := D.old 2 (by kernel_rfl)
          exact wk.does_run (by simp only [execOp]; rw [show E (.tmp 2) = .pointer (some ⟨B, 0, none⟩) by rw [e2]; rfl]; go_simp) rfl
        ·
          have ho2 := (Array.getElem?_eq_some_iff.1 ho).2
          simp only [List.getElem_toArray, List.getElem_cons_succ, List.getElem_cons_zero] at ho2
          subst ho2
          clear ho
          have e18 := D.is { on := 5, ground := .data } (by simp) rfl rfl 18 rfl
          exact wk.does_load1 rfl e18 ((HT.out.below ((Below.refl _ _).drew.trans hb4)).c0) Try.underlying23 rfl rfl
        ·
          have ho2 := (Array.getElem?_eq_some_iff.1 ho).2
          simp only [List.getElem_toArray, List.getElem_cons_succ, List.getElem_cons_zero] at ho2
          subst ho2
          clear ho
          have e6 := D.old 6 (by kernel_rfl)
          exact wk.does_move rfl (by rw [e6]; rfl)
        ·
          have ho2 := (Array.getElem?_eq_some_iff.1 ho).2
          simp only [List.getElem_toArray, List.getElem_cons_succ, List.getElem_cons_zero] at ho2
          subst ho2
          clear ho
          have e19 := D.is { on := 6, ground := .data } (by simp) rfl rfl 19 rfl
          have e20 := D.is { on := 7, ground := .data } (by simp) rfl rfl 20 rfl
          exact wk.does_run (by simp only [execOp]; rw [e19, e20]; go_simp) rfl
        ·
          have ho2 := (Array.getElem?_eq_some_iff.1 ho).2
          simp only [List.getElem_toArray, List.getElem_cons_succ, List.getElem_cons_zero] at ho2
          subst ho2
          clear ho
          have e21 := D.is { on := 8, ground := .data } (by simp) rfl rfl 21 rfl
          exact wk.does_load1 rfl e21 ((((Below.refl _ _).drew.trans hb4 : Below wr.heap.size wr w4).cell (p := ⟨_, _, none⟩) hb2).trans hc2) Try.underlying3 rfl rfl
        ·
          have ho2 := (Array.getElem?_eq_some_iff.1 ho).2
          simp only [List.getElem_toArray, List.getElem_cons_succ, List.getElem_cons_zero] at ho2
          subst ho2
          clear ho
          have e17 := D.is { on := 4, ground := .data } (by simp) rfl rfl 17 rfl
          have e22 := D.is { on := 9, ground := .data } (by simp) rfl rfl 22 rfl
          exact wk.does_run (by simp only [execOp, resolve, List.map_toArray, List.map_cons, List.map_nil]; rw [e17, e22]; go_simp) rfl
        ·
          have ho2 := (Array.getElem?_eq_some_iff.1 ho).2
          simp only [List.getElem_toArray, List.getElem_cons_succ, List.getElem_cons_zero] at ho2
          subst ho2
          clear ho
          have e2 := D.old 2 (by kernel_rfl)
          exact wk.does_run (by simp only [execOp]; rw [show E (.tmp 2) = .pointer (some ⟨B, 0, none⟩) by rw [e2]; rfl]; go_simp) rfl
        ·
          have ho2 := (Array.getElem?_eq_some_iff.1 ho).2
          simp only [List.getElem_toArray, List.getElem_cons_succ, List.getElem_cons_zero] at ho2
          subst ho2
          clear ho
          have e24 := D.is { on := 11, ground := .data } (by simp) rfl rfl 24 rfl
          exact wk.does_load1 rfl e24 ((HT.out.below ((Below.refl _ _).drew.trans hb4)).c1) Try.underlying23 rfl rfl
        ·
          have ho2 := (Array.getElem?_eq_some_iff.1 ho).2
          simp only [List.getElem_toArray, List.getElem_cons_succ, List.getElem_cons_zero] at ho2
          subst ho2
          clear ho
          have e6 := D.old 6 (by kernel_rfl)
          exact wk.does_move rfl (by rw [e6]; rfl)
        ·
          have ho2 := (Array.getElem?_eq_some_iff.1 ho).2
          simp only [List.getElem_toArray, List.getElem_cons_succ, List.getElem_cons_zero] at ho2
          subst ho2
          clear ho
          have e25 := D.is { on := 12, ground := .data } (by simp) rfl rfl 25 rfl
          have e26 := D.is { on := 13, ground := .data } (by simp) rfl rfl 26 rfl
          exact wk.does_run (by simp only [execOp]; rw [e25, e26]; go_simp) rfl
        ·
          have ho2 := (Array.getElem?_eq_some_iff.1 ho).2
          simp only [List.getElem_toArray, List.getElem_cons_succ, List.getElem_cons_zero] at ho2
          subst ho2
          clear ho
          have e27 := D.is { on := 14, ground := .data } (by simp) rfl rfl 27 rfl
          exact wk.does_load1 rfl e27 ((((Below.refl _ _).drew.trans hb4 : Below wr.heap.size wr w4).cell (p := ⟨_, _, none⟩) hb3).trans hc3) Try.underlying3 rfl rfl
        ·
          have ho2 := (Array.getElem?_eq_some_iff.1 ho).2
          simp only [List.getElem_toArray, List.getElem_cons_succ, List.getElem_cons_zero] at ho2
          subst ho2
          clear ho
          have e23 := D.is { on := 10, ground := .data } (by simp) rfl rfl 23 rfl
          have e28 := D.is { on := 15, ground := .data } (by simp) rfl rfl 28 rfl
          exact wk.does_run (by simp only [execOp, resolve, List.map_toArray, List.map_cons, List.map_nil]; rw [e23, e28]; go_simp) rfl
        ·
          have ho2 := (Array.getElem?_eq_some_iff.1 ho).2
          simp only [List.getElem_toArray, List.getElem_cons_succ, List.getElem_cons_zero] at ho2
          subst ho2
          clear ho
          have e29 := D.is { on := 16, ground := .data } (by simp) rfl rfl 29 rfl
          refine wk.does_new (v := .slice (some ⟨w4.heap.size, 0, none⟩) 1 1) (w' := w4.alloc (.cells #[.int .i64 m2] 3)) (by simp only [execOp, List.map_toArray, List.map_cons, List.map_nil]; rw [e29]; go_simp) (below_new _ _) ⟨_, rfl, One.new _ _ _⟩
      case hdone =>
        intro vals w4 hb4 hv
        have h0 := hv 0 (by omega)
        have h17 := hv 17 (by omega)
        clear hv
        replace h0 : vals 0 = u5 := h0
        simp only [List.drop_succ_cons, List.drop_zero, wk.setL, List.setIfInBounds_toArray, List.set_cons_zero, List.set_cons_succ, Nat.zero_add, Nat.reduceAdd, h0]
        generalize vals 1 = x1
        generalize vals 2 = x2
        generalize vals 3 = x3
        generalize vals 4 = x4
        generalize vals 5 = x5
        generalize vals 6 = x6
        generalize vals 7 = x7
        generalize vals 8 = x8
        generalize vals 9 = x9
        generalize vals 10 = x10
        generalize vals 11 = x11
        generalize vals 12 = x12
        generalize vals 13 = x13
        generalize vals 14 = x14
        generalize vals 15 = x15
        generalize vals 16 = x16
        generalize vals 17 = x17 at *
        obtain ⟨g, rfl, hg⟩ := h17
        have hb5 := ((Below.refl _ _).drew.trans hb4 : Below wr.heap.size wr w4)
        have hbe5 := HBEL.out.trans (hb5.mono (by have := HBW.out; omega))
        have HOW : Hid (w4.ownsRow (B + 1) 3 1 u5 k (iv (ls.take k))) := World.ownsRow.kept HOWN.out (grown_of hb5) (by cases u5.ownBlock <;> simp)
        have hgl := (Array.getElem?_eq_some_iff.1 hg).1
        have hcg : ∀ j u, [Value.int .i64 (m2)][j]? = some u → w4.cell? ((⟨g, 0, none⟩ : Addr).add j) = some u := fun j u hu => by
          cases j with
          | zero => simp at hu; subst hu; rw [wk.add_at]; exact hg.cell
          | succ j => simp at hu
        have hB4 : B + 1 ≤ w4.heap.size := by have := hb5.size; have := HBW.out; omega
        have HT5 := Lib.hid (HT.out.below hb5)
        have HBE5 := Lib.hid hbe5
        have HCG := Lib.hid hcg
        clear hb4 hb5 hg hcg hbe5
        go_wp2_with (at_builtin; refine wpList_append_own _ rfl _ _ 23 rfl (B + 1) 3 i0 (.int .i64 0) 1 8 Try.underlying23 hi hz0 hz1 hz2 rfl (by decide) _ _ _ rfl HOW.out ⟨g, 0, none⟩ 1 1 [.int .i64 (m2)] rfl rfl HCG.out ?c2 ?c3 ?c4 ?c5 ?_)
        case c2 => simp [Value.oneCell']
        case c3 => unfold maxLen; omega
        case c4 => omega
        case c5 => omega
        intro v' w2 hown2 hgrow _
        have HT9 := Lib.hid (HT5.out.at (hgrow.block B HT5.out.lt (fun e => by have := (HOW.out.lt B e.symm).1; omega)))
        have hbe : Below B w w2 := HBE5.out.grown hgrow (by omega) (fun q hq => by have := (HOW.out.lt q hq).1; omega)
        have HB2 := Lib.hid hbe
        have HO2 := Lib.hid hown2
        clear hown2 hgrow hbe
        go_wp2_with fail
        go_roundg (gk - 1)
        case measure => have := HK.out; omega
        case rel =>
          refine ⟨k + 1, by have := HK.out; omega, by go_num, ?_, HB2.out, HT9.out⟩
          have h := HO2.out
          rw [HS.out]
          unfold iv at h ⊢
          rw [List.map_append]
          simpa using h
    · obtain rfl : k = n1' := by omega
      have ho := HOWN.out
      rw [List.take_of_length_le (by have := HLN.out; omega)] at ho
      obtain ⟨A2, c2, rfl, hI⟩ := isI_of_own ho HBN.out
      have HI := Lib.hid hI
      clear ho hI hown hbel hT
      go_wp2_with fail
      go_ret
      exact ⟨_, rfl, ⟨A2, k, c2, rfl, HI.out⟩, by rw [HG.out]; exact HBEL.out⟩
end Go.Proofs.Ytlcdjabfkfmpdaa.bk
