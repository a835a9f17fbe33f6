/- The reference's Farthest. -/
import Derived.Test.YtlcdjabfkfmpdaaBr

namespace Go.Proofs.Ytlcdjabfkfmpdaa.bk

open Go.ChangeShapes Go.WideShapes Go.ChangeAt Go.RowKit

open Go.Proofs.Ytlcdjabfkfmpdaa.bq Go.Proofs.Ytlcdjabfkfmpdaa.vk Go.Proofs.Ytlcdjabfkfmpdaa.wk

set_option linter.unusedVariables false
def farf (a b v : Int) : Int := if v - a < b - v then b else a
def farthest (p : Pair) (v : List Int) : List Int := (List.range v.length).map fun i => farf (at' p.1 i) (at' p.2 i) (at' v i)
set_option maxRecDepth 100000 in
set_option maxHeartbeats 4000000 in
theorem farthest_calls (bv : Value) (p : Pair) (A : Option Addr) (n c : Nat) (vv : List Int) (w : World) (h : IsX w bv p) (h2 : wo.IsI w A n c vv) (hl1 : p.1.length = n) (hl2 : p.2.length = n) (hn : n ≤ 1000) (hbd : ∀ i, i < n → -1000 ≤ at' p.1 i ∧ at' p.1 i ≤ 1000 ∧ -1000 ≤ at' p.2 i ∧ at' p.2 i ≤ 1000 ∧ -1000 ≤ at' vv i ∧ at' vv i ≤ 1000) :
    Calls Try.prog 40 #[bv, .slice A n c] w fun e w' => ∃ x, e = .returned x ∧ IsV w' x (farthest p vv) ∧ Below w.heap.size w w' := by
  obtain ⟨i0, hi, hz0, hz1, hz2⟩ := info_parts wi.infoI
  obtain ⟨A1, n1, c1, A1', n1', c1', rfl, hi1, hi2⟩ := h
  have hm := h2.2.2.1
  have hm1 := hi1.2.2.1
  have hm2 := hi2.2.2.1
  have hnc := h2.2.1
  have hnc1 := hi1.2.1
  have hnc2 := hi2.2.1
  obtain rfl : n1 = n := by rw [← hi1.1, hl1]
  obtain rfl : n1' = n1 := by rw [← hi2.1, hl2]
  have HBDD := Lib.hid hbd
  clear hbd
  have H1 := Lib.hid hi1
  have H2 := Lib.hid hi2
  have H := Lib.hid h2
  have HBN : Hid (∀ x ∈ farthest p vv, -9223372036854775808 ≤ x ∧ x ≤ 9223372036854775807) := fun x hx => by
    simp only [farthest, List.mem_map, List.mem_range] at hx
    obtain ⟨i, hi, rfl⟩ := hx
    rw [H.out.1] at hi
    have q1 := H.out.2.2.2.2 (at' vv i) (List.mem_of_getElem? (of_at (by rw [H.out.1]; omega)))
    have q2 := H1.out.2.2.2.2 (at' p.1 i) (List.mem_of_getElem? (of_at (by omega)))
    have q3 := H2.out.2.2.2.2 (at' p.2 i) (List.mem_of_getElem? (of_at (by omega)))
    unfold farf
    split <;> omega
  have HLN : Hid ((farthest p vv).length = n1') := by show _ = _; rw [farthest, List.length_map, List.length_range, H.out.1]
  have HSN : Hid (∀ k, k < n1' → (farthest p vv).take (k + 1) = (farthest p vv).take k ++ [farf (at' p.1 k) (at' p.2 k) (at' vv k)]) := fun k hk => map_snoc' _ _ (by rw [H.out.1]; exact hk)
  obtain ⟨ls, hls⟩ : ∃ ls, farthest p vv = ls := ⟨_, rfl⟩
  rw [hls] at HBN HLN HSN ⊢
  have HB0 := Lib.hid (below_new w (.cells #[.slice A1 n1' c1, .slice A1' n1' c1'] 25))
  have HT0 := Lib.hid (Two.new w (.slice A1 n1' c1) (.slice A1' n1' c1') 25)
  clear h2 hi1 hi2 hl1 hl2 hls
  go_enter Try.func40, Try.ntmps40
  go_wp2_with fail
  generalize hG : w.heap.size = B at *
  have HG := Lib.hid hG
  clear hG
  go_loopg [5, 6] n1' (fun g v x wr => ∃ (k : Nat), k + g = n1' ∧ x = .int .i64 (k : Int) ∧ wr.ownsRow (B + 1) 3 1 v k (iv (ls.take k)) ∧ Below B w wr ∧ Two wr B (.slice A1 n1' c1) (.slice A1' n1' c1'))
  case atStart => exact ⟨0, by omega, rfl, World.ownsRow_nil _ _ _ _, HB0.out, HT0.out⟩
  case round =>
    obtain ⟨k, hk, rfl, hown, hbel, hT⟩ := hrel
    have HK := Lib.hid hk
    have HOWN := Lib.hid hown
    have HBEL := Lib.hid hbel
    have HT := Lib.hid hT
    have hkn : k ≤ n1' := by omega
    have HBW : Hid (B + 1 ≤ wr.heap.size) := by have := hT.lt; show _ ≤ _; omega
    by_cases hlt : k < n1'
    · have hbb : Below w.heap.size w wr := by rw [HG.out]; exact hbel
      obtain ⟨b1, o1, rfl, hc1, hb1⟩ := isI_get (isI_below H.out hbb) hlt
      obtain ⟨b2, o2, rfl, hc2, hb2⟩ := isI_get (isI_below H1.out hbb) (show k < n1' by omega)
      obtain ⟨b3, o3, rfl, hc3, hb3⟩ := isI_get (isI_below H2.out hbb) (show k < n1' by omega)
      have hlt0 : (k : Int) < (n1' : Int) := by omega
      have hlt1 : (k : Int) < (n1' : Int) := by omega
      have hlt2 : (k : Int) < (n1' : Int) := by omega
      have hS := HSN.out k hlt
      have hbdd := HBDD.out k hlt
      generalize at' vv k = x at *
      generalize at' p.1 k = y at *
      generalize at' p.2 k = z at *
      by_cases hf : x - y < z - x
      · rw [farf, if_pos hf] at hS
        have HS := Lib.hid hS
        have hTc0 := hT.c0
        have hTc1 := hT.c1
        clear hk hown hbel hbb hS hT
        go_wp2_with fail
        go_quiet (fail)
        go_wp2_with (at_builtin; refine wpList_append_own _ rfl _ _ 23 rfl (B + 1) 3 i0 (.int .i64 0) 1 8 Try.underlying23 hi hz0 hz1 hz2 rfl (by decide) _ _ _ rfl (World.ownsRow.alloc (w := wr.drewN _) HOWN.out _) ⟨wr.heap.size, 0, none⟩ 1 1 [.int .i64 (z)] rfl rfl ?c1 ?c2 ?c3 ?c4 ?c5 ?_)
        case c1 => exact cell_one_new (wr.drewN _) _ _
        case c2 => simp [Value.oneCell']
        case c3 => unfold maxLen; omega
        case c4 => omega
        case c5 => have := HBW.out; simp; omega
        intro v' w2 hown2 hgrow _
        have hbn : ∀ m, Below wr.heap.size wr ((wr.drewN m).alloc (.cells #[.int .i64 (z)] 3)) := fun m => (below_dr (Below.refl _ _) m).alloc (Nat.le_refl _) _
        have HT9 := Lib.hid (HT.out.at ((hgrow.block B (Nat.lt_of_lt_of_le HT.out.lt (hbn _).size) (fun e => by have := (HOWN.out.lt B e.symm).1; omega)).trans ((hbn _).block B HT.out.lt)))
        have hbe : Below B w w2 := (HBEL.out.trans ((hbn _).mono (by have := HBW.out; omega))).grown hgrow (by have := HBW.out; simp; omega) (fun q hq => by have := (HOWN.out.lt q hq).1; omega)
        have HB2 := Lib.hid hbe
        have HO2 := Lib.hid hown2
        clear hown2 hgrow hbe hbn
        go_wp2_with fail
        go_roundg (gk - 1)
        case measure => have := HK.out; omega
        case rel =>
          refine ⟨k + 1, by have := HK.out; omega, by go_num, ?_, HB2.out, HT9.out⟩
          have h := HO2.out
          rw [HS.out]
          unfold iv at h ⊢
          rw [List.map_append]
          simpa using h
      · rw [farf, if_neg hf] at hS
        have HS := Lib.hid hS
        have hTc0 := hT.c0
        have hTc1 := hT.c1
        clear hk hown hbel hbb hS hT
        go_wp2_with fail
        go_quiet (fail)
        go_wp2_with (at_builtin; refine wpList_append_own _ rfl _ _ 23 rfl (B + 1) 3 i0 (.int .i64 0) 1 8 Try.underlying23 hi hz0 hz1 hz2 rfl (by decide) _ _ _ rfl (World.ownsRow.alloc (w := wr.drewN _) HOWN.out _) ⟨wr.heap.size, 0, none⟩ 1 1 [.int .i64 (y)] rfl rfl ?c1 ?c2 ?c3 ?c4 ?c5 ?_)
        case c1 => exact cell_one_new (wr.drewN _) _ _
        case c2 => simp [Value.oneCell']
        case c3 => unfold maxLen; omega
        case c4 => omega
        case c5 => have := HBW.out; simp; omega
        intro v' w2 hown2 hgrow _
        have hbn : ∀ m, Below wr.heap.size wr ((wr.drewN m).alloc (.cells #[.int .i64 (y)] 3)) := fun m => (below_dr (Below.refl _ _) m).alloc (Nat.le_refl _) _
        have HT9 := Lib.hid (HT.out.at ((hgrow.block B (Nat.lt_of_lt_of_le HT.out.lt (hbn _).size) (fun e => by have := (HOWN.out.lt B e.symm).1; omega)).trans ((hbn _).block B HT.out.lt)))
        have hbe : Below B w w2 := (HBEL.out.trans ((hbn _).mono (by have := HBW.out; omega))).grown hgrow (by have := HBW.out; simp; omega) (fun q hq => by have := (HOWN.out.lt q hq).1; omega)
        have HB2 := Lib.hid hbe
        have HO2 := Lib.hid hown2
        clear hown2 hgrow hbe hbn
        go_wp2_with fail
        go_roundg (gk - 1)
        case measure => have := HK.out; omega
        case rel =>
          refine ⟨k + 1, by have := HK.out; omega, by go_num, ?_, HB2.out, HT9.out⟩
          have h := HO2.out
          rw [HS.out]
          unfold iv at h ⊢
          rw [List.map_append]
          simpa using h
    · obtain rfl : k = n1' := by omega
      have ho := HOWN.out
      rw [List.take_of_length_le (by have := HLN.out; omega)] at ho
      obtain ⟨A2, c2, rfl, hI⟩ := isI_of_own ho HBN.out
      have HI := Lib.hid hI
      clear ho hI hown hbel hT
      go_wp2_with fail
      go_ret
      exact ⟨_, rfl, ⟨A2, k, c2, rfl, HI.out⟩, by rw [HG.out]; exact HBEL.out⟩
end Go.Proofs.Ytlcdjabfkfmpdaa.bk
