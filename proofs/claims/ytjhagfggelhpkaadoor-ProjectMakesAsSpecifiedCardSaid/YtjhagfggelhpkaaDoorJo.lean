/- Lines: the reference: all of them; equal lines. -/
import Derived.Test.YtjhagfggelhpkaaDoorJn

namespace Go.Proofs.YtjhagfggelhpkaaDoor.jk

open Go.ChangeShapes Go.WideShapes Go.ChangeAt Go.RowKit

open Go.Proofs.YtjhagfggelhpkaaDoor.jq Go.Proofs.YtjhagfggelhpkaaDoor.vk Go.Proofs.YtjhagfggelhpkaaDoor.wk

set_option linter.unusedVariables false
def gsc (gs : List (Nat × Nat)) (d : Nat) : List Value := gs.map fun g => .slice (some ⟨g.1, 0, none⟩) d g.2
theorem isVV_of_ownc {w : World} {B n d : Nat} {v : Value} {gs : List (Nat × Nat)} {L : List (List Int)} (h : w.ownsRow B 24 1 v n (gsc gs d)) (hl : gs.length = L.length) (hL : ∀ (i : Nat) (g : Nat × Nat) (l : List Int), gs[i]? = some g → L[i]? = some l → LineAt w g.1 d l ∧ d ≤ g.2 ∧ g.2 ≤ 9223372036854775807) (hb : ∀ l ∈ L, ∀ x ∈ l, -9223372036854775808 ≤ x ∧ x ≤ 9223372036854775807) : ∃ A c, v = .slice A n c ∧ IsVV w A n c L := by
  have hn : gs.length = n := by have := h.1; simpa [gsc] using this
  rcases h.2 with ⟨hv, hn0⟩ | ⟨g, cap, cur, hv, hb2, hh, h3, h4, h5, h6⟩
  · subst hv
    exact ⟨none, 0, by rw [hn0], by omega, by omega, by omega, fun k l hk => by have := (List.getElem?_eq_some_iff.1 hk).1; omega⟩
  · subst hv
    refine ⟨_, _, rfl, by omega, h3, by unfold maxLen at h4; omega, fun k l hk => ?_⟩
    have hkl := (List.getElem?_eq_some_iff.1 hk).1
    have hg : gs[k]? = some (gs[k]'(by omega)) := List.getElem?_eq_getElem _
    have hc := h.cells rfl k (.slice (some ⟨(gs[k]'(by omega)).1, 0, none⟩) d (gs[k]'(by omega)).2) (by simp [gsc, hg])
    rw [wk.add_at] at hc
    obtain ⟨h7, h8, h9⟩ := hL k _ l hg hk
    exact ⟨g, 0, _, d, _, rfl, (Array.getElem?_eq_some_iff.1 hh).1, hc, h7.1, h8, h9, h7.rc, hb l (List.mem_of_getElem? hk)⟩
set_option maxRecDepth 100000 in
set_option maxHeartbeats 4000000 in
theorem reflines_calls (seed : Int) (n d : Nat) (w : World) (hsd : -9223372036854775808 ≤ seed ∧ seed ≤ 9223372036854775807) (h8 : n ≤ 8) (hd1 : 1 ≤ d) (hd : d ≤ 32) (hT : Tab2 w) :
    Calls Tryd.prog 15 #[.int .i64 seed, .int .i64 (n : Int), .int .i64 (d : Int)] w fun e w' => ∃ A c, e = .returned (.slice A n c) ∧ IsVV w' A n c (linesL seed n d) ∧ Below w.heap.size w w' := by
  obtain ⟨i0, hi9, hz0, hz1, hz2⟩ := info_parts infoVz
  have HT := Lib.hid hT
  clear hT
  generalize hG : w.heap.size = B at *
  have HG := Lib.hid hG
  clear hG
  go_enter Tryd.func15, Tryd.ntmps15
  go_wp2_with fail
  go_loopg [7, 8] n (fun g v x wr => ∃ (k : Nat) (v0 : Value) (gs : List (Nat × Nat)), k + g = n ∧ v0 = v ∧ x = .int .i64 (k : Int) ∧ gs.length = k ∧ wr.ownsRow B 24 1 v0 k (gsc gs d) ∧ (∀ (i : Nat) (g : Nat × Nat), gs[i]? = some g → LineAt wr g.1 d (drawnL seed (i : Int) d) ∧ d ≤ g.2 ∧ g.2 ≤ 9223372036854775807) ∧ Below B w wr)
  case atStart => exact ⟨0, _, [], by omega, rfl, rfl, rfl, World.ownsRow_nil _ _ _ _, fun i g h => by simp at h, Below.refl _ _⟩
  case round =>
    obtain ⟨k, v0, gs, hk0, rfl, rfl, hgl, hown, hls, hbel⟩ := hrel
    have HK := Lib.hid hk0
    have HGL := Lib.hid hgl
    have HOWN2 := Lib.hid hown
    have HLS := Lib.hid hls
    have HBEL := Lib.hid hbel
    have hkn : k ≤ n := by omega
    clear hk0 hown hbel hls hgl
    by_cases hlt : k < n
    · have hBw : B ≤ wr.heap.size := by have := HBEL.out.size; have := HG.out; omega
      have hTw : Tab2 wr := ⟨HT.out.1.below (B := B) (by have := HT.out.1.1; have := HG.out; omega) HBEL.out, HT.out.2.below (B := B) (by have := HT.out.2.1; have := HG.out; omega) HBEL.out⟩
      have HDR := Lib.hid (refline_calls seed k d wr hsd (by omega) hd1 hd hTw)
      have hlt0 : (k : Int) < (n : Int) := by omega
      clear hTw
      go_wp2_with fail
      refine HDR.out.mono ?_
      rintro e w4 ⟨g4, c4, rfl, hc41, hc42, hl4, hb4⟩
      have HOWN4 := Lib.hid (keptB HOWN2.out hb4)
      have HBEL4 := Lib.hid (HBEL.out.trans (hb4.mono hBw))
      have HLS4 : Hid (∀ (i : Nat) (g : Nat × Nat), (gs ++ [(g4, c4)])[i]? = some g → LineAt w4 g.1 d (drawnL seed (i : Int) d) ∧ d ≤ g.2 ∧ g.2 ≤ 9223372036854775807) := fun i g h => by
        rcases Nat.lt_trichotomy i gs.length with h' | h' | h'
        · rw [List.getElem?_append_left h'] at h
          have h9 := HLS.out i g h
          exact ⟨h9.1.below hb4, h9.2⟩
        · rw [List.getElem?_append_right (by omega), h', Nat.sub_self] at h
          simp at h
          subst h
          rw [h', HGL.out]
          exact ⟨hl4, hc41, hc42⟩
        · rw [List.getElem?_eq_none (by simp; omega)] at h; cases h
      have hBW4 : B ≤ w4.heap.size := by have := hb4.size; omega
      clear hl4 hb4 HDR HOWN2 HLS HBEL hc41 hc42
      go_wp2_with (at_builtin; refine wpList_append_own _ rfl _ _ 22 rfl B 24 i0 (.slice none 0 0) 1 24 Tryd.underlying22 hi9 hz0 hz1 hz2 rfl (by decide) _ _ _ rfl (HOWN4.out.alloc _) ⟨w4.heap.size, 0, none⟩ 1 1 [.slice (some ⟨g4, 0, none⟩) d c4] rfl rfl ?c1 ?c2 ?c3 ?c4 ?c5 ?_)
      case c1 => exact cell_one_new _ _ _
      case c2 => simp [Value.oneCell']
      case c3 => unfold maxLen; omega
      case c4 => omega
      case c5 => simp; omega
      intro v' w5 hown2 hgrow _
      have hbe : Below B w w5 := (HBEL4.out.alloc hBW4 _).grown hgrow (by simp; omega) (fun q hq => (HOWN4.out.lt q hq).1)
      have HLS5 : Hid (∀ (i : Nat) (g : Nat × Nat), (gs ++ [(g4, c4)])[i]? = some g → LineAt w5 g.1 d (drawnL seed (i : Int) d) ∧ d ≤ g.2 ∧ g.2 ≤ 9223372036854775807) := fun i g h => ⟨((HLS4.out i g h).1.below (below_new _ _)).kept (HOWN4.out.alloc _) (by decide) hgrow, (HLS4.out i g h).2⟩
      have HB5 := Lib.hid hbe
      have HO5 := Lib.hid hown2
      clear hown2 hgrow hbe HLS4 HOWN4 HBEL4
      go_wp2_with fail
      go_roundg (gk - 1)
      case measure => have := HK.out; omega
      case rel =>
        refine ⟨k + 1, _, gs ++ [(g4, c4)], by have := HK.out; omega, rfl, by go_num, by simp [HGL.out], ?_, HLS5.out, HB5.out⟩
        have hO := HO5.out
        unfold gsc at hO ⊢
        rw [List.map_append]
        simpa using hO
    · obtain rfl : k = n := by omega
      obtain ⟨A, c, rfl, hVV⟩ := isVV_of_ownc (L := linesL seed k d) HOWN2.out (by rw [HGL.out, linesL_len]) (fun i g l hg hl => by
        have hi := (List.getElem?_eq_some_iff.1 hl).1
        rw [linesL_len] at hi
        rw [linesL_at hi] at hl
        injection hl with hl
        subst hl
        exact HLS.out i g hg) (fun l hl x hx => by
          unfold linesL at hl
          obtain ⟨i, -, rfl⟩ := List.mem_map.1 hl
          have := drawnL_bd x hx; omega)
      have HVV := Lib.hid hVV
      clear hVV
      go_wp2_with fail
      go_ret
      exact ⟨A, c, rfl, HVV.out, by first | exact HBEL.out | (rw [HG.out]; exact HBEL.out)⟩
theorem dropv_eq {a b : List (List Int)} {k : Nat} {x y : List Int} (h : a[k]? = some x) (h' : b[k]? = some y) : (a.drop k == b.drop k) = (x == y && (a.drop (k + 1) == b.drop (k + 1))) := by
  have e : ∀ {l : List (List Int)} {z : List Int}, l[k]? = some z → l.drop k = z :: l.drop (k + 1) := fun {l z} hz => by
    obtain ⟨hk, rfl⟩ := List.getElem?_eq_some_iff.1 hz
    exact List.drop_eq_getElem_cons hk
  rw [e h, e h']; rfl
set_option maxRecDepth 100000 in
set_option maxHeartbeats 4000000 in
theorem samelines_calls {r s : List (List Int)} {n c c' : Nat} {A A' : Option Addr} (w : World) (h : IsVV w A n c r) (h' : IsVV w A' n c' s) :
    Calls Tryd.prog 14 #[.slice A n c, .slice A' n c'] w fun e w' => e = .returned (.bool (r == s)) ∧ ∃ q, w' = w.drewN q := by
  have hm := h.2.2.1
  have hnc := h.2.1
  have hm' := h'.2.2.1
  have hnc' := h'.2.1
  have H := Lib.hid h
  have H' := Lib.hid h'
  clear h h'
  go_enter Tryd.func14, Tryd.ntmps14
  go_wp2_with fail
  go_loopg [5] n (fun g x wr => ∃ k q : Nat, k + g = n ∧ x = .int .i64 (k : Int) ∧ wr = w.drewN q ∧ (r == s) = (r.drop k == s.drop k))
  case atStart => exact ⟨0, 0, by omega, rfl, rfl, rfl⟩
  case round =>
    obtain ⟨k, q, hk, rfl, hw, hr⟩ := hrel
    have HK := Lib.hid hk
    have HR := Lib.hid hr
    have HW := Lib.hid hw
    have hv1 : IsVV wr A n c r := by rw [hw]; exact isVV_drewN H.out q
    have hv2 : IsVV wr A' n c' s := by rw [hw]; exact isVV_drewN H'.out q
    clear hw
    have hkn : k ≤ n := by omega
    clear hk hr
    by_cases hlt : k < n
    · obtain ⟨b, o, A1, n1, c1, x, rfl, hb1, hc1, hI1, hX⟩ := isVV_get hv1 hlt
      obtain ⟨b2, o2, A2, n2, c2, y, rfl, hb2, hc2, hI2, hY⟩ := isVV_get hv2 hlt
      have HS := Lib.hid (dropv_eq hX hY)
      have HSC := Lib.hid (fun q' => same_calls A1 A2 n1 n2 c1 c2 x y (wr.drewN q') (isI_drewN hI1 q') (isI_drewN hI2 q'))
      have hlt0 : (k : Int) < (n : Int) := by omega
      clear hX hY hb1 hb2 hI1 hI2 hv1 hv2
      cases hxy : (x == y)
      · rw [hxy] at HS HSC
        go_wp2_with fail
        go_quiet (exact Calls.quiet_of (HSC.out _))
        go_wp2_with fail
        go_ret
        exact ⟨by rw [HR.out, HS.out]; rfl, _, by rw [HW.out]; exact drewN_add _ _ _⟩
      · rw [hxy] at HS HSC
        go_wp2_with fail
        go_quiet (exact Calls.quiet_of (HSC.out _))
        go_wp2_with fail
        go_roundg (gk - 1)
        case measure => have := HK.out; omega
        case rel => exact ⟨k + 1, _, by have := HK.out; omega, by go_num, by rw [HW.out]; exact drewN_add _ _ _, by rw [HR.out, HS.out]; rfl⟩
    · have h1 := HR.out
      rw [List.drop_of_length_le (by have := H.out.1; omega), List.drop_of_length_le (by have := H'.out.1; omega)] at h1
      have H1 := Lib.hid h1
      clear h1
      go_wp2_with fail
      go_ret
      exact ⟨by rw [H1.out]; rfl, q, HW.out⟩
end Go.Proofs.YtjhagfggelhpkaaDoor.jk
