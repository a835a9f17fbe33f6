/- Joined: Bt Bs Bh Bi. -/
import Derived.Test.YtmnpmjioahnjoaaG8

import Derived.BigQuiet
/- The law's inner. -/
namespace Go.Proofs.Ytmnpmjioahnjoaa.bk

open Go.ChangeShapes Go.WideShapes Go.ChangeAt Go.RowKit

open Go.Proofs.Ytmnpmjioahnjoaa.bq Go.Proofs.Ytmnpmjioahnjoaa.vk Go.Proofs.Ytmnpmjioahnjoaa.wk

set_option linter.unusedVariables false
/-- a slice of small numbers -/
def IsU (w : World) (A : Option Addr) (n c : Nat) (l : List Int) : Prop := l.length = n ∧ n ≤ c ∧ c ≤ 9223372036854775807 ∧ wp.RC w A (l.map (Value.int .u16)) ∧ ∀ x ∈ l, 0 ≤ x ∧ x ≤ 65535
theorem isU_below {w w' : World} {A : Option Addr} {n c : Nat} {l : List Int} (h : IsU w A n c l) (hb : Below w.heap.size w w') : IsU w' A n c l := ⟨h.1, h.2.1, h.2.2.1, h.2.2.2.1.below hb, h.2.2.2.2⟩
theorem isU_get {w : World} {A : Option Addr} {n c k : Nat} {l : List Int} (h : IsU w A n c l) (hk : k < n) : ∃ b o, A = some ⟨b, o, none⟩ ∧ w.cell? ⟨b, o + k, none⟩ = some (.int .u16 (at' l k)) ∧ b < w.heap.size ∧ 0 ≤ at' l k ∧ at' l k ≤ 65535 := by
  have hl : k < l.length := by have := h.1; omega
  have hx := of_at hl
  obtain ⟨b, o, hA, hc⟩ := wi.RC_at h.2.2.2.1 (k := k) (u := .int .u16 (at' l k)) (by simp [hx])
  exact ⟨b, o, hA, hc, block_lt_of_cell hc, h.2.2.2.2 _ (List.mem_of_getElem? hx)⟩
def innf (a b x : Int) : Int := a + x % (b - a + 1)
def inner (p : Pair) (pk : List Int) : List Int := (List.range p.1.length).map fun i => innf (at' p.1 i) (at' p.2 i) (at' pk i)
end Go.Proofs.Ytmnpmjioahnjoaa.bk
/- The reference's Farthest. -/
namespace Go.Proofs.Ytmnpmjioahnjoaa.bk

open Go.ChangeShapes Go.WideShapes Go.ChangeAt Go.RowKit

open Go.Proofs.Ytmnpmjioahnjoaa.bq Go.Proofs.Ytmnpmjioahnjoaa.vk Go.Proofs.Ytmnpmjioahnjoaa.wk

set_option linter.unusedVariables false
def farf (a b v : Int) : Int := if v - a < b - v then b else a
def farthest (p : Pair) (v : List Int) : List Int := (List.range v.length).map fun i => farf (at' p.1 i) (at' p.2 i) (at' v i)
set_option maxRecDepth 100000 in
set_option maxHeartbeats 4000000 in
theorem farthest_calls (bv : Value) (p : Pair) (A : Option Addr) (n c : Nat) (vv : List Int) (w : World) (h : IsX w bv p) (h2 : wo.IsI w A n c vv) (hl1 : p.1.length = n) (hl2 : p.2.length = n) (hn : n ≤ 1000) (hbd : ∀ i, i < n → -1000 ≤ at' p.1 i ∧ at' p.1 i ≤ 1000 ∧ -1000 ≤ at' p.2 i ∧ at' p.2 i ≤ 1000 ∧ -1000 ≤ at' vv i ∧ at' vv i ≤ 1000) :
    Calls Try.prog 49 #[bv, .slice A n c] w fun e w' => ∃ x, e = .returned x ∧ IsV w' x (farthest p vv) ∧ Below w.heap.size w w' := by
  obtain ⟨i0, hi, hz0, hz1, hz2⟩ := info_parts wi.infoI
  obtain ⟨A1, n1, c1, A1', n1', c1', rfl, hi1, hi2⟩ := h
  have hm := h2.2.2.1
  have hm1 := hi1.2.2.1
  have hm2 := hi2.2.2.1
  have hnc := h2.2.1
  have hnc1 := hi1.2.1
  have hnc2 := hi2.2.1
  obtain rfl : n1 = n := by rw [← hi1.1, hl1]
  obtain rfl : n1' = n1 := by rw [← hi2.1, hl2]
  have HBDD := Lib.hid hbd
  clear hbd
  have H1 := Lib.hid hi1
  have H2 := Lib.hid hi2
  have H := Lib.hid h2
  have HBN : Hid (∀ x ∈ farthest p vv, -9223372036854775808 ≤ x ∧ x ≤ 9223372036854775807) := fun x hx => by
    simp only [farthest, List.mem_map, List.mem_range] at hx
    obtain ⟨i, hi, rfl⟩ := hx
    rw [H.out.1] at hi
    have q1 := H.out.2.2.2.2 (at' vv i) (List.mem_of_getElem? (of_at (by rw [H.out.1]; omega)))
    have q2 := H1.out.2.2.2.2 (at' p.1 i) (List.mem_of_getElem? (of_at (by omega)))
    have q3 := H2.out.2.2.2.2 (at' p.2 i) (List.mem_of_getElem? (of_at (by omega)))
    unfold farf
    split <;> omega
  have HLN : Hid ((farthest p vv).length = n1') := by show _ = _; rw [farthest, List.length_map, List.length_range, H.out.1]
  have HSN : Hid (∀ k, k < n1' → (farthest p vv).take (k + 1) = (farthest p vv).take k ++ [farf (at' p.1 k) (at' p.2 k) (at' vv k)]) := fun k hk => map_snoc' _ _ (by rw [H.out.1]; exact hk)
  obtain ⟨ls, hls⟩ : ∃ ls, farthest p vv = ls := ⟨_, rfl⟩
  rw [hls] at HBN HLN HSN ⊢
  have HB0 := Lib.hid (below_new w (.cells #[.slice A1 n1' c1, .slice A1' n1' c1'] 25))
  have HT0 := Lib.hid (Two.new w (.slice A1 n1' c1) (.slice A1' n1' c1') 25)
  clear h2 hi1 hi2 hl1 hl2 hls
  go_enter Try.func49, Try.ntmps49
  go_wp2_with fail
  generalize hG : w.heap.size = B at *
  have HG := Lib.hid hG
  clear hG
  go_loopg [5, 6] n1' (fun g v x wr => ∃ (k : Nat), k + g = n1' ∧ x = .int .i64 (k : Int) ∧ wr.ownsRow (B + 1) 3 1 v k (iv (ls.take k)) ∧ Below B w wr ∧ Two wr B (.slice A1 n1' c1) (.slice A1' n1' c1'))
  case atStart => exact ⟨0, by omega, rfl, World.ownsRow_nil _ _ _ _, HB0.out, HT0.out⟩
  case round =>
    obtain ⟨k, hk, rfl, hown, hbel, hT⟩ := hrel
    have HK := Lib.hid hk
    have HOWN := Lib.hid hown
    have HBEL := Lib.hid hbel
    have HT := Lib.hid hT
    have hkn : k ≤ n1' := by omega
    have HBW : Hid (B + 1 ≤ wr.heap.size) := by have := hT.lt; show _ ≤ _; omega
    by_cases hlt : k < n1'
    · have hbb : Below w.heap.size w wr := by rw [HG.out]; exact hbel
      obtain ⟨b1, o1, rfl, hc1, hb1⟩ := isI_get (isI_below H.out hbb) hlt
      obtain ⟨b2, o2, rfl, hc2, hb2⟩ := isI_get (isI_below H1.out hbb) (show k < n1' by omega)
      obtain ⟨b3, o3, rfl, hc3, hb3⟩ := isI_get (isI_below H2.out hbb) (show k < n1' by omega)
      have hlt0 : (k : Int) < (n1' : Int) := by omega
      have hlt1 : (k : Int) < (n1' : Int) := by omega
      have hlt2 : (k : Int) < (n1' : Int) := by omega
      have hS := HSN.out k hlt
      have hbdd := HBDD.out k hlt
      generalize at' vv k = x at *
      generalize at' p.1 k = y at *
      generalize at' p.2 k = z at *
      by_cases hf : x - y < z - x
      · rw [farf, if_pos hf] at hS
        have HS := Lib.hid hS
        have hTc0 := hT.c0
        have hTc1 := hT.c1
        clear hk hown hbel hbb hS hT
        go_wp2_with fail
        go_quiet (fail)
        go_wp2_with (at_builtin; refine wpList_append_own _ rfl _ _ 23 rfl (B + 1) 3 i0 (.int .i64 0) 1 8 Try.underlying23 hi hz0 hz1 hz2 rfl (by decide) _ _ _ rfl (World.ownsRow.alloc (w := wr.drewN _) HOWN.out _) ⟨wr.heap.size, 0, none⟩ 1 1 [.int .i64 (z)] rfl rfl ?c1 ?c2 ?c3 ?c4 ?c5 ?_)
        case c1 => exact cell_one_new (wr.drewN _) _ _
        case c2 => simp [Value.oneCell']
        case c3 => unfold maxLen; omega
        case c4 => omega
        case c5 => have := HBW.out; simp; omega
        intro v' w2 hown2 hgrow _
        have hbn : ∀ m, Below wr.heap.size wr ((wr.drewN m).alloc (.cells #[.int .i64 (z)] 3)) := fun m => (below_dr (Below.refl _ _) m).alloc (Nat.le_refl _) _
        have HT9 := Lib.hid (HT.out.at ((hgrow.block B (Nat.lt_of_lt_of_le HT.out.lt (hbn _).size) (fun e => by have := (HOWN.out.lt B e.symm).1; omega)).trans ((hbn _).block B HT.out.lt)))
        have hbe : Below B w w2 := (HBEL.out.trans ((hbn _).mono (by have := HBW.out; omega))).grown hgrow (by have := HBW.out; simp; omega) (fun q hq => by have := (HOWN.out.lt q hq).1; omega)
        have HB2 := Lib.hid hbe
        have HO2 := Lib.hid hown2
        clear hown2 hgrow hbe hbn
        go_wp2_with fail
        go_roundg (gk - 1)
        case measure => have := HK.out; omega
        case rel =>
          refine ⟨k + 1, by have := HK.out; omega, by go_num, ?_, HB2.out, HT9.out⟩
          have h := HO2.out
          rw [HS.out]
          unfold iv at h ⊢
          rw [List.map_append]
          simpa using h
      · rw [farf, if_neg hf] at hS
        have HS := Lib.hid hS
        have hTc0 := hT.c0
        have hTc1 := hT.c1
        clear hk hown hbel hbb hS hT
        go_wp2_with fail
        go_quiet (fail)
        go_wp2_with (at_builtin; refine wpList_append_own _ rfl _ _ 23 rfl (B + 1) 3 i0 (.int .i64 0) 1 8 Try.underlying23 hi hz0 hz1 hz2 rfl (by decide) _ _ _ rfl (World.ownsRow.alloc (w := wr.drewN _) HOWN.out _) ⟨wr.heap.size, 0, none⟩ 1 1 [.int .i64 (y)] rfl rfl ?c1 ?c2 ?c3 ?c4 ?c5 ?_)
        case c1 => exact cell_one_new (wr.drewN _) _ _
        case c2 => simp [Value.oneCell']
        case c3 => unfold maxLen; omega
        case c4 => omega
        case c5 => have := HBW.out; simp; omega
        intro v' w2 hown2 hgrow _
        have hbn : ∀ m, Below wr.heap.size wr ((wr.drewN m).alloc (.cells #[.int .i64 (y)] 3)) := fun m => (below_dr (Below.refl _ _) m).alloc (Nat.le_refl _) _
        have HT9 := Lib.hid (HT.out.at ((hgrow.block B (Nat.lt_of_lt_of_le HT.out.lt (hbn _).size) (fun e => by have := (HOWN.out.lt B e.symm).1; omega)).trans ((hbn _).block B HT.out.lt)))
        have hbe : Below B w w2 := (HBEL.out.trans ((hbn _).mono (by have := HBW.out; omega))).grown hgrow (by have := HBW.out; simp; omega) (fun q hq => by have := (HOWN.out.lt q hq).1; omega)
        have HB2 := Lib.hid hbe
        have HO2 := Lib.hid hown2
        clear hown2 hgrow hbe hbn
        go_wp2_with fail
        go_roundg (gk - 1)
        case measure => have := HK.out; omega
        case rel =>
          refine ⟨k + 1, by have := HK.out; omega, by go_num, ?_, HB2.out, HT9.out⟩
          have h := HO2.out
          rw [HS.out]
          unfold iv at h ⊢
          rw [List.map_append]
          simpa using h
    · obtain rfl : k = n1' := by omega
      have ho := HOWN.out
      rw [List.take_of_length_le (by have := HLN.out; omega)] at ho
      obtain ⟨A2, c2, rfl, hI⟩ := isI_of_own ho HBN.out
      have HI := Lib.hid hI
      clear ho hI hown hbel hT
      go_wp2_with fail
      go_ret
      exact ⟨_, rfl, ⟨A2, k, c2, rfl, HI.out⟩, by rw [HG.out]; exact HBEL.out⟩
end Go.Proofs.Ytmnpmjioahnjoaa.bk
/- Inside, Has; the adders. -/
namespace Go.Proofs.Ytmnpmjioahnjoaa.bk

open Go.ChangeShapes Go.WideShapes Go.ChangeAt Go.RowKit

open Go.Proofs.Ytmnpmjioahnjoaa.bq Go.Proofs.Ytmnpmjioahnjoaa.vk Go.Proofs.Ytmnpmjioahnjoaa.wk

set_option linter.unusedVariables false
attribute [local go_sem] Oper.semAt_some
def within (p q : Pair) : Bool := le q.1 p.1 && le p.2 q.2
theorem within_iff {p q : Pair} (h1 : q.1.length = p.1.length) (h2 : p.2.length = p.1.length) : within p q = true ↔ ∀ i, i < p.1.length → at' q.1 i ≤ at' p.1 i ∧ at' p.2 i ≤ at' q.2 i := by
  simp only [within, Bool.and_eq_true, le_iff, h1, h2]
  exact ⟨fun h i hi => ⟨h.1 i hi, h.2 i hi⟩, fun h => ⟨fun i hi => (h i hi).1, fun i hi => (h i hi).2⟩⟩
theorem within_not {p q : Pair} (h1 : q.1.length = p.1.length) (h2 : p.2.length = p.1.length) {i : Nat} (hi : i < p.1.length) (hn : at' p.1 i < at' q.1 i ∨ at' q.2 i < at' p.2 i) : within p q = false := by
  cases hh : within p q
  · rfl
  · have := (within_iff h1 h2).1 hh i hi; omega
theorem inside_eq (p q : Pair) : inside p q = (balike p q && within p q) := by simp [inside, within, Bool.and_assoc]
set_option maxRecDepth 100000 in
set_option maxHeartbeats 4000000 in
theorem inside_calls (v u : Value) (p q : Pair) (w : World) (h : IsX w v p) (h2 : IsX w u q) :
    Calls Try.prog 17 #[v, u] w fun e w' => e = .returned (.bool (inside p q)) ∧ Below w.heap.size w w' := by
  rw [inside_eq]
  have HA := Lib.hid (fun w' hb => alike_calls v u p q w' (h.below hb) (h2.below hb))
  have HX := Lib.hid h
  have HX2 := Lib.hid h2
  obtain ⟨A, n, c, A', n', c', rfl, hi, hi'⟩ := h
  obtain ⟨A2, n2, c2, A2', n2', c2', rfl, hi2, hi2'⟩ := h2
  have HB0 := Lib.hid (Below.andThen (Below.andThen (below_new w (.cells #[.slice A n c, .slice A' n' c'] 25)) (below_new _ (.cells #[.slice A2 n2 c2, .slice A2' n2' c2'] 25))) (below_new _ (.cells #[.bool false] 4)))
  have hT1 := (TwoX.new w (.slice A n c) (.slice A' n' c')).below (below_new _ (.cells #[.slice A2 n2 c2, .slice A2' n2' c2'] 25)) |>.below (below_new _ (.cells #[.bool false] 4))
  have hT2 := (TwoX.new (w.alloc (.cells #[.slice A n c, .slice A' n' c'] 25)) (.slice A2 n2 c2) (.slice A2' n2' c2')).below (below_new _ (.cells #[.bool false] 4))
  have hO := One.new ((w.alloc (.cells #[.slice A n c, .slice A' n' c'] 25)).alloc (.cells #[.slice A2 n2 c2, .slice A2' n2' c2'] 25)) 4 (.bool false)
  simp only [size_new] at hT2 hO
  clear hi hi' hi2 hi2'
  refine enter_marks Try.func17 rfl ?_
  simp only [Try.ntmps17, List.size_toArray, List.length_cons, List.length_nil, Nat.reduceAdd, Nat.reduceSub, Array.replicate_succ, Array.replicate_zero, List.push_toArray, List.append_toArray, List.nil_append, List.cons_append]
  by_cases hal : balike p q = true
  · obtain ⟨hl, hp, hq⟩ := balike_iff.1 hal
    rw [hal] at HA ⊢
    rw [Bool.true_and]
    go_wp2_with fail
    refine (HA.out _ HB0.out).mono ?_
    rintro e w1 ⟨rfl, hb⟩
    have hB1 := HB0.out.trans (hb.mono HB0.out.size)
    have HT2 := Lib.hid (hT2.below hb)
    have HO := Lib.hid (hO.below hb)
    have hx1 := hT1.below hb
    have hc0 := hx1.two.c0
    have hc1 := hx1.two.c1
    have HB1 := Lib.hid hB1
    clear hx1 hb hB1 hT1 hT2 hO
    go_wp2_with fail
    refine (sides_calls _ _ _).mono ?_
    rintro e w2 ⟨rfl, rfl⟩
    go_wp2_with fail
    generalize hG : w.heap.size = G at *
    have hG1 : G + 2 < w1.heap.size := HO.out.lt
    have hs3 : ∀ o, (w1.alloc o).heap.size = w1.heap.size + 1 := fun o => size_new _ _
    have hB3 : Below G w (w1.alloc (.cells #[.slice A n c, .slice A' n' c'] 25)) := HB1.out.trans ((below_new _ _).mono (by omega))
    refine range_sides' (some 5) 6 G w1.heap.size [G + 1 + 1] p (.slice A n c) (.slice A' n' c') rfl ?c1 ?c2 ?c0 ?c3 ?c4 ?c5 ?c6 (fun pre W => One W (G + 1 + 1) 4 (.bool false) ∧ ∀ x ∈ pre, at' q.1 x.1 ≤ at' p.1 x.1 ∧ at' p.2 x.1 ≤ at' q.2 x.1) (fun c W => (c = .ret ∧ within p q = false) ∧ One W (G + 1 + 1) 4 (.bool false)) ?c7 ?c8 ?c9 ?hassign ?hbody ?hdone ?hstop
    case c0 => exact Two.new _ _ _ _
    case c1 => intro j hj; rw [List.mem_singleton] at hj; omega
    case c2 => rw [hs3]; omega
    case c3 => simp; omega
    case c4 => rw [hs3]; simp; omega
    case c5 => have := hp.len; omega
    case c6 =>
      intro w' hb
      exact HX.out.below (by rw [hG]; exact hB3.trans hb)
    case c7 => exact OwnFrom.and (own_one (by rw [hs3]; omega)) own_pure
    case c8 => intro c'; exact OwnFrom.and own_pure (own_one (by rw [hs3]; omega))
    case c9 => exact ⟨HO.out.below (below_new _ _), fun x hx => by cases hx⟩
    case hassign =>
      intro l m i a b W K hK
      unfold rng at hK ⊢
      simp only [roundT, List.setIfInBounds_toArray, List.set_cons_succ, List.set_cons_zero] at hK ⊢
      gi_wp2
      exact hK
    case hbody =>
      rintro l m pre x Bx W hBx hT hx ⟨hO, hI⟩ hlen
      simp only [roundT, List.setIfInBounds_toArray, List.set_cons_succ, List.set_cons_zero]
      have hBG : Below G w W := hB3.trans (hx.below (by rw [hs3]; omega) (by intro j hj; rw [List.mem_singleton] at hj; omega))
      have hT2 : TwoX W (G + 1) (.slice A2 n2 c2) (.slice A2' n2' c2') := (hx.block (G + 1) (by rw [hs3]; omega) (by simp)).trans (HT2.out.below (below_new _ _))
      have hc2 := hT2.two.c0
      have hc3 := hT2.two.c1
      have hxl := x.2
      have HS := Lib.hid (side_calls _ q x.1 W (HX2.out.below (by rw [hG]; exact hBG)) (by omega) (by have := hq.len; omega))
      have hWB : w1.heap.size + 1 ≤ W.heap.size := by have := hx.size; rw [hs3] at this; exact this
      gi_wp2
      refine ⟨trivial, (fun hh => by cases hh), CallsIn.inRound l ((callsIn_wide.2 HS.out).mono ?_)⟩
      rintro e w2 ⟨rfl, hb⟩
      have hbn := below_new w2 (.cells #[.int .i64 (at' q.1 x.1), .int .i64 (at' q.2 x.1)] 69)
      have hT' := (hT.below hb).below hbn
      have hO' := (hO.below hb).below hbn
      have hT0 := hT'.c0
      have hT1 := hT'.c1
      have hO0 := hO'.cell
      have hO1 := hO'.frozen
      have hTU : Turn [G + 1 + 1] (w1.heap.size + 1) W (w2.alloc (.cells #[.int .i64 (at' q.1 x.1), .int .i64 (at' q.2 x.1)] 69)) := Turn.of_below (Below.andThen hb hbn) hWB
      have HOO := Lib.hid hO'
      have HTU := Lib.hid hTU
      clear hbn hT' hO' hTU hb
      unfold rng
      by_cases hlo : at' q.1 x.1 ≤ at' p.1 x.1
      · by_cases hhi : at' p.2 x.1 ≤ at' q.2 x.1
        · gi_wp2
          rw [hs3]
          exact ⟨HTU.out, HOO.out, fun y hy => by rcases List.mem_append.1 hy with h | h; exact hI y h; rw [List.mem_singleton] at h; subst h; exact ⟨hlo, hhi⟩⟩
        · gi_wp2
          rw [hs3]
          exact ⟨HTU.out.trans (Turn.setCell _ (by simp)), ⟨rfl, within_not (by omega) (by have := hp.len; omega) hxl (.inr (by omega))⟩, HOO.out.set _⟩
      · gi_wp2
        rw [hs3]
        exact ⟨HTU.out.trans (Turn.setCell _ (by simp)), ⟨rfl, within_not (by omega) (by have := hp.len; omega) hxl (.inl (by omega))⟩, HOO.out.set _⟩
    case hdone =>
      rintro D ys W hD hys hx ⟨hO, hI⟩ hK
      have hO0 := hO.cell
      have hO1 := hO.frozen
      have hle : within p q = true := (within_iff (by omega) (by have := hp.len; omega)).2 (all_range hys hI)
      rw [hs3] at hD
      go_wp2_with fail
      refine leave_bool (fn := Try.f17) rfl rfl rfl Try.underlying4 (hO.set _) ?_ (by omega) ⟨by rw [hle], ?_⟩
      · exact (Below.heap_setCell _ _ _ _ (by show D ≠ G + 1 + 1; omega)).trans hK
      · rw [hG]; exact below_mark (((hB3.trans (hx.below (by rw [hs3]; omega) (by intro j hj; rw [List.mem_singleton] at hj; omega))).setCell (p := ⟨G + 1 + 1, 0, none⟩) (by show G ≤ G + 1 + 1; omega) _)) (by omega)
    case hstop =>
      rintro D c W hD hx ⟨⟨rfl, hle⟩, hO⟩ hK
      rw [hs3] at hD
      go_wp2_with fail
      refine leave_bool (fn := Try.f17) rfl rfl rfl Try.underlying4 hO hK (by omega) ⟨by rw [hle], ?_⟩
      rw [hG]
      exact below_mark (hB3.trans (hx.below (by rw [hs3]; omega) (by intro j hj; rw [List.mem_singleton] at hj; omega))) (by omega)
  · have hal' : balike p q = false := by simpa using hal
    rw [hal'] at HA ⊢
    rw [Bool.false_and]
    go_wp2_with fail
    refine (HA.out _ HB0.out).mono ?_
    rintro e w1 ⟨rfl, hb⟩
    have HB1 := Lib.hid (HB0.out.trans (hb.mono HB0.out.size))
    have HO := Lib.hid (hO.below hb)
    have hc0 := HO.out.cell
    have hf0 := HO.out.frozen
    clear hb hT1 hT2 hO
    go_wp2_with fail
    exact leave_bool0 (fn := Try.f17) rfl rfl rfl Try.underlying4 (HO.out.set _) ⟨rfl, HB1.out.setCell (p := ⟨w.heap.size + 1 + 1, 0, none⟩) (by show w.heap.size ≤ w.heap.size + 1 + 1; omega) _⟩
end Go.Proofs.Ytmnpmjioahnjoaa.bk
/- Has; the adders; keys. -/
namespace Go.Proofs.Ytmnpmjioahnjoaa.bk

open Go.ChangeShapes Go.WideShapes Go.ChangeAt Go.RowKit

open Go.Proofs.Ytmnpmjioahnjoaa.bq Go.Proofs.Ytmnpmjioahnjoaa.vk Go.Proofs.Ytmnpmjioahnjoaa.wk

set_option linter.unusedVariables false
attribute [local go_sem] Oper.semAt_some
set_option maxRecDepth 100000 in
theorem has_calls (v : Value) (p : Pair) (A : Option Addr) (n c : Nat) (l : List Int) (w : World) (h : IsX w v p) (h2 : wo.IsI w A n c l) :
    Calls Try.prog 29 #[v, .slice A n c] w fun e w' => e = .returned (.bool (has p l)) ∧ Below w.heap.size w w' := by
  have HI := Lib.hid (fun w' hb => inside_calls (.agg #[.slice A n c, .slice A n c]) v (l, l) p w' ⟨A, n, c, A, n, c, rfl, isI_below h2 hb, isI_below h2 hb⟩ (h.below hb))
  obtain ⟨A1, n1, c1, A1', n1', c1', rfl, hi, hi'⟩ := h
  have HB0 := Lib.hid (below_new w (.cells #[.slice A1 n1 c1, .slice A1' n1' c1'] 25))
  have HT := Lib.hid (TwoX.new w (.slice A1 n1 c1) (.slice A1' n1' c1'))
  clear hi hi' h2
  go_enter Try.func29, Try.ntmps29
  go_wp2_with fail
  refine wk.region_tailS 5 [.is (.slice A n c), .is (.agg #[.slice A n c, .slice A n c]), .is (.agg #[.slice A1 n1 c1, .slice A1' n1' c1']), .is (.bool (has p l)), .is (.bool (has p l))] [some 5, some 6, some 7, some 8, some 4] (by kernel_rfl) (by kernel_rfl) (by kernel_rfl) (by kernel_rfl) [] (by kernel_rfl) (by intro p hp; cases hp) (by kernel_rfl) (by kernel_rfl) ?hstep ?hdone
  case hstep =>
    intro i o ho hi hns E w4 hb4 D
    have hi2 : i = 0 ∨ i = 1 ∨ i = 2 ∨ i = 3 ∨ i = 4 := by omega
    clear hi
    rcases hi2 with rfl | rfl | rfl | rfl | rfl
    ·
      have ho2 := (Array.getElem?_eq_some_iff.1 ho).2
      simp only [List.getElem_toArray, List.getElem_cons_zero] at ho2
      subst ho2
      clear ho
      have e1 := D.old 1 (by kernel_rfl)
      exact wk.does_move rfl (by rw [e1]; rfl)
    ·
      have ho2 := (Array.getElem?_eq_some_iff.1 ho).2
      simp only [List.getElem_toArray, List.getElem_cons_succ, List.getElem_cons_zero] at ho2
      subst ho2
      clear ho
      have e5 := D.is { on := 0, ground := .data } (by simp) rfl rfl 5 rfl
      refine wk.does_fn (f := 31) (vs := #[.slice A n c]) rfl (D.fn _) (by simp [e5]) (by go_simp) ?_
      refine (point_calls A n c w4).mono ?_
      rintro e w7 ⟨rfl, hb7⟩
      exact ⟨_, rfl, hb7, rfl⟩
    ·
      have ho2 := (Array.getElem?_eq_some_iff.1 ho).2
      simp only [List.getElem_toArray, List.getElem_cons_succ, List.getElem_cons_zero] at ho2
      subst ho2
      clear ho
      have e2 := D.old 2 (by kernel_rfl)
      exact wk.does_load_row rfl (by rw [e2]; rfl) (HT.out.below ((Below.refl _ _).drew.trans hb4)) Try.underlying25 rfl (by kernel_rfl) rfl
    ·
      have ho2 := (Array.getElem?_eq_some_iff.1 ho).2
      simp only [List.getElem_toArray, List.getElem_cons_succ, List.getElem_cons_zero] at ho2
      subst ho2
      clear ho
      have e6 := D.is { on := 1, ground := .data } (by simp) rfl rfl 6 rfl
      have e7 := D.is { on := 2, ground := .data } (by simp) rfl rfl 7 rfl
      refine wk.does_fn (f := 17) (vs := #[.agg #[.slice A n c, .slice A n c], .agg #[.slice A1 n1 c1, .slice A1' n1' c1']]) rfl (D.fn _) (by simp [e6, e7]) (by go_simp) ?_
      refine (HI.out w4 (Below.andThen HB0.out ((Below.refl _ _).drew.trans hb4))).mono ?_
      rintro e w7 ⟨rfl, hb7⟩
      exact ⟨_, rfl, hb7, rfl⟩
    ·
      have ho2 := (Array.getElem?_eq_some_iff.1 ho).2
      simp only [List.getElem_toArray, List.getElem_cons_succ, List.getElem_cons_zero] at ho2
      subst ho2
      clear ho
      have e8 := D.is { on := 3, ground := .data } (by simp) rfl rfl 8 rfl
      exact wk.does_assign rfl e8
  case hdone =>
    intro vals w4 hb4 hv
    have h4 := hv 4 (by omega)
    clear hv
    replace h4 : vals 4 = (.bool (has p l)) := h4
    simp only [List.drop_succ_cons, List.drop_zero, wpList, wk.setL, List.setIfInBounds_toArray, List.set_cons_zero, List.set_cons_succ, Nat.zero_add, Nat.reduceAdd, h4]
    generalize vals 0 = x0
    generalize vals 1 = x1
    generalize vals 2 = x2
    generalize vals 3 = x3
    have HB1 := Lib.hid (Below.andThen HB0.out ((Below.refl _ _).drew.trans hb4))
    clear hb4
    go_wp2_with fail
    go_ret
    exact ⟨rfl, HB1.out⟩
/-- the adders -/
def addf (m : Int) : Nat := if m = 1 then 57 else if m = 2 then 58 else 59
set_option maxRecDepth 100000 in
theorem add_calls (m : Int) (hm : m = 1 ∨ m = 2 ∨ m = 3) (g : Nat) (s d : Int) (w : World) (h : One w g 3 (.int .i64 s)) (h0 : 0 ≤ s) (h1 : s ≤ 128000000) (h2 : 0 ≤ d) (h3 : d ≤ 2000) :
    Calls Try.prog (addf m) #[.int .i64 d, .pointer (some ⟨g, 0, none⟩)] w fun e w' => e = .returned (.int .i64 (bq.step m s d)) ∧ w' = w.setCell ⟨g, 0, none⟩ (.int .i64 (bq.step m s d)) := by
  have hc := h.cell
  have hf := h.frozen
  have hdd : 0 ≤ d * d := Int.mul_nonneg h2 h2
  have hdd2 : d * d ≤ 2000 * 2000 := Int.mul_le_mul h3 h3 h2 (by omega)
  rcases hm with rfl | rfl | rfl
  · have hs : bq.step 1 s d = s + d := rfl
    rw [hs]
    have hcell := (h.set (.int .i64 (s + d))).cell
    clear h
    simp only [addf, if_true]
    go_enter Try.func57, Try.ntmps57
    go_wp2_with fail
    go_ret
    exact ⟨rfl, rfl⟩
  · have hs : bq.step 2 s d = s + d * d := rfl
    rw [hs]
    have hcell := (h.set (.int .i64 (s + d * d))).cell
    clear h
    have ha : addf 2 = 58 := rfl
    rw [ha]
    go_enter Try.func58, Try.ntmps58
    go_wp2_with fail
    go_ret
    exact ⟨rfl, rfl⟩
  · have hs : bq.step 3 s d = max s d := rfl
    rw [hs]
    have hcell := (h.set (.int .i64 (max s d))).cell
    clear h
    have ha : addf 3 = 59 := rfl
    rw [ha]
    obtain ⟨x, hx⟩ : ∃ x, max s d = x := ⟨_, rfl⟩
    rw [hx] at hcell ⊢
    go_enter Try.func59, Try.ntmps59
    go_wp2_with fail
    go_ret
    exact ⟨rfl, rfl⟩
theorem add_enters (m : Int) (hm : m = 1 ∨ m = 2 ∨ m = 3) : ∀ args w, (callFunc (addf m) args).run Try.prog w = .ok (.enter (addf m) args) w := by
  rcases hm with rfl | rfl | rfl
  · intro args w; kernel_rfl
  · intro args w; kernel_rfl
  · intro args w; kernel_rfl
def metric (m : Int) : Bool := decide (1 ≤ m) && decide (m ≤ 3)
theorem metric_iff {m : Int} : metric m = true ↔ m = 1 ∨ m = 2 ∨ m = 3 := by simp [metric]; omega
set_option maxRecDepth 100000 in
theorem adder_calls (m : Int) (hm : m = 1 ∨ m = 2 ∨ m = 3) (w : World) :
    Calls Try.prog 54 #[.int .i64 m] w fun e w' => e = .returned (.tuple #[.func (.func (addf m)) #[] #[.pointer (some ⟨w.heap.size, 0, none⟩)], .bool true]) ∧ w' = w.alloc (.cells #[.int .i64 0] 3) := by
  rcases hm with rfl | rfl | rfl
  all_goals
    go_enter Try.func54, Try.ntmps54
    go_wp2_with fail
    exact bodyPost_ret (results_tmp2 rfl _ _ _) rfl ⟨rfl, rfl⟩
set_option maxRecDepth 100000 in
theorem adder_no (m : Int) (hm : metric m = false) (w : World) :
    Calls Try.prog 54 #[.int .i64 m] w fun e w' => e = .returned (.tuple #[Value.nilFunc, .bool false]) ∧ w' = w.alloc (.cells #[.int .i64 0] 3) := by
  have h : ¬ (m = 1 ∨ m = 2 ∨ m = 3) := fun hh => by rw [metric_iff.2 hh] at hm; cases hm
  have h1 : (m == 1) = false := by simp; omega
  have h2 : (m == 2) = false := by simp; omega
  have h3 : (m == 3) = false := by simp; omega
  go_enter Try.func54, Try.ntmps54
  go_wp2_with fail
  exact bodyPost_ret (results_tmp2 rfl _ _ _) rfl ⟨rfl, rfl⟩
end Go.Proofs.Ytmnpmjioahnjoaa.bk
