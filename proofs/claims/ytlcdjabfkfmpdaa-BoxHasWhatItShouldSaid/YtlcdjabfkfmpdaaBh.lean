/- Inside, Has; the adders. -/
import Derived.Test.YtlcdjabfkfmpdaaBf

import Derived.BigQuiet

namespace Go.Proofs.Ytlcdjabfkfmpdaa.bk

open Go.ChangeShapes Go.WideShapes Go.ChangeAt Go.RowKit

open Go.Proofs.Ytlcdjabfkfmpdaa.bq Go.Proofs.Ytlcdjabfkfmpdaa.vk Go.Proofs.Ytlcdjabfkfmpdaa.wk

set_option linter.unusedVariables false
attribute [local go_sem] Oper.semAt_some
def within (p q : Pair) : Bool := le q.1 p.1 && le p.2 q.2
theorem within_iff {p q : Pair} (h1 : q.1.length = p.1.length) (h2 : p.2.length = p.1.length) : within p q = true ↔ ∀ i, i < p.1.length → at' q.1 i ≤ at' p.1 i ∧ at' p.2 i ≤ at' q.2 i := by
  simp only [within, Bool.and_eq_true, le_iff, h1, h2]
  exact ⟨fun h i hi => ⟨h.1 i hi, h.2 i hi⟩, fun h => ⟨fun i hi => (h i hi).1, fun i hi => (h i hi).2⟩⟩
theorem within_not {p q : Pair} (h1 : q.1.length = p.1.length) (h2 : p.2.length = p.1.length) {i : Nat} (hi : i < p.1.length) (hn : at' p.1 i < at' q.1 i ∨ at' q.2 i < at' p.2 i) : within p q = false := by
  cases hh : within p q
  · rfl
  · have := (within_iff h1 h2).1 hh i hi; omega
theorem inside_eq (p q : Pair) : inside p q = (balike p q && within p q) := by simp [inside, within, Bool.and_assoc]
set_option maxRecDepth 100000 in
set_option maxHeartbeats 4000000 in
theorem inside_calls (v u : Value) (p q : Pair) (w : World) (h : IsX w v p) (h2 : IsX w u q) :
    Calls Try.prog 21 #[v, u] w fun e w' => e = .returned (.bool (inside p q)) ∧ Below w.heap.size w w' := by
  rw [inside_eq]
  have HA := Lib.hid (fun w' hb => alike_calls v u p q w' (h.below hb) (h2.below hb))
  have HX := Lib.hid h
  have HX2 := Lib.hid h2
  obtain ⟨A, n, c, A', n', c', rfl, hi, hi'⟩ := h
  obtain ⟨A2, n2, c2, A2', n2', c2', rfl, hi2, hi2'⟩ := h2
  have HB0 := Lib.hid (Below.andThen (Below.andThen (below_new w (.cells #[.slice A n c, .slice A' n' c'] 25)) (below_new _ (.cells #[.slice A2 n2 c2, .slice A2' n2' c2'] 25))) (below_new _ (.cells #[.bool false] 4)))
  have hT1 := (TwoX.new w (.slice A n c) (.slice A' n' c')).below (below_new _ (.cells #[.slice A2 n2 c2, .slice A2' n2' c2'] 25)) |>.below (below_new _ (.cells #[.bool false] 4))
  have hT2 := (TwoX.new (w.alloc (.cells #[.slice A n c, .slice A' n' c'] 25)) (.slice A2 n2 c2) (.slice A2' n2' c2')).below (below_new _ (.cells #[.bool false] 4))
  have hO := One.new ((w.alloc (.cells #[.slice A n c, .slice A' n' c'] 25)).alloc (.cells #[.slice A2 n2 c2, .slice A2' n2' c2'] 25)) 4 (.bool false)
  simp only [size_new] at hT2 hO
  clear hi hi' hi2 hi2'
  refine enter_marks Try.func21 rfl ?_
  simp only [Try.ntmps21, List.size_toArray, List.length_cons, List.length_nil, Nat.reduceAdd, Nat.reduceSub, Array.replicate_succ, Array.replicate_zero, List.push_toArray, List.append_toArray, List.nil_append, List.cons_append]
  by_cases hal : balike p q = true
  · obtain ⟨hl, hp, hq⟩ := balike_iff.1 hal
    rw [hal] at HA ⊢
    rw [Bool.true_and]
    go_wp2_with fail
    refine (HA.out _ HB0.out).mono ?_
    rintro e w1 ⟨rfl, hb⟩
    have hB1 := HB0.out.trans (hb.mono HB0.out.size)
    have HT2 := Lib.hid (hT2.below hb)
    have HO := Lib.hid (hO.below hb)
    have hx1 := hT1.below hb
    have hc0 := hx1.two.c0
    have hc1 := hx1.two.c1
    have HB1 := Lib.hid hB1
    clear hx1 hb hB1 hT1 hT2 hO
    go_wp2_with fail
    refine (sides_calls _ _ _).mono ?_
    rintro e w2 ⟨rfl, rfl⟩
    go_wp2_with fail
    generalize hG : w.heap.size = G at *
    have hG1 : G + 2 < w1.heap.size := HO.out.lt
    have hs3 : ∀ o, (w1.alloc o).heap.size = w1.heap.size + 1 := fun o => size_new _ _
    have hB3 : Below G w (w1.alloc (.cells #[.slice A n c, .slice A' n' c'] 25)) := HB1.out.trans ((below_new _ _).mono (by omega))
    refine range_sides' (some 5) 6 G w1.heap.size [G + 1 + 1] p (.slice A n c) (.slice A' n' c') rfl ?c1 ?c2 ?c0 ?c3 ?c4 ?c5 ?c6 (fun pre W => One W (G + 1 + 1) 4 (.bool false) ∧ ∀ x ∈ pre, at' q.1 x.1 ≤ at' p.1 x.1 ∧ at' p.2 x.1 ≤ at' q.2 x.1) (fun c W => (c = .ret ∧ within p q = false) ∧ One W (G + 1 + 1) 4 (.bool false)) ?c7 ?c8 ?c9 ?hassign ?hbody ?hdone ?hstop
    case c0 => exact Two.new _ _ _ _
    case c1 => intro j hj; rw [List.mem_singleton] at hj; omega
    case c2 => rw [hs3]; omega
    case c3 => simp; omega
    case c4 => rw [hs3]; simp; omega
    case c5 => have := hp.len; omega
    case c6 =>
      intro w' hb
      exact HX.out.below (by rw [hG]; exact hB3.trans hb)
    case c7 => exact OwnFrom.and (own_one (by rw [hs3]; omega)) own_pure
    case c8 => intro c'; exact OwnFrom.and own_pure (own_one (by rw [hs3]; omega))
    case c9 => exact ⟨HO.out.below (below_new _ _), fun x hx => by cases hx⟩
    case hassign =>
      intro l m i a b W K hK
      unfold rng at hK ⊢
      simp only [roundT, List.setIfInBounds_toArray, List.set_cons_succ, List.set_cons_zero] at hK ⊢
      gi_wp2
      exact hK
    case hbody =>
      rintro l m pre x Bx W hBx hT hx ⟨hO, hI⟩ hlen
      simp only [roundT, List.setIfInBounds_toArray, List.set_cons_succ, List.set_cons_zero]
      have hBG : Below G w W := hB3.trans (hx.below (by rw [hs3]; omega) (by intro j hj; rw [List.mem_singleton] at hj; omega))
      have hT2 : TwoX W (G + 1) (.slice A2 n2 c2) (.slice A2' n2' c2') := (hx.block (G + 1) (by rw [hs3]; omega) (by simp)).trans (HT2.out.below (below_new _ _))
      have hc2 := hT2.two.c0
      have hc3 := hT2.two.c1
      have hxl := x.2
      have HS := Lib.hid (side_calls _ q x.1 W (HX2.out.below (by rw [hG]; exact hBG)) (by omega) (by have := hq.len; omega))
      have hWB : w1.heap.size + 1 ≤ W.heap.size := by have := hx.size; rw [hs3] at this; exact this
      gi_wp2
      refine ⟨trivial, (fun hh => by cases hh), CallsIn.inRound l ((callsIn_wide.2 HS.out).mono ?_)⟩
      rintro e w2 ⟨rfl, hb⟩
      have hbn := below_new w2 (.cells #[.int .i64 (at' q.1 x.1), .int .i64 (at' q.2 x.1)] 78)
      have hT' := (hT.below hb).below hbn
      have hO' := (hO.below hb).below hbn
      have hT0 := hT'.c0
      have hT1 := hT'.c1
      have hO0 := hO'.cell
      have hO1 := hO'.frozen
      have hTU : Turn [G + 1 + 1] (w1.heap.size + 1) W (w2.alloc (.cells #[.int .i64 (at' q.1 x.1), .int .i64 (at' q.2 x.1)] 78)) := Turn.of_below (Below.andThen hb hbn) hWB
      have HOO := Lib.hid hO'
      have HTU := Lib.hid hTU
      clear hbn hT' hO' hTU hb
      unfold rng
      by_cases hlo : at' q.1 x.1 ≤ at' p.1 x.1
      · by_cases hhi : at' p.2 x.1 ≤ at' q.2 x.1
        · gi_wp2
          rw [hs3]
          exact ⟨HTU.out, HOO.out, fun y hy => by rcases List.mem_append.1 hy with h | h; exact hI y h; rw [List.mem_singleton] at h; subst h; exact ⟨hlo, hhi⟩⟩
        · gi_wp2
          rw [hs3]
          exact ⟨HTU.out.trans (Turn.setCell _ (by simp)), ⟨rfl, within_not (by omega) (by have := hp.len; omega) hxl (.inr (by omega))⟩, HOO.out.set _⟩
      · gi_wp2
        rw [hs3]
        exact ⟨HTU.out.trans (Turn.setCell _ (by simp)), ⟨rfl, within_not (by omega) (by have := hp.len; omega) hxl (.inl (by omega))⟩, HOO.out.set _⟩
    case hdone =>
      rintro D ys W hD hys hx ⟨hO, hI⟩ hK
      have hO0 := hO.cell
      have hO1 := hO.frozen
      have hle : within p q = true := (within_iff (by omega) (by have := hp.len; omega)).2 (all_range hys hI)
      rw [hs3] at hD
      go_wp2_with fail
      refine leave_bool (fn := Try.f21) rfl rfl rfl Try.underlying4 (hO.set _) ?_ (by omega) ⟨by rw [hle], ?_⟩
      · exact (Below.heap_setCell _ _ _ _ (by show D ≠ G + 1 + 1; omega)).trans hK
      · rw [hG]; exact below_mark (((hB3.trans (hx.below (by rw [hs3]; omega) (by intro j hj; rw [List.mem_singleton] at hj; omega))).setCell (p := ⟨G + 1 + 1, 0, none⟩) (by show G ≤ G + 1 + 1; omega) _)) (by omega)
    case hstop =>
      rintro D c W hD hx ⟨⟨rfl, hle⟩, hO⟩ hK
      rw [hs3] at hD
      go_wp2_with fail
      refine leave_bool (fn := Try.f21) rfl rfl rfl Try.underlying4 hO hK (by omega) ⟨by rw [hle], ?_⟩
      rw [hG]
      exact below_mark (hB3.trans (hx.below (by rw [hs3]; omega) (by intro j hj; rw [List.mem_singleton] at hj; omega))) (by omega)
  · have hal' : balike p q = false := by simpa using hal
    rw [hal'] at HA ⊢
    rw [Bool.false_and]
    go_wp2_with fail
    refine (HA.out _ HB0.out).mono ?_
    rintro e w1 ⟨rfl, hb⟩
    have HB1 := Lib.hid (HB0.out.trans (hb.mono HB0.out.size))
    have HO := Lib.hid (hO.below hb)
    have hc0 := HO.out.cell
    have hf0 := HO.out.frozen
    clear hb hT1 hT2 hO
    go_wp2_with fail
    exact leave_bool0 (fn := Try.f21) rfl rfl rfl Try.underlying4 (HO.out.set _) ⟨rfl, HB1.out.setCell (p := ⟨w.heap.size + 1 + 1, 0, none⟩) (by show w.heap.size ≤ w.heap.size + 1 + 1; omega) _⟩
end Go.Proofs.Ytlcdjabfkfmpdaa.bk
