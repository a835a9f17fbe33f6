/- Meet. -/
import Derived.Test.YtlcdjabfkfmpdaaBf

namespace Go.Proofs.Ytlcdjabfkfmpdaa.bk

open Go.ChangeShapes Go.WideShapes Go.ChangeAt Go.RowKit

open Go.Proofs.Ytlcdjabfkfmpdaa.bq Go.Proofs.Ytlcdjabfkfmpdaa.vk Go.Proofs.Ytlcdjabfkfmpdaa.wk

set_option linter.unusedVariables false
def meetR (p q : Pair) : Pair × Bool × Int := if balike p q then (if bvalid (meet p q) then (meet p q, true, 0) else (([], []), false, 0)) else (([], []), false, 1)
set_option maxRecDepth 100000 in
set_option maxHeartbeats 4000000 in
theorem meet_calls (v u : Value) (p q : Pair) (w : World) (h : IsX w v p) (h2 : IsX w u q) :
    Calls Try.prog 14 #[v, u] w fun e w' => ∃ x, e = .returned (.tuple #[x, .bool (meetR p q).2.1, .int .i64 (meetR p q).2.2]) ∧ IsX w' x (meetR p q).1 ∧ Below w.heap.size w w' := by
  have HA := Lib.hid (fun w' hb => alike_calls v u p q w' (h.below hb) (h2.below hb))
  obtain ⟨A, n, c, A', n', c', rfl, hi, hi'⟩ := h
  obtain ⟨A2, n2, c2, A2', n2', c2', rfl, hi2, hi2'⟩ := h2
  have HB0 := Lib.hid (Below.andThen (Below.andThen (below_new w (.cells #[.slice A n c, .slice A' n' c'] 25)) (below_new _ (.cells #[.slice A2 n2 c2, .slice A2' n2' c2'] 25))) (below_new _ (.cells #[.slice none 0 0, .slice none 0 0] 25)))
  have hT1 := ((Two.new w (.slice A n c) (.slice A' n' c') 25).below (below_new _ (.cells #[.slice A2 n2 c2, .slice A2' n2' c2'] 25))).below (below_new _ (.cells #[.slice none 0 0, .slice none 0 0] 25))
  have hT2 := (Two.new (w.alloc (.cells #[.slice A n c, .slice A' n' c'] 25)) (.slice A2 n2 c2) (.slice A2' n2' c2') 25).below (below_new _ (.cells #[.slice none 0 0, .slice none 0 0] 25))
  have hT3 := TwoX.new ((w.alloc (.cells #[.slice A n c, .slice A' n' c'] 25)).alloc (.cells #[.slice A2 n2 c2, .slice A2' n2' c2'] 25)) (.slice none 0 0) (.slice none 0 0)
  simp only [size_new] at hT2 hT3
  by_cases hal : balike p q = true
  · obtain ⟨hl, hp, hq⟩ := balike_iff.1 hal
    have hn1 := hp.lo.le
    have hnn := hp.len
    have hnn2 := hq.len
    have HJ1 := Lib.hid (fun w' (hb : Below w.heap.size w w') => joined_calls 45 (.inr rfl) A A2 n c n2 c2 p.1 q.1 w' (isI_below hi hb) (isI_below hi2 hb) (by rw [← hi.1, ← hi2.1]; omega) (by rw [← hi.1]; omega))
    have HJ2 := Lib.hid (fun w' (hb : Below w.heap.size w w') => joined_calls 44 (.inl rfl) A' A2' n' c' n2' c2' p.2 q.2 w' (isI_below hi' hb) (isI_below hi2' hb) (by rw [← hi'.1, ← hi2'.1]; omega) (by rw [← hi'.1]; omega))
    clear hi hi' hi2 hi2'
    rw [hal] at HA
    have HR : Hid (meetR p q = if bvalid (meet p q) then (meet p q, true, 0) else (([], []), false, 0)) := by show _ = _; rw [meetR, if_pos hal]
    go_enter Try.func14, Try.ntmps14
    go_wp2_with fail
    refine (HA.out _ HB0.out).mono ?_
    rintro e w1 ⟨rfl, hb⟩
    have HB1 := Lib.hid (HB0.out.trans (hb.mono HB0.out.size))
    have HT1 := Lib.hid (hT1.below hb)
    have HT2 := Lib.hid (hT2.below hb)
    have HT3 := Lib.hid (hT3.below hb)
    replace HJ1 := Lib.hid (fun w' (hb : Below w1.heap.size w1 w') => HJ1.out w' (HB1.out.trans (hb.mono HB1.out.size)))
    replace HJ2 := Lib.hid (fun w' (hb : Below w1.heap.size w1 w') => HJ2.out w' (HB1.out.trans (hb.mono HB1.out.size)))
    clear hb hT1 hT2 hT3
    go_wp2_with fail
    generalize hG : w.heap.size = G at *
    refine wk.region_tailS 12 [.is (.pointer (some ⟨G, 0, none⟩)), .is (.slice A n c), .is (.pointer (some ⟨G + 1, 0, none⟩)), .is (.slice A2 n2 c2), .st (fun u x => IsV u x (joinf 45 p.1 q.1)) (fun u u2 x h hb => h.below hb), .is (.pointer (some ⟨G, 1, none⟩)), .is (.slice A' n' c'), .is (.pointer (some ⟨G + 1, 1, none⟩)), .is (.slice A2' n2' c2'), .st (fun u x => IsV u x (joinf 44 p.2 q.2)) (fun u u2 x h hb => h.below hb), .st (fun u x => IsX u x (joinf 45 p.1 q.1, joinf 44 p.2 q.2)) (fun u u2 x h hb => h.below hb), .st (fun u x => ∃ g, x = .pointer (some ⟨g, 0, none⟩) ∧ TwoX u g (.slice none 0 0) (.slice none 0 0) ∧ w1.heap.size ≤ g) (fun u u2 x h hb => by obtain ⟨g, h1, h2, h3⟩ := h; exact ⟨g, h1, h2.below hb, h3⟩)] [some 13, some 14, some 15, some 16, some 17, some 18, some 19, some 20, some 21, some 22, some 23, some 7] (by kernel_rfl) (by kernel_rfl) (by kernel_rfl) (by kernel_rfl) [] (by kernel_rfl) (by intro p hp; cases hp) (by kernel_rfl) (by kernel_rfl) ?hstep ?hdone
    case hstep =>
      intro i o ho hi hns E w4 hb4 D
      have hi2 : i = 0 ∨ i = 1 ∨ i = 2 ∨ i = 3 ∨ i = 4 ∨ i = 5 ∨ i = 6 ∨ i = 7 ∨ i = 8 ∨ i = 9 ∨ i = 10 ∨ i = 11 := by omega
      clear hi
      rcases hi2 with rfl | rfl | rfl | rfl | rfl | rfl | rfl | rfl | rfl | rfl | rfl | rfl
      ·
        have ho2 := (Array.getElem?_eq_some_iff.1 ho).2
        simp only [List.getElem_toArray, List.getElem_cons_zero] at ho2
        subst ho2
        clear ho
        have e2 := D.old 2 (by kernel_rfl)
        exact wk.does_run (by simp only [execOp]; rw [show E (.tmp 2) = .pointer (some ⟨G, 0, none⟩) by rw [e2]; rfl]; go_simp) rfl
      ·
        have ho2 := (Array.getElem?_eq_some_iff.1 ho).2
        simp only [List.getElem_toArray, List.getElem_cons_succ, List.getElem_cons_zero] at ho2
        subst ho2
        clear ho
        have e13 := D.is { on := 0, ground := .data } (by simp) rfl rfl 13 rfl
        exact wk.does_load1 rfl e13 ((HT1.out.below ((Below.refl _ _).drew.trans hb4)).c0) Try.underlying23 rfl rfl
      ·
        have ho2 := (Array.getElem?_eq_some_iff.1 ho).2
        simp only [List.getElem_toArray, List.getElem_cons_succ, List.getElem_cons_zero] at ho2
        subst ho2
        clear ho
        have e3 := D.old 3 (by kernel_rfl)
        exact wk.does_run (by simp only [execOp]; rw [show E (.tmp 3) = .pointer (some ⟨G + 1, 0, none⟩) by rw [e3]; rfl]; go_simp) rfl
      ·
        have ho2 := (Array.getElem?_eq_some_iff.1 ho).2
        simp only [List.getElem_toArray, List.getElem_cons_succ, List.getElem_cons_zero] at ho2
        subst ho2
        clear ho
        have e15 := D.is { on := 2, ground := .data } (by simp) rfl rfl 15 rfl
        exact wk.does_load1 rfl e15 ((HT2.out.below ((Below.refl _ _).drew.trans hb4)).c0) Try.underlying23 rfl rfl
      ·
        have ho2 := (Array.getElem?_eq_some_iff.1 ho).2
        simp only [List.getElem_toArray, List.getElem_cons_succ, List.getElem_cons_zero] at ho2
        subst ho2
        clear ho
        have e14 := D.is { on := 1, ground := .data } (by simp) rfl rfl 14 rfl
        have e16 := D.is { on := 3, ground := .data } (by simp) rfl rfl 16 rfl
        refine wk.does_fn (f := 43) (vs := #[.slice A n c, .slice A2 n2 c2, .func (.func 45) #[] #[]]) rfl (D.fn _) (by simp [e14, e16, D.fn _]) (by go_simp) ?_
        refine (HJ1.out w4 ((Below.refl _ _).drew.trans hb4)).mono ?_
        rintro e w7 ⟨v7, rfl, hI7, hb7⟩
        exact ⟨_, rfl, hb7, hI7⟩
      ·
        have ho2 := (Array.getElem?_eq_some_iff.1 ho).2
        simp only [List.getElem_toArray, List.getElem_cons_succ, List.getElem_cons_zero] at ho2
        subst ho2
        clear ho
        have e2 := D.old 2 (by kernel_rfl)
        exact wk.does_run (by simp only [execOp]; rw [show E (.tmp 2) = .pointer (some ⟨G, 0, none⟩) by rw [e2]; rfl]; go_simp) rfl
      ·
        have ho2 := (Array.getElem?_eq_some_iff.1 ho).2
        simp only [List.getElem_toArray, List.getElem_cons_succ, List.getElem_cons_zero] at ho2
        subst ho2
        clear ho
        have e18 := D.is { on := 5, ground := .data } (by simp) rfl rfl 18 rfl
        exact wk.does_load1 rfl e18 ((HT1.out.below ((Below.refl _ _).drew.trans hb4)).c1) Try.underlying23 rfl rfl
      ·
        have ho2 := (Array.getElem?_eq_some_iff.1 ho).2
        simp only [List.getElem_toArray, List.getElem_cons_succ, List.getElem_cons_zero] at ho2
        subst ho2
        clear ho
        have e3 := D.old 3 (by kernel_rfl)
        exact wk.does_run (by simp only [execOp]; rw [show E (.tmp 3) = .pointer (some ⟨G + 1, 0, none⟩) by rw [e3]; rfl]; go_simp) rfl
      ·
        have ho2 := (Array.getElem?_eq_some_iff.1 ho).2
        simp only [List.getElem_toArray, List.getElem_cons_succ, List.getElem_cons_zero] at ho2
        subst ho2
        clear ho
        have e20 := D.is { on := 7, ground := .data } (by simp) rfl rfl 20 rfl
        exact wk.does_load1 rfl e20 ((HT2.out.below ((Below.refl _ _).drew.trans hb4)).c1) Try.underlying23 rfl rfl
      ·
        have ho2 := (Array.getElem?_eq_some_iff.1 ho).2
        simp only [List.getElem_toArray, List.getElem_cons_succ, List.getElem_cons_zero] at ho2
        subst ho2
        clear ho
        have e19 := D.is { on := 6, ground := .data } (by simp) rfl rfl 19 rfl
        have e21 := D.is { on := 8, ground := .data } (by simp) rfl rfl 21 rfl
        refine wk.does_fn (f := 43) (vs := #[.slice A' n' c', .slice A2' n2' c2', .func (.func 44) #[] #[]]) rfl (D.fn _) (by simp [e19, e21, D.fn _]) (by go_simp) ?_
        refine (HJ2.out w4 ((Below.refl _ _).drew.trans hb4)).mono ?_
        rintro e w7 ⟨v7, rfl, hI7, hb7⟩
        exact ⟨_, rfl, hb7, hI7⟩
      ·
        have ho2 := (Array.getElem?_eq_some_iff.1 ho).2
        simp only [List.getElem_toArray, List.getElem_cons_succ, List.getElem_cons_zero] at ho2
        subst ho2
        clear ho
        have s17 := D.st { on := 4, ground := .data } (by simp) rfl rfl 17 rfl
        have s22 := D.st { on := 9, ground := .data } (by simp) rfl rfl 22 rfl
        obtain ⟨A7, n7, c7, e7, hI7⟩ := s17
        obtain ⟨A8, n8, c8, e8, hI8⟩ := s22
        exact wk.does_run (by simp only [execOp, List.map_toArray, List.map_cons, List.map_nil]; rw [show E (.tmp 17) = _ from e7, show E (.tmp 22) = _ from e8]; go_simp) ⟨A7, n7, c7, A8, n8, c8, rfl, hI7, hI8⟩
      ·
        have ho2 := (Array.getElem?_eq_some_iff.1 ho).2
        simp only [List.getElem_toArray, List.getElem_cons_succ, List.getElem_cons_zero] at ho2
        subst ho2
        clear ho
        exact wk.does_new (w' := w4.alloc (.cells #[.slice none 0 0, .slice none 0 0] 25)) (by simp only [execOp]; go_simp) (below_new _ _) ⟨_, rfl, TwoX.new _ _ _, hb4.size⟩
    case hdone =>
      intro vals w4 hb4 hv
      have h10 := hv 10 (by omega)
      have h11 := hv 11 (by omega)
      clear hv
      simp only [List.drop_succ_cons, List.drop_zero, wk.setL, List.setIfInBounds_toArray, List.set_cons_zero, List.set_cons_succ, Nat.zero_add, Nat.reduceAdd]
      generalize vals 0 = x0
      generalize vals 1 = x1
      generalize vals 2 = x2
      generalize vals 3 = x3
      generalize vals 4 = x4
      generalize vals 5 = x5
      generalize vals 6 = x6
      generalize vals 7 = x7
      generalize vals 8 = x8
      generalize vals 9 = x9
      generalize vals 10 = x10 at *
      generalize vals 11 = x11 at *
      obtain ⟨A7, n7, c7, A8, n8, c8, rfl, hI7, hI8⟩ := h10
      obtain ⟨g, rfl, hg, hgB⟩ := h11
      have hb5 := ((Below.refl _ _).drew.trans hb4 : Below w1.heap.size w1 w4)
      have hs3 := (Array.getElem?_eq_some_iff.1 HT3.out).1
      have hc0 := hg.two.c0
      have hc1 := hg.two.c1
      have hf0 := hg.f0 0
      have hf1 := hg.f0 1
      have hB5 := HB1.out.trans (hb5.mono (by rw [← hG]; exact HB1.out.size))
      have hGg : G ≤ g := by omega
      have HB6 := Lib.hid (below_set2 hB5 hGg (.slice A7 n7 c7) (.slice A8 n8 c8))
      have HT4 : Hid (TwoX ((w4.setCell ⟨g, 0, none⟩ (.slice A7 n7 c7)).setCell ⟨g, 1, none⟩ (.slice A8 n8 c8)) (G + 1 + 1) (.slice none 0 0) (.slice none 0 0)) := (set2_other w4 g _ _ (G + 1 + 1) (by omega)).trans (HT3.out.below hb5)
      have hX5 : IsX ((w4.setCell ⟨g, 0, none⟩ (.slice A7 n7 c7)).setCell ⟨g, 1, none⟩ (.slice A8 n8 c8)) (.agg #[.slice A7 n7 c7, .slice A8 n8 c8]) (meet p q) := ⟨_, _, _, _, _, _, rfl, isI_set2 hI7 hg _ _, isI_set2 hI8 hg _ _⟩
      have hg2 := hg.set (.slice A7 n7 c7) (.slice A8 n8 c8)
      clear hb4 hb5 hs3 hI7 hI8 hg hB5
      go_wp2_with fail
      generalize (w4.setCell ⟨g, 0, none⟩ (.slice A7 n7 c7)).setCell ⟨g, 1, none⟩ (.slice A8 n8 c8) = w5 at *
      clear hc0 hc1 hf0 hf1
      have hc0 := hg2.two.c0
      have hc1 := hg2.two.c1
      have HX5 := Lib.hid hX5
      have HG2 := Lib.hid hg2
      have HV := Lib.hid (valid_calls _ _ _ hX5)
      clear hX5 hg2
      go_wp2_with fail
      refine HV.out.mono ?_
      rintro e w6 ⟨rfl, hb⟩
      have hr := HR.out
      have HB7 := Lib.hid (HB6.out.trans (hb.mono (by rw [← hG]; exact HB6.out.size)))
      have hx3 := HT4.out.below hb
      have hc3 := hx3.two.c0
      have hc4 := hx3.two.c1
      have hf3 := hx3.f0 0
      have hf4 := hx3.f0 1
      cases hv : bvalid (meet p q)
      · rw [hv] at hr
        simp only [if_false, Bool.false_eq_true] at hr
        have HRR := Lib.hid hr
        have HX3 := Lib.hid (hx3.set (.slice none 0 0) (.slice none 0 0))
        clear hb hx3 hr
        go_wp2_with fail
        rw [HRR.out, hG]
        exact bodyPost_ret (v := .tuple #[.agg #[.slice none 0 0, .slice none 0 0], .bool false, .int .i64 0]) (res_x2 (fn := Try.f14) rfl _ _ (G + 1 + 1) _ _ rfl HX3.out) rfl ⟨_, rfl, isX_nil _, below_set2 HB7.out (by omega) _ _⟩
      · rw [hv] at hr
        simp only [if_true] at hr
        have HRR := Lib.hid hr
        have hg3 := HG2.out.below hb
        have hc5 := hg3.two.c0
        have hc6 := hg3.two.c1
        have HX3 := Lib.hid (hx3.set (.slice A7 n7 c7) (.slice A8 n8 c8))
        obtain ⟨_, _, _, _, _, _, he, hi1, hi2⟩ := HX5.out.below hb
        cases he
        have HX6 := Lib.hid (⟨_, _, _, _, _, _, rfl, isI_set2 hi1 hx3 _ _, isI_set2 hi2 hx3 _ _⟩ : IsX ((w6.setCell ⟨G + 1 + 1, 0, none⟩ (.slice A7 n7 c7)).setCell ⟨G + 1 + 1, 1, none⟩ (.slice A8 n8 c8)) (.agg #[.slice A7 n7 c7, .slice A8 n8 c8]) (meet p q))
        clear hb hx3 hr hg3 hi1 hi2
        go_wp2_with fail
        rw [HRR.out, hG]
        exact bodyPost_ret (v := .tuple #[.agg #[.slice A7 n7 c7, .slice A8 n8 c8], .bool true, .int .i64 0]) (res_x2 (fn := Try.f14) rfl _ _ (G + 1 + 1) _ _ rfl HX3.out) rfl ⟨_, rfl, HX6.out, below_set2 HB7.out (by omega) _ _⟩
  · have hal' : balike p q = false := by simpa using hal
    have hR : meetR p q = (([], []), false, 1) := by rw [meetR, if_neg hal]
    clear hi hi' hi2 hi2' hT1 hT2
    rw [hal'] at HA
    rw [hR]
    have HT3 := Lib.hid hT3
    clear hT3
    go_enter Try.func14, Try.ntmps14
    go_wp2_with fail
    refine (HA.out _ HB0.out).mono ?_
    rintro e w1 ⟨rfl, hb⟩
    have HB1 := Lib.hid (HB0.out.trans (hb.mono HB0.out.size))
    have hx3 := HT3.out.below hb
    have hc0 := hx3.two.c0
    have hc1 := hx3.two.c1
    have hf0 := hx3.f0 0
    have hf1 := hx3.f0 1
    have HX3 := Lib.hid hx3
    clear hb hx3
    go_wp2_with fail
    exact bodyPost_ret (v := .tuple #[.agg #[.slice none 0 0, .slice none 0 0], .bool false, .int .i64 1]) (res_x2 (fn := Try.f14) rfl _ _ (w.heap.size + 1 + 1) _ _ rfl (HX3.out.set _ _)) rfl ⟨_, rfl, isX_nil _, below_set2 HB1.out (by omega) _ _⟩
end Go.Proofs.Ytlcdjabfkfmpdaa.bk
