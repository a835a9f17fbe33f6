/- Join, Meet. -/
import Derived.Test.YtlcdjabfkfmpdaaBe

namespace Go.Proofs.Ytlcdjabfkfmpdaa.bk

open Go.ChangeShapes Go.WideShapes Go.ChangeAt Go.RowKit

open Go.Proofs.Ytlcdjabfkfmpdaa.bq Go.Proofs.Ytlcdjabfkfmpdaa.vk Go.Proofs.Ytlcdjabfkfmpdaa.wk

set_option linter.unusedVariables false
theorem joinf_lesser (a b : List Int) : joinf 44 a b = mins a b := rfl
theorem joinf_greater (a b : List Int) : joinf 45 a b = maxs a b := rfl
theorem res_x1 {fn : Func} {p u : Tmp} (h : fn.results = #[.cell p 25, .tmp u]) (tmps : Array Value) (w : World) (g : Nat) (a b : Value) (hp : tmps.getD p undef = .pointer (some ⟨g, 0, none⟩)) (hg : w.heap[g]? = some (.cells #[a, b] 25 (0, 0))) :
    (results fn tmps).run Try.prog w = .ok (.tuple #[.agg #[a, b], tmps.getD u undef]) w := by
  have hp' : tmps[p]?.getD undef = .pointer (some ⟨g, 0, none⟩) := by simpa using hp
  simp [results, h, hp', asAddr, run_loadVar_row w g _ _ #[a, b] (0, 0) _ hg Try.underlying25 rfl (by kernel_rfl)]
theorem res_x2 {fn : Func} {p u v : Tmp} (h : fn.results = #[.cell p 25, .tmp u, .tmp v]) (tmps : Array Value) (w : World) (g : Nat) (a b : Value) (hp : tmps.getD p undef = .pointer (some ⟨g, 0, none⟩)) (hg : w.heap[g]? = some (.cells #[a, b] 25 (0, 0))) :
    (results fn tmps).run Try.prog w = .ok (.tuple #[.agg #[a, b], tmps.getD u undef, tmps.getD v undef]) w := by
  have hp' : tmps[p]?.getD undef = .pointer (some ⟨g, 0, none⟩) := by simpa using hp
  simp [results, h, hp', asAddr, run_loadVar_row w g _ _ #[a, b] (0, 0) _ hg Try.underlying25 rfl (by kernel_rfl)]
theorem isX_nil (w : World) : IsX w (.agg #[.slice none 0 0, .slice none 0 0]) ([], []) := by
  have h : wo.IsI w none 0 0 [] := ⟨rfl, Nat.le_refl _, by omega, fun h => absurd h (by simp), by simp⟩
  exact ⟨_, _, _, _, _, _, rfl, h, h⟩
/-- a variable of two cells, its type known -/
def TwoX (w : World) (g : Nat) (a b : Value) : Prop := w.heap[g]? = some (.cells #[a, b] 25 (0, 0))
theorem TwoX.two {w : World} {g : Nat} {a b : Value} (h : TwoX w g a b) : Two w g a b := ⟨_, h⟩
theorem TwoX.below {w w' : World} {g : Nat} {a b : Value} (h : TwoX w g a b) (hb : Below w.heap.size w w') : TwoX w' g a b := (hb.block g (Array.getElem?_eq_some_iff.1 h).1).trans h
theorem TwoX.f0 {w : World} {g : Nat} {a b : Value} (h : TwoX w g a b) (j : Nat) : w.frozen? ⟨g, j, none⟩ = false := frozen_of_row _ _ _ _ _ h
theorem TwoX.set {w : World} {g : Nat} {a b : Value} (h : TwoX w g a b) (x y : Value) : TwoX ((w.setCell ⟨g, 0, none⟩ x).setCell ⟨g, 1, none⟩ y) g x y := by
  have h1 := heap_setCell_same w g 0 #[a, b] 25 x h
  have h2 := heap_setCell_same (w.setCell ⟨g, 0, none⟩ x) g 1 _ 25 y h1
  exact h2
theorem TwoX.notInt {w : World} {g : Nat} {A A' : Option Addr} {n c n' c' : Nat} (h : TwoX w g (.slice A n c) (.slice A' n' c')) (o : Nat) (x : Int) : w.cell? ⟨g, o, none⟩ ≠ some (.int .i64 x) := by
  rw [cell_of_row _ _ _ _ _ _ h]
  intro hh
  match o with
  | 0 => cases hh
  | 1 => cases hh
  | o + 2 => simp at hh
theorem isI_but {w w' : World} {g : Nat} {A : Option Addr} {n c : Nat} {l : List Int} (h : wo.IsI w A n c l) (hne : ∀ o x, w.cell? ⟨g, o, none⟩ ≠ some (.int .i64 x)) (hs : w.heap.size ≤ w'.heap.size) (hk : ∀ k, k < w.heap.size → k ≠ g → w'.heap[k]? = w.heap[k]?) : wo.IsI w' A n c l := by
  refine ⟨h.1, h.2.1, h.2.2.1, fun hp => ?_, h.2.2.2.2⟩
  obtain ⟨b, o, rfl, hb, hc⟩ := h.2.2.2.1 hp
  have hbg : b ≠ g := by
    rintro rfl
    have hp' : 0 < l.length := by simpa using hp
    have h0 := hc 0 (.int .i64 l[0]) (by simp [hp'])
    exact hne _ _ h0
  exact ⟨b, o, rfl, Nat.lt_of_lt_of_le hb hs, fun j u hu => (World.cell?_of_block (hk b hb hbg)).trans (hc j u hu)⟩
theorem set2_size (w : World) (g : Nat) (x y : Value) : ((w.setCell ⟨g, 0, none⟩ x).setCell ⟨g, 1, none⟩ y).heap.size = w.heap.size := by simp
theorem set2_other (w : World) (g : Nat) (x y : Value) (k : Nat) (hk : k ≠ g) : ((w.setCell ⟨g, 0, none⟩ x).setCell ⟨g, 1, none⟩ y).heap[k]? = w.heap[k]? :=
  (Below.heap_setCell _ _ _ _ hk).trans (Below.heap_setCell _ _ _ _ hk)
theorem isI_set2 {w : World} {g : Nat} {A A1 A2 : Option Addr} {n c n1 c1 n2 c2 : Nat} {l : List Int} (h : wo.IsI w A n c l) (hg : TwoX w g (.slice A1 n1 c1) (.slice A2 n2 c2)) (x y : Value) : wo.IsI ((w.setCell ⟨g, 0, none⟩ x).setCell ⟨g, 1, none⟩ y) A n c l :=
  isI_but h hg.notInt (by rw [set2_size]; exact Nat.le_refl _) (fun k _ hk => set2_other w g x y k hk)
theorem below_set2 {n g : Nat} {w0 w : World} (h : Below n w0 w) (hg : n ≤ g) (x y : Value) : Below n w0 ((w.setCell ⟨g, 0, none⟩ x).setCell ⟨g, 1, none⟩ y) :=
  (h.setCell (p := ⟨g, 0, none⟩) hg _).setCell (p := ⟨g, 1, none⟩) hg _
theorem TwoX.new (w : World) (a b : Value) : TwoX (w.alloc (.cells #[a, b] 25)) w.heap.size a b := heap_alloc_new w _
set_option maxRecDepth 100000 in
set_option maxHeartbeats 2000000 in
theorem join_calls (v u : Value) (p q : Pair) (w : World) (h : IsX w v p) (h2 : IsX w u q) :
    Calls Try.prog 13 #[v, u] w fun e w' => ∃ x, e = .returned (.tuple #[x, .int .i64 (if balike p q then 0 else 1)]) ∧ IsX w' x (if balike p q then join p q else ([], [])) ∧ Below w.heap.size w w' := by
  have HA := Lib.hid (fun w' hb => alike_calls v u p q w' (h.below hb) (h2.below hb))
  obtain ⟨A, n, c, A', n', c', rfl, hi, hi'⟩ := h
  obtain ⟨A2, n2, c2, A2', n2', c2', rfl, hi2, hi2'⟩ := h2
  have HB0 := Lib.hid (Below.andThen (Below.andThen (below_new w (.cells #[.slice A n c, .slice A' n' c'] 25)) (below_new _ (.cells #[.slice A2 n2 c2, .slice A2' n2' c2'] 25))) (below_new _ (.cells #[.slice none 0 0, .slice none 0 0] 25)))
  have hT1 := ((Two.new w (.slice A n c) (.slice A' n' c') 25).below (below_new _ (.cells #[.slice A2 n2 c2, .slice A2' n2' c2'] 25))).below (below_new _ (.cells #[.slice none 0 0, .slice none 0 0] 25))
  have hT2 := (Two.new (w.alloc (.cells #[.slice A n c, .slice A' n' c'] 25)) (.slice A2 n2 c2) (.slice A2' n2' c2') 25).below (below_new _ (.cells #[.slice none 0 0, .slice none 0 0] 25))
  have hT3 := TwoX.new ((w.alloc (.cells #[.slice A n c, .slice A' n' c'] 25)).alloc (.cells #[.slice A2 n2 c2, .slice A2' n2' c2'] 25)) (.slice none 0 0) (.slice none 0 0)
  simp only [size_new] at hT2 hT3
  by_cases hal : balike p q = true
  · obtain ⟨hl, hp, hq⟩ := balike_iff.1 hal
    have hn1 := hp.lo.le
    have hnn := hp.len
    have hnn2 := hq.len
    have HJ1 := Lib.hid (fun w' (hb : Below w.heap.size w w') => joined_calls 44 (.inl rfl) A A2 n c n2 c2 p.1 q.1 w' (isI_below hi hb) (isI_below hi2 hb) (by rw [← hi.1, ← hi2.1]; omega) (by rw [← hi.1]; omega))
    have HJ2 := Lib.hid (fun w' (hb : Below w.heap.size w w') => joined_calls 45 (.inr rfl) A' A2' n' c' n2' c2' p.2 q.2 w' (isI_below hi' hb) (isI_below hi2' hb) (by rw [← hi'.1, ← hi2'.1]; omega) (by rw [← hi'.1]; omega))
    clear hi hi' hi2 hi2'
    rw [hal] at HA ⊢
    go_enter Try.func13, Try.ntmps13
    go_wp2_with fail
    refine (HA.out _ HB0.out).mono ?_
    rintro e w1 ⟨rfl, hb⟩
    have HB1 := Lib.hid (HB0.out.trans (hb.mono HB0.out.size))
    have HT1 := Lib.hid (hT1.below hb)
    have HT2 := Lib.hid (hT2.below hb)
    have HT3 := Lib.hid (hT3.below hb)
    replace HJ1 := Lib.hid (fun w' (hb : Below w1.heap.size w1 w') => HJ1.out w' (HB1.out.trans (hb.mono HB1.out.size)))
    replace HJ2 := Lib.hid (fun w' (hb : Below w1.heap.size w1 w') => HJ2.out w' (HB1.out.trans (hb.mono HB1.out.size)))
    clear hb hT1 hT2 hT3
    go_wp2_with fail
    generalize hG : w.heap.size = G at *
    refine wk.region_tailS 11 [.is (.pointer (some ⟨G, 0, none⟩)), .is (.slice A n c), .is (.pointer (some ⟨G + 1, 0, none⟩)), .is (.slice A2 n2 c2), .st (fun u x => IsV u x (joinf 44 p.1 q.1)) (fun u u2 x h hb => h.below hb), .is (.pointer (some ⟨G, 1, none⟩)), .is (.slice A' n' c'), .is (.pointer (some ⟨G + 1, 1, none⟩)), .is (.slice A2' n2' c2'), .st (fun u x => IsV u x (joinf 45 p.2 q.2)) (fun u u2 x h hb => h.below hb), .st (fun u x => IsX u x (joinf 44 p.1 q.1, joinf 45 p.2 q.2)) (fun u u2 x h hb => h.below hb)] [some 11, some 12, some 13, some 14, some 15, some 16, some 17, some 18, some 19, some 20, some 21] (by kernel_rfl) (by kernel_rfl) (by kernel_rfl) (by kernel_rfl) [] (by kernel_rfl) (by intro p hp; cases hp) (by kernel_rfl) (by kernel_rfl) ?hstep ?hdone
    case hstep =>
      intro i o ho hi hns E w4 hb4 D
      have hi2 : i = 0 ∨ i = 1 ∨ i = 2 ∨ i = 3 ∨ i = 4 ∨ i = 5 ∨ i = 6 ∨ i = 7 ∨ i = 8 ∨ i = 9 ∨ i = 10 := by omega
      clear hi
      rcases hi2 with rfl | rfl | rfl | rfl | rfl | rfl | rfl | rfl | rfl | rfl | rfl
      ·
        have ho2 := (Array.getElem?_eq_some_iff.1 ho).2
        simp only [List.getElem_toArray, List.getElem_cons_zero] at ho2
        subst ho2
        clear ho
        have e2 := D.old 2 (by kernel_rfl)
        exact wk.does_run (by simp only [execOp]; rw [show E (.tmp 2) = .pointer (some ⟨G, 0, none⟩) by rw [e2]; rfl]; go_simp) rfl
      ·
        have ho2 := (Array.getElem?_eq_some_iff.1 ho).2
        simp only [List.getElem_toArray, List.getElem_cons_succ, List.getElem_cons_zero] at ho2
        subst ho2
        clear ho
        have e11 := D.is { on := 0, ground := .data } (by simp) rfl rfl 11 rfl
        exact wk.does_load1 rfl e11 ((HT1.out.below ((Below.refl _ _).drew.trans hb4)).c0) Try.underlying23 rfl rfl
      ·
        have ho2 := (Array.getElem?_eq_some_iff.1 ho).2
        simp only [List.getElem_toArray, List.getElem_cons_succ, List.getElem_cons_zero] at ho2
        subst ho2
        clear ho
        have e3 := D.old 3 (by kernel_rfl)
        exact wk.does_run (by simp only [execOp]; rw [show E (.tmp 3) = .pointer (some ⟨G + 1, 0, none⟩) by rw [e3]; rfl]; go_simp) rfl
      ·
        have ho2 := (Array.getElem?_eq_some_iff.1 ho).2
        simp only [List.getElem_toArray, List.getElem_cons_succ, List.getElem_cons_zero] at ho2
        subst ho2
        clear ho
        have e13 := D.is { on := 2, ground := .data } (by simp) rfl rfl 13 rfl
        exact wk.does_load1 rfl e13 ((HT2.out.below ((Below.refl _ _).drew.trans hb4)).c0) Try.underlying23 rfl rfl
      ·
        have ho2 := (Array.getElem?_eq_some_iff.1 ho).2
        simp only [List.getElem_toArray, List.getElem_cons_succ, List.getElem_cons_zero] at ho2
        subst ho2
        clear ho
        have e12 := D.is { on := 1, ground := .data } (by simp) rfl rfl 12 rfl
        have e14 := D.is { on := 3, ground := .data } (by simp) rfl rfl 14 rfl
        refine wk.does_fn (f := 43) (vs := #[.slice A n c, .slice A2 n2 c2, .func (.func 44) #[] #[]]) rfl (D.fn _) (by simp [e12, e14, D.fn _]) (by go_simp) ?_
        refine (HJ1.out w4 ((Below.refl _ _).drew.trans hb4)).mono ?_
        rintro e w7 ⟨v7, rfl, hI7, hb7⟩
        exact ⟨_, rfl, hb7, hI7⟩
      ·
        have ho2 := (Array.getElem?_eq_some_iff.1 ho).2
        simp only [List.getElem_toArray, List.getElem_cons_succ, List.getElem_cons_zero] at ho2
        subst ho2
        clear ho
        have e2 := D.old 2 (by kernel_rfl)
        exact wk.does_run (by simp only [execOp]; rw [show E (.tmp 2) = .pointer (some ⟨G, 0, none⟩) by rw [e2]; rfl]; go_simp) rfl
      ·
        have ho2 := (Array.getElem?_eq_some_iff.1 ho).2
        simp only [List.getElem_toArray, List.getElem_cons_succ, List.getElem_cons_zero] at ho2
        subst ho2
        clear ho
        have e16 := D.is { on := 5, ground := .data } (by simp) rfl rfl 16 rfl
        exact wk.does_load1 rfl e16 ((HT1.out.below ((Below.refl _ _).drew.trans hb4)).c1) Try.underlying23 rfl rfl
      ·
        have ho2 := (Array.getElem?_eq_some_iff.1 ho).2
        simp only [List.getElem_toArray, List.getElem_cons_succ, List.getElem_cons_zero] at ho2
        subst ho2
        clear ho
        have e3 := D.old 3 (by kernel_rfl)
        exact wk.does_run (by simp only [execOp]; rw [show E (.tmp 3) = .pointer (some ⟨G + 1, 0, none⟩) by rw [e3]; rfl]; go_simp) rfl
      ·
        have ho2 := (Array.getElem?_eq_some_iff.1 ho).2
        simp only [List.getElem_toArray, List.getElem_cons_succ, List.getElem_cons_zero] at ho2
        subst ho2
        clear ho
        have e18 := D.is { on := 7, ground := .data } (by simp) rfl rfl 18 rfl
        exact wk.does_load1 rfl e18 ((HT2.out.below ((Below.refl _ _).drew.trans hb4)).c1) Try.underlying23 rfl rfl
      ·
        have ho2 := (Array.getElem?_eq_some_iff.1 ho).2
        simp only [List.getElem_toArray, List.getElem_cons_succ, List.getElem_cons_zero] at ho2
        subst ho2
        clear ho
        have e17 := D.is { on := 6, ground := .data } (by simp) rfl rfl 17 rfl
        have e19 := D.is { on := 8, ground := .data } (by simp) rfl rfl 19 rfl
        refine wk.does_fn (f := 43) (vs := #[.slice A' n' c', .slice A2' n2' c2', .func (.func 45) #[] #[]]) rfl (D.fn _) (by simp [e17, e19, D.fn _]) (by go_simp) ?_
        refine (HJ2.out w4 ((Below.refl _ _).drew.trans hb4)).mono ?_
        rintro e w7 ⟨v7, rfl, hI7, hb7⟩
        exact ⟨_, rfl, hb7, hI7⟩
      ·
        have ho2 := (Array.getElem?_eq_some_iff.1 ho).2
        simp only [List.getElem_toArray, List.getElem_cons_succ, List.getElem_cons_zero] at ho2
        subst ho2
        clear ho
        have s15 := D.st { on := 4, ground := .data } (by simp) rfl rfl 15 rfl
        have s20 := D.st { on := 9, ground := .data } (by simp) rfl rfl 20 rfl
        obtain ⟨A7, n7, c7, e7, hI7⟩ := s15
        obtain ⟨A8, n8, c8, e8, hI8⟩ := s20
        exact wk.does_run (by simp only [execOp, List.map_toArray, List.map_cons, List.map_nil]; rw [show E (.tmp 15) = _ from e7, show E (.tmp 20) = _ from e8]; go_simp) ⟨A7, n7, c7, A8, n8, c8, rfl, hI7, hI8⟩
    case hdone =>
      intro vals w4 hb4 hv
      have h10 := hv 10 (by omega)
      clear hv
      simp only [List.drop_succ_cons, List.drop_zero, wk.setL, List.setIfInBounds_toArray, List.set_cons_zero, List.set_cons_succ, Nat.zero_add, Nat.reduceAdd]
      generalize vals 0 = x0
      generalize vals 1 = x1
      generalize vals 2 = x2
      generalize vals 3 = x3
      generalize vals 4 = x4
      generalize vals 5 = x5
      generalize vals 6 = x6
      generalize vals 7 = x7
      generalize vals 8 = x8
      generalize vals 9 = x9
      generalize vals 10 = x10 at *
      obtain ⟨A7, n7, c7, A8, n8, c8, rfl, hI7, hI8⟩ := h10
      have hb5 := ((Below.refl _ _).drew.trans hb4 : Below w1.heap.size w1 w4)
      have hx3 := HT3.out.below hb5
      have hc0 := hx3.two.c0
      have hc1 := hx3.two.c1
      have hf0 := hx3.f0 0
      have hf1 := hx3.f0 1
      have hB5 := Lib.hid (HB1.out.trans (hb5.mono (by rw [← hG]; exact HB1.out.size)))
      have HX := Lib.hid (⟨_, _, _, _, _, _, rfl, isI_set2 hI7 hx3 _ _, isI_set2 hI8 hx3 _ _⟩ : IsX ((w4.setCell ⟨G + 1 + 1, 0, none⟩ (.slice A7 n7 c7)).setCell ⟨G + 1 + 1, 1, none⟩ (.slice A8 n8 c8)) (.agg #[.slice A7 n7 c7, .slice A8 n8 c8]) (join p q))
      clear hb4 hb5
      have HT := Lib.hid (hx3.set (.slice A7 n7 c7) (.slice A8 n8 c8))
      clear hx3 hI7 hI8
      go_wp2_with fail
      exact bodyPost_ret (v := .tuple #[.agg #[.slice A7 n7 c7, .slice A8 n8 c8], .int .i64 0]) (res_x1 (fn := Try.f13) rfl _ _ (G + 1 + 1) _ _ rfl HT.out) rfl ⟨_, rfl, HX.out, below_set2 hB5.out (by omega) _ _⟩
  · have hal' : balike p q = false := by simpa using hal
    clear hi hi' hi2 hi2' hT1 hT2
    rw [hal'] at HA ⊢
    have HT3 := Lib.hid hT3
    clear hT3
    go_enter Try.func13, Try.ntmps13
    go_wp2_with fail
    refine (HA.out _ HB0.out).mono ?_
    rintro e w1 ⟨rfl, hb⟩
    have HB1 := Lib.hid (HB0.out.trans (hb.mono HB0.out.size))
    have hx3 := HT3.out.below hb
    have hc0 := hx3.two.c0
    have hc1 := hx3.two.c1
    have hf0 := hx3.f0 0
    have hf1 := hx3.f0 1
    have HX3 := Lib.hid hx3
    clear hb hx3
    go_wp2_with fail
    exact bodyPost_ret (v := .tuple #[.agg #[.slice none 0 0, .slice none 0 0], .int .i64 1]) (res_x1 (fn := Try.f13) rfl _ _ (w.heap.size + 1 + 1) _ _ rfl (HX3.out.set _ _)) rfl ⟨_, rfl, isX_nil _, below_set2 HB1.out (by omega) _ _⟩
end Go.Proofs.Ytlcdjabfkfmpdaa.bk
