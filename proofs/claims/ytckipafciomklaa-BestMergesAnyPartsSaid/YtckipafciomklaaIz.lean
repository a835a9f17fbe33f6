/- What Put hands back lies in new memory. -/
import Derived.Test.YtckipafciomklaaG15

namespace Go.Proofs.Ytckipafciomklaa.bk

open Go.ChangeShapes Go.WideShapes Go.ChangeAt Go.RowKit

open Go.Proofs.Ytckipafciomklaa.bq Go.Proofs.Ytckipafciomklaa.vk Go.Proofs.Ytckipafciomklaa.wk

set_option linter.unusedVariables false
attribute [local go_sem] Oper.semAt_some
def New (B : Nat) (A : Option Addr) : Prop := ∀ b o s, A = some ⟨b, o, s⟩ → B ≤ b
theorem New.mono {B B' : Nat} {A : Option Addr} (h : New B A) (hb : B' ≤ B) : New B' A := fun b o s e => Nat.le_trans hb (h b o s e)
theorem new_of_own {w : World} {B size n m c : Nat} {e : TypeId} {A : Option Addr} {xs : List Value} (h : w.ownsRow B e size (.slice A n c) m xs) : New B A := fun b o s e => by
  subst e
  exact (h.lt b rfl).1
set_option maxRecDepth 100000 in
set_option maxHeartbeats 16000000 in
theorem merge_callsN {a b : List H} {A A' : Option Addr} {n c n' c' : Nat} (w : World) (h : IsH w A n c a) (h' : IsH w A' n' c' b) (hn : n + n' ≤ 1000) : Calls Try.prog 47 #[.slice A n c, .slice A' n' c', .func (.func 56) #[] #[]] w fun e w' => ∃ A2 n2 c2, e = .returned (.slice A2 n2 c2) ∧ IsH w' A2 n2 c2 (mg a b) ∧ Below w.heap.size w w' ∧ New w.heap.size A2 := by
  obtain ⟨i0, hi, hz0, hz1, hz2⟩ := info_parts infoHt
  have hm := h.2.2.1
  have hnc := h.2.1
  have hm' := h'.2.2.1
  have hnc' := h'.2.1
  have hnI : (i0.bytes : Nat) * (n + n') ≤ 281474976710656 := by rw [hz2]; omega
  obtain ⟨w1, hmk, hown, hgr⟩ := run_make_own (P := Try.prog) w w.heap.size 22 27 i0 (.agg #[.int .i64 0, .int .i64 0, .int .i64 0]) 3 Try.underlying22 hi hz0 hz1 .i64 .i64 (n + n') hnI (by unfold maxLen; omega) (Nat.le_refl _)
  have HB1 : Hid (Below w.heap.size w w1) := (Below.refl _ _).grown hgr (Nat.le_refl _) (fun k hk => by cases hk)
  have HOWN1 := Lib.hid hown
  have HA0 := Lib.hid h
  have HB0 := Lib.hid h'
  have HWA : Hid (∀ r ∈ mg a b, Wd r) := fun r hr => by
    rcases mem_mg.1 hr with hr | hr
    · exact h.2.2.2.2.1 r hr
    · exact h'.2.2.2.2.1 r hr
  have hcast : ((n : Int) + (n' : Int)) = ((n + n' : Nat) : Int) := by omega
  have hcast2 : (((n + n' : Nat) : Int)) = (n : Int) + (n' : Int) := by omega
  rw [hcast2] at hmk
  clear h h' hown hgr hcast hcast2
  go_enter Try.func47, Try.ntmps47
  go_wp2_with fail
  clear hmk
  go_loopg [0, 1, 7] (n + n') (fun gg s0 s1 s7 wr => ∃ (A1 A2 : Option Addr) (n1 c1 n2 c2 : Nat) (v : Value) (l1 l2 d : List H), s0 = .slice A1 n1 c1 ∧ s1 = .slice A2 n2 c2 ∧ v = s7 ∧ IsH w A1 n1 c1 l1 ∧ IsH w A2 n2 c2 l2 ∧ wr.ownsRow w.heap.size 27 3 v d.length (fl d) ∧ Below w.heap.size w wr ∧ mg a b = d ++ mg l1 l2 ∧ n1 + n2 ≤ gg ∧ n1 + n2 + d.length ≤ n + n')
  case atStart => exact ⟨_, _, _, _, _, _, _, a, b, [], rfl, rfl, rfl, HA0.out, HB0.out, by simpa [fl] using HOWN1.out, HB1.out, rfl, Nat.le_refl _, by simp⟩
  case round =>
    obtain ⟨A1, A2, n1, c1, n2, c2, v, l1, l2, d, rfl, rfl, rfl, h1, h2, how, hbel, hmg, hgg, hsum⟩ := hrel
    have HOW := Lib.hid how
    have HBEL := Lib.hid hbel
    have HMG := Lib.hid hmg
    have HM : Hid (n1 + n2 ≤ gk ∧ n1 + n2 + d.length ≤ n + n') := ⟨hgg, hsum⟩
    have H1w := Lib.hid h1
    have H2w := Lib.hid h2
    have hc1 := h1.2.1
    have hc2 := h2.2.1
    have hl1 := h1.1
    have hl2 := h2.1
    have hcm1 := h1.2.2.1
    have hcm2 := h2.2.2.1
    have H1 := Lib.hid (h1.below hbel)
    have H2 := Lib.hid (h2.below hbel)
    by_cases hlt : 0 < n1 ∧ 0 < n2
    · obtain ⟨b1, o1, rfl⟩ := isH_some h1 hlt.1
      obtain ⟨b2, o2, rfl⟩ := isH_some h2 hlt.2
      obtain ⟨x, t1, rfl⟩ : ∃ x t, l1 = x :: t := by
        cases l1 with
        | nil => simp at hl1; omega
        | cons x t => exact ⟨x, t, rfl⟩
      obtain ⟨y, t2, rfl⟩ : ∃ y t, l2 = y :: t := by
        cases l2 with
        | nil => simp at hl2; omega
        | cons y t => exact ⟨y, t, rfl⟩
      have HX0 : Hid ((x :: t1)[0]? = some x) := rfl
      have HY0 : Hid ((y :: t2)[0]? = some y) := rfl
      have h01 : (0 : Int) < (n1 : Int) := by omega
      have h02 : (0 : Int) < (n2 : Int) := by omega
      have hn1 : 1 ≤ n1 := hlt.1
      have hn2 : 1 ≤ n2 := hlt.2
      have HMGE := Lib.hid (show mg (x :: t1) (y :: t2) = if cmpH x y < 0 then x :: mg t1 (y :: t2) else if 0 < cmpH x y then y :: mg (x :: t1) t2 else mg t1 (y :: t2) by rw [mg])
      have hd1000 : d.length ≤ 1000 := by omega
      generalize hl1e : x :: t1 = l1 at *
      generalize hl2e : y :: t2 = l2 at *
      have HL1E : Hid (l1.drop 1 = t1) := by show _ = _; rw [← hl1e]; rfl
      have HL2E : Hid (l2.drop 1 = t2) := by show _ = _; rw [← hl2e]; rfl
      clear hlt h1 h2 how hbel hmg hgg hsum hl1e hl2e hl1 hl2
      by_cases hlt : cmpH x y < 0
      · have HSA : Hid (mg l1 l2 = [x] ++ mg (l1.drop 1) l2) := by show _ = _; rw [HMGE.out, if_pos hlt, HL1E.out]; rfl
        go_wp2_with fail
        refine wk.region_tailS 9 [.is (.func (.func 56) #[] #[]), .is (.slice (some ⟨b1, o1, none⟩) n1 c1), .is (.pointer (some ⟨b1, o1, none⟩)), .is (.agg #[.int .i64 x.1, .int .i64 x.2.1, .int .i64 x.2.2]), .is (.slice (some ⟨b2, o2, none⟩) n2 c2), .is (.pointer (some ⟨b2, o2, none⟩)), .is (.agg #[.int .i64 y.1, .int .i64 y.2.1, .int .i64 y.2.2]), .is (.int .i64 (cmpH x y)), .is (.int .i64 (cmpH x y))] [some 23, some 24, some 25, some 26, some 27, some 28, some 29, some 30, some 8] (by kernel_rfl) (by kernel_rfl) (by kernel_rfl) (by kernel_rfl) [] (by kernel_rfl) (by intro p hp; cases hp) (by kernel_rfl) (by kernel_rfl) ?hstep ?hdone
        case hstep =>
          intro i o ho hi hns E w4 hb4 D
          have hi2 : i = 0 ∨ i = 1 ∨ i = 2 ∨ i = 3 ∨ i = 4 ∨ i = 5 ∨ i = 6 ∨ i = 7 ∨ i = 8 := by omega
          clear hi
          rcases hi2 with rfl | rfl | rfl | rfl | rfl | rfl | rfl | rfl | rfl
          ·
            have ho2 := (Array.getElem?_eq_some_iff.1 ho).2
            simp only [List.getElem_toArray, List.getElem_cons_zero] at ho2
            subst ho2
            clear ho
            have e2 := D.old 2 (by kernel_rfl)
            exact wk.does_move rfl (by rw [e2]; rfl)
          ·
            have ho2 := (Array.getElem?_eq_some_iff.1 ho).2
            simp only [List.getElem_toArray, List.getElem_cons_succ, List.getElem_cons_zero] at ho2
            subst ho2
            clear ho
            have e0 := D.old 0 (by kernel_rfl)
            exact wk.does_move rfl (by rw [e0]; rfl)
          ·
            have ho2 := (Array.getElem?_eq_some_iff.1 ho).2
            simp only [List.getElem_toArray, List.getElem_cons_succ, List.getElem_cons_zero] at ho2
            subst ho2
            clear ho
            have e24 := D.is { on := 1, ground := .data } (by simp) rfl rfl 24 rfl
            exact wk.does_run (by simp only [execOp]; rw [show E (.tmp 24) = _ from e24, show E (.const (.int .i64 0)) = .int .i64 0 from D.con _]; go_simp; try (intro h0; omega)) rfl
          ·
            have ho2 := (Array.getElem?_eq_some_iff.1 ho).2
            simp only [List.getElem_toArray, List.getElem_cons_succ, List.getElem_cons_zero] at ho2
            subst ho2
            clear ho
            have e25 := D.is { on := 2, ground := .data } (by simp) rfl rfl 25 rfl
            exact wk.does_load_agg rfl e25 (cs := rv x) (isH_head (H1.out.below ((Below.refl _ _).drew.trans hb4)) HX0.out) Try.underlying27 rfl (by kernel_rfl) rfl
          ·
            have ho2 := (Array.getElem?_eq_some_iff.1 ho).2
            simp only [List.getElem_toArray, List.getElem_cons_succ, List.getElem_cons_zero] at ho2
            subst ho2
            clear ho
            have e1 := D.old 1 (by kernel_rfl)
            exact wk.does_move rfl (by rw [e1]; rfl)
          ·
            have ho2 := (Array.getElem?_eq_some_iff.1 ho).2
            simp only [List.getElem_toArray, List.getElem_cons_succ, List.getElem_cons_zero] at ho2
            subst ho2
            clear ho
            have e27 := D.is { on := 4, ground := .data } (by simp) rfl rfl 27 rfl
            exact wk.does_run (by simp only [execOp]; rw [show E (.tmp 27) = _ from e27, show E (.const (.int .i64 0)) = .int .i64 0 from D.con _]; go_simp; try (intro h0; omega)) rfl
          ·
            have ho2 := (Array.getElem?_eq_some_iff.1 ho).2
            simp only [List.getElem_toArray, List.getElem_cons_succ, List.getElem_cons_zero] at ho2
            subst ho2
            clear ho
            have e28 := D.is { on := 5, ground := .data } (by simp) rfl rfl 28 rfl
            exact wk.does_load_agg rfl e28 (cs := rv y) (isH_head (H2.out.below ((Below.refl _ _).drew.trans hb4)) HY0.out) Try.underlying27 rfl (by kernel_rfl) rfl
          ·
            have ho2 := (Array.getElem?_eq_some_iff.1 ho).2
            simp only [List.getElem_toArray, List.getElem_cons_succ, List.getElem_cons_zero] at ho2
            subst ho2
            clear ho
            have e23 := D.is { on := 0, ground := .data } (by simp) rfl rfl 23 rfl
            have e26 := D.is { on := 3, ground := .data } (by simp) rfl rfl 26 rfl
            have e29 := D.is { on := 6, ground := .data } (by simp) rfl rfl 29 rfl
            refine wk.does_fn (f := 56) (vs := #[.agg #[.int .i64 x.1, .int .i64 x.2.1, .int .i64 x.2.2], .agg #[.int .i64 y.1, .int .i64 y.2.1, .int .i64 y.2.2]]) rfl e23 (by simp [e26, e29]) (by go_simp) ?_
            refine (cmpH_calls _ _ _).mono ?_
            rintro e w7 ⟨rfl, hg⟩
            exact ⟨_, rfl, hg.below, rfl⟩
          ·
            have ho2 := (Array.getElem?_eq_some_iff.1 ho).2
            simp only [List.getElem_toArray, List.getElem_cons_succ, List.getElem_cons_zero] at ho2
            subst ho2
            clear ho
            have e30 := D.is { on := 7, ground := .data } (by simp) rfl rfl 30 rfl
            exact wk.does_assign rfl e30
        case hdone =>
          intro vals w4 hb4 hv
          have h8 := hv 8 (by omega)
          clear hv
          replace h8 : vals 8 = (.int .i64 (cmpH x y)) := h8
          simp only [List.drop_succ_cons, List.drop_zero, wpList, wk.setL, List.setIfInBounds_toArray, List.set_cons_zero, List.set_cons_succ, Nat.zero_add, Nat.reduceAdd, h8]
          generalize vals 0 = x0
          generalize vals 1 = x1
          generalize vals 2 = x2
          generalize vals 3 = x3
          generalize vals 4 = x4
          generalize vals 5 = x5
          generalize vals 6 = x6
          generalize vals 7 = x7
          have hb5 := (Below.refl _ _).drew.trans hb4
          have HBEL5 := Lib.hid (HBEL.out.trans (hb5.mono HBEL.out.size))
          have HOW5 := Lib.hid (keptB HOW.out hb5)
          have H15 := Lib.hid (H1w.out.below HBEL5.out)
          clear hb4 hb5
          go_wp2_with fail
          refine wk.region_lev2W 10 (MR w.heap.size v (some ⟨b1, o1, none⟩) n1 c1 ⟨b1, o1, none⟩ x d) [some 36, some 37, some 38, some 39, some 40, some 41, some 42, some 43, some 7, some 0] (fun Lv u => MRS w v d Lv u) ?hstart (by kernel_rfl) (by kernel_rfl) (by kernel_rfl) (by kernel_rfl) (by kernel_rfl) (by kernel_rfl) ?hstep ?hdone
          case hstart => exact ⟨HBEL5.out.drew, fun _ => HOW5.out, by simp, by simp⟩
          case hstep =>
            intro i o ho hi9 E Lv w4 hS4 hL hdeps DG hold
            have hi2 : i = 0 ∨ i = 1 ∨ i = 2 ∨ i = 3 ∨ i = 4 ∨ i = 5 ∨ i = 6 ∨ i = 7 ∨ i = 8 ∨ i = 9 := by omega
            clear hi9
            rcases hi2 with rfl | rfl | rfl | rfl | rfl | rfl | rfl | rfl | rfl | rfl
            ·
              have ho2 := (Array.getElem?_eq_some_iff.1 ho).2
              simp only [List.getElem_toArray, List.getElem_cons_zero] at ho2
              subst ho2
              clear ho
              have e7 : E (.tmp 7) = v := (hold 7 (fun j hj hd => by
            have hj10 : j < 10 := by rcases Nat.lt_or_ge j 10 with h | h; exact h; exact absurd (wk.dst_lt hd) (by show ¬ j < 10; omega)
            have hjw : j = 8 := by
              have h10 : j = 0 ∨ j = 1 ∨ j = 2 ∨ j = 3 ∨ j = 4 ∨ j = 5 ∨ j = 6 ∨ j = 7 ∨ j = 8 ∨ j = 9 := by omega
              rcases h10 with rfl | rfl | rfl | rfl | rfl | rfl | rfl | rfl | rfl | rfl <;> first | rfl | (exfalso; revert hd; decide)
            subst hjw
            have h9 := hj
            have := (hS4.2.2.1 h9).1
            rw [hL] at this
            cases this)).trans rfl
              refine wk.Does.weak (R := fun w' x' => x' = v) ?_ (fun w' v' hb hr => ⟨hr, fun j u _ _ hj => MR.next rfl hb hj, MRS.next 0 (by omega) (by omega) (by omega) hb hS4⟩)
              exact wk.does_move rfl e7
            ·
              have ho2 := (Array.getElem?_eq_some_iff.1 ho).2
              simp only [List.getElem_toArray, List.getElem_cons_succ, List.getElem_cons_zero] at ho2
              subst ho2
              clear ho
              have e0 : E (.tmp 0) = .slice (some ⟨b1, o1, none⟩) n1 c1 := (hold 0 (fun j hj hd => by
            have hj10 : j < 10 := by rcases Nat.lt_or_ge j 10 with h | h; exact h; exact absurd (wk.dst_lt hd) (by show ¬ j < 10; omega)
            have hjw : j = 9 := by
              have h10 : j = 0 ∨ j = 1 ∨ j = 2 ∨ j = 3 ∨ j = 4 ∨ j = 5 ∨ j = 6 ∨ j = 7 ∨ j = 8 ∨ j = 9 := by omega
              rcases h10 with rfl | rfl | rfl | rfl | rfl | rfl | rfl | rfl | rfl | rfl <;> first | rfl | (exfalso; revert hd; decide)
            subst hjw
            have h9 := hj
            have := (hS4.2.2.2 h9).1
            rw [hL] at this
            cases this)).trans rfl
              refine wk.Does.weak (R := fun w' x' => x' = .slice (some ⟨b1, o1, none⟩) n1 c1) ?_ (fun w' v' hb hr => ⟨hr, fun j u _ _ hj => MR.next rfl hb hj, MRS.next 1 (by omega) (by omega) (by omega) hb hS4⟩)
              exact wk.does_move rfl e0
            ·
              have ho2 := (Array.getElem?_eq_some_iff.1 ho).2
              simp only [List.getElem_toArray, List.getElem_cons_succ, List.getElem_cons_zero] at ho2
              subst ho2
              clear ho
              have e37 := DG.is { on := 1, ground := .data } (by simp) rfl 37 rfl
              replace e37 : E (.tmp 37) = .slice (some ⟨b1, o1, none⟩) n1 c1 := e37
              refine wk.Does.weak (R := fun w' x' => x' = .pointer (some ⟨b1, o1, none⟩)) ?_ (fun w' v' hb hr => ⟨hr, fun j u _ _ hj => MR.next rfl hb hj, MRS.next 2 (by omega) (by omega) (by omega) hb hS4⟩)
              exact wk.does_run (by simp only [execOp]; rw [e37, show E (.const (.int .i64 0)) = .int .i64 0 from DG.con _]; go_simp) rfl
            ·
              have ho2 := (Array.getElem?_eq_some_iff.1 ho).2
              simp only [List.getElem_toArray, List.getElem_cons_succ, List.getElem_cons_zero] at ho2
              subst ho2
              clear ho
              have e38 := DG.is { on := 2, ground := .data } (by simp) rfl 38 rfl
              replace e38 : E (.tmp 38) = .pointer (some ⟨b1, o1, none⟩) := e38
              refine wk.Does.weak (R := fun w' x' => x' = .agg #[.int .i64 x.1, .int .i64 x.2.1, .int .i64 x.2.2]) ?_ (fun w' v' hb hr => ⟨hr, fun j u _ _ hj => MR.next rfl hb hj, MRS.next 3 (by omega) (by omega) (by omega) hb hS4⟩)
              exact wk.does_load_agg rfl e38 (cs := rv x) (isH_head (H1w.out.below (hS4.1)) HX0.out) Try.underlying27 rfl (by kernel_rfl) rfl
            ·
              have ho2 := (Array.getElem?_eq_some_iff.1 ho).2
              simp only [List.getElem_toArray, List.getElem_cons_succ, List.getElem_cons_zero] at ho2
              subst ho2
              clear ho
              have e39 := DG.is { on := 3, ground := .data } (by simp) rfl 39 rfl
              replace e39 : E (.tmp 39) = .agg #[.int .i64 x.1, .int .i64 x.2.1, .int .i64 x.2.2] := e39
              refine wk.Does.weak (R := fun w' x' => ∃ g, x' = .slice (some ⟨g, 0, none⟩) 1 1 ∧ RowH w' g x) ?_ (fun w' v' hb hr => ⟨by obtain ⟨g, h1, h2⟩ := hr; exact ⟨g, h1, fun _ => h2⟩, fun j u _ _ hj => MR.next rfl hb hj, MRS.next 4 (by omega) (by omega) (by omega) hb hS4⟩)
              exact wk.does_new (v := .slice (some ⟨w4.heap.size, 0, none⟩) 1 1) (w' := w4.alloc (.cells #[.int .i64 x.1, .int .i64 x.2.1, .int .i64 x.2.2] 27)) (by simp only [execOp, List.map_toArray, List.map_cons, List.map_nil]; rw [e39]; go_simp) (below_new _ _) ⟨_, rfl, RowH.new _ _⟩
            ·
              have ho2 := (Array.getElem?_eq_some_iff.1 ho).2
              simp only [List.getElem_toArray, List.getElem_cons_succ, List.getElem_cons_zero] at ho2
              subst ho2
              clear ho
              have e36 := DG.is { on := 0, ground := .data } (by simp) rfl 36 rfl
              replace e36 : E (.tmp 36) = v := e36
              have e40 := DG.is { on := 4, ground := .data } (by simp) rfl 40 rfl
              replace e40 : ∃ g, E (.tmp 40) = .slice (some ⟨g, 0, none⟩) 1 1 ∧ (Lv 5 = false → RowH w4 g x) := e40
              obtain ⟨g, eg, hone⟩ := e40
              have hL5 : Lv 5 = false := hL
              have hMw := hS4.2.1 hL5
              exact does_append_t (.tmp 36) (.tmp 40) 22 rfl w.heap.size 27 i0 (.agg #[.int .i64 0, .int .i64 0, .int .i64 0]) 3 24 Try.underlying22 hi hz0 hz1 hz2 rfl (by decide) v d.length (fl d) e36 hMw ⟨g, 0, none⟩ 1 (rv x) eg rfl (hone hL5).cells ones3 (by omega) (by omega) hS4.1.size (fun v' w' h5 h6 _ => ⟨h5, fun j' u hLj _ hj => MR.app (by rintro rfl; rw [hL5] at hLj; cases hLj) (by rintro rfl; have := (hS4.2.2.1 hLj).2; rw [hL5] at this; cases this) rfl hj, MRS.app (hS4.1.grown h6 hS4.1.size (fun q hq => (hMw.lt q hq).1)) hS4⟩)
            ·
              have ho2 := (Array.getElem?_eq_some_iff.1 ho).2
              simp only [List.getElem_toArray, List.getElem_cons_succ, List.getElem_cons_zero] at ho2
              subst ho2
              clear ho
              have e0 : E (.tmp 0) = .slice (some ⟨b1, o1, none⟩) n1 c1 := (hold 0 (fun j hj hd => by
            have hj10 : j < 10 := by rcases Nat.lt_or_ge j 10 with h | h; exact h; exact absurd (wk.dst_lt hd) (by show ¬ j < 10; omega)
            have hjw : j = 9 := by
              have h10 : j = 0 ∨ j = 1 ∨ j = 2 ∨ j = 3 ∨ j = 4 ∨ j = 5 ∨ j = 6 ∨ j = 7 ∨ j = 8 ∨ j = 9 := by omega
              rcases h10 with rfl | rfl | rfl | rfl | rfl | rfl | rfl | rfl | rfl | rfl <;> first | rfl | (exfalso; revert hd; decide)
            subst hjw
            have h9 := hj
            have := (hS4.2.2.2 h9).2
            rw [hL] at this
            cases this)).trans rfl
              refine wk.Does.weak (R := fun w' x' => x' = .slice (some ⟨b1, o1, none⟩) n1 c1) ?_ (fun w' v' hb hr => ⟨hr, fun j u _ _ hj => MR.next rfl hb hj, MRS.next 6 (by omega) (by omega) (by omega) hb hS4⟩)
              exact wk.does_move rfl e0
            ·
              have ho2 := (Array.getElem?_eq_some_iff.1 ho).2
              simp only [List.getElem_toArray, List.getElem_cons_succ, List.getElem_cons_zero] at ho2
              subst ho2
              clear ho
              have e42 := DG.is { on := 6, ground := .data } (by simp) rfl 42 rfl
              replace e42 : E (.tmp 42) = .slice (some ⟨b1, o1, none⟩) n1 c1 := e42
              refine wk.Does.weak (R := fun w' x' => x' = .slice (tlA (some ⟨b1, o1, none⟩) c1) (n1 - 1) (c1 - 1)) ?_ (fun w' v' hb hr => ⟨hr, fun j u _ _ hj => MR.next rfl hb hj, MRS.next 7 (by omega) (by omega) (by omega) hb hS4⟩)
              exact wk.does_run (wk.op_slice (LO := some (.int .i64 1)) (HI := none) (MX := none) rfl e42 (by show some (E (.const (.int .i64 1))) = _; rw [DG.con]) rfl rfl (run_tl1At w4 _ _ _ (by omega) (by omega))) rfl
            ·
              have ho2 := (Array.getElem?_eq_some_iff.1 ho).2
              simp only [List.getElem_toArray, List.getElem_cons_succ, List.getElem_cons_zero] at ho2
              subst ho2
              clear ho
              have e41 := DG.is { on := 5, ground := .data } (by simp) rfl 41 rfl
              replace e41 : w4.ownsRow w.heap.size 27 3 (E (.tmp 41)) (d.length + 1) (fl d ++ rv x) := e41
              refine wk.Does.weak (R := fun w' x' => w'.ownsRow w.heap.size 27 3 x' (d.length + 1) (fl d ++ rv x)) ?_ (fun w' v' hb hr => ⟨hr, fun j u _ _ hj => MR.next rfl hb hj, MRS.next 8 (by omega) (fun _ => ⟨hdeps { on := 0, ground := .phase } (by simp) rfl, hdeps { on := 5, ground := .data } (by simp) rfl⟩) (by omega) hb hS4⟩)
              exact wk.does_assign rfl e41
            ·
              have ho2 := (Array.getElem?_eq_some_iff.1 ho).2
              simp only [List.getElem_toArray, List.getElem_cons_succ, List.getElem_cons_zero] at ho2
              subst ho2
              clear ho
              have e43 := DG.is { on := 7, ground := .data } (by simp) rfl 43 rfl
              replace e43 : E (.tmp 43) = .slice (tlA (some ⟨b1, o1, none⟩) c1) (n1 - 1) (c1 - 1) := e43
              refine wk.Does.weak (R := fun w' x' => x' = .slice (tlA (some ⟨b1, o1, none⟩) c1) (n1 - 1) (c1 - 1)) ?_ (fun w' v' hb hr => ⟨hr, fun j u _ _ hj => MR.next rfl hb hj, MRS.next 9 (by omega) (by omega) (fun _ => ⟨hdeps { on := 1, ground := .phase } (by simp) rfl, hdeps { on := 6, ground := .phase } (by simp) rfl⟩) hb hS4⟩)
              exact wk.does_assign rfl e43
          case hdone =>
            intro vals Lv w4 hall hS4 hv
            have h5 : w4.ownsRow w.heap.size 27 3 (vals 8) (d.length + 1) (fl d ++ rv x) := hv 8 (by omega)
            have h7 : vals 9 = .slice (tlA (some ⟨b1, o1, none⟩) c1) (n1 - 1) (c1 - 1) := hv 9 (by omega)
            have hB6 := Lib.hid hS4.1
            have hO6 := Lib.hid h5
            clear hv hall hS4 h5
            simp only [List.drop_succ_cons, List.drop_zero, wpList, wk.setL, List.setIfInBounds_toArray, List.set_cons_zero, List.set_cons_succ, Nat.zero_add, Nat.reduceAdd, h7]
            clear h7
            generalize vals 0 = x0 at *
            generalize vals 1 = x1 at *
            generalize vals 2 = x2 at *
            generalize vals 3 = x3 at *
            generalize vals 4 = x4 at *
            generalize vals 5 = x5 at *
            generalize vals 6 = x6 at *
            generalize vals 7 = x7 at *
            generalize vals 8 = x8 at *
            go_wp2_with fail
            go_roundg (n1 + n2 - 1)
            case measure => have := HM.out; omega
            case rel => exact ⟨_, _, _, _, _, _, _, l1.drop 1, l2, d ++ [x], rfl, rfl, rfl, isH_tail H1w.out (by omega), H2w.out, by have := hO6.out; rw [List.length_append, fl_append]; simpa [fl] using this, hB6.out, by rw [HMG.out, HSA.out, List.append_assoc], by have := HM.out; omega, by have := HM.out; rw [List.length_append, List.length_singleton]; omega⟩
      · by_cases hgt : 0 < cmpH x y
        · have HSB : Hid (mg l1 l2 = [y] ++ mg l1 (l2.drop 1)) := by show _ = _; rw [HMGE.out, if_neg hlt, if_pos hgt, HL2E.out]; rfl
          go_wp2_with fail
          refine wk.region_tailS 9 [.is (.func (.func 56) #[] #[]), .is (.slice (some ⟨b1, o1, none⟩) n1 c1), .is (.pointer (some ⟨b1, o1, none⟩)), .is (.agg #[.int .i64 x.1, .int .i64 x.2.1, .int .i64 x.2.2]), .is (.slice (some ⟨b2, o2, none⟩) n2 c2), .is (.pointer (some ⟨b2, o2, none⟩)), .is (.agg #[.int .i64 y.1, .int .i64 y.2.1, .int .i64 y.2.2]), .is (.int .i64 (cmpH x y)), .is (.int .i64 (cmpH x y))] [some 23, some 24, some 25, some 26, some 27, some 28, some 29, some 30, some 8] (by kernel_rfl) (by kernel_rfl) (by kernel_rfl) (by kernel_rfl) [] (by kernel_rfl) (by intro p hp; cases hp) (by kernel_rfl) (by kernel_rfl) ?hstep ?hdone
          case hstep =>
            intro i o ho hi hns E w4 hb4 D
            have hi2 : i = 0 ∨ i = 1 ∨ i = 2 ∨ i = 3 ∨ i = 4 ∨ i = 5 ∨ i = 6 ∨ i = 7 ∨ i = 8 := by omega
            clear hi
            rcases hi2 with rfl | rfl | rfl | rfl | rfl | rfl | rfl | rfl | rfl
            ·
              have ho2 := (Array.getElem?_eq_some_iff.1 ho).2
              simp only [List.getElem_toArray, List.getElem_cons_zero] at ho2
              subst ho2
              clear ho
              have e2 := D.old 2 (by kernel_rfl)
              exact wk.does_move rfl (by rw [e2]; rfl)
            ·
              have ho2 := (Array.getElem?_eq_some_iff.1 ho).2
              simp only [List.getElem_toArray, List.getElem_cons_succ, List.getElem_cons_zero] at ho2
              subst ho2
              clear ho
              have e0 := D.old 0 (by kernel_rfl)
              exact wk.does_move rfl (by rw [e0]; rfl)
            ·
              have ho2 := (Array.getElem?_eq_some_iff.1 ho).2
              simp only [List.getElem_toArray, List.getElem_cons_succ, List.getElem_cons_zero] at ho2
              subst ho2
              clear ho
              have e24 := D.is { on := 1, ground := .data } (by simp) rfl rfl 24 rfl
              exact wk.does_run (by simp only [execOp]; rw [show E (.tmp 24) = _ from e24, show E (.const (.int .i64 0)) = .int .i64 0 from D.con _]; go_simp; try (intro h0; omega)) rfl
            ·
              have ho2 := (Array.getElem?_eq_some_iff.1 ho).2
              simp only [List.getElem_toArray, List.getElem_cons_succ, List.getElem_cons_zero] at ho2
              subst ho2
              clear ho
              have e25 := D.is { on := 2, ground := .data } (by simp) rfl rfl 25 rfl
              exact wk.does_load_agg rfl e25 (cs := rv x) (isH_head (H1.out.below ((Below.refl _ _).drew.trans hb4)) HX0.out) Try.underlying27 rfl (by kernel_rfl) rfl
            ·
              have ho2 := (Array.getElem?_eq_some_iff.1 ho).2
              simp only [List.getElem_toArray, List.getElem_cons_succ, List.getElem_cons_zero] at ho2
              subst ho2
              clear ho
              have e1 := D.old 1 (by kernel_rfl)
              exact wk.does_move rfl (by rw [e1]; rfl)
            ·
              have ho2 := (Array.getElem?_eq_some_iff.1 ho).2
              simp only [List.getElem_toArray, List.getElem_cons_succ, List.getElem_cons_zero] at ho2
              subst ho2
              clear ho
              have e27 := D.is { on := 4, ground := .data } (by simp) rfl rfl 27 rfl
              exact wk.does_run (by simp only [execOp]; rw [show E (.tmp 27) = _ from e27, show E (.const (.int .i64 0)) = .int .i64 0 from D.con _]; go_simp; try (intro h0; omega)) rfl
            ·
              have ho2 := (Array.getElem?_eq_some_iff.1 ho).2
              simp only [List.getElem_toArray, List.getElem_cons_succ, List.getElem_cons_zero] at ho2
              subst ho2
              clear ho
              have e28 := D.is { on := 5, ground := .data } (by simp) rfl rfl 28 rfl
              exact wk.does_load_agg rfl e28 (cs := rv y) (isH_head (H2.out.below ((Below.refl _ _).drew.trans hb4)) HY0.out) Try.underlying27 rfl (by kernel_rfl) rfl
            ·
              have ho2 := (Array.getElem?_eq_some_iff.1 ho).2
              simp only [List.getElem_toArray, List.getElem_cons_succ, List.getElem_cons_zero] at ho2
              subst ho2
              clear ho
              have e23 := D.is { on := 0, ground := .data } (by simp) rfl rfl 23 rfl
              have e26 := D.is { on := 3, ground := .data } (by simp) rfl rfl 26 rfl
              have e29 := D.is { on := 6, ground := .data } (by simp) rfl rfl 29 rfl
              refine wk.does_fn (f := 56) (vs := #[.agg #[.int .i64 x.1, .int .i64 x.2.1, .int .i64 x.2.2], .agg #[.int .i64 y.1, .int .i64 y.2.1, .int .i64 y.2.2]]) rfl e23 (by simp [e26, e29]) (by go_simp) ?_
              refine (cmpH_calls _ _ _).mono ?_
              rintro e w7 ⟨rfl, hg⟩
              exact ⟨_, rfl, hg.below, rfl⟩
            ·
              have ho2 := (Array.getElem?_eq_some_iff.1 ho).2
              simp only [List.getElem_toArray, List.getElem_cons_succ, List.getElem_cons_zero] at ho2
              subst ho2
              clear ho
              have e30 := D.is { on := 7, ground := .data } (by simp) rfl rfl 30 rfl
              exact wk.does_assign rfl e30
          case hdone =>
            intro vals w4 hb4 hv
            have h8 := hv 8 (by omega)
            clear hv
            replace h8 : vals 8 = (.int .i64 (cmpH x y)) := h8
            simp only [List.drop_succ_cons, List.drop_zero, wpList, wk.setL, List.setIfInBounds_toArray, List.set_cons_zero, List.set_cons_succ, Nat.zero_add, Nat.reduceAdd, h8]
            generalize vals 0 = x0
            generalize vals 1 = x1
            generalize vals 2 = x2
            generalize vals 3 = x3
            generalize vals 4 = x4
            generalize vals 5 = x5
            generalize vals 6 = x6
            generalize vals 7 = x7
            have hb5 := (Below.refl _ _).drew.trans hb4
            have HBEL5 := Lib.hid (HBEL.out.trans (hb5.mono HBEL.out.size))
            have HOW5 := Lib.hid (keptB HOW.out hb5)
            have H15 := Lib.hid (H1w.out.below HBEL5.out)
            clear hb4 hb5
            go_wp2_with fail
            refine wk.region_lev2W 10 (MR w.heap.size v (some ⟨b2, o2, none⟩) n2 c2 ⟨b2, o2, none⟩ y d) [some 47, some 48, some 49, some 50, some 51, some 52, some 53, some 54, some 7, some 1] (fun Lv u => MRS w v d Lv u) ?hstart (by kernel_rfl) (by kernel_rfl) (by kernel_rfl) (by kernel_rfl) (by kernel_rfl) (by kernel_rfl) ?hstep ?hdone
            case hstart => exact ⟨HBEL5.out.drew, fun _ => HOW5.out, by simp, by simp⟩
            case hstep =>
              intro i o ho hi9 E Lv w4 hS4 hL hdeps DG hold
              have hi2 : i = 0 ∨ i = 1 ∨ i = 2 ∨ i = 3 ∨ i = 4 ∨ i = 5 ∨ i = 6 ∨ i = 7 ∨ i = 8 ∨ i = 9 := by omega
              clear hi9
              rcases hi2 with rfl | rfl | rfl | rfl | rfl | rfl | rfl | rfl | rfl | rfl
              ·
                have ho2 := (Array.getElem?_eq_some_iff.1 ho).2
                simp only [List.getElem_toArray, List.getElem_cons_zero] at ho2
                subst ho2
                clear ho
                have e7 : E (.tmp 7) = v := (hold 7 (fun j hj hd => by
              have hj10 : j < 10 := by rcases Nat.lt_or_ge j 10 with h | h; exact h; exact absurd (wk.dst_lt hd) (by show ¬ j < 10; omega)
              have hjw : j = 8 := by
                have h10 : j = 0 ∨ j = 1 ∨ j = 2 ∨ j = 3 ∨ j = 4 ∨ j = 5 ∨ j = 6 ∨ j = 7 ∨ j = 8 ∨ j = 9 := by omega
                rcases h10 with rfl | rfl | rfl | rfl | rfl | rfl | rfl | rfl | rfl | rfl <;> first | rfl | (exfalso; revert hd; decide)
              subst hjw
              have h9 := hj
              have := (hS4.2.2.1 h9).1
              rw [hL] at this
              cases this)).trans rfl
                refine wk.Does.weak (R := fun w' x' => x' = v) ?_ (fun w' v' hb hr => ⟨hr, fun j u _ _ hj => MR.next rfl hb hj, MRS.next 0 (by omega) (by omega) (by omega) hb hS4⟩)
                exact wk.does_move rfl e7
              ·
                have ho2 := (Array.getElem?_eq_some_iff.1 ho).2
                simp only [List.getElem_toArray, List.getElem_cons_succ, List.getElem_cons_zero] at ho2
                subst ho2
                clear ho
                have e1 : E (.tmp 1) = .slice (some ⟨b2, o2, none⟩) n2 c2 := (hold 1 (fun j hj hd => by
              have hj10 : j < 10 := by rcases Nat.lt_or_ge j 10 with h | h; exact h; exact absurd (wk.dst_lt hd) (by show ¬ j < 10; omega)
              have hjw : j = 9 := by
                have h10 : j = 0 ∨ j = 1 ∨ j = 2 ∨ j = 3 ∨ j = 4 ∨ j = 5 ∨ j = 6 ∨ j = 7 ∨ j = 8 ∨ j = 9 := by omega
                rcases h10 with rfl | rfl | rfl | rfl | rfl | rfl | rfl | rfl | rfl | rfl <;> first | rfl | (exfalso; revert hd; decide)
              subst hjw
              have h9 := hj
              have := (hS4.2.2.2 h9).1
              rw [hL] at this
              cases this)).trans rfl
                refine wk.Does.weak (R := fun w' x' => x' = .slice (some ⟨b2, o2, none⟩) n2 c2) ?_ (fun w' v' hb hr => ⟨hr, fun j u _ _ hj => MR.next rfl hb hj, MRS.next 1 (by omega) (by omega) (by omega) hb hS4⟩)
                exact wk.does_move rfl e1
              ·
                have ho2 := (Array.getElem?_eq_some_iff.1 ho).2
                simp only [List.getElem_toArray, List.getElem_cons_succ, List.getElem_cons_zero] at ho2
                subst ho2
                clear ho
                have e48 := DG.is { on := 1, ground := .data } (by simp) rfl 48 rfl
                replace e48 : E (.tmp 48) = .slice (some ⟨b2, o2, none⟩) n2 c2 := e48
                refine wk.Does.weak (R := fun w' x' => x' = .pointer (some ⟨b2, o2, none⟩)) ?_ (fun w' v' hb hr => ⟨hr, fun j u _ _ hj => MR.next rfl hb hj, MRS.next 2 (by omega) (by omega) (by omega) hb hS4⟩)
                exact wk.does_run (by simp only [execOp]; rw [e48, show E (.const (.int .i64 0)) = .int .i64 0 from DG.con _]; go_simp) rfl
              ·
                have ho2 := (Array.getElem?_eq_some_iff.1 ho).2
                simp only [List.getElem_toArray, List.getElem_cons_succ, List.getElem_cons_zero] at ho2
                subst ho2
                clear ho
                have e49 := DG.is { on := 2, ground := .data } (by simp) rfl 49 rfl
                replace e49 : E (.tmp 49) = .pointer (some ⟨b2, o2, none⟩) := e49
                refine wk.Does.weak (R := fun w' x' => x' = .agg #[.int .i64 y.1, .int .i64 y.2.1, .int .i64 y.2.2]) ?_ (fun w' v' hb hr => ⟨hr, fun j u _ _ hj => MR.next rfl hb hj, MRS.next 3 (by omega) (by omega) (by omega) hb hS4⟩)
                exact wk.does_load_agg rfl e49 (cs := rv y) (isH_head (H2w.out.below (hS4.1)) HY0.out) Try.underlying27 rfl (by kernel_rfl) rfl
              ·
                have ho2 := (Array.getElem?_eq_some_iff.1 ho).2
                simp only [List.getElem_toArray, List.getElem_cons_succ, List.getElem_cons_zero] at ho2
                subst ho2
                clear ho
                have e50 := DG.is { on := 3, ground := .data } (by simp) rfl 50 rfl
                replace e50 : E (.tmp 50) = .agg #[.int .i64 y.1, .int .i64 y.2.1, .int .i64 y.2.2] := e50
                refine wk.Does.weak (R := fun w' x' => ∃ g, x' = .slice (some ⟨g, 0, none⟩) 1 1 ∧ RowH w' g y) ?_ (fun w' v' hb hr => ⟨by obtain ⟨g, h1, h2⟩ := hr; exact ⟨g, h1, fun _ => h2⟩, fun j u _ _ hj => MR.next rfl hb hj, MRS.next 4 (by omega) (by omega) (by omega) hb hS4⟩)
                exact wk.does_new (v := .slice (some ⟨w4.heap.size, 0, none⟩) 1 1) (w' := w4.alloc (.cells #[.int .i64 y.1, .int .i64 y.2.1, .int .i64 y.2.2] 27)) (by simp only [execOp, List.map_toArray, List.map_cons, List.map_nil]; rw [e50]; go_simp) (below_new _ _) ⟨_, rfl, RowH.new _ _⟩
              ·
                have ho2 := (Array.getElem?_eq_some_iff.1 ho).2
                simp only [List.getElem_toArray, List.getElem_cons_succ, List.getElem_cons_zero] at ho2
                subst ho2
                clear ho
                have e47 := DG.is { on := 0, ground := .data } (by simp) rfl 47 rfl
                replace e47 : E (.tmp 47) = v := e47
                have e51 := DG.is { on := 4, ground := .data } (by simp) rfl 51 rfl
                replace e51 : ∃ g, E (.tmp 51) = .slice (some ⟨g, 0, none⟩) 1 1 ∧ (Lv 5 = false → RowH w4 g y) := e51
                obtain ⟨g, eg, hone⟩ := e51
                have hL5 : Lv 5 = false := hL
                have hMw := hS4.2.1 hL5
                exact does_append_t (.tmp 47) (.tmp 51) 22 rfl w.heap.size 27 i0 (.agg #[.int .i64 0, .int .i64 0, .int .i64 0]) 3 24 Try.underlying22 hi hz0 hz1 hz2 rfl (by decide) v d.length (fl d) e47 hMw ⟨g, 0, none⟩ 1 (rv y) eg rfl (hone hL5).cells ones3 (by omega) (by omega) hS4.1.size (fun v' w' h5 h6 _ => ⟨h5, fun j' u hLj _ hj => MR.app (by rintro rfl; rw [hL5] at hLj; cases hLj) (by rintro rfl; have := (hS4.2.2.1 hLj).2; rw [hL5] at this; cases this) rfl hj, MRS.app (hS4.1.grown h6 hS4.1.size (fun q hq => (hMw.lt q hq).1)) hS4⟩)
              ·
                have ho2 := (Array.getElem?_eq_some_iff.1 ho).2
                simp only [List.getElem_toArray, List.getElem_cons_succ, List.getElem_cons_zero] at ho2
                subst ho2
                clear ho
                have e1 : E (.tmp 1) = .slice (some ⟨b2, o2, none⟩) n2 c2 := (hold 1 (fun j hj hd => by
              have hj10 : j < 10 := by rcases Nat.lt_or_ge j 10 with h | h; exact h; exact absurd (wk.dst_lt hd) (by show ¬ j < 10; omega)
              have hjw : j = 9 := by
                have h10 : j = 0 ∨ j = 1 ∨ j = 2 ∨ j = 3 ∨ j = 4 ∨ j = 5 ∨ j = 6 ∨ j = 7 ∨ j = 8 ∨ j = 9 := by omega
                rcases h10 with rfl | rfl | rfl | rfl | rfl | rfl | rfl | rfl | rfl | rfl <;> first | rfl | (exfalso; revert hd; decide)
              subst hjw
              have h9 := hj
              have := (hS4.2.2.2 h9).2
              rw [hL] at this
              cases this)).trans rfl
                refine wk.Does.weak (R := fun w' x' => x' = .slice (some ⟨b2, o2, none⟩) n2 c2) ?_ (fun w' v' hb hr => ⟨hr, fun j u _ _ hj => MR.next rfl hb hj, MRS.next 6 (by omega) (by omega) (by omega) hb hS4⟩)
                exact wk.does_move rfl e1
              ·
                have ho2 := (Array.getElem?_eq_some_iff.1 ho).2
                simp only [List.getElem_toArray, List.getElem_cons_succ, List.getElem_cons_zero] at ho2
                subst ho2
                clear ho
                have e53 := DG.is { on := 6, ground := .data } (by simp) rfl 53 rfl
                replace e53 : E (.tmp 53) = .slice (some ⟨b2, o2, none⟩) n2 c2 := e53
                refine wk.Does.weak (R := fun w' x' => x' = .slice (tlA (some ⟨b2, o2, none⟩) c2) (n2 - 1) (c2 - 1)) ?_ (fun w' v' hb hr => ⟨hr, fun j u _ _ hj => MR.next rfl hb hj, MRS.next 7 (by omega) (by omega) (by omega) hb hS4⟩)
                exact wk.does_run (wk.op_slice (LO := some (.int .i64 1)) (HI := none) (MX := none) rfl e53 (by show some (E (.const (.int .i64 1))) = _; rw [DG.con]) rfl rfl (run_tl1At w4 _ _ _ (by omega) (by omega))) rfl
              ·
                have ho2 := (Array.getElem?_eq_some_iff.1 ho).2
                simp only [List.getElem_toArray, List.getElem_cons_succ, List.getElem_cons_zero] at ho2
                subst ho2
                clear ho
                have e52 := DG.is { on := 5, ground := .data } (by simp) rfl 52 rfl
                replace e52 : w4.ownsRow w.heap.size 27 3 (E (.tmp 52)) (d.length + 1) (fl d ++ rv y) := e52
                refine wk.Does.weak (R := fun w' x' => w'.ownsRow w.heap.size 27 3 x' (d.length + 1) (fl d ++ rv y)) ?_ (fun w' v' hb hr => ⟨hr, fun j u _ _ hj => MR.next rfl hb hj, MRS.next 8 (by omega) (fun _ => ⟨hdeps { on := 0, ground := .phase } (by simp) rfl, hdeps { on := 5, ground := .data } (by simp) rfl⟩) (by omega) hb hS4⟩)
                exact wk.does_assign rfl e52
              ·
                have ho2 := (Array.getElem?_eq_some_iff.1 ho).2
                simp only [List.getElem_toArray, List.getElem_cons_succ, List.getElem_cons_zero] at ho2
                subst ho2
                clear ho
                have e54 := DG.is { on := 7, ground := .data } (by simp) rfl 54 rfl
                replace e54 : E (.tmp 54) = .slice (tlA (some ⟨b2, o2, none⟩) c2) (n2 - 1) (c2 - 1) := e54
                refine wk.Does.weak (R := fun w' x' => x' = .slice (tlA (some ⟨b2, o2, none⟩) c2) (n2 - 1) (c2 - 1)) ?_ (fun w' v' hb hr => ⟨hr, fun j u _ _ hj => MR.next rfl hb hj, MRS.next 9 (by omega) (by omega) (fun _ => ⟨hdeps { on := 1, ground := .phase } (by simp) rfl, hdeps { on := 6, ground := .phase } (by simp) rfl⟩) hb hS4⟩)
                exact wk.does_assign rfl e54
            case hdone =>
              intro vals Lv w4 hall hS4 hv
              have h5 : w4.ownsRow w.heap.size 27 3 (vals 8) (d.length + 1) (fl d ++ rv y) := hv 8 (by omega)
              have h7 : vals 9 = .slice (tlA (some ⟨b2, o2, none⟩) c2) (n2 - 1) (c2 - 1) := hv 9 (by omega)
              have hB6 := Lib.hid hS4.1
              have hO6 := Lib.hid h5
              clear hv hall hS4 h5
              simp only [List.drop_succ_cons, List.drop_zero, wpList, wk.setL, List.setIfInBounds_toArray, List.set_cons_zero, List.set_cons_succ, Nat.zero_add, Nat.reduceAdd, h7]
              clear h7
              generalize vals 0 = x0 at *
              generalize vals 1 = x1 at *
              generalize vals 2 = x2 at *
              generalize vals 3 = x3 at *
              generalize vals 4 = x4 at *
              generalize vals 5 = x5 at *
              generalize vals 6 = x6 at *
              generalize vals 7 = x7 at *
              generalize vals 8 = x8 at *
              go_wp2_with fail
              go_roundg (n1 + n2 - 1)
              case measure => have := HM.out; omega
              case rel => exact ⟨_, _, _, _, _, _, _, l1, l2.drop 1, d ++ [y], rfl, rfl, rfl, H1w.out, isH_tail H2w.out (by omega), by have := hO6.out; rw [List.length_append, fl_append]; simpa [fl] using this, hB6.out, by rw [HMG.out, HSB.out, List.append_assoc], by have := HM.out; omega, by have := HM.out; rw [List.length_append, List.length_singleton]; omega⟩
        · have HSC : Hid (mg l1 l2 = mg (l1.drop 1) l2) := by show _ = _; rw [HMGE.out, if_neg hlt, if_neg hgt, HL1E.out]
          have htl := fun w' => run_tl1 w' (some ⟨b1, o1, none⟩) n1 c1 hn1 hc1
          go_wp2_with fail
          refine wk.region_tailS 9 [.is (.func (.func 56) #[] #[]), .is (.slice (some ⟨b1, o1, none⟩) n1 c1), .is (.pointer (some ⟨b1, o1, none⟩)), .is (.agg #[.int .i64 x.1, .int .i64 x.2.1, .int .i64 x.2.2]), .is (.slice (some ⟨b2, o2, none⟩) n2 c2), .is (.pointer (some ⟨b2, o2, none⟩)), .is (.agg #[.int .i64 y.1, .int .i64 y.2.1, .int .i64 y.2.2]), .is (.int .i64 (cmpH x y)), .is (.int .i64 (cmpH x y))] [some 23, some 24, some 25, some 26, some 27, some 28, some 29, some 30, some 8] (by kernel_rfl) (by kernel_rfl) (by kernel_rfl) (by kernel_rfl) [] (by kernel_rfl) (by intro p hp; cases hp) (by kernel_rfl) (by kernel_rfl) ?hstep ?hdone
          case hstep =>
            intro i o ho hi hns E w4 hb4 D
            have hi2 : i = 0 ∨ i = 1 ∨ i = 2 ∨ i = 3 ∨ i = 4 ∨ i = 5 ∨ i = 6 ∨ i = 7 ∨ i = 8 := by omega
            clear hi
            rcases hi2 with rfl | rfl | rfl | rfl | rfl | rfl | rfl | rfl | rfl
            ·
              have ho2 := (Array.getElem?_eq_some_iff.1 ho).2
              simp only [List.getElem_toArray, List.getElem_cons_zero] at ho2
              subst ho2
              clear ho
              have e2 := D.old 2 (by kernel_rfl)
              exact wk.does_move rfl (by rw [e2]; rfl)
            ·
              have ho2 := (Array.getElem?_eq_some_iff.1 ho).2
              simp only [List.getElem_toArray, List.getElem_cons_succ, List.getElem_cons_zero] at ho2
              subst ho2
              clear ho
              have e0 := D.old 0 (by kernel_rfl)
              exact wk.does_move rfl (by rw [e0]; rfl)
            ·
              have ho2 := (Array.getElem?_eq_some_iff.1 ho).2
              simp only [List.getElem_toArray, List.getElem_cons_succ, List.getElem_cons_zero] at ho2
              subst ho2
              clear ho
              have e24 := D.is { on := 1, ground := .data } (by simp) rfl rfl 24 rfl
              exact wk.does_run (by simp only [execOp]; rw [show E (.tmp 24) = _ from e24, show E (.const (.int .i64 0)) = .int .i64 0 from D.con _]; go_simp; try (intro h0; omega)) rfl
            ·
              have ho2 := (Array.getElem?_eq_some_iff.1 ho).2
              simp only [List.getElem_toArray, List.getElem_cons_succ, List.getElem_cons_zero] at ho2
              subst ho2
              clear ho
              have e25 := D.is { on := 2, ground := .data } (by simp) rfl rfl 25 rfl
              exact wk.does_load_agg rfl e25 (cs := rv x) (isH_head (H1.out.below ((Below.refl _ _).drew.trans hb4)) HX0.out) Try.underlying27 rfl (by kernel_rfl) rfl
            ·
              have ho2 := (Array.getElem?_eq_some_iff.1 ho).2
              simp only [List.getElem_toArray, List.getElem_cons_succ, List.getElem_cons_zero] at ho2
              subst ho2
              clear ho
              have e1 := D.old 1 (by kernel_rfl)
              exact wk.does_move rfl (by rw [e1]; rfl)
            ·
              have ho2 := (Array.getElem?_eq_some_iff.1 ho).2
              simp only [List.getElem_toArray, List.getElem_cons_succ, List.getElem_cons_zero] at ho2
              subst ho2
              clear ho
              have e27 := D.is { on := 4, ground := .data } (by simp) rfl rfl 27 rfl
              exact wk.does_run (by simp only [execOp]; rw [show E (.tmp 27) = _ from e27, show E (.const (.int .i64 0)) = .int .i64 0 from D.con _]; go_simp; try (intro h0; omega)) rfl
            ·
              have ho2 := (Array.getElem?_eq_some_iff.1 ho).2
              simp only [List.getElem_toArray, List.getElem_cons_succ, List.getElem_cons_zero] at ho2
              subst ho2
              clear ho
              have e28 := D.is { on := 5, ground := .data } (by simp) rfl rfl 28 rfl
              exact wk.does_load_agg rfl e28 (cs := rv y) (isH_head (H2.out.below ((Below.refl _ _).drew.trans hb4)) HY0.out) Try.underlying27 rfl (by kernel_rfl) rfl
            ·
              have ho2 := (Array.getElem?_eq_some_iff.1 ho).2
              simp only [List.getElem_toArray, List.getElem_cons_succ, List.getElem_cons_zero] at ho2
              subst ho2
              clear ho
              have e23 := D.is { on := 0, ground := .data } (by simp) rfl rfl 23 rfl
              have e26 := D.is { on := 3, ground := .data } (by simp) rfl rfl 26 rfl
              have e29 := D.is { on := 6, ground := .data } (by simp) rfl rfl 29 rfl
              refine wk.does_fn (f := 56) (vs := #[.agg #[.int .i64 x.1, .int .i64 x.2.1, .int .i64 x.2.2], .agg #[.int .i64 y.1, .int .i64 y.2.1, .int .i64 y.2.2]]) rfl e23 (by simp [e26, e29]) (by go_simp) ?_
              refine (cmpH_calls _ _ _).mono ?_
              rintro e w7 ⟨rfl, hg⟩
              exact ⟨_, rfl, hg.below, rfl⟩
            ·
              have ho2 := (Array.getElem?_eq_some_iff.1 ho).2
              simp only [List.getElem_toArray, List.getElem_cons_succ, List.getElem_cons_zero] at ho2
              subst ho2
              clear ho
              have e30 := D.is { on := 7, ground := .data } (by simp) rfl rfl 30 rfl
              exact wk.does_assign rfl e30
          case hdone =>
            intro vals w4 hb4 hv
            have h8 := hv 8 (by omega)
            clear hv
            replace h8 : vals 8 = (.int .i64 (cmpH x y)) := h8
            simp only [List.drop_succ_cons, List.drop_zero, wpList, wk.setL, List.setIfInBounds_toArray, List.set_cons_zero, List.set_cons_succ, Nat.zero_add, Nat.reduceAdd, h8]
            generalize vals 0 = x0
            generalize vals 1 = x1
            generalize vals 2 = x2
            generalize vals 3 = x3
            generalize vals 4 = x4
            generalize vals 5 = x5
            generalize vals 6 = x6
            generalize vals 7 = x7
            have hb5 := (Below.refl _ _).drew.trans hb4
            have HBEL5 := Lib.hid (HBEL.out.trans (hb5.mono HBEL.out.size))
            have HOW5 := Lib.hid (keptB HOW.out hb5)
            have H15 := Lib.hid (H1w.out.below HBEL5.out)
            clear hb4 hb5
            go_wp2_with fail
            go_roundg (n1 + n2 - 1)
            case measure => have := HM.out; omega
            case rel => exact ⟨_, _, _, _, _, _, _, l1.drop 1, l2, d, rfl, rfl, rfl, isH_tail H1w.out (by omega), H2w.out, HOW5.out, HBEL5.out, by rw [HMG.out, HSC.out], by omega, by have := HM.out; omega⟩
    · have hmgL : mg l1 l2 = l1 ++ l2 := by
        by_cases h10 : n1 = 0
        · have : l1 = [] := List.length_eq_zero_iff.1 (hl1.trans h10)
          rw [this, mg]; rfl
        · have : l2 = [] := List.length_eq_zero_iff.1 (by omega)
          rw [this, mg_nil, List.append_nil]
      have HMGL : Hid (mg a b = d ++ l1 ++ l2) := by show _ = _; rw [hmg, hmgL, List.append_assoc]
      have HSUM : Hid (d.length + n1 + n2 ≤ 1000) := by show _ ≤ _; omega
      have HL1 := Lib.hid hl1
      have HL2 := Lib.hid hl2
      have HBW : Hid (w.heap.size ≤ wr.heap.size) := hbel.size
      clear h1 h2 how hbel hmg hmgL hgg hsum hl1 hl2
      by_cases h10 : n1 = 0
      · subst h10
        clear hlt
        go_wp2_with (at_builtin; refine wpList_appH rfl _ _ rfl w.heap.size _ d.length (fl d) rfl HOW.out A1 _ c1 l1 rfl H1.out ?c3 ?c5 ?_)
        case c3 => have := HSUM.out; omega
        case c5 => exact HBW.out
        intro A5 n5 c5 w5 hown5 hg5
        have hB5 : Below w.heap.size w w5 := HBEL.out.grown hg5 HBW.out (fun g hg => (HOW.out.lt g hg).1)
        have HB5 := Lib.hid hB5
        have HOW5 := Lib.hid hown5
        have H25 := Lib.hid (H2w.out.below hB5)
        have HBW5 : Hid (w.heap.size ≤ w5.heap.size) := hB5.size
        clear hB5 hown5 hg5
        go_wp2_with (at_builtin; refine wpList_appH rfl _ _ rfl w.heap.size _ _ _ rfl HOW5.out A2 _ c2 l2 rfl H25.out ?c3 ?c5 ?_)
        case c3 => have := HSUM.out; omega
        case c5 => exact HBW5.out
        intro A6 n6 c6 w6 hown6 hg6
        have hB6 : Below w.heap.size w w6 := HB5.out.grown hg6 HBW5.out (fun g hg => (HOW5.out.lt g hg).1)
        have HB6 := Lib.hid hB6
        have hfl : fl d ++ (fl l1 ++ fl l2) = fl (mg a b) := by rw [HMGL.out, fl_append, fl_append, List.append_assoc]
        try rw [List.append_assoc] at hown6
        rw [hfl] at hown6
        obtain ⟨A7, c7, hv7, hI7⟩ := isH_of_own hown6 HWA.out
        injection hv7 with e1 e2 e3
        subst e1 e2 e3
        have HNW := Lib.hid (new_of_own hown6)
        have HI7 := Lib.hid hI7
        clear hB6 hown6 hg6 hfl hI7
        go_wp2_with fail
        go_ret
        exact ⟨_, _, _, rfl, HI7.out, HB6.out, HNW.out⟩
      · have h01 : (0 : Int) < (n1 : Int) := by omega
        obtain rfl : n2 = 0 := by omega
        clear hlt
        go_wp2_with (at_builtin; refine wpList_appH rfl _ _ rfl w.heap.size _ d.length (fl d) rfl HOW.out A1 _ c1 l1 rfl H1.out ?c3 ?c5 ?_)
        case c3 => have := HSUM.out; omega
        case c5 => exact HBW.out
        intro A5 n5 c5 w5 hown5 hg5
        have hB5 : Below w.heap.size w w5 := HBEL.out.grown hg5 HBW.out (fun g hg => (HOW.out.lt g hg).1)
        have HB5 := Lib.hid hB5
        have HOW5 := Lib.hid hown5
        have H25 := Lib.hid (H2w.out.below hB5)
        have HBW5 : Hid (w.heap.size ≤ w5.heap.size) := hB5.size
        clear hB5 hown5 hg5
        go_wp2_with (at_builtin; refine wpList_appH rfl _ _ rfl w.heap.size _ _ _ rfl HOW5.out A2 _ c2 l2 rfl H25.out ?c3 ?c5 ?_)
        case c3 => have := HSUM.out; omega
        case c5 => exact HBW5.out
        intro A6 n6 c6 w6 hown6 hg6
        have hB6 : Below w.heap.size w w6 := HB5.out.grown hg6 HBW5.out (fun g hg => (HOW5.out.lt g hg).1)
        have HB6 := Lib.hid hB6
        have hfl : fl d ++ (fl l1 ++ fl l2) = fl (mg a b) := by rw [HMGL.out, fl_append, fl_append, List.append_assoc]
        try rw [List.append_assoc] at hown6
        rw [hfl] at hown6
        obtain ⟨A7, c7, hv7, hI7⟩ := isH_of_own hown6 HWA.out
        injection hv7 with e1 e2 e3
        subst e1 e2 e3
        have HNW := Lib.hid (new_of_own hown6)
        have HI7 := Lib.hid hI7
        clear hB6 hown6 hg6 hfl hI7
        go_wp2_with fail
        go_ret
        exact ⟨_, _, _, rfl, HI7.out, HB6.out, HNW.out⟩
set_option maxRecDepth 100000 in
set_option maxHeartbeats 4000000 in
theorem first_callsN {l : List H} {n c : Nat} {A : Option Addr} (k : Int) (w : World) (h : IsH w A n c l) :
    Calls Try.prog 42 #[.slice A n c, .int .i64 k] w fun e w' => ∃ n' c', e = .returned (.slice A n' c') ∧ IsH w' A n' c' (l.take k.toNat) ∧ w' = w := by
  have hm := h.2.2.1
  have hnc := h.2.1
  have hl := h.1
  obtain ⟨m, hmm⟩ : ∃ m : Nat, m = min n k.toNat := ⟨_, rfl⟩
  have H2 : Hid (IsH w A m c (l.take k.toNat)) := by
    have : l.take k.toNat = l.take m := by
      rw [hmm, ← hl, List.take_eq_take_iff]; omega
    show IsH _ _ _ _ _
    rw [this]
    exact isH_take h (by omega)
  have h2 : min (n : Int) (max k 0) = (m : Int) := by omega
  have hrun := fun w' => run_preH w' A n c m (by omega) hnc
  clear h hl hmm
  go_enter Try.func42, Try.ntmps42
  go_wp2_with fail
  go_ret
  exact ⟨m, c, rfl, H2.out, rfl⟩
set_option maxRecDepth 100000 in
set_option maxHeartbeats 4000000 in
theorem merge2_callsN {a b : List H} {A A' : Option Addr} {n c n' c' : Nat} (k : Int) (w : World) (h : IsH w A n c a) (h' : IsH w A' n' c' b) (hn : n + n' ≤ 1000) : Calls Try.prog 25 #[.slice A n c, .slice A' n' c', .int .i64 k] w fun e w' => ∃ A2 n2 c2, e = .returned (.slice A2 n2 c2) ∧ IsH w' A2 n2 c2 (mergeL a b k.toNat) ∧ Below w.heap.size w w' ∧ New w.heap.size A2 := by
  have HLA := Lib.hid h.1
  have HLB := Lib.hid h'.1
  have H1 := Lib.hid h
  have H2 := Lib.hid h'
  clear h h'
  go_enter Try.func25, Try.ntmps25
  go_wp2_with fail
  refine (nearer_calls _).mono ?_
  rintro e w1 ⟨rfl, hb1⟩
  have HOX := Lib.hid (OrdX.new w1)
  have hbw := hb1.trans ((below_new w1 (.cells #[.func (.func 56) #[] #[]] 55)).mono hb1.size)
  have HBW := Lib.hid hbw
  have HA2 := Lib.hid (H1.out.below hbw)
  have HB2 := Lib.hid (H2.out.below hbw)
  clear hb1 hbw
  go_wp2_with fail
  refine wk.region_tailS 14 [.is (.agg #[.func (.func 56) #[] #[]]), .is (.slice A n c), .is (.slice A' n' c'), .st (fun u x => ∃ A n c, x = .slice A n c ∧ IsH u A n c (unbt a b)) (fun u u2 x h hb => by obtain ⟨A, n, c, h1, h2⟩ := h; exact ⟨A, n, c, h1, h2.below hb⟩), .is (.agg #[.func (.func 56) #[] #[]]), .is (.slice A' n' c'), .is (.slice A n c), .st (fun u x => ∃ A n c, x = .slice A n c ∧ IsH u A n c (unbt b a)) (fun u u2 x h hb => by obtain ⟨A, n, c, h1, h2⟩ := h; exact ⟨A, n, c, h1, h2.below hb⟩), .is (.pointer (some ⟨w1.heap.size, 0, none⟩)), .is (.func (.func 56) #[] #[]), .st (fun u x => ∃ A n c, x = .slice A n c ∧ IsH u A n c (mg (unbt a b) (unbt b a)) ∧ New w.heap.size A) (fun u u2 x h hb => by obtain ⟨A, n, c, h1, h2, h3⟩ := h; exact ⟨A, n, c, h1, h2.below hb, h3⟩), .is (.int .i64 k), .st (fun u x => ∃ A n c, x = .slice A n c ∧ IsH u A n c (mergeL a b k.toNat) ∧ New w.heap.size A) (fun u u2 x h hb => by obtain ⟨A, n, c, h1, h2, h3⟩ := h; exact ⟨A, n, c, h1, h2.below hb, h3⟩), .st (fun u x => ∃ A n c, x = .slice A n c ∧ IsH u A n c (mergeL a b k.toNat) ∧ New w.heap.size A) (fun u u2 x h hb => by obtain ⟨A, n, c, h1, h2, h3⟩ := h; exact ⟨A, n, c, h1, h2.below hb, h3⟩)] [some 9, some 10, some 11, some 12, some 13, some 14, some 15, some 16, some 17, some 18, some 19, some 20, some 21, some 6] (by kernel_rfl) (by kernel_rfl) (by kernel_rfl) (by kernel_rfl) [] (by kernel_rfl) (by intro p hp; cases hp) (by kernel_rfl) (by kernel_rfl) ?hstep ?hdone
  case hstep =>
    intro i o ho hi hns E w4 hb4 D
    have hi2 : i = 0 ∨ i = 1 ∨ i = 2 ∨ i = 3 ∨ i = 4 ∨ i = 5 ∨ i = 6 ∨ i = 7 ∨ i = 8 ∨ i = 9 ∨ i = 10 ∨ i = 11 ∨ i = 12 ∨ i = 13 := by omega
    clear hi
    rcases hi2 with rfl | rfl | rfl | rfl | rfl | rfl | rfl | rfl | rfl | rfl | rfl | rfl | rfl | rfl
    ·
      have ho2 := (Array.getElem?_eq_some_iff.1 ho).2
      simp only [List.getElem_toArray, List.getElem_cons_zero] at ho2
      subst ho2
      clear ho
      have e7 := D.old 7 (by kernel_rfl)
      exact wk.does_load_agg rfl (show E (.tmp 7) = .pointer (some ⟨w1.heap.size, 0, none⟩) by rw [e7]; rfl) (cs := [.func (.func 56) #[] #[]]) ((HOX.out.below ((Below.refl _ _).drew.trans hb4)).cells) Try.underlying55 rfl (by kernel_rfl) rfl
    ·
      have ho2 := (Array.getElem?_eq_some_iff.1 ho).2
      simp only [List.getElem_toArray, List.getElem_cons_succ, List.getElem_cons_zero] at ho2
      subst ho2
      clear ho
      have e0 := D.old 0 (by kernel_rfl)
      exact wk.does_move rfl (by rw [e0]; rfl)
    ·
      have ho2 := (Array.getElem?_eq_some_iff.1 ho).2
      simp only [List.getElem_toArray, List.getElem_cons_succ, List.getElem_cons_zero] at ho2
      subst ho2
      clear ho
      have e1 := D.old 1 (by kernel_rfl)
      exact wk.does_move rfl (by rw [e1]; rfl)
    ·
      have ho2 := (Array.getElem?_eq_some_iff.1 ho).2
      simp only [List.getElem_toArray, List.getElem_cons_succ, List.getElem_cons_zero] at ho2
      subst ho2
      clear ho
      have e9 := D.is { on := 0, ground := .data } (by simp) rfl rfl 9 rfl
      have e10 := D.is { on := 1, ground := .data } (by simp) rfl rfl 10 rfl
      have e11 := D.is { on := 2, ground := .data } (by simp) rfl rfl 11 rfl
      refine wk.does_fn (f := 48) (vs := #[.agg #[.func (.func 56) #[] #[]], .slice A n c, .slice A' n' c']) rfl (D.fn _) (by simp [e9, e10, e11]) (by go_simp) ?_
      refine (unbeaten_calls w4 (HA2.out.below ((Below.refl _ _).drew.trans hb4)) (HB2.out.below ((Below.refl _ _).drew.trans hb4)) (by omega)).mono ?_
      rintro e w7 ⟨A, n, c, rfl, h7, hb7⟩
      exact ⟨_, rfl, hb7, A, n, c, rfl, h7⟩
    ·
      have ho2 := (Array.getElem?_eq_some_iff.1 ho).2
      simp only [List.getElem_toArray, List.getElem_cons_succ, List.getElem_cons_zero] at ho2
      subst ho2
      clear ho
      have e7 := D.old 7 (by kernel_rfl)
      exact wk.does_load_agg rfl (show E (.tmp 7) = .pointer (some ⟨w1.heap.size, 0, none⟩) by rw [e7]; rfl) (cs := [.func (.func 56) #[] #[]]) ((HOX.out.below ((Below.refl _ _).drew.trans hb4)).cells) Try.underlying55 rfl (by kernel_rfl) rfl
    ·
      have ho2 := (Array.getElem?_eq_some_iff.1 ho).2
      simp only [List.getElem_toArray, List.getElem_cons_succ, List.getElem_cons_zero] at ho2
      subst ho2
      clear ho
      have e1 := D.old 1 (by kernel_rfl)
      exact wk.does_move rfl (by rw [e1]; rfl)
    ·
      have ho2 := (Array.getElem?_eq_some_iff.1 ho).2
      simp only [List.getElem_toArray, List.getElem_cons_succ, List.getElem_cons_zero] at ho2
      subst ho2
      clear ho
      have e0 := D.old 0 (by kernel_rfl)
      exact wk.does_move rfl (by rw [e0]; rfl)
    ·
      have ho2 := (Array.getElem?_eq_some_iff.1 ho).2
      simp only [List.getElem_toArray, List.getElem_cons_succ, List.getElem_cons_zero] at ho2
      subst ho2
      clear ho
      have e13 := D.is { on := 4, ground := .data } (by simp) rfl rfl 13 rfl
      have e14 := D.is { on := 5, ground := .data } (by simp) rfl rfl 14 rfl
      have e15 := D.is { on := 6, ground := .data } (by simp) rfl rfl 15 rfl
      refine wk.does_fn (f := 48) (vs := #[.agg #[.func (.func 56) #[] #[]], .slice A' n' c', .slice A n c]) rfl (D.fn _) (by simp [e13, e14, e15]) (by go_simp) ?_
      refine (unbeaten_calls w4 (HB2.out.below ((Below.refl _ _).drew.trans hb4)) (HA2.out.below ((Below.refl _ _).drew.trans hb4)) (by omega)).mono ?_
      rintro e w7 ⟨A, n, c, rfl, h7, hb7⟩
      exact ⟨_, rfl, hb7, A, n, c, rfl, h7⟩
    ·
      have ho2 := (Array.getElem?_eq_some_iff.1 ho).2
      simp only [List.getElem_toArray, List.getElem_cons_succ, List.getElem_cons_zero] at ho2
      subst ho2
      clear ho
      have e7 := D.old 7 (by kernel_rfl)
      exact wk.does_run (by simp only [execOp]; rw [show E (.tmp 7) = .pointer (some ⟨w1.heap.size, 0, none⟩) by rw [e7]; rfl]; go_simp) rfl
    ·
      have ho2 := (Array.getElem?_eq_some_iff.1 ho).2
      simp only [List.getElem_toArray, List.getElem_cons_succ, List.getElem_cons_zero] at ho2
      subst ho2
      clear ho
      have e17 := D.is { on := 8, ground := .data } (by simp) rfl rfl 17 rfl
      exact wk.does_load1 rfl e17 ((HOX.out.below ((Below.refl _ _).drew.trans hb4)).c0) Try.underlying53 rfl rfl
    ·
      have ho2 := (Array.getElem?_eq_some_iff.1 ho).2
      simp only [List.getElem_toArray, List.getElem_cons_succ, List.getElem_cons_zero] at ho2
      subst ho2
      clear ho
      have s12 := D.st { on := 3, ground := .data } (by simp) rfl rfl 12 rfl
      have s16 := D.st { on := 7, ground := .data } (by simp) rfl rfl 16 rfl
      have e18 := D.is { on := 9, ground := .data } (by simp) rfl rfl 18 rfl
      obtain ⟨A3, n3, c3, hx3, h3⟩ := s12
      obtain ⟨A5, n5, c5, hx5, h5⟩ := s16
      refine wk.does_fn (f := 47) (vs := #[.slice A3 n3 c3, .slice A5 n5 c5, .func (.func 56) #[] #[]]) rfl (D.fn _) (by simp [hx3, hx5, e18]) (by go_simp) ?_
      refine (merge_callsN w4 h3 h5 (by have h8 := h3.1; have h9 := h5.1; have := unbt_le a b; have := unbt_le b a; have := HLA.out; have := HLB.out; omega)).mono ?_
      rintro e w7 ⟨A, n, c, rfl, h7, hb7, hn7⟩
      exact ⟨_, rfl, hb7, A, n, c, rfl, h7, hn7.mono (Nat.le_trans HBW.out.size ((Below.refl _ _).drew.trans hb4).size)⟩
    ·
      have ho2 := (Array.getElem?_eq_some_iff.1 ho).2
      simp only [List.getElem_toArray, List.getElem_cons_succ, List.getElem_cons_zero] at ho2
      subst ho2
      clear ho
      have e2 := D.old 2 (by kernel_rfl)
      exact wk.does_move rfl (by rw [e2]; rfl)
    ·
      have ho2 := (Array.getElem?_eq_some_iff.1 ho).2
      simp only [List.getElem_toArray, List.getElem_cons_succ, List.getElem_cons_zero] at ho2
      subst ho2
      clear ho
      have s19 := D.st { on := 10, ground := .data } (by simp) rfl rfl 19 rfl
      have e20 := D.is { on := 11, ground := .data } (by simp) rfl rfl 20 rfl
      obtain ⟨A3, n3, c3, hx3, h3, hn3⟩ := s19
      refine wk.does_fn (f := 42) (vs := #[.slice A3 n3 c3, .int .i64 k]) rfl (D.fn _) (by simp [hx3, e20]) (by go_simp) ?_
      refine (first_callsN k w4 h3).mono ?_
      rintro e w7 ⟨n7, c7, rfl, h7, rfl⟩
      exact ⟨_, rfl, Below.refl _ _, A3, n7, c7, rfl, h7, hn3⟩
    ·
      have ho2 := (Array.getElem?_eq_some_iff.1 ho).2
      simp only [List.getElem_toArray, List.getElem_cons_succ, List.getElem_cons_zero] at ho2
      subst ho2
      clear ho
      have s21 := D.st { on := 12, ground := .data } (by simp) rfl rfl 21 rfl
      exact wk.does_assign rfl s21
  case hdone =>
    intro vals w4 hb4 hv
    have h13 := hv 13 (by omega)
    clear hv
    simp only [List.drop_succ_cons, List.drop_zero, wpList, wk.setL, List.setIfInBounds_toArray, List.set_cons_zero, List.set_cons_succ, Nat.zero_add, Nat.reduceAdd]
    generalize vals 0 = x0
    generalize vals 1 = x1
    generalize vals 2 = x2
    generalize vals 3 = x3
    generalize vals 4 = x4
    generalize vals 5 = x5
    generalize vals 6 = x6
    generalize vals 7 = x7
    generalize vals 8 = x8
    generalize vals 9 = x9
    generalize vals 10 = x10
    generalize vals 11 = x11
    generalize vals 12 = x12
    generalize vals 13 = x13 at *
    have hbB := (Below.refl _ _).drew.trans hb4
    obtain ⟨A9, n9, c9, rfl, h9, hn9⟩ := h13
    have HF := Lib.hid (And.intro h9 (And.intro (HBW.out.trans (hbB.mono HBW.out.size)) hn9))
    clear hb4 hbB h9
    go_wp2_with fail
    go_ret
    exact ⟨A9, n9, c9, rfl, HF.out⟩
set_option maxRecDepth 100000 in
set_option maxHeartbeats 4000000 in
theorem put_callsN {a : List H} {x : H} {A : Option Addr} {n c : Nat} (k : Int) (w : World) (h : IsH w A n c a) (hx : Wd x) (hn : n ≤ 900) : Calls Try.prog 21 #[.slice A n c, .int .i64 k, .agg #[.int .i64 x.1, .int .i64 x.2.1, .int .i64 x.2.2]] w fun e w' => ∃ A2 n2 c2, e = .returned (.slice A2 n2 c2) ∧ IsH w' A2 n2 c2 (mergeL a [x] k.toNat) ∧ Below w.heap.size w w' ∧ New w.heap.size A2 := by
  have hb1 := below_new w (.cells #[.int .i64 x.1, .int .i64 x.2.1, .int .i64 x.2.2] 27)
  have hR := RowH.new w x
  have h0 := hR.c0
  have h1 := hR.c1
  have h2 := hR.c2
  have hb2 := below_new (w.alloc (.cells #[.int .i64 x.1, .int .i64 x.2.1, .int .i64 x.2.2] 27)) (.cells #[.int .i64 x.1, .int .i64 x.2.1, .int .i64 x.2.2] 27)
  have hR2 := RowH.new (w.alloc (.cells #[.int .i64 x.1, .int .i64 x.2.1, .int .i64 x.2.2] 27)) x
  rw [size_new] at hR2
  have HB := Lib.hid (Below.andThen hb1 hb2)
  have HM := Lib.hid (merge2_callsN k ((w.alloc (.cells #[.int .i64 x.1, .int .i64 x.2.1, .int .i64 x.2.2] 27)).alloc (.cells #[.int .i64 x.1, .int .i64 x.2.1, .int .i64 x.2.2] 27)) (isH_below (isH_below h hb1) hb2) (isH_one hR2 hx (Nat.le_refl 1) (by omega)) (by omega))
  clear h hb1 hb2 hR hR2
  go_enter Try.func21, Try.ntmps21
  go_wp2_with fail
  refine HM.out.mono ?_
  rintro e w' ⟨A2, n2, c2, rfl, h3, h4, h5⟩
  have HF := Lib.hid (And.intro h3 (And.intro (Below.andThen HB.out h4) (h5.mono HB.out.size)))
  clear h3 h4
  go_wp2_with fail
  go_ret
  exact ⟨A2, n2, c2, rfl, HF.out⟩
end Go.Proofs.Ytckipafciomklaa.bk
