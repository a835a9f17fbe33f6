/- BoxCutsInTwo: its walk. -/
import Derived.Test.YtlcdjabfkfmpdaaBu

import Derived.Test.YtlcdjabfkfmpdaaBx

import Derived.Test.YtlcdjabfkfmpdaaBy

import Derived.Test.YtlcdjabfkfmpdaaBn

import Derived.Test.YtlcdjabfkfmpdaaOp6

namespace Go.Proofs.Ytlcdjabfkfmpdaa.bk

open Go.ChangeShapes Go.WideShapes Go.ChangeAt Go.RowKit
theorem IsU.below {w w' : World} {A : Option Addr} {n c : Nat} {l : List Int} (h : IsU w A n c l) (hb : Below w.heap.size w w') : IsU w' A n c l := isU_below h hb
theorem wrap_sm9 (x : Int) (h : -9000 ≤ x ∧ x ≤ 9000) : IntKind.i64.wrap x = x := by
  simp [IntKind.wrap, IntKind.signed, IntKind.bits]; omega
end Go.Proofs.Ytlcdjabfkfmpdaa.bk

namespace Go.Proofs.Ytlcdjabfkfmpdaa.boxCutsInTwo

open Go.ChangeShapes Go.WideShapes Go.ChangeAt Go.RowKit

open Go.Proofs.Ytlcdjabfkfmpdaa.bq Go.Proofs.Ytlcdjabfkfmpdaa.vk Go.Proofs.Ytlcdjabfkfmpdaa.wk Go.Proofs.Ytlcdjabfkfmpdaa.bk

set_option linter.unusedVariables false
set_option maxRecDepth 100000 in
set_option maxHeartbeats 16000000 in
theorem walk (w : World) {m ax t : Int} {v : Value} {p : Pair} {A A4 : Option Addr} {n c n4 c4 : Nat} {l pk : List Int} (w0 : (Lit.int .i64 m).wf = true) (w1 : IsX w v p) (w2 : wo.IsI w A n c l) (w3 : (Lit.int .u8 ax).wf = true) (w4 : (Lit.int .i64 t).wf = true) (w5 : IsU w A4 n4 c4 pk) :
    Calls Try.prog 8 #[.int .i64 m, v, .slice A n c, .int .u8 ax, .int .i64 t, .slice A4 n4 c4] w fun e w' => e = .returned (.bool true) ∧ Below w.heap.size w w' := by
  obtain ⟨A1, n1, c1, A2, n2, c2, rfl, hx1, hx2⟩ := w1
  have hn1 := hx1.1
  have hnl := w2.1
  have hncl := w2.2.1
  have hmcl := w2.2.2.1
  have HX : Hid (IsX (w.alloc (.cells #[.slice A1 n1 c1, .slice A2 n2 c2] 25)) (.agg #[.slice A1 n1 c1, .slice A2 n2 c2]) p) := IsX.below ⟨_, _, _, _, _, _, rfl, hx1, hx2⟩ (below_new _ _)
  have HT := Lib.hid (TwoX.new w (.slice A1 n1 c1) (.slice A2 n2 c2))
  have HV := Lib.hid (VI.mk (isI_below w2 (below_new _ (.cells #[.slice A1 n1 c1, .slice A2 n2 c2] 25))))
  have HB := Lib.hid (below_new w (.cells #[.slice A1 n1 c1, .slice A2 n2 c2] 25))
  have HU := Lib.hid (w5.below HB.out)
  have HAX : Hid (0 ≤ ax ∧ ax ≤ 255) := by
    show _ ∧ _
    simpa [Lit.wf, IntKind.min, IntKind.max, IntKind.signed, IntKind.bits] using w3
  clear hx1 hx2 w0 w2 w3 w4 w5
  have HN1 := Lib.hid hn1
  have HNL := Lib.hid hnl
  clear hn1 hnl
  have hc0HT := HT.out.two.c0
  have hc1HT := HT.out.two.c1
  go_enter Try.func8, Try.ntmps8
  go_wp2_with fail
  clear hc0HT hc1HT
  refine (few_calls _ p _ HX.out).mono ?_
  rintro e w1 ⟨rfl, hb⟩
  replace HT := Lib.hid (HT.out.below hb)
  replace HX := Lib.hid (HX.out.below hb)
  replace HV := Lib.hid (HV.out.below hb)
  replace HU := Lib.hid (HU.out.below hb)
  replace HB := Lib.hid (Below.andThen HB.out hb)
  clear hb
  have hc0HT := HT.out.two.c0
  have hc1HT := HT.out.two.c1
  cases hfew : (decide (p.1.length ≤ 40) && decide (p.2.length ≤ 40))
  ·
    go_wp2_with fail
    clear hc0HT hc1HT
    refine (sanity_calls _).mono ?_
    rintro e w' ⟨rfl, hb⟩
    have HBZ := Lib.hid (Below.andThen HB.out hb)
    clear hb
    go_wp2_with fail
    go_ret
    exact ⟨rfl, HBZ.out⟩
  go_wp2_with fail
  clear hc0HT hc1HT
  refine (valid_calls _ p _ HX.out).mono ?_
  rintro e w2 ⟨rfl, hb⟩
  replace HT := Lib.hid (HT.out.below hb)
  replace HX := Lib.hid (HX.out.below hb)
  replace HV := Lib.hid (HV.out.below hb)
  replace HU := Lib.hid (HU.out.below hb)
  replace HB := Lib.hid (Below.andThen HB.out hb)
  clear hb
  have hc0HT := HT.out.two.c0
  have hc1HT := HT.out.two.c1
  cases hval : bvalid p
  ·
    go_wp2_with fail
    clear hc0HT hc1HT
    refine (sanity_calls _).mono ?_
    rintro e w' ⟨rfl, hb⟩
    have HBZ := Lib.hid (Below.andThen HB.out hb)
    clear hb
    go_wp2_with fail
    go_ret
    exact ⟨rfl, HBZ.out⟩
  go_wp2_with fail
  clear hc0HT hc1HT
  refine (rvector_calls A n c l _ HV.out.is).mono ?_
  rintro e w' ⟨rfl, rfl⟩
  have hc0HT := HT.out.two.c0
  have hc1HT := HT.out.two.c1
  cases hvec : vq.valid l
  ·
    go_wp2_with fail
    clear hc0HT hc1HT
    refine (sanity_calls _).mono ?_
    rintro e w' ⟨rfl, hb⟩
    have HBZ := Lib.hid (Below.andThen HB.out hb)
    clear hb
    go_wp2_with fail
    go_ret
    exact ⟨rfl, HBZ.out⟩
  by_cases hnn : n ≠ n1
  ·
    have hnn' : ¬ ((n : Int) = (n1 : Int)) := by omega
    go_wp2_with fail
    clear hc0HT hc1HT
    refine (sanity_calls _).mono ?_
    rintro e w' ⟨rfl, hb⟩
    have HBZ := Lib.hid (Below.andThen HB.out hb)
    clear hb
    go_wp2_with fail
    go_ret
    exact ⟨rfl, HBZ.out⟩
  obtain rfl : n = n1 := by omega
  clear hnn
  go_wp2_with fail
  clear hc0HT hc1HT
  refine (rmetric_calls m _).mono ?_
  rintro e w' ⟨rfl, rfl⟩
  have hc0HT := HT.out.two.c0
  have hc1HT := HT.out.two.c1
  cases hmet : metricB m
  ·
    go_wp2_with fail
    clear hc0HT hc1HT
    refine (sanity_calls _).mono ?_
    rintro e w' ⟨rfl, hb⟩
    have HBZ := Lib.hid (Below.andThen HB.out hb)
    clear hb
    go_wp2_with fail
    go_ret
    exact ⟨rfl, HBZ.out⟩
  have hp := bvalid_iff.1 hval
  have hv := vq.valid_iff.1 hvec
  have hm3 := metric_iff.1 (show metric m = true from hmet)
  have hlp : l.length = p.1.length := by rw [HN1.out, HNL.out]
  have HP := Lib.hid hp
  have HVV := Lib.hid hv
  have HM := Lib.hid hm3
  have HLP := Lib.hid hlp
  have hn32 : n ≤ 32 := by rw [← HNL.out]; exact hv.le
  have hn0 : 1 ≤ n := by rw [← HNL.out]; exact hv.pos
  have HN32 := Lib.hid hn32
  have HN0 := Lib.hid hn0
  obtain ⟨sx, sa, se, hsp⟩ : ∃ sx sa se, splitR p = (sx, sa, se) := ⟨_, _, _, rfl⟩
  have hso := @split_ok p
  rw [hsp] at hso
  have HSO := Lib.hid hso
  have HSP := Lib.hid hsp
  obtain ⟨rr, hrr⟩ : ∃ rr : Int, ax.tmod (n : Int) = rr := ⟨_, rfl⟩
  obtain ⟨c1', c2', ke, hcr⟩ : ∃ c1' c2' ke, cutR p rr t = (c1', c2', ke) := ⟨_, _, _, rfl⟩
  have HRR := Lib.hid hrr
  have HCR := Lib.hid hcr
  clear hp hv hm3 hlp hn32 hn0 hval hvec hmet hfew hsp hso hrr hcr
  go_wp2_with fail
  clear hc0HT hc1HT
  refine (split_calls _ p _ HX.out).mono ?_
  rintro e w5 ⟨rfl, hb⟩
  replace HT := Lib.hid (HT.out.below hb)
  replace HX := Lib.hid (HX.out.below hb)
  replace HV := Lib.hid (HV.out.below hb)
  replace HU := Lib.hid (HU.out.below hb)
  replace HB := Lib.hid (Below.andThen HB.out hb)
  rw [HSP.out]
  clear hb
  have hc0HT := HT.out.two.c0
  have hc1HT := HT.out.two.c1
  by_cases hse : se ≠ 0
  ·
    have hse' : (se == 0) = false := by simpa using hse
    go_wp2_with fail
    clear hc0HT hc1HT
    obtain ⟨hax0, hax1⟩ := HAX.out
    have hn0i : (0 : Int) < (n : Int) := by have := HN0.out; omega
    have hn0n : ¬ n = 0 := by have := HN0.out; omega
    refine wk.region_lev3 (0, 0) 17 (CtR c1' c2' ke (.agg #[.slice A1 n c1, .slice A2 n2 c2]) (.slice A n c) ax (n : Int) rr t) [some 133, some 134, some 135, some 136, some 137, some 138, some 139, some 140, some 132, some 141, some 142, some 143, some 19, some 20, none, none, some 21] (CtS w5) ⟨(Below.refl _ _).drew, fun h => (by cases h), fun h => (by cases h), fun h => (by cases h), fun h => (by cases h), fun h => (by cases h)⟩ (by kernel_rfl) (by kernel_rfl) (by kernel_rfl) (by kernel_rfl) (by kernel_rfl) (by kernel_rfl) ?hstep ?hdone
    case hstep =>
      intro i o ho hi E L w4 γ hS4 hL hdeps DG
      have hi2 : i = 0 ∨ i = 1 ∨ i = 2 ∨ i = 3 ∨ i = 4 ∨ i = 5 ∨ i = 6 ∨ i = 7 ∨ i = 8 ∨ i = 9 ∨ i = 10 ∨ i = 11 ∨ i = 12 ∨ i = 13 ∨ i = 14 ∨ i = 15 ∨ i = 16 := by omega
      clear hi
      rcases hi2 with rfl | rfl | rfl | rfl | rfl | rfl | rfl | rfl | rfl | rfl | rfl | rfl | rfl | rfl | rfl | rfl | rfl
      ·
        have ho2 := (Array.getElem?_eq_some_iff.1 ho).2
        simp only [List.getElem_toArray, List.getElem_cons_zero] at ho2
        subst ho2
        clear ho
        have e7 := DG.old 7 (by kernel_rfl)
        refine wk.Does.weak (R := fun w' x => x = .agg #[.slice A1 n c1, .slice A2 n2 c2]) ?_ (fun w' v hb hr => ⟨γ, hr, fun j u _ _ hj => CtR.next (fun _ => rfl) (fun _ => rfl) rfl rfl hb hj, hS4.next rfl rfl rfl rfl hb⟩)
        exact wk.does_load_row rfl (by rw [e7]; rfl) (HT.out.below hS4.below) Try.underlying25 rfl (by kernel_rfl) rfl
      ·
        have ho2 := (Array.getElem?_eq_some_iff.1 ho).2
        simp only [List.getElem_toArray, List.getElem_cons_succ, List.getElem_cons_zero] at ho2
        subst ho2
        clear ho
        have e3 := DG.old 3 (by kernel_rfl)
        refine wk.Does.weak (R := fun w' x => x = .int .u8 ax) ?_ (fun w' v hb hr => ⟨γ, hr, fun j u _ _ hj => CtR.next (fun _ => rfl) (fun _ => rfl) rfl rfl hb hj, hS4.next rfl rfl rfl rfl hb⟩)
        exact wk.does_move rfl (by rw [e3]; rfl)
      ·
        have ho2 := (Array.getElem?_eq_some_iff.1 ho).2
        simp only [List.getElem_toArray, List.getElem_cons_succ, List.getElem_cons_zero] at ho2
        subst ho2
        clear ho
        have e134 := DG.is { on := 1, ground := .data } (by simp) rfl 134 rfl
        replace e134 : E (.tmp 134) = .int .u8 ax := e134
        refine wk.Does.weak (R := fun w' x => x = .int .i64 ax) ?_ (fun w' v hb hr => ⟨γ, hr, fun j u _ _ hj => CtR.next (fun _ => rfl) (fun _ => rfl) rfl rfl hb hj, hS4.next rfl rfl rfl rfl hb⟩)
        exact wk.does_run (by simp only [execOp]; rw [e134]; go_simp; simp [IntKind.wrap, IntKind.signed, IntKind.bits]; omega) rfl
      ·
        have ho2 := (Array.getElem?_eq_some_iff.1 ho).2
        simp only [List.getElem_toArray, List.getElem_cons_succ, List.getElem_cons_zero] at ho2
        subst ho2
        clear ho
        have e2 := DG.old 2 (by kernel_rfl)
        refine wk.Does.weak (R := fun w' x => x = .slice A n c) ?_ (fun w' v hb hr => ⟨γ, hr, fun j u _ _ hj => CtR.next (fun _ => rfl) (fun _ => rfl) rfl rfl hb hj, hS4.next rfl rfl rfl rfl hb⟩)
        exact wk.does_move rfl (by rw [e2]; rfl)
      ·
        have ho2 := (Array.getElem?_eq_some_iff.1 ho).2
        simp only [List.getElem_toArray, List.getElem_cons_succ, List.getElem_cons_zero] at ho2
        subst ho2
        clear ho
        have e136 := DG.is { on := 3, ground := .data } (by simp) rfl 136 rfl
        replace e136 : E (.tmp 136) = .slice A n c := e136
        refine wk.Does.weak (R := fun w' x => x = .int .i64 (n : Int)) ?_ (fun w' v hb hr => ⟨γ, hr, fun j u _ _ hj => CtR.next (fun _ => rfl) (fun _ => rfl) rfl rfl hb hj, hS4.next rfl rfl rfl rfl hb⟩)
        exact wk.does_run (by simp only [execOp, resolve, List.map_toArray, List.map_cons, List.map_nil]; rw [e136]; go_simp) rfl
      ·
        have ho2 := (Array.getElem?_eq_some_iff.1 ho).2
        simp only [List.getElem_toArray, List.getElem_cons_succ, List.getElem_cons_zero] at ho2
        subst ho2
        clear ho
        have e135 := DG.is { on := 2, ground := .data } (by simp) rfl 135 rfl
        replace e135 : E (.tmp 135) = .int .i64 ax := e135
        have e137 := DG.is { on := 4, ground := .data } (by simp) rfl 137 rfl
        replace e137 : E (.tmp 137) = .int .i64 (n : Int) := e137
        refine wk.Does.weak (R := fun w' x => x = .int .i64 rr) ?_ (fun w' v hb hr => ⟨γ, hr, fun j u _ _ hj => CtR.next (fun _ => rfl) (fun _ => rfl) rfl rfl hb hj, hS4.next rfl rfl rfl rfl hb⟩)
        rw [← HRR.out]
        exact wk.does_run (by simp only [execOp]; rw [e135, e137]; go_simp) rfl
      ·
        have ho2 := (Array.getElem?_eq_some_iff.1 ho).2
        simp only [List.getElem_toArray, List.getElem_cons_succ, List.getElem_cons_zero] at ho2
        subst ho2
        clear ho
        have e4 := DG.old 4 (by kernel_rfl)
        refine wk.Does.weak (R := fun w' x => x = .int .i64 t) ?_ (fun w' v hb hr => ⟨γ, hr, fun j u _ _ hj => CtR.next (fun _ => rfl) (fun _ => rfl) rfl rfl hb hj, hS4.next rfl rfl rfl rfl hb⟩)
        exact wk.does_move rfl (by rw [e4]; rfl)
      ·
        have ho2 := (Array.getElem?_eq_some_iff.1 ho).2
        simp only [List.getElem_toArray, List.getElem_cons_succ, List.getElem_cons_zero] at ho2
        subst ho2
        clear ho
        have e133 := DG.is { on := 0, ground := .data } (by simp) rfl 133 rfl
        replace e133 : E (.tmp 133) = .agg #[.slice A1 n c1, .slice A2 n2 c2] := e133
        have e138 := DG.is { on := 5, ground := .data } (by simp) rfl 138 rfl
        replace e138 : E (.tmp 138) = .int .i64 rr := e138
        have e139 := DG.is { on := 6, ground := .data } (by simp) rfl 139 rfl
        replace e139 : E (.tmp 139) = .int .i64 t := e139
        refine wk.Does.weak (R := fun w' x => ∃ a b, x = .tuple #[a, b, .int .i64 ke] ∧ IsX w' a c1' ∧ IsX w' b c2') ?_ (fun w' v hb hr => ⟨γ, hr, fun j u _ _ hj => CtR.next (fun _ => rfl) (fun _ => rfl) rfl rfl hb hj, hS4.next rfl rfl rfl rfl hb⟩)
        refine wk.does_fn (f := 26) (vs := #[.agg #[.slice A1 n c1, .slice A2 n2 c2], .int .i64 rr, .int .i64 t]) rfl (DG.fn _) (by simp [e133, e138, e139]) (by go_simp) ?_
        refine (cut_calls _ p rr t w4 (HX.out.below hS4.below)).mono ?_
        rintro e w7 ⟨a, b, rfl, ha, hb, hb7⟩
        rw [HCR.out] at ha hb
        rw [HCR.out]
        exact ⟨_, rfl, hb7, a, b, rfl, ha, hb⟩
      ·
        have ho2 := (Array.getElem?_eq_some_iff.1 ho).2
        simp only [List.getElem_toArray, List.getElem_cons_succ, List.getElem_cons_zero] at ho2
        subst ho2
        clear ho
        have s140 := DG.is { on := 7, ground := .data } (by simp) rfl 140 rfl
        refine wk.Does.weak (R := fun w' x => ∃ a b, x = .tuple #[a, b, .int .i64 ke] ∧ IsX w' a c1' ∧ IsX w' b c2') ?_ (fun w' v hb hr => ⟨γ, hr, fun j u _ _ hj => CtR.next (fun _ => rfl) (fun _ => rfl) rfl rfl hb hj, hS4.next rfl rfl rfl rfl hb⟩)
        exact wk.does_move rfl s140
      ·
        have ho2 := (Array.getElem?_eq_some_iff.1 ho).2
        simp only [List.getElem_toArray, List.getElem_cons_succ, List.getElem_cons_zero] at ho2
        subst ho2
        clear ho
        have s132 := DG.is { on := 8, ground := .data } (by simp) rfl 132 rfl
        refine wk.Does.weak (R := fun w' x => IsX w' x c1') ?_ (fun w' v hb hr => ⟨γ, hr, fun j u _ _ hj => CtR.next (fun _ => rfl) (fun _ => rfl) rfl rfl hb hj, hS4.next rfl rfl rfl rfl hb⟩)
        obtain ⟨a, b, h1, h2, h3⟩ := s132
        exact wk.does_extract rfl h1 rfl h2
      ·
        have ho2 := (Array.getElem?_eq_some_iff.1 ho).2
        simp only [List.getElem_toArray, List.getElem_cons_succ, List.getElem_cons_zero] at ho2
        subst ho2
        clear ho
        have s132 := DG.is { on := 8, ground := .data } (by simp) rfl 132 rfl
        refine wk.Does.weak (R := fun w' x => IsX w' x c2') ?_ (fun w' v hb hr => ⟨γ, hr, fun j u _ _ hj => CtR.next (fun _ => rfl) (fun _ => rfl) rfl rfl hb hj, hS4.next rfl rfl rfl rfl hb⟩)
        obtain ⟨a, b, h1, h2, h3⟩ := s132
        exact wk.does_extract rfl h1 rfl h3
      ·
        have ho2 := (Array.getElem?_eq_some_iff.1 ho).2
        simp only [List.getElem_toArray, List.getElem_cons_succ, List.getElem_cons_zero] at ho2
        subst ho2
        clear ho
        have s132 := DG.is { on := 8, ground := .data } (by simp) rfl 132 rfl
        refine wk.Does.weak (R := fun w' x => x = .int .i64 ke) ?_ (fun w' v hb hr => ⟨γ, hr, fun j u _ _ hj => CtR.next (fun _ => rfl) (fun _ => rfl) rfl rfl hb hj, hS4.next rfl rfl rfl rfl hb⟩)
        obtain ⟨a, b, h1, h2, h3⟩ := s132
        exact wk.does_extract rfl h1 rfl rfl
      ·
        have ho2 := (Array.getElem?_eq_some_iff.1 ho).2
        simp only [List.getElem_toArray, List.getElem_cons_succ, List.getElem_cons_zero] at ho2
        subst ho2
        clear ho
        refine wk.Does.weak (R := fun w' x => x = .pointer (some ⟨w4.heap.size, 0, none⟩) ∧ TwoX w' w4.heap.size (.slice none 0 0) (.slice none 0 0) ∧ w4.heap.size < w'.heap.size) ?_ fun w' v hb hr => ⟨(w4.heap.size, γ.2), ⟨hr.1, _, _, _, _, _, _, hr.2.1, fun h => ?_⟩, fun j u hLj _ hj => CtR.next (γ := γ) (fun e => by subst e; rw [hL] at hLj; cases hLj) (fun e => rfl) rfl rfl hb hj, hS4.next12 hr.2.2 hb⟩
        · exact wk.does_new (w' := w4.alloc (.cells #[.slice none 0 0, .slice none 0 0] 25)) (by simp only [execOp]; go_simp) (below_new _ _) ⟨rfl, TwoX.new _ _ _, by rw [size_new]; omega⟩
        · replace h : L 14 = true := h
          have h9 := hS4.c14 h
          rw [hL] at h9; cases h9
      ·
        have ho2 := (Array.getElem?_eq_some_iff.1 ho).2
        simp only [List.getElem_toArray, List.getElem_cons_succ, List.getElem_cons_zero] at ho2
        subst ho2
        clear ho
        refine wk.Does.weak (R := fun w' x => x = .pointer (some ⟨w4.heap.size, 0, none⟩) ∧ TwoX w' w4.heap.size (.slice none 0 0) (.slice none 0 0) ∧ w4.heap.size < w'.heap.size) ?_ fun w' v hb hr => ⟨(γ.1, w4.heap.size), ⟨hr.1, _, _, _, _, _, _, hr.2.1, fun h => ?_⟩, fun j u hLj _ hj => CtR.next (γ := γ) (fun e => rfl) (fun e => by subst e; rw [hL] at hLj; cases hLj) rfl rfl hb hj, hS4.next13 hr.2.2 hb⟩
        · exact wk.does_new (w' := w4.alloc (.cells #[.slice none 0 0, .slice none 0 0] 25)) (by simp only [execOp]; go_simp) (below_new _ _) ⟨rfl, TwoX.new _ _ _, by rw [size_new]; omega⟩
        · replace h : L 15 = true := h
          have h9 := hS4.c15 h
          rw [hL] at h9; cases h9
      ·
        have ho2 := (Array.getElem?_eq_some_iff.1 ho).2
        simp only [List.getElem_toArray, List.getElem_cons_succ, List.getElem_cons_zero] at ho2
        subst ho2
        clear ho
        have s19 := DG.is { on := 12, ground := .data } (by simp) rfl 19 rfl
        have s141 := DG.is { on := 9, ground := .data } (by simp) rfl 141 rfl
        have hLa : L 12 = true := hdeps { on := 12, ground := .data } (by simp) rfl
        obtain ⟨hg, a1, a2, a3, a4, a5, a6, hT, _⟩ := s19
        obtain ⟨b1, b2, b3, b4, b5, b6, hq, hq1, hq2⟩ := s141
        have hc0 := hT.two.c0
        have hc1 := hT.two.c1
        have hf0 := hT.f0 0
        have hf1 := hT.f0 1
        refine wk.does_skip_t (w' := (w4.setCell ⟨γ.1, 0, none⟩ (.slice b1 b2 b3)).setCell ⟨γ.1, 1, none⟩ (.slice b4 b5 b6)) ?_ ⟨γ, trivial, fun j u hLj hu hj => CtR.store14 hT (fun e => by subst e; exact (hS4.ne hLa hLj).symm) hq1 hq2 hj, hS4.store14 hLa⟩
        simp only [execOp]
        rw [hg, hq]
        go_simp
      ·
        have ho2 := (Array.getElem?_eq_some_iff.1 ho).2
        simp only [List.getElem_toArray, List.getElem_cons_succ, List.getElem_cons_zero] at ho2
        subst ho2
        clear ho
        have s20 := DG.is { on := 13, ground := .data } (by simp) rfl 20 rfl
        have s142 := DG.is { on := 10, ground := .data } (by simp) rfl 142 rfl
        have hLa : L 13 = true := hdeps { on := 13, ground := .data } (by simp) rfl
        obtain ⟨hg, a1, a2, a3, a4, a5, a6, hT, _⟩ := s20
        obtain ⟨b1, b2, b3, b4, b5, b6, hq, hq1, hq2⟩ := s142
        have hc0 := hT.two.c0
        have hc1 := hT.two.c1
        have hf0 := hT.f0 0
        have hf1 := hT.f0 1
        refine wk.does_skip_t (w' := (w4.setCell ⟨γ.2, 0, none⟩ (.slice b1 b2 b3)).setCell ⟨γ.2, 1, none⟩ (.slice b4 b5 b6)) ?_ ⟨γ, trivial, fun j u hLj hu hj => CtR.store15 hT (fun e => by subst e; exact hS4.ne hLj hLa) hq1 hq2 hj, hS4.store15 hLa⟩
        simp only [execOp]
        rw [hg, hq]
        go_simp
      ·
        have ho2 := (Array.getElem?_eq_some_iff.1 ho).2
        simp only [List.getElem_toArray, List.getElem_cons_succ, List.getElem_cons_zero] at ho2
        subst ho2
        clear ho
        have e143 := DG.is { on := 11, ground := .data } (by simp) rfl 143 rfl
        replace e143 : E (.tmp 143) = .int .i64 ke := e143
        refine wk.Does.weak (R := fun w' x => x = .int .i64 ke) ?_ (fun w' v hb hr => ⟨γ, hr, fun j u _ _ hj => CtR.next (fun _ => rfl) (fun _ => rfl) rfl rfl hb hj, hS4.next rfl rfl rfl rfl hb⟩)
        exact wk.does_assign rfl e143
    case hdone =>
      intro vals LD w4 γ hall hS4 hv
      obtain ⟨hg1, a1, a2, a3, a4, a5, a6, hT1, hX1⟩ := hv 12 (by omega)
      obtain ⟨hg2, b1, b2, b3, b4, b5, b6, hT2, hX2⟩ := hv 13 (by omega)
      have h16 : vals 16 = .int .i64 ke := hv 16 (by omega)
      have hb := hS4.below
      have HX1 := Lib.hid (hX1 (hall 14 (by omega)))
      have HX2 := Lib.hid (hX2 (hall 15 (by omega)))
      obtain ⟨g1, g2⟩ := γ
      have HT1 : Hid (TwoX w4 g1 (.slice a1 a2 a3) (.slice a4 a5 a6)) := hT1
      have HT2 : Hid (TwoX w4 g2 (.slice b1 b2 b3) (.slice b4 b5 b6)) := hT2
      replace hg1 : vals 12 = .pointer (some ⟨g1, 0, none⟩) := hg1
      replace hg2 : vals 13 = .pointer (some ⟨g2, 0, none⟩) := hg2
      clear hv hX1 hX2 hT1 hT2 hall hS4
      simp only [List.drop_succ_cons, List.drop_zero, List.drop_nil, wpList, wk.setL, List.setIfInBounds_toArray, List.set_cons_zero, List.set_cons_succ, Nat.zero_add, Nat.reduceAdd, hg1, hg2, h16]
      generalize vals 0 = y0
      generalize vals 1 = y1
      generalize vals 2 = y2
      generalize vals 3 = y3
      generalize vals 4 = y4
      generalize vals 5 = y5
      generalize vals 6 = y6
      generalize vals 7 = y7
      generalize vals 8 = y8
      generalize vals 9 = y9
      generalize vals 10 = y10
      generalize vals 11 = y11
      replace HT := Lib.hid (HT.out.below hb)
      replace HX := Lib.hid (HX.out.below hb)
      replace HV := Lib.hid (HV.out.below hb)
      replace HU := Lib.hid (HU.out.below hb)
      replace HB := Lib.hid (Below.andThen HB.out hb)
      clear hb hax0 hax1
      have hc0HT := HT.out.two.c0
      have hc1HT := HT.out.two.c1
      have hc0HT1 := HT1.out.two.c0
      have hc1HT1 := HT1.out.two.c1
      have hc0HT2 := HT2.out.two.c0
      have hc1HT2 := HT2.out.two.c1
      by_cases hke : ke ≠ 0
      ·
        have hke' : (ke == 0) = false := by simpa using hke
        go_wp2_with fail
        clear hc0HT hc1HT hc0HT1 hc1HT1 hc0HT2 hc1HT2
        refine (sanity_calls _).mono ?_
        rintro e w' ⟨rfl, hb⟩
        have HBZ := Lib.hid (Below.andThen HB.out hb)
        clear hb
        go_wp2_with fail
        go_ret
        exact ⟨rfl, HBZ.out⟩
      obtain rfl : ke = 0 := by omega
      clear hke
      have hpa : Parts p c1' c2' rr.toNat t := by
        have h := HCR.out
        unfold cutR at h
        split at h
        · rename_i hok
          simp only [Prod.mk.injEq] at h
          obtain ⟨rfl, rfl, _⟩ := h
          exact cut_parts hok
        · simp at h
      have HPA := Lib.hid hpa
      have hin : has p (inner p pk) = true := has_inner HP.out
      obtain ⟨xi, hxi⟩ : ∃ xi, inner p pk = xi := ⟨_, rfl⟩
      rw [hxi] at hin
      obtain ⟨hxb, hhx⟩ : ∃ hxb, has c1' xi = hxb := ⟨_, rfl⟩
      have hhy : has c2' xi = !hxb := by rw [← hhx, hpa.one hin]; simp
      have HHX := Lib.hid hhx
      have HHY := Lib.hid hhy
      have HXI := Lib.hid hxi
      have hask := asked_iff.2 ⟨HM.out, HLP.out.symm, HP.out, HVV.out⟩
      have hask1 := asked_iff.2 ⟨HM.out, hpa.lx.trans HLP.out.symm, hpa.bx, HVV.out⟩
      have hask2 := asked_iff.2 ⟨HM.out, hpa.ly.trans HLP.out.symm, hpa.by', HVV.out⟩
      have HA0 := Lib.hid hask
      have HA1 := Lib.hid hask1
      have HA2 := Lib.hid hask2
      obtain ⟨k1, hk1⟩ : ∃ k1, keyf m (difs bq.gap c1' (l, l)) = k1 := ⟨_, rfl⟩
      obtain ⟨k2, hk2⟩ : ∃ k2, keyf m (difs bq.gap c2' (l, l)) = k2 := ⟨_, rfl⟩
      obtain ⟨f1, hf1⟩ : ∃ f1, keyf m (difs bq.reach c1' (l, l)) = f1 := ⟨_, rfl⟩
      obtain ⟨f2, hf2⟩ : ∃ f2, keyf m (difs bq.reach c2' (l, l)) = f2 := ⟨_, rfl⟩
      have hkn := hpa.near m l HLP.out
      have hkf := hpa.far m l HLP.out
      rw [hk1, hk2] at hkn
      rw [hf1, hf2] at hkf
      have HKN := Lib.hid hkn
      have HKF := Lib.hid hkf
      have HK1 := Lib.hid hk1
      have HK2 := Lib.hid hk2
      have HF1 := Lib.hid hf1
      have HF2 := Lib.hid hf2
      clear hpa hin hxi hhx hhy hask hask1 hask2 hk1 hk2 hf1 hf2 hkn hkf
      go_wp2_with fail
      clear hc0HT hc1HT hc0HT1 hc1HT1 hc0HT2 hc1HT2
      refine (inner_calls _ p _ _ _ pk _ HX.out HU.out HP.out).mono ?_
      rintro e w6 ⟨x, rfl, hx, hb⟩
      replace HT := Lib.hid (HT.out.below hb)
      replace HX := Lib.hid (HX.out.below hb)
      replace HV := Lib.hid (HV.out.below hb)
      replace HU := Lib.hid (HU.out.below hb)
      replace HX1 := Lib.hid (HX1.out.below hb)
      replace HX2 := Lib.hid (HX2.out.below hb)
      replace HT1 := Lib.hid (HT1.out.below hb)
      replace HT2 := Lib.hid (HT2.out.below hb)
      replace HB := Lib.hid (Below.andThen HB.out hb)
      obtain ⟨An, nn, cn, rfl, hx⟩ := hx
      rw [HXI.out] at hx
      have HI := Lib.hid (VI.mk hx)
      clear hx
      clear hb
      have hc0HT := HT.out.two.c0
      have hc1HT := HT.out.two.c1
      have hc0HT1 := HT1.out.two.c0
      have hc1HT1 := HT1.out.two.c1
      have hc0HT2 := HT2.out.two.c0
      have hc1HT2 := HT2.out.two.c1
      go_wp2_with fail
      clear hc0HT hc1HT hc0HT1 hc1HT1 hc0HT2 hc1HT2
      refine wk.region_tailS 19 [.is (.agg #[.slice a1 a2 a3, .slice a4 a5 a6]), .is (.slice An nn cn), .is (.bool hxb), .is (.agg #[.slice b1 b2 b3, .slice b4 b5 b6]), .is (.slice An nn cn), .is (.bool (!hxb)), .is (.bool false), .is (.bool false), .is (.agg #[.slice a1 a2 a3, .slice a4 a5 a6]), .is (.agg #[.slice A1 n c1, .slice A2 n2 c2]), .is (.bool true), .is (.bool false), .is (.bool false), .is (.bool false), .is (.agg #[.slice b1 b2 b3, .slice b4 b5 b6]), .is (.agg #[.slice A1 n c1, .slice A2 n2 c2]), .is (.bool true), .is (.bool false), .is (.bool false)] [some 150, some 151, some 152, some 153, some 154, some 155, some 156, some 157, some 158, some 159, some 160, some 161, some 162, some 163, some 164, some 165, some 166, some 167, some 168] (by kernel_rfl) (by kernel_rfl) (by kernel_rfl) (by kernel_rfl) [] (by kernel_rfl) (by intro p hp; cases hp) (by kernel_rfl) (by kernel_rfl) ?hstep ?hdone
      case hstep =>
        intro i o ho hi hns E w4 hb4 D
        have hi2 : i = 0 ∨ i = 1 ∨ i = 2 ∨ i = 3 ∨ i = 4 ∨ i = 5 ∨ i = 6 ∨ i = 7 ∨ i = 8 ∨ i = 9 ∨ i = 10 ∨ i = 11 ∨ i = 12 ∨ i = 13 ∨ i = 14 ∨ i = 15 ∨ i = 16 ∨ i = 17 ∨ i = 18 := by omega
        clear hi
        rcases hi2 with rfl | rfl | rfl | rfl | rfl | rfl | rfl | rfl | rfl | rfl | rfl | rfl | rfl | rfl | rfl | rfl | rfl | rfl | rfl
        ·
          have ho2 := (Array.getElem?_eq_some_iff.1 ho).2
          simp only [List.getElem_toArray, List.getElem_cons_zero] at ho2
          subst ho2
          clear ho
          have e19 := D.old 19 (by kernel_rfl)
          exact wk.does_load_row rfl (by rw [e19]; rfl) (HT1.out.below ((Below.refl _ _).drew.trans hb4)) Try.underlying25 rfl (by kernel_rfl) rfl
        ·
          have ho2 := (Array.getElem?_eq_some_iff.1 ho).2
          simp only [List.getElem_toArray, List.getElem_cons_succ, List.getElem_cons_zero] at ho2
          subst ho2
          clear ho
          have e22 := D.old 22 (by kernel_rfl)
          exact wk.does_move rfl (by rw [e22]; rfl)
        ·
          have ho2 := (Array.getElem?_eq_some_iff.1 ho).2
          simp only [List.getElem_toArray, List.getElem_cons_succ, List.getElem_cons_zero] at ho2
          subst ho2
          clear ho
          have e150 := D.is { on := 0, ground := .data } (by simp) rfl rfl 150 rfl
          have e151 := D.is { on := 1, ground := .data } (by simp) rfl rfl 151 rfl
          refine wk.does_fn (f := 33) (vs := #[.agg #[.slice a1 a2 a3, .slice a4 a5 a6], .slice An nn cn]) rfl (D.fn _) (by simp [e150, e151]) (by go_simp) ?_
          refine (has_calls _ c1' _ _ _ xi w4 (HX1.out.below ((Below.refl _ _).drew.trans hb4)) (isI_below HI.out.is ((Below.refl _ _).drew.trans hb4))).mono ?_
          rintro e w7 ⟨rfl, hb7⟩
          rw [HHX.out]
          exact ⟨_, rfl, hb7, rfl⟩
        ·
          have ho2 := (Array.getElem?_eq_some_iff.1 ho).2
          simp only [List.getElem_toArray, List.getElem_cons_succ, List.getElem_cons_zero] at ho2
          subst ho2
          clear ho
          have e20 := D.old 20 (by kernel_rfl)
          exact wk.does_load_row rfl (by rw [e20]; rfl) (HT2.out.below ((Below.refl _ _).drew.trans hb4)) Try.underlying25 rfl (by kernel_rfl) rfl
        ·
          have ho2 := (Array.getElem?_eq_some_iff.1 ho).2
          simp only [List.getElem_toArray, List.getElem_cons_succ, List.getElem_cons_zero] at ho2
          subst ho2
          clear ho
          have e22 := D.old 22 (by kernel_rfl)
          exact wk.does_move rfl (by rw [e22]; rfl)
        ·
          have ho2 := (Array.getElem?_eq_some_iff.1 ho).2
          simp only [List.getElem_toArray, List.getElem_cons_succ, List.getElem_cons_zero] at ho2
          subst ho2
          clear ho
          have e153 := D.is { on := 3, ground := .data } (by simp) rfl rfl 153 rfl
          have e154 := D.is { on := 4, ground := .data } (by simp) rfl rfl 154 rfl
          refine wk.does_fn (f := 33) (vs := #[.agg #[.slice b1 b2 b3, .slice b4 b5 b6], .slice An nn cn]) rfl (D.fn _) (by simp [e153, e154]) (by go_simp) ?_
          refine (has_calls _ c2' _ _ _ xi w4 (HX2.out.below ((Below.refl _ _).drew.trans hb4)) (isI_below HI.out.is ((Below.refl _ _).drew.trans hb4))).mono ?_
          rintro e w7 ⟨rfl, hb7⟩
          rw [HHY.out]
          exact ⟨_, rfl, hb7, rfl⟩
        ·
          have ho2 := (Array.getElem?_eq_some_iff.1 ho).2
          simp only [List.getElem_toArray, List.getElem_cons_succ, List.getElem_cons_zero] at ho2
          subst ho2
          clear ho
          have e152 := D.is { on := 2, ground := .data } (by simp) rfl rfl 152 rfl
          have e155 := D.is { on := 5, ground := .data } (by simp) rfl rfl 155 rfl
          cases hxb <;> exact wk.does_run (by simp only [execOp, resolve, List.map_toArray, List.map_cons, List.map_nil]; rw [e152, e155]; go_simp) rfl
        ·
          have ho2 := (Array.getElem?_eq_some_iff.1 ho).2
          simp only [List.getElem_toArray, List.getElem_cons_succ, List.getElem_cons_zero] at ho2
          subst ho2
          clear ho
          have e156 := D.is { on := 6, ground := .data } (by simp) rfl rfl 156 rfl
          exact wk.does_move rfl e156
        ·
          have ho2 := (Array.getElem?_eq_some_iff.1 ho).2
          simp only [List.getElem_toArray, List.getElem_cons_succ, List.getElem_cons_zero] at ho2
          subst ho2
          clear ho
          have e19 := D.old 19 (by kernel_rfl)
          exact wk.does_load_row rfl (by rw [e19]; rfl) (HT1.out.below ((Below.refl _ _).drew.trans hb4)) Try.underlying25 rfl (by kernel_rfl) rfl
        ·
          have ho2 := (Array.getElem?_eq_some_iff.1 ho).2
          simp only [List.getElem_toArray, List.getElem_cons_succ, List.getElem_cons_zero] at ho2
          subst ho2
          clear ho
          have e7 := D.old 7 (by kernel_rfl)
          exact wk.does_load_row rfl (by rw [e7]; rfl) (HT.out.below ((Below.refl _ _).drew.trans hb4)) Try.underlying25 rfl (by kernel_rfl) rfl
        ·
          have ho2 := (Array.getElem?_eq_some_iff.1 ho).2
          simp only [List.getElem_toArray, List.getElem_cons_succ, List.getElem_cons_zero] at ho2
          subst ho2
          clear ho
          have e158 := D.is { on := 8, ground := .data } (by simp) rfl rfl 158 rfl
          have e159 := D.is { on := 9, ground := .data } (by simp) rfl rfl 159 rfl
          refine wk.does_fn (f := 21) (vs := #[.agg #[.slice a1 a2 a3, .slice a4 a5 a6], .agg #[.slice A1 n c1, .slice A2 n2 c2]]) rfl (D.fn _) (by simp [e158, e159]) (by go_simp) ?_
          refine (inside_calls _ _ c1' p w4 (HX1.out.below ((Below.refl _ _).drew.trans hb4)) (HX.out.below ((Below.refl _ _).drew.trans hb4))).mono ?_
          rintro e w7 ⟨rfl, hb7⟩
          rw [HPA.out.inx]
          exact ⟨_, rfl, hb7, rfl⟩
        ·
          have ho2 := (Array.getElem?_eq_some_iff.1 ho).2
          simp only [List.getElem_toArray, List.getElem_cons_succ, List.getElem_cons_zero] at ho2
          subst ho2
          clear ho
          have e160 := D.is { on := 10, ground := .data } (by simp) rfl rfl 160 rfl
          exact wk.does_run (by simp only [execOp, resolve, List.map_toArray, List.map_cons, List.map_nil]; rw [e160]; go_simp) rfl
        ·
          have ho2 := (Array.getElem?_eq_some_iff.1 ho).2
          simp only [List.getElem_toArray, List.getElem_cons_succ, List.getElem_cons_zero] at ho2
          subst ho2
          clear ho
          have e157 := D.is { on := 7, ground := .data } (by simp) rfl rfl 157 rfl
          have e161 := D.is { on := 11, ground := .data } (by simp) rfl rfl 161 rfl
          exact wk.does_pick rfl e157 e161
        ·
          have ho2 := (Array.getElem?_eq_some_iff.1 ho).2
          simp only [List.getElem_toArray, List.getElem_cons_succ, List.getElem_cons_zero] at ho2
          subst ho2
          clear ho
          have e162 := D.is { on := 12, ground := .data } (by simp) rfl rfl 162 rfl
          exact wk.does_move rfl e162
        ·
          have ho2 := (Array.getElem?_eq_some_iff.1 ho).2
          simp only [List.getElem_toArray, List.getElem_cons_succ, List.getElem_cons_zero] at ho2
          subst ho2
          clear ho
          have e20 := D.old 20 (by kernel_rfl)
          exact wk.does_load_row rfl (by rw [e20]; rfl) (HT2.out.below ((Below.refl _ _).drew.trans hb4)) Try.underlying25 rfl (by kernel_rfl) rfl
        ·
          have ho2 := (Array.getElem?_eq_some_iff.1 ho).2
          simp only [List.getElem_toArray, List.getElem_cons_succ, List.getElem_cons_zero] at ho2
          subst ho2
          clear ho
          have e7 := D.old 7 (by kernel_rfl)
          exact wk.does_load_row rfl (by rw [e7]; rfl) (HT.out.below ((Below.refl _ _).drew.trans hb4)) Try.underlying25 rfl (by kernel_rfl) rfl
        ·
          have ho2 := (Array.getElem?_eq_some_iff.1 ho).2
          simp only [List.getElem_toArray, List.getElem_cons_succ, List.getElem_cons_zero] at ho2
          subst ho2
          clear ho
          have e164 := D.is { on := 14, ground := .data } (by simp) rfl rfl 164 rfl
          have e165 := D.is { on := 15, ground := .data } (by simp) rfl rfl 165 rfl
          refine wk.does_fn (f := 21) (vs := #[.agg #[.slice b1 b2 b3, .slice b4 b5 b6], .agg #[.slice A1 n c1, .slice A2 n2 c2]]) rfl (D.fn _) (by simp [e164, e165]) (by go_simp) ?_
          refine (inside_calls _ _ c2' p w4 (HX2.out.below ((Below.refl _ _).drew.trans hb4)) (HX.out.below ((Below.refl _ _).drew.trans hb4))).mono ?_
          rintro e w7 ⟨rfl, hb7⟩
          rw [HPA.out.iny]
          exact ⟨_, rfl, hb7, rfl⟩
        ·
          have ho2 := (Array.getElem?_eq_some_iff.1 ho).2
          simp only [List.getElem_toArray, List.getElem_cons_succ, List.getElem_cons_zero] at ho2
          subst ho2
          clear ho
          have e166 := D.is { on := 16, ground := .data } (by simp) rfl rfl 166 rfl
          exact wk.does_run (by simp only [execOp, resolve, List.map_toArray, List.map_cons, List.map_nil]; rw [e166]; go_simp) rfl
        ·
          have ho2 := (Array.getElem?_eq_some_iff.1 ho).2
          simp only [List.getElem_toArray, List.getElem_cons_succ, List.getElem_cons_zero] at ho2
          subst ho2
          clear ho
          have e163 := D.is { on := 13, ground := .data } (by simp) rfl rfl 163 rfl
          have e167 := D.is { on := 17, ground := .data } (by simp) rfl rfl 167 rfl
          exact wk.does_pick rfl e163 e167
      case hdone =>
        intro vals w4 hb4 hv
        have h18 := hv 18 (by omega)
        clear hv
        replace h18 : vals 18 = (.bool false) := h18
        simp only [List.drop_succ_cons, List.drop_zero, wpList, wk.setL, List.setIfInBounds_toArray, List.set_cons_zero, List.set_cons_succ, Nat.zero_add, Nat.reduceAdd, h18]
        generalize vals 0 = x0
        generalize vals 1 = x1
        generalize vals 2 = x2
        generalize vals 3 = x3
        generalize vals 4 = x4
        generalize vals 5 = x5
        generalize vals 6 = x6
        generalize vals 7 = x7
        generalize vals 8 = x8
        generalize vals 9 = x9
        generalize vals 10 = x10
        generalize vals 11 = x11
        generalize vals 12 = x12
        generalize vals 13 = x13
        generalize vals 14 = x14
        generalize vals 15 = x15
        generalize vals 16 = x16
        generalize vals 17 = x17
        have hb := ((Below.refl _ _).drew.trans hb4 : Below w6.heap.size w6 w4)
        clear hb4
        replace HT := Lib.hid (HT.out.below hb)
        replace HX := Lib.hid (HX.out.below hb)
        replace HV := Lib.hid (HV.out.below hb)
        replace HU := Lib.hid (HU.out.below hb)
        replace HX1 := Lib.hid (HX1.out.below hb)
        replace HX2 := Lib.hid (HX2.out.below hb)
        replace HT1 := Lib.hid (HT1.out.below hb)
        replace HT2 := Lib.hid (HT2.out.below hb)
        replace HI := Lib.hid (HI.out.below hb)
        replace HB := Lib.hid (Below.andThen HB.out hb)
        clear hb
        have hc0HT := HT.out.two.c0
        have hc1HT := HT.out.two.c1
        have hc0HT1 := HT1.out.two.c0
        have hc1HT1 := HT1.out.two.c1
        have hc0HT2 := HT2.out.two.c0
        have hc1HT2 := HT2.out.two.c1
        go_wp2_with fail
        clear hc0HT hc1HT hc0HT1 hc1HT1 hc0HT2 hc1HT2
        refine (near_calls m _ p A n c l _ HX.out HV.out.is).mono ?_
        rintro e w7 ⟨rfl, hb⟩
        replace HT := Lib.hid (HT.out.below hb)
        replace HX := Lib.hid (HX.out.below hb)
        replace HV := Lib.hid (HV.out.below hb)
        replace HU := Lib.hid (HU.out.below hb)
        replace HX1 := Lib.hid (HX1.out.below hb)
        replace HX2 := Lib.hid (HX2.out.below hb)
        replace HT1 := Lib.hid (HT1.out.below hb)
        replace HT2 := Lib.hid (HT2.out.below hb)
        replace HI := Lib.hid (HI.out.below hb)
        replace HB := Lib.hid (Below.andThen HB.out hb)
        rw [if_pos HA0.out, if_pos HA0.out, HKN.out]
        clear hb
        have hc0HT := HT.out.two.c0
        have hc1HT := HT.out.two.c1
        have hc0HT1 := HT1.out.two.c0
        have hc1HT1 := HT1.out.two.c1
        have hc0HT2 := HT2.out.two.c0
        have hc1HT2 := HT2.out.two.c1
        go_wp2_with fail
        clear hc0HT hc1HT hc0HT1 hc1HT1 hc0HT2 hc1HT2
        refine (near_calls m _ c1' A n c l _ HX1.out HV.out.is).mono ?_
        rintro e w8 ⟨rfl, hb⟩
        replace HT := Lib.hid (HT.out.below hb)
        replace HX := Lib.hid (HX.out.below hb)
        replace HV := Lib.hid (HV.out.below hb)
        replace HU := Lib.hid (HU.out.below hb)
        replace HX1 := Lib.hid (HX1.out.below hb)
        replace HX2 := Lib.hid (HX2.out.below hb)
        replace HT1 := Lib.hid (HT1.out.below hb)
        replace HT2 := Lib.hid (HT2.out.below hb)
        replace HI := Lib.hid (HI.out.below hb)
        replace HB := Lib.hid (Below.andThen HB.out hb)
        rw [if_pos HA1.out, if_pos HA1.out, HK1.out]
        clear hb
        have hc0HT := HT.out.two.c0
        have hc1HT := HT.out.two.c1
        have hc0HT1 := HT1.out.two.c0
        have hc1HT1 := HT1.out.two.c1
        have hc0HT2 := HT2.out.two.c0
        have hc1HT2 := HT2.out.two.c1
        go_wp2_with fail
        clear hc0HT hc1HT hc0HT1 hc1HT1 hc0HT2 hc1HT2
        refine (near_calls m _ c2' A n c l _ HX2.out HV.out.is).mono ?_
        rintro e w9 ⟨rfl, hb⟩
        replace HT := Lib.hid (HT.out.below hb)
        replace HX := Lib.hid (HX.out.below hb)
        replace HV := Lib.hid (HV.out.below hb)
        replace HU := Lib.hid (HU.out.below hb)
        replace HX1 := Lib.hid (HX1.out.below hb)
        replace HX2 := Lib.hid (HX2.out.below hb)
        replace HT1 := Lib.hid (HT1.out.below hb)
        replace HT2 := Lib.hid (HT2.out.below hb)
        replace HI := Lib.hid (HI.out.below hb)
        replace HB := Lib.hid (Below.andThen HB.out hb)
        rw [if_pos HA2.out, if_pos HA2.out, HK2.out]
        clear hb
        have hc0HT := HT.out.two.c0
        have hc1HT := HT.out.two.c1
        have hc0HT1 := HT1.out.two.c0
        have hc1HT1 := HT1.out.two.c1
        have hc0HT2 := HT2.out.two.c0
        have hc1HT2 := HT2.out.two.c1
        go_wp2_with fail
        clear hc0HT hc1HT hc0HT1 hc1HT1 hc0HT2 hc1HT2
        refine (far_calls m _ p A n c l _ HX.out HV.out.is).mono ?_
        rintro e w10 ⟨rfl, hb⟩
        replace HT := Lib.hid (HT.out.below hb)
        replace HX := Lib.hid (HX.out.below hb)
        replace HV := Lib.hid (HV.out.below hb)
        replace HU := Lib.hid (HU.out.below hb)
        replace HX1 := Lib.hid (HX1.out.below hb)
        replace HX2 := Lib.hid (HX2.out.below hb)
        replace HT1 := Lib.hid (HT1.out.below hb)
        replace HT2 := Lib.hid (HT2.out.below hb)
        replace HI := Lib.hid (HI.out.below hb)
        replace HB := Lib.hid (Below.andThen HB.out hb)
        rw [if_pos HA0.out, if_pos HA0.out, HKF.out]
        clear hb
        have hc0HT := HT.out.two.c0
        have hc1HT := HT.out.two.c1
        have hc0HT1 := HT1.out.two.c0
        have hc1HT1 := HT1.out.two.c1
        have hc0HT2 := HT2.out.two.c0
        have hc1HT2 := HT2.out.two.c1
        go_wp2_with fail
        clear hc0HT hc1HT hc0HT1 hc1HT1 hc0HT2 hc1HT2
        refine (far_calls m _ c1' A n c l _ HX1.out HV.out.is).mono ?_
        rintro e w11 ⟨rfl, hb⟩
        replace HT := Lib.hid (HT.out.below hb)
        replace HX := Lib.hid (HX.out.below hb)
        replace HV := Lib.hid (HV.out.below hb)
        replace HU := Lib.hid (HU.out.below hb)
        replace HX1 := Lib.hid (HX1.out.below hb)
        replace HX2 := Lib.hid (HX2.out.below hb)
        replace HT1 := Lib.hid (HT1.out.below hb)
        replace HT2 := Lib.hid (HT2.out.below hb)
        replace HI := Lib.hid (HI.out.below hb)
        replace HB := Lib.hid (Below.andThen HB.out hb)
        rw [if_pos HA1.out, if_pos HA1.out, HF1.out]
        clear hb
        have hc0HT := HT.out.two.c0
        have hc1HT := HT.out.two.c1
        have hc0HT1 := HT1.out.two.c0
        have hc1HT1 := HT1.out.two.c1
        have hc0HT2 := HT2.out.two.c0
        have hc1HT2 := HT2.out.two.c1
        go_wp2_with fail
        clear hc0HT hc1HT hc0HT1 hc1HT1 hc0HT2 hc1HT2
        refine (far_calls m _ c2' A n c l _ HX2.out HV.out.is).mono ?_
        rintro e w12 ⟨rfl, hb⟩
        replace HT := Lib.hid (HT.out.below hb)
        replace HX := Lib.hid (HX.out.below hb)
        replace HV := Lib.hid (HV.out.below hb)
        replace HU := Lib.hid (HU.out.below hb)
        replace HX1 := Lib.hid (HX1.out.below hb)
        replace HX2 := Lib.hid (HX2.out.below hb)
        replace HT1 := Lib.hid (HT1.out.below hb)
        replace HT2 := Lib.hid (HT2.out.below hb)
        replace HI := Lib.hid (HI.out.below hb)
        replace HB := Lib.hid (Below.andThen HB.out hb)
        rw [if_pos HA2.out, if_pos HA2.out, HF2.out]
        clear hb
        have hc0HT := HT.out.two.c0
        have hc1HT := HT.out.two.c1
        have hc0HT1 := HT1.out.two.c0
        have hc1HT1 := HT1.out.two.c1
        have hc0HT2 := HT2.out.two.c0
        have hc1HT2 := HT2.out.two.c1
        go_wp2_with fail
        clear hc0HT hc1HT hc0HT1 hc1HT1 hc0HT2 hc1HT2
        refine (sanity_calls _).mono ?_
        rintro e w13 ⟨rfl, hb⟩
        replace HT := Lib.hid (HT.out.below hb)
        replace HX := Lib.hid (HX.out.below hb)
        replace HV := Lib.hid (HV.out.below hb)
        replace HU := Lib.hid (HU.out.below hb)
        replace HX1 := Lib.hid (HX1.out.below hb)
        replace HX2 := Lib.hid (HX2.out.below hb)
        replace HT1 := Lib.hid (HT1.out.below hb)
        replace HT2 := Lib.hid (HT2.out.below hb)
        replace HI := Lib.hid (HI.out.below hb)
        replace HB := Lib.hid (Below.andThen HB.out hb)
        clear hb
        have hc0HT := HT.out.two.c0
        have hc1HT := HT.out.two.c1
        have hc0HT1 := HT1.out.two.c0
        have hc1HT1 := HT1.out.two.c1
        have hc0HT2 := HT2.out.two.c0
        have hc1HT2 := HT2.out.two.c1
        have HBE := HB.out
        go_wp2_with fail
        go_ret
        exact ⟨rfl, HBE⟩
  ·
    obtain rfl : se = 0 := by omega
    clear hse
    obtain ⟨hok, k, hk, hs1, hs2⟩ := HSO.out rfl
    have hk : sx = (k : Int) := hk
    subst hk
    have hs1 : 2 * sa ≤ at' p.1 k + at' p.2 k := hs1
    have hs2 : at' p.1 k + at' p.2 k ≤ 2 * sa + 1 := hs2
    have hcr6 : cutR p (k : Int) sa = ((p.1, p.2.set k sa), (p.1.set k (sa + 1), p.2), 0) := by
      rw [cutR, if_pos hok]; rfl
    have hkn : k < n := by have h1 := hok.2.2.1; have := HN1.out; omega
    have hkp : k < p.1.length := by have := HN1.out; omega
    have hkp2 : k < p.2.length := by have := HP.out.len; omega
    have hlo := hok.2.2.2.1
    have hhi := hok.2.2.2.2
    simp only [Int.toNat_natCast] at hlo hhi
    have hb1 := vec_at HP.out.lo hkp
    have hb2 := vec_at HP.out.hi hkp2
    have he1 : at' (p.2.set k sa) k = sa := by rw [at_set hkp2, if_pos rfl]
    have he2 : at' (p.1.set k (sa + 1)) k = sa + 1 := by rw [at_set hkp, if_pos rfl]
    have HCR6 := Lib.hid hcr6
    clear hok hcr6
    go_wp2_with fail
    clear hc0HT hc1HT
    refine (cut_calls _ p (k : Int) sa _ HX.out).mono ?_
    rintro e w6 ⟨x, y, rfl, hx, hy, hb⟩
    replace HT := Lib.hid (HT.out.below hb)
    replace HX := Lib.hid (HX.out.below hb)
    replace HV := Lib.hid (HV.out.below hb)
    replace HU := Lib.hid (HU.out.below hb)
    replace HB := Lib.hid (Below.andThen HB.out hb)
    rw [HCR6.out] at hx hy
    rw [HCR6.out]
    obtain ⟨X1, m1, cxl, X2, m2, cxh, rfl, hx1, hx2⟩ := hx
    obtain ⟨Y1, m3, cyl, Y2, m4, cyh, rfl, hy1, hy2⟩ := hy
    obtain rfl : n = m1 := by rw [← hx1.1]; exact HN1.out.symm
    obtain rfl : n = m2 := by rw [← hx2.1, ← HN1.out]; simp [HP.out.len]
    obtain rfl : n = m3 := by rw [← hy1.1, ← HN1.out]; simp
    obtain rfl : n = m4 := by rw [← hy2.1, ← HN1.out]; exact HP.out.len
    have hnc1 := hx1.2.1
    have hnc2 := hx2.2.1
    have hnc3 := hy1.2.1
    have hnc4 := hy2.2.1
    have hmc1 := hx1.2.2.1
    have hmc2 := hx2.2.2.1
    have hmc3 := hy1.2.2.1
    have hmc4 := hy2.2.2.1
    obtain ⟨xl, oxl, rfl, hcxl, hbxl⟩ := isI_get hx1 hkn
    obtain ⟨xh, oxh, rfl, hcxh, hbxh⟩ := isI_get hx2 hkn
    obtain ⟨yl, oyl, rfl, hcyl, hbyl⟩ := isI_get hy1 hkn
    obtain ⟨yh, oyh, rfl, hcyh, hbyh⟩ := isI_get hy2 hkn
    replace hcxh : _ = some (Value.int .i64 sa) := hcxh.trans (by rw [show at' (p.1, p.2.set k sa).2 k = sa from he1])
    replace hcyl : _ = some (Value.int .i64 (sa + 1)) := hcyl.trans (by rw [show at' (p.1.set k (sa + 1), p.2).1 k = sa + 1 from he2])
    have HCxl := Lib.hid hcxl
    have HCxh := Lib.hid hcxh
    have HCyl := Lib.hid hcyl
    have HCyh := Lib.hid hcyh
    clear hcxl hcxh hcyl hcyh he1 he2 hx1 hx2 hy1 hy2
    clear hb
    have hc0HT := HT.out.two.c0
    have hc1HT := HT.out.two.c1
    have HB2 := Lib.hid (show Below w6.heap.size w6 ((w6.alloc (.cells #[.slice (some ⟨xl, oxl, none⟩) n cxl, .slice (some ⟨xh, oxh, none⟩) n cxh] 25)).alloc (.cells #[.slice (some ⟨yl, oyl, none⟩) n cyl, .slice (some ⟨yh, oyh, none⟩) n cyh] 25)) from (Below.andThen (below_new _ _) (below_new _ _)))
    have HT16 := Lib.hid ((TwoX.new w6 (.slice (some ⟨xl, oxl, none⟩) n cxl) (.slice (some ⟨xh, oxh, none⟩) n cxh)).below (below_new _ (.cells #[.slice (some ⟨yl, oyl, none⟩) n cyl, .slice (some ⟨yh, oyh, none⟩) n cyh] 25)))
    have HT17 := Lib.hid (TwoX.new (w6.alloc (.cells #[.slice (some ⟨xl, oxl, none⟩) n cxl, .slice (some ⟨xh, oxh, none⟩) n cxh] 25)) (.slice (some ⟨yl, oyl, none⟩) n cyl) (.slice (some ⟨yh, oyh, none⟩) n cyh))
    rw [size_new] at HT17
    clear hc0HT hc1HT
    replace HT := Lib.hid (HT.out.below HB2.out)
    replace HX := Lib.hid (HX.out.below HB2.out)
    replace HV := Lib.hid (HV.out.below HB2.out)
    replace HU := Lib.hid (HU.out.below HB2.out)
    replace HB := Lib.hid (Below.andThen HB.out HB2.out)
    replace HCxl := Lib.hid (fun w4 (hb : Below ((w6.alloc (.cells #[.slice (some ⟨xl, oxl, none⟩) n cxl, .slice (some ⟨xh, oxh, none⟩) n cxh] 25)).alloc (.cells #[.slice (some ⟨yl, oyl, none⟩) n cyl, .slice (some ⟨yh, oyh, none⟩) n cyh] 25)).heap.size ((w6.alloc (.cells #[.slice (some ⟨xl, oxl, none⟩) n cxl, .slice (some ⟨xh, oxh, none⟩) n cxh] 25)).alloc (.cells #[.slice (some ⟨yl, oyl, none⟩) n cyl, .slice (some ⟨yh, oyh, none⟩) n cyh] 25)) w4) => ((Below.andThen HB2.out hb).cell (p := ⟨_, _, none⟩) hbxl).trans HCxl.out)
    replace HCxh := Lib.hid (fun w4 (hb : Below ((w6.alloc (.cells #[.slice (some ⟨xl, oxl, none⟩) n cxl, .slice (some ⟨xh, oxh, none⟩) n cxh] 25)).alloc (.cells #[.slice (some ⟨yl, oyl, none⟩) n cyl, .slice (some ⟨yh, oyh, none⟩) n cyh] 25)).heap.size ((w6.alloc (.cells #[.slice (some ⟨xl, oxl, none⟩) n cxl, .slice (some ⟨xh, oxh, none⟩) n cxh] 25)).alloc (.cells #[.slice (some ⟨yl, oyl, none⟩) n cyl, .slice (some ⟨yh, oyh, none⟩) n cyh] 25)) w4) => ((Below.andThen HB2.out hb).cell (p := ⟨_, _, none⟩) hbxh).trans HCxh.out)
    replace HCyl := Lib.hid (fun w4 (hb : Below ((w6.alloc (.cells #[.slice (some ⟨xl, oxl, none⟩) n cxl, .slice (some ⟨xh, oxh, none⟩) n cxh] 25)).alloc (.cells #[.slice (some ⟨yl, oyl, none⟩) n cyl, .slice (some ⟨yh, oyh, none⟩) n cyh] 25)).heap.size ((w6.alloc (.cells #[.slice (some ⟨xl, oxl, none⟩) n cxl, .slice (some ⟨xh, oxh, none⟩) n cxh] 25)).alloc (.cells #[.slice (some ⟨yl, oyl, none⟩) n cyl, .slice (some ⟨yh, oyh, none⟩) n cyh] 25)) w4) => ((Below.andThen HB2.out hb).cell (p := ⟨_, _, none⟩) hbyl).trans HCyl.out)
    replace HCyh := Lib.hid (fun w4 (hb : Below ((w6.alloc (.cells #[.slice (some ⟨xl, oxl, none⟩) n cxl, .slice (some ⟨xh, oxh, none⟩) n cxh] 25)).alloc (.cells #[.slice (some ⟨yl, oyl, none⟩) n cyl, .slice (some ⟨yh, oyh, none⟩) n cyh] 25)).heap.size ((w6.alloc (.cells #[.slice (some ⟨xl, oxl, none⟩) n cxl, .slice (some ⟨xh, oxh, none⟩) n cxh] 25)).alloc (.cells #[.slice (some ⟨yl, oyl, none⟩) n cyl, .slice (some ⟨yh, oyh, none⟩) n cyh] 25)) w4) => ((Below.andThen HB2.out hb).cell (p := ⟨_, _, none⟩) hbyh).trans HCyh.out)
    obtain ⟨G, hG⟩ : ∃ G, w6.heap.size = G := ⟨_, rfl⟩
    rw [hG] at HT16 HT17
    obtain ⟨vxl, hvxl⟩ : ∃ vxl, at' p.1 k = vxl := ⟨_, rfl⟩
    obtain ⟨vyh, hvyh⟩ : ∃ vyh, at' p.2 k = vyh := ⟨_, rfl⟩
    obtain ⟨vxh, hvxh⟩ : ∃ vxh : Int, sa = vxh := ⟨_, rfl⟩
    obtain ⟨vyl, hvyl⟩ : ∃ vyl : Int, sa + 1 = vyl := ⟨_, rfl⟩
    obtain ⟨d1, hd1⟩ : ∃ d1 : Int, vxh - vxl = d1 := ⟨_, rfl⟩
    obtain ⟨d2, hd2⟩ : ∃ d2 : Int, vyh - vyl = d2 := ⟨_, rfl⟩
    simp only [hvxl] at HCxl hs1 hs2 hlo hb1
    simp only [hvyh] at HCyh hs1 hs2 hhi hb2
    rw [hvxh] at HCxh
    rw [hvyl] at HCyl
    have HD1 := Lib.hid hd1
    have HD2 := Lib.hid hd2
    have hd3 : ¬ d1 < d2 := by omega
    have hd4 : ¬ d2 + 1 < d1 := by omega
    have hd5 : -5000 ≤ d1 ∧ d1 ≤ 5000 ∧ -5000 ≤ d2 ∧ d2 ≤ 5000 := by omega
    have hd6 : -5000 ≤ vxl ∧ vxl ≤ 5000 ∧ -5000 ≤ vxh ∧ vxh ≤ 5000 ∧ -5000 ≤ vyl ∧ vyl ≤ 5000 ∧ -5000 ≤ vyh ∧ vyh ≤ 5000 := by omega
    have hkni : (k : Int) < (n : Int) := by omega
    have hc0HT := HT.out.two.c0
    have hc1HT := HT.out.two.c1
    simp only [hG]
    go_wp2_with fail
    clear hc0HT hc1HT hd1 hd2 hvxh hvyl hvxl hvyh
    refine wk.region_tailS 53 [.is (.int .i64 0), .is (.bool false), .is (.bool false), .is (.pointer (some ⟨G, 1, none⟩)), .is (.slice (some ⟨xh, oxh, none⟩) n cxh), .is (.int .i64 (k : Int)), .is (.pointer (some ⟨xh, oxh + k, none⟩)), .is (.int .i64 vxh), .is (.pointer (some ⟨G, 0, none⟩)), .is (.slice (some ⟨xl, oxl, none⟩) n cxl), .is (.int .i64 (k : Int)), .is (.pointer (some ⟨xl, oxl + k, none⟩)), .is (.int .i64 vxl), .is (.int .i64 d1), .is (.pointer (some ⟨G + 1, 1, none⟩)), .is (.slice (some ⟨yh, oyh, none⟩) n cyh), .is (.int .i64 (k : Int)), .is (.pointer (some ⟨yh, oyh + k, none⟩)), .is (.int .i64 vyh), .is (.pointer (some ⟨G + 1, 0, none⟩)), .is (.slice (some ⟨yl, oyl, none⟩) n cyl), .is (.int .i64 (k : Int)), .is (.pointer (some ⟨yl, oyl + k, none⟩)), .is (.int .i64 vyl), .is (.int .i64 d2), .is (.bool false), .is (.bool false), .is (.bool false), .is (.pointer (some ⟨G, 1, none⟩)), .is (.slice (some ⟨xh, oxh, none⟩) n cxh), .is (.int .i64 (k : Int)), .is (.pointer (some ⟨xh, oxh + k, none⟩)), .is (.int .i64 vxh), .is (.pointer (some ⟨G, 0, none⟩)), .is (.slice (some ⟨xl, oxl, none⟩) n cxl), .is (.int .i64 (k : Int)), .is (.pointer (some ⟨xl, oxl + k, none⟩)), .is (.int .i64 vxl), .is (.int .i64 d1), .is (.pointer (some ⟨G + 1, 1, none⟩)), .is (.slice (some ⟨yh, oyh, none⟩) n cyh), .is (.int .i64 (k : Int)), .is (.pointer (some ⟨yh, oyh + k, none⟩)), .is (.int .i64 vyh), .is (.pointer (some ⟨G + 1, 0, none⟩)), .is (.slice (some ⟨yl, oyl, none⟩) n cyl), .is (.int .i64 (k : Int)), .is (.pointer (some ⟨yl, oyl + k, none⟩)), .is (.int .i64 vyl), .is (.int .i64 d2), .is (.int .i64 (d2 + 1)), .is (.bool false), .is (.bool false)] [some 79, some 80, some 81, some 82, some 83, some 84, some 85, some 86, some 87, some 88, some 89, some 90, some 91, some 92, some 93, some 94, some 95, some 96, some 97, some 98, some 99, some 100, some 101, some 102, some 103, some 104, some 105, some 106, some 107, some 108, some 109, some 110, some 111, some 112, some 113, some 114, some 115, some 116, some 117, some 118, some 119, some 120, some 121, some 122, some 123, some 124, some 125, some 126, some 127, some 128, some 129, some 130, some 131] (by kernel_rfl) (by kernel_rfl) (by kernel_rfl) (by kernel_rfl) [] (by kernel_rfl) (by intro p hp; cases hp) (by kernel_rfl) (by kernel_rfl) ?hstep ?hdone
    case hstep =>
      intro i o ho hi hns E w4 hb4 D
      have hi2 : i = 0 ∨ i = 1 ∨ i = 2 ∨ i = 3 ∨ i = 4 ∨ i = 5 ∨ i = 6 ∨ i = 7 ∨ i = 8 ∨ i = 9 ∨ i = 10 ∨ i = 11 ∨ i = 12 ∨ i = 13 ∨ i = 14 ∨ i = 15 ∨ i = 16 ∨ i = 17 ∨ i = 18 ∨ i = 19 ∨ i = 20 ∨ i = 21 ∨ i = 22 ∨ i = 23 ∨ i = 24 ∨ i = 25 ∨ i = 26 ∨ i = 27 ∨ i = 28 ∨ i = 29 ∨ i = 30 ∨ i = 31 ∨ i = 32 ∨ i = 33 ∨ i = 34 ∨ i = 35 ∨ i = 36 ∨ i = 37 ∨ i = 38 ∨ i = 39 ∨ i = 40 ∨ i = 41 ∨ i = 42 ∨ i = 43 ∨ i = 44 ∨ i = 45 ∨ i = 46 ∨ i = 47 ∨ i = 48 ∨ i = 49 ∨ i = 50 ∨ i = 51 ∨ i = 52 := by omega
      clear hi
      rcases hi2 with rfl | rfl | rfl | rfl | rfl | rfl | rfl | rfl | rfl | rfl | rfl | rfl | rfl | rfl | rfl | rfl | rfl | rfl | rfl | rfl | rfl | rfl | rfl | rfl | rfl | rfl | rfl | rfl | rfl | rfl | rfl | rfl | rfl | rfl | rfl | rfl | rfl | rfl | rfl | rfl | rfl | rfl | rfl | rfl | rfl | rfl | rfl | rfl | rfl | rfl | rfl | rfl | rfl
      ·
        have ho2 := (Array.getElem?_eq_some_iff.1 ho).2
        simp only [List.getElem_toArray, List.getElem_cons_zero] at ho2
        subst ho2
        clear ho
        have e18 := D.old 18 (by kernel_rfl)
        exact wk.does_move rfl (by rw [e18]; rfl)
      ·
        have ho2 := (Array.getElem?_eq_some_iff.1 ho).2
        simp only [List.getElem_toArray, List.getElem_cons_succ, List.getElem_cons_zero] at ho2
        subst ho2
        clear ho
        have e79 := D.is { on := 0, ground := .data } (by simp) rfl rfl 79 rfl
        exact wk.does_run (by simp only [execOp, resolve, List.map_toArray, List.map_cons, List.map_nil]; rw [e79, D.con]; go_simp) rfl
      ·
        have ho2 := (Array.getElem?_eq_some_iff.1 ho).2
        simp only [List.getElem_toArray, List.getElem_cons_succ, List.getElem_cons_zero] at ho2
        subst ho2
        clear ho
        have e80 := D.is { on := 1, ground := .data } (by simp) rfl rfl 80 rfl
        exact wk.does_move rfl e80
      ·
        have ho2 := (Array.getElem?_eq_some_iff.1 ho).2
        simp only [List.getElem_toArray, List.getElem_cons_succ, List.getElem_cons_zero] at ho2
        subst ho2
        clear ho
        have e16 := D.old 16 (by kernel_rfl)
        exact wk.does_run (by simp only [execOp]; rw [show E (.tmp 16) = .pointer (some ⟨G, 0, none⟩) by rw [e16]; rfl]; go_simp) rfl
      ·
        have ho2 := (Array.getElem?_eq_some_iff.1 ho).2
        simp only [List.getElem_toArray, List.getElem_cons_succ, List.getElem_cons_zero] at ho2
        subst ho2
        clear ho
        have e82 := D.is { on := 3, ground := .data } (by simp) rfl rfl 82 rfl
        exact wk.does_load1 rfl e82 (HT16.out.below ((Below.refl _ _).drew.trans hb4)).two.c1 Try.underlying23 rfl rfl
      ·
        have ho2 := (Array.getElem?_eq_some_iff.1 ho).2
        simp only [List.getElem_toArray, List.getElem_cons_succ, List.getElem_cons_zero] at ho2
        subst ho2
        clear ho
        have e13 := D.old 13 (by kernel_rfl)
        exact wk.does_move rfl (by rw [e13]; rfl)
      ·
        have ho2 := (Array.getElem?_eq_some_iff.1 ho).2
        simp only [List.getElem_toArray, List.getElem_cons_succ, List.getElem_cons_zero] at ho2
        subst ho2
        clear ho
        have e83 := D.is { on := 4, ground := .data } (by simp) rfl rfl 83 rfl
        have e84 := D.is { on := 5, ground := .data } (by simp) rfl rfl 84 rfl
        exact wk.does_run (by simp only [execOp, resolve, List.map_toArray, List.map_cons, List.map_nil]; rw [e83, e84]; go_simp) rfl
      ·
        have ho2 := (Array.getElem?_eq_some_iff.1 ho).2
        simp only [List.getElem_toArray, List.getElem_cons_succ, List.getElem_cons_zero] at ho2
        subst ho2
        clear ho
        have e85 := D.is { on := 6, ground := .data } (by simp) rfl rfl 85 rfl
        exact wk.does_load1 rfl e85 (HCxh.out w4 ((Below.refl _ _).drew.trans hb4)) Try.underlying3 rfl rfl
      ·
        have ho2 := (Array.getElem?_eq_some_iff.1 ho).2
        simp only [List.getElem_toArray, List.getElem_cons_succ, List.getElem_cons_zero] at ho2
        subst ho2
        clear ho
        have e16 := D.old 16 (by kernel_rfl)
        exact wk.does_run (by simp only [execOp]; rw [show E (.tmp 16) = .pointer (some ⟨G, 0, none⟩) by rw [e16]; rfl]; go_simp) rfl
      ·
        have ho2 := (Array.getElem?_eq_some_iff.1 ho).2
        simp only [List.getElem_toArray, List.getElem_cons_succ, List.getElem_cons_zero] at ho2
        subst ho2
        clear ho
        have e87 := D.is { on := 8, ground := .data } (by simp) rfl rfl 87 rfl
        exact wk.does_load1 rfl e87 (HT16.out.below ((Below.refl _ _).drew.trans hb4)).two.c0 Try.underlying23 rfl rfl
      ·
        have ho2 := (Array.getElem?_eq_some_iff.1 ho).2
        simp only [List.getElem_toArray, List.getElem_cons_succ, List.getElem_cons_zero] at ho2
        subst ho2
        clear ho
        have e13 := D.old 13 (by kernel_rfl)
        exact wk.does_move rfl (by rw [e13]; rfl)
      ·
        have ho2 := (Array.getElem?_eq_some_iff.1 ho).2
        simp only [List.getElem_toArray, List.getElem_cons_succ, List.getElem_cons_zero] at ho2
        subst ho2
        clear ho
        have e88 := D.is { on := 9, ground := .data } (by simp) rfl rfl 88 rfl
        have e89 := D.is { on := 10, ground := .data } (by simp) rfl rfl 89 rfl
        exact wk.does_run (by simp only [execOp, resolve, List.map_toArray, List.map_cons, List.map_nil]; rw [e88, e89]; go_simp) rfl
      ·
        have ho2 := (Array.getElem?_eq_some_iff.1 ho).2
        simp only [List.getElem_toArray, List.getElem_cons_succ, List.getElem_cons_zero] at ho2
        subst ho2
        clear ho
        have e90 := D.is { on := 11, ground := .data } (by simp) rfl rfl 90 rfl
        exact wk.does_load1 rfl e90 (HCxl.out w4 ((Below.refl _ _).drew.trans hb4)) Try.underlying3 rfl rfl
      ·
        have ho2 := (Array.getElem?_eq_some_iff.1 ho).2
        simp only [List.getElem_toArray, List.getElem_cons_succ, List.getElem_cons_zero] at ho2
        subst ho2
        clear ho
        have e86 := D.is { on := 7, ground := .data } (by simp) rfl rfl 86 rfl
        have e91 := D.is { on := 12, ground := .data } (by simp) rfl rfl 91 rfl
        exact wk.does_run (by simp only [execOp, resolve, List.map_toArray, List.map_cons, List.map_nil]; rw [e86, e91, ← HD1.out]; go_simp; refine wrap_sm9 _ ?_; omega) rfl
      ·
        have ho2 := (Array.getElem?_eq_some_iff.1 ho).2
        simp only [List.getElem_toArray, List.getElem_cons_succ, List.getElem_cons_zero] at ho2
        subst ho2
        clear ho
        have e17 := D.old 17 (by kernel_rfl)
        exact wk.does_run (by simp only [execOp]; rw [show E (.tmp 17) = .pointer (some ⟨G + 1, 0, none⟩) by rw [e17]; rfl]; go_simp) rfl
      ·
        have ho2 := (Array.getElem?_eq_some_iff.1 ho).2
        simp only [List.getElem_toArray, List.getElem_cons_succ, List.getElem_cons_zero] at ho2
        subst ho2
        clear ho
        have e93 := D.is { on := 14, ground := .data } (by simp) rfl rfl 93 rfl
        exact wk.does_load1 rfl e93 (HT17.out.below ((Below.refl _ _).drew.trans hb4)).two.c1 Try.underlying23 rfl rfl
      ·
        have ho2 := (Array.getElem?_eq_some_iff.1 ho).2
        simp only [List.getElem_toArray, List.getElem_cons_succ, List.getElem_cons_zero] at ho2
        subst ho2
        clear ho
        have e13 := D.old 13 (by kernel_rfl)
        exact wk.does_move rfl (by rw [e13]; rfl)
      ·
        have ho2 := (Array.getElem?_eq_some_iff.1 ho).2
        simp only [List.getElem_toArray, List.getElem_cons_succ, List.getElem_cons_zero] at ho2
        subst ho2
        clear ho
        have e94 := D.is { on := 15, ground := .data } (by simp) rfl rfl 94 rfl
        have e95 := D.is { on := 16, ground := .data } (by simp) rfl rfl 95 rfl
        exact wk.does_run (by simp only [execOp, resolve, List.map_toArray, List.map_cons, List.map_nil]; rw [e94, e95]; go_simp) rfl
      ·
        have ho2 := (Array.getElem?_eq_some_iff.1 ho).2
        simp only [List.getElem_toArray, List.getElem_cons_succ, List.getElem_cons_zero] at ho2
        subst ho2
        clear ho
        have e96 := D.is { on := 17, ground := .data } (by simp) rfl rfl 96 rfl
        exact wk.does_load1 rfl e96 (HCyh.out w4 ((Below.refl _ _).drew.trans hb4)) Try.underlying3 rfl rfl
      ·
        have ho2 := (Array.getElem?_eq_some_iff.1 ho).2
        simp only [List.getElem_toArray, List.getElem_cons_succ, List.getElem_cons_zero] at ho2
        subst ho2
        clear ho
        have e17 := D.old 17 (by kernel_rfl)
        exact wk.does_run (by simp only [execOp]; rw [show E (.tmp 17) = .pointer (some ⟨G + 1, 0, none⟩) by rw [e17]; rfl]; go_simp) rfl
      ·
        have ho2 := (Array.getElem?_eq_some_iff.1 ho).2
        simp only [List.getElem_toArray, List.getElem_cons_succ, List.getElem_cons_zero] at ho2
        subst ho2
        clear ho
        have e98 := D.is { on := 19, ground := .data } (by simp) rfl rfl 98 rfl
        exact wk.does_load1 rfl e98 (HT17.out.below ((Below.refl _ _).drew.trans hb4)).two.c0 Try.underlying23 rfl rfl
      ·
        have ho2 := (Array.getElem?_eq_some_iff.1 ho).2
        simp only [List.getElem_toArray, List.getElem_cons_succ, List.getElem_cons_zero] at ho2
        subst ho2
        clear ho
        have e13 := D.old 13 (by kernel_rfl)
        exact wk.does_move rfl (by rw [e13]; rfl)
      ·
        have ho2 := (Array.getElem?_eq_some_iff.1 ho).2
        simp only [List.getElem_toArray, List.getElem_cons_succ, List.getElem_cons_zero] at ho2
        subst ho2
        clear ho
        have e99 := D.is { on := 20, ground := .data } (by simp) rfl rfl 99 rfl
        have e100 := D.is { on := 21, ground := .data } (by simp) rfl rfl 100 rfl
        exact wk.does_run (by simp only [execOp, resolve, List.map_toArray, List.map_cons, List.map_nil]; rw [e99, e100]; go_simp) rfl
      ·
        have ho2 := (Array.getElem?_eq_some_iff.1 ho).2
        simp only [List.getElem_toArray, List.getElem_cons_succ, List.getElem_cons_zero] at ho2
        subst ho2
        clear ho
        have e101 := D.is { on := 22, ground := .data } (by simp) rfl rfl 101 rfl
        exact wk.does_load1 rfl e101 (HCyl.out w4 ((Below.refl _ _).drew.trans hb4)) Try.underlying3 rfl rfl
      ·
        have ho2 := (Array.getElem?_eq_some_iff.1 ho).2
        simp only [List.getElem_toArray, List.getElem_cons_succ, List.getElem_cons_zero] at ho2
        subst ho2
        clear ho
        have e97 := D.is { on := 18, ground := .data } (by simp) rfl rfl 97 rfl
        have e102 := D.is { on := 23, ground := .data } (by simp) rfl rfl 102 rfl
        exact wk.does_run (by simp only [execOp, resolve, List.map_toArray, List.map_cons, List.map_nil]; rw [e97, e102, ← HD2.out]; go_simp; refine wrap_sm9 _ ?_; omega) rfl
      ·
        have ho2 := (Array.getElem?_eq_some_iff.1 ho).2
        simp only [List.getElem_toArray, List.getElem_cons_succ, List.getElem_cons_zero] at ho2
        subst ho2
        clear ho
        have e92 := D.is { on := 13, ground := .data } (by simp) rfl rfl 92 rfl
        have e103 := D.is { on := 24, ground := .data } (by simp) rfl rfl 103 rfl
        exact wk.does_run (by simp only [execOp, resolve, List.map_toArray, List.map_cons, List.map_nil]; rw [e92, e103]; go_simp) rfl
      ·
        have ho2 := (Array.getElem?_eq_some_iff.1 ho).2
        simp only [List.getElem_toArray, List.getElem_cons_succ, List.getElem_cons_zero] at ho2
        subst ho2
        clear ho
        have e81 := D.is { on := 2, ground := .data } (by simp) rfl rfl 81 rfl
        have e104 := D.is { on := 25, ground := .data } (by simp) rfl rfl 104 rfl
        exact wk.does_pick rfl e81 e104
      ·
        have ho2 := (Array.getElem?_eq_some_iff.1 ho).2
        simp only [List.getElem_toArray, List.getElem_cons_succ, List.getElem_cons_zero] at ho2
        subst ho2
        clear ho
        have e105 := D.is { on := 26, ground := .data } (by simp) rfl rfl 105 rfl
        exact wk.does_move rfl e105
      ·
        have ho2 := (Array.getElem?_eq_some_iff.1 ho).2
        simp only [List.getElem_toArray, List.getElem_cons_succ, List.getElem_cons_zero] at ho2
        subst ho2
        clear ho
        have e16 := D.old 16 (by kernel_rfl)
        exact wk.does_run (by simp only [execOp]; rw [show E (.tmp 16) = .pointer (some ⟨G, 0, none⟩) by rw [e16]; rfl]; go_simp) rfl
      ·
        have ho2 := (Array.getElem?_eq_some_iff.1 ho).2
        simp only [List.getElem_toArray, List.getElem_cons_succ, List.getElem_cons_zero] at ho2
        subst ho2
        clear ho
        have e107 := D.is { on := 28, ground := .data } (by simp) rfl rfl 107 rfl
        exact wk.does_load1 rfl e107 (HT16.out.below ((Below.refl _ _).drew.trans hb4)).two.c1 Try.underlying23 rfl rfl
      ·
        have ho2 := (Array.getElem?_eq_some_iff.1 ho).2
        simp only [List.getElem_toArray, List.getElem_cons_succ, List.getElem_cons_zero] at ho2
        subst ho2
        clear ho
        have e13 := D.old 13 (by kernel_rfl)
        exact wk.does_move rfl (by rw [e13]; rfl)
      ·
        have ho2 := (Array.getElem?_eq_some_iff.1 ho).2
        simp only [List.getElem_toArray, List.getElem_cons_succ, List.getElem_cons_zero] at ho2
        subst ho2
        clear ho
        have e108 := D.is { on := 29, ground := .data } (by simp) rfl rfl 108 rfl
        have e109 := D.is { on := 30, ground := .data } (by simp) rfl rfl 109 rfl
        exact wk.does_run (by simp only [execOp, resolve, List.map_toArray, List.map_cons, List.map_nil]; rw [e108, e109]; go_simp) rfl
      ·
        have ho2 := (Array.getElem?_eq_some_iff.1 ho).2
        simp only [List.getElem_toArray, List.getElem_cons_succ, List.getElem_cons_zero] at ho2
        subst ho2
        clear ho
        have e110 := D.is { on := 31, ground := .data } (by simp) rfl rfl 110 rfl
        exact wk.does_load1 rfl e110 (HCxh.out w4 ((Below.refl _ _).drew.trans hb4)) Try.underlying3 rfl rfl
      ·
        have ho2 := (Array.getElem?_eq_some_iff.1 ho).2
        simp only [List.getElem_toArray, List.getElem_cons_succ, List.getElem_cons_zero] at ho2
        subst ho2
        clear ho
        have e16 := D.old 16 (by kernel_rfl)
        exact wk.does_run (by simp only [execOp]; rw [show E (.tmp 16) = .pointer (some ⟨G, 0, none⟩) by rw [e16]; rfl]; go_simp) rfl
      ·
        have ho2 := (Array.getElem?_eq_some_iff.1 ho).2
        simp only [List.getElem_toArray, List.getElem_cons_succ, List.getElem_cons_zero] at ho2
        subst ho2
        clear ho
        have e112 := D.is { on := 33, ground := .data } (by simp) rfl rfl 112 rfl
        exact wk.does_load1 rfl e112 (HT16.out.below ((Below.refl _ _).drew.trans hb4)).two.c0 Try.underlying23 rfl rfl
      ·
        have ho2 := (Array.getElem?_eq_some_iff.1 ho).2
        simp only [List.getElem_toArray, List.getElem_cons_succ, List.getElem_cons_zero] at ho2
        subst ho2
        clear ho
        have e13 := D.old 13 (by kernel_rfl)
        exact wk.does_move rfl (by rw [e13]; rfl)
      ·
        have ho2 := (Array.getElem?_eq_some_iff.1 ho).2
        simp only [List.getElem_toArray, List.getElem_cons_succ, List.getElem_cons_zero] at ho2
        subst ho2
        clear ho
        have e113 := D.is { on := 34, ground := .data } (by simp) rfl rfl 113 rfl
        have e114 := D.is { on := 35, ground := .data } (by simp) rfl rfl 114 rfl
        exact wk.does_run (by simp only [execOp, resolve, List.map_toArray, List.map_cons, List.map_nil]; rw [e113, e114]; go_simp) rfl
      ·
        have ho2 := (Array.getElem?_eq_some_iff.1 ho).2
        simp only [List.getElem_toArray, List.getElem_cons_succ, List.getElem_cons_zero] at ho2
        subst ho2
        clear ho
        have e115 := D.is { on := 36, ground := .data } (by simp) rfl rfl 115 rfl
        exact wk.does_load1 rfl e115 (HCxl.out w4 ((Below.refl _ _).drew.trans hb4)) Try.underlying3 rfl rfl
      ·
        have ho2 := (Array.getElem?_eq_some_iff.1 ho).2
        simp only [List.getElem_toArray, List.getElem_cons_succ, List.getElem_cons_zero] at ho2
        subst ho2
        clear ho
        have e111 := D.is { on := 32, ground := .data } (by simp) rfl rfl 111 rfl
        have e116 := D.is { on := 37, ground := .data } (by simp) rfl rfl 116 rfl
        exact wk.does_run (by simp only [execOp, resolve, List.map_toArray, List.map_cons, List.map_nil]; rw [e111, e116, ← HD1.out]; go_simp; refine wrap_sm9 _ ?_; omega) rfl
      ·
        have ho2 := (Array.getElem?_eq_some_iff.1 ho).2
        simp only [List.getElem_toArray, List.getElem_cons_succ, List.getElem_cons_zero] at ho2
        subst ho2
        clear ho
        have e17 := D.old 17 (by kernel_rfl)
        exact wk.does_run (by simp only [execOp]; rw [show E (.tmp 17) = .pointer (some ⟨G + 1, 0, none⟩) by rw [e17]; rfl]; go_simp) rfl
      ·
        have ho2 := (Array.getElem?_eq_some_iff.1 ho).2
        simp only [List.getElem_toArray, List.getElem_cons_succ, List.getElem_cons_zero] at ho2
        subst ho2
        clear ho
        have e118 := D.is { on := 39, ground := .data } (by simp) rfl rfl 118 rfl
        exact wk.does_load1 rfl e118 (HT17.out.below ((Below.refl _ _).drew.trans hb4)).two.c1 Try.underlying23 rfl rfl
      ·
        have ho2 := (Array.getElem?_eq_some_iff.1 ho).2
        simp only [List.getElem_toArray, List.getElem_cons_succ, List.getElem_cons_zero] at ho2
        subst ho2
        clear ho
        have e13 := D.old 13 (by kernel_rfl)
        exact wk.does_move rfl (by rw [e13]; rfl)
      ·
        have ho2 := (Array.getElem?_eq_some_iff.1 ho).2
        simp only [List.getElem_toArray, List.getElem_cons_succ, List.getElem_cons_zero] at ho2
        subst ho2
        clear ho
        have e119 := D.is { on := 40, ground := .data } (by simp) rfl rfl 119 rfl
        have e120 := D.is { on := 41, ground := .data } (by simp) rfl rfl 120 rfl
        exact wk.does_run (by simp only [execOp, resolve, List.map_toArray, List.map_cons, List.map_nil]; rw [e119, e120]; go_simp) rfl
      ·
        have ho2 := (Array.getElem?_eq_some_iff.1 ho).2
        simp only [List.getElem_toArray, List.getElem_cons_succ, List.getElem_cons_zero] at ho2
        subst ho2
        clear ho
        have e121 := D.is { on := 42, ground := .data } (by simp) rfl rfl 121 rfl
        exact wk.does_load1 rfl e121 (HCyh.out w4 ((Below.refl _ _).drew.trans hb4)) Try.underlying3 rfl rfl
      ·
        have ho2 := (Array.getElem?_eq_some_iff.1 ho).2
        simp only [List.getElem_toArray, List.getElem_cons_succ, List.getElem_cons_zero] at ho2
        subst ho2
        clear ho
        have e17 := D.old 17 (by kernel_rfl)
        exact wk.does_run (by simp only [execOp]; rw [show E (.tmp 17) = .pointer (some ⟨G + 1, 0, none⟩) by rw [e17]; rfl]; go_simp) rfl
      ·
        have ho2 := (Array.getElem?_eq_some_iff.1 ho).2
        simp only [List.getElem_toArray, List.getElem_cons_succ, List.getElem_cons_zero] at ho2
        subst ho2
        clear ho
        have e123 := D.is { on := 44, ground := .data } (by simp) rfl rfl 123 rfl
        exact wk.does_load1 rfl e123 (HT17.out.below ((Below.refl _ _).drew.trans hb4)).two.c0 Try.underlying23 rfl rfl
      ·
        have ho2 := (Array.getElem?_eq_some_iff.1 ho).2
        simp only [List.getElem_toArray, List.getElem_cons_succ, List.getElem_cons_zero] at ho2
        subst ho2
        clear ho
        have e13 := D.old 13 (by kernel_rfl)
        exact wk.does_move rfl (by rw [e13]; rfl)
      ·
        have ho2 := (Array.getElem?_eq_some_iff.1 ho).2
        simp only [List.getElem_toArray, List.getElem_cons_succ, List.getElem_cons_zero] at ho2
        subst ho2
        clear ho
        have e124 := D.is { on := 45, ground := .data } (by simp) rfl rfl 124 rfl
        have e125 := D.is { on := 46, ground := .data } (by simp) rfl rfl 125 rfl
        exact wk.does_run (by simp only [execOp, resolve, List.map_toArray, List.map_cons, List.map_nil]; rw [e124, e125]; go_simp) rfl
      ·
        have ho2 := (Array.getElem?_eq_some_iff.1 ho).2
        simp only [List.getElem_toArray, List.getElem_cons_succ, List.getElem_cons_zero] at ho2
        subst ho2
        clear ho
        have e126 := D.is { on := 47, ground := .data } (by simp) rfl rfl 126 rfl
        exact wk.does_load1 rfl e126 (HCyl.out w4 ((Below.refl _ _).drew.trans hb4)) Try.underlying3 rfl rfl
      ·
        have ho2 := (Array.getElem?_eq_some_iff.1 ho).2
        simp only [List.getElem_toArray, List.getElem_cons_succ, List.getElem_cons_zero] at ho2
        subst ho2
        clear ho
        have e122 := D.is { on := 43, ground := .data } (by simp) rfl rfl 122 rfl
        have e127 := D.is { on := 48, ground := .data } (by simp) rfl rfl 127 rfl
        exact wk.does_run (by simp only [execOp, resolve, List.map_toArray, List.map_cons, List.map_nil]; rw [e122, e127, ← HD2.out]; go_simp; refine wrap_sm9 _ ?_; omega) rfl
      ·
        have ho2 := (Array.getElem?_eq_some_iff.1 ho).2
        simp only [List.getElem_toArray, List.getElem_cons_succ, List.getElem_cons_zero] at ho2
        subst ho2
        clear ho
        have e128 := D.is { on := 49, ground := .data } (by simp) rfl rfl 128 rfl
        exact wk.does_run (by simp only [execOp, resolve, List.map_toArray, List.map_cons, List.map_nil]; rw [e128, D.con]; go_simp; refine wrap_sm9 _ ?_; omega) rfl
      ·
        have ho2 := (Array.getElem?_eq_some_iff.1 ho).2
        simp only [List.getElem_toArray, List.getElem_cons_succ, List.getElem_cons_zero] at ho2
        subst ho2
        clear ho
        have e117 := D.is { on := 38, ground := .data } (by simp) rfl rfl 117 rfl
        have e129 := D.is { on := 50, ground := .data } (by simp) rfl rfl 129 rfl
        exact wk.does_run (by simp only [execOp, resolve, List.map_toArray, List.map_cons, List.map_nil]; rw [e117, e129]; go_simp) rfl
      ·
        have ho2 := (Array.getElem?_eq_some_iff.1 ho).2
        simp only [List.getElem_toArray, List.getElem_cons_succ, List.getElem_cons_zero] at ho2
        subst ho2
        clear ho
        have e106 := D.is { on := 27, ground := .data } (by simp) rfl rfl 106 rfl
        have e130 := D.is { on := 51, ground := .data } (by simp) rfl rfl 130 rfl
        exact wk.does_pick rfl e106 e130
    case hdone =>
      intro vals w4 hb4 hv
      have h52 := hv 52 (by omega)
      clear hv
      replace h52 : vals 52 = (.bool false) := h52
      simp only [List.drop_succ_cons, List.drop_zero, wpList, wk.setL, List.setIfInBounds_toArray, List.set_cons_zero, List.set_cons_succ, Nat.zero_add, Nat.reduceAdd, h52]
      generalize vals 0 = x0
      generalize vals 1 = x1
      generalize vals 2 = x2
      generalize vals 3 = x3
      generalize vals 4 = x4
      generalize vals 5 = x5
      generalize vals 6 = x6
      generalize vals 7 = x7
      generalize vals 8 = x8
      generalize vals 9 = x9
      generalize vals 10 = x10
      generalize vals 11 = x11
      generalize vals 12 = x12
      generalize vals 13 = x13
      generalize vals 14 = x14
      generalize vals 15 = x15
      generalize vals 16 = x16
      generalize vals 17 = x17
      generalize vals 18 = x18
      generalize vals 19 = x19
      generalize vals 20 = x20
      generalize vals 21 = x21
      generalize vals 22 = x22
      generalize vals 23 = x23
      generalize vals 24 = x24
      generalize vals 25 = x25
      generalize vals 26 = x26
      generalize vals 27 = x27
      generalize vals 28 = x28
      generalize vals 29 = x29
      generalize vals 30 = x30
      generalize vals 31 = x31
      generalize vals 32 = x32
      generalize vals 33 = x33
      generalize vals 34 = x34
      generalize vals 35 = x35
      generalize vals 36 = x36
      generalize vals 37 = x37
      generalize vals 38 = x38
      generalize vals 39 = x39
      generalize vals 40 = x40
      generalize vals 41 = x41
      generalize vals 42 = x42
      generalize vals 43 = x43
      generalize vals 44 = x44
      generalize vals 45 = x45
      generalize vals 46 = x46
      generalize vals 47 = x47
      generalize vals 48 = x48
      generalize vals 49 = x49
      generalize vals 50 = x50
      generalize vals 51 = x51
      have hb := ((Below.refl _ _).drew.trans hb4 : Below ((w6.alloc (.cells #[.slice (some ⟨xl, oxl, none⟩) n cxl, .slice (some ⟨xh, oxh, none⟩) n cxh] 25)).alloc (.cells #[.slice (some ⟨yl, oyl, none⟩) n cyl, .slice (some ⟨yh, oyh, none⟩) n cyh] 25)).heap.size ((w6.alloc (.cells #[.slice (some ⟨xl, oxl, none⟩) n cxl, .slice (some ⟨xh, oxh, none⟩) n cxh] 25)).alloc (.cells #[.slice (some ⟨yl, oyl, none⟩) n cyl, .slice (some ⟨yh, oyh, none⟩) n cyh] 25)) w4)
      clear hb4
      replace HT := Lib.hid (HT.out.below hb)
      replace HX := Lib.hid (HX.out.below hb)
      replace HV := Lib.hid (HV.out.below hb)
      replace HU := Lib.hid (HU.out.below hb)
      replace HB := Lib.hid (Below.andThen HB.out hb)
      clear hb
      have hc0HT := HT.out.two.c0
      have hc1HT := HT.out.two.c1
      go_wp2_with fail
      clear hc0HT hc1HT
      obtain ⟨hax0, hax1⟩ := HAX.out
      have hn0i : (0 : Int) < (n : Int) := by have := HN0.out; omega
      have hn0n : ¬ n = 0 := by have := HN0.out; omega
      refine wk.region_lev3 (0, 0) 17 (CtR c1' c2' ke (.agg #[.slice A1 n c1, .slice A2 n2 c2]) (.slice A n c) ax (n : Int) rr t) [some 133, some 134, some 135, some 136, some 137, some 138, some 139, some 140, some 132, some 141, some 142, some 143, some 19, some 20, none, none, some 21] (CtS w4) ⟨(Below.refl _ _).drew, fun h => (by cases h), fun h => (by cases h), fun h => (by cases h), fun h => (by cases h), fun h => (by cases h)⟩ (by kernel_rfl) (by kernel_rfl) (by kernel_rfl) (by kernel_rfl) (by kernel_rfl) (by kernel_rfl) ?hstep ?hdone
      case hstep =>
        intro i o ho hi E L w4 γ hS4 hL hdeps DG
        have hi2 : i = 0 ∨ i = 1 ∨ i = 2 ∨ i = 3 ∨ i = 4 ∨ i = 5 ∨ i = 6 ∨ i = 7 ∨ i = 8 ∨ i = 9 ∨ i = 10 ∨ i = 11 ∨ i = 12 ∨ i = 13 ∨ i = 14 ∨ i = 15 ∨ i = 16 := by omega
        clear hi
        rcases hi2 with rfl | rfl | rfl | rfl | rfl | rfl | rfl | rfl | rfl | rfl | rfl | rfl | rfl | rfl | rfl | rfl | rfl
        ·
          have ho2 := (Array.getElem?_eq_some_iff.1 ho).2
          simp only [List.getElem_toArray, List.getElem_cons_zero] at ho2
          subst ho2
          clear ho
          have e7 := DG.old 7 (by kernel_rfl)
          refine wk.Does.weak (R := fun w' x => x = .agg #[.slice A1 n c1, .slice A2 n2 c2]) ?_ (fun w' v hb hr => ⟨γ, hr, fun j u _ _ hj => CtR.next (fun _ => rfl) (fun _ => rfl) rfl rfl hb hj, hS4.next rfl rfl rfl rfl hb⟩)
          exact wk.does_load_row rfl (by rw [e7]; rfl) (HT.out.below hS4.below) Try.underlying25 rfl (by kernel_rfl) rfl
        ·
          have ho2 := (Array.getElem?_eq_some_iff.1 ho).2
          simp only [List.getElem_toArray, List.getElem_cons_succ, List.getElem_cons_zero] at ho2
          subst ho2
          clear ho
          have e3 := DG.old 3 (by kernel_rfl)
          refine wk.Does.weak (R := fun w' x => x = .int .u8 ax) ?_ (fun w' v hb hr => ⟨γ, hr, fun j u _ _ hj => CtR.next (fun _ => rfl) (fun _ => rfl) rfl rfl hb hj, hS4.next rfl rfl rfl rfl hb⟩)
          exact wk.does_move rfl (by rw [e3]; rfl)
        ·
          have ho2 := (Array.getElem?_eq_some_iff.1 ho).2
          simp only [List.getElem_toArray, List.getElem_cons_succ, List.getElem_cons_zero] at ho2
          subst ho2
          clear ho
          have e134 := DG.is { on := 1, ground := .data } (by simp) rfl 134 rfl
          replace e134 : E (.tmp 134) = .int .u8 ax := e134
          refine wk.Does.weak (R := fun w' x => x = .int .i64 ax) ?_ (fun w' v hb hr => ⟨γ, hr, fun j u _ _ hj => CtR.next (fun _ => rfl) (fun _ => rfl) rfl rfl hb hj, hS4.next rfl rfl rfl rfl hb⟩)
          exact wk.does_run (by simp only [execOp]; rw [e134]; go_simp; simp [IntKind.wrap, IntKind.signed, IntKind.bits]; omega) rfl
        ·
          have ho2 := (Array.getElem?_eq_some_iff.1 ho).2
          simp only [List.getElem_toArray, List.getElem_cons_succ, List.getElem_cons_zero] at ho2
          subst ho2
          clear ho
          have e2 := DG.old 2 (by kernel_rfl)
          refine wk.Does.weak (R := fun w' x => x = .slice A n c) ?_ (fun w' v hb hr => ⟨γ, hr, fun j u _ _ hj => CtR.next (fun _ => rfl) (fun _ => rfl) rfl rfl hb hj, hS4.next rfl rfl rfl rfl hb⟩)
          exact wk.does_move rfl (by rw [e2]; rfl)
        ·
          have ho2 := (Array.getElem?_eq_some_iff.1 ho).2
          simp only [List.getElem_toArray, List.getElem_cons_succ, List.getElem_cons_zero] at ho2
          subst ho2
          clear ho
          have e136 := DG.is { on := 3, ground := .data } (by simp) rfl 136 rfl
          replace e136 : E (.tmp 136) = .slice A n c := e136
          refine wk.Does.weak (R := fun w' x => x = .int .i64 (n : Int)) ?_ (fun w' v hb hr => ⟨γ, hr, fun j u _ _ hj => CtR.next (fun _ => rfl) (fun _ => rfl) rfl rfl hb hj, hS4.next rfl rfl rfl rfl hb⟩)
          exact wk.does_run (by simp only [execOp, resolve, List.map_toArray, List.map_cons, List.map_nil]; rw [e136]; go_simp) rfl
        ·
          have ho2 := (Array.getElem?_eq_some_iff.1 ho).2
          simp only [List.getElem_toArray, List.getElem_cons_succ, List.getElem_cons_zero] at ho2
          subst ho2
          clear ho
          have e135 := DG.is { on := 2, ground := .data } (by simp) rfl 135 rfl
          replace e135 : E (.tmp 135) = .int .i64 ax := e135
          have e137 := DG.is { on := 4, ground := .data } (by simp) rfl 137 rfl
          replace e137 : E (.tmp 137) = .int .i64 (n : Int) := e137
          refine wk.Does.weak (R := fun w' x => x = .int .i64 rr) ?_ (fun w' v hb hr => ⟨γ, hr, fun j u _ _ hj => CtR.next (fun _ => rfl) (fun _ => rfl) rfl rfl hb hj, hS4.next rfl rfl rfl rfl hb⟩)
          rw [← HRR.out]
          exact wk.does_run (by simp only [execOp]; rw [e135, e137]; go_simp) rfl
        ·
          have ho2 := (Array.getElem?_eq_some_iff.1 ho).2
          simp only [List.getElem_toArray, List.getElem_cons_succ, List.getElem_cons_zero] at ho2
          subst ho2
          clear ho
          have e4 := DG.old 4 (by kernel_rfl)
          refine wk.Does.weak (R := fun w' x => x = .int .i64 t) ?_ (fun w' v hb hr => ⟨γ, hr, fun j u _ _ hj => CtR.next (fun _ => rfl) (fun _ => rfl) rfl rfl hb hj, hS4.next rfl rfl rfl rfl hb⟩)
          exact wk.does_move rfl (by rw [e4]; rfl)
        ·
          have ho2 := (Array.getElem?_eq_some_iff.1 ho).2
          simp only [List.getElem_toArray, List.getElem_cons_succ, List.getElem_cons_zero] at ho2
          subst ho2
          clear ho
          have e133 := DG.is { on := 0, ground := .data } (by simp) rfl 133 rfl
          replace e133 : E (.tmp 133) = .agg #[.slice A1 n c1, .slice A2 n2 c2] := e133
          have e138 := DG.is { on := 5, ground := .data } (by simp) rfl 138 rfl
          replace e138 : E (.tmp 138) = .int .i64 rr := e138
          have e139 := DG.is { on := 6, ground := .data } (by simp) rfl 139 rfl
          replace e139 : E (.tmp 139) = .int .i64 t := e139
          refine wk.Does.weak (R := fun w' x => ∃ a b, x = .tuple #[a, b, .int .i64 ke] ∧ IsX w' a c1' ∧ IsX w' b c2') ?_ (fun w' v hb hr => ⟨γ, hr, fun j u _ _ hj => CtR.next (fun _ => rfl) (fun _ => rfl) rfl rfl hb hj, hS4.next rfl rfl rfl rfl hb⟩)
          refine wk.does_fn (f := 26) (vs := #[.agg #[.slice A1 n c1, .slice A2 n2 c2], .int .i64 rr, .int .i64 t]) rfl (DG.fn _) (by simp [e133, e138, e139]) (by go_simp) ?_
          refine (cut_calls _ p rr t w4 (HX.out.below hS4.below)).mono ?_
          rintro e w7 ⟨a, b, rfl, ha, hb, hb7⟩
          rw [HCR.out] at ha hb
          rw [HCR.out]
          exact ⟨_, rfl, hb7, a, b, rfl, ha, hb⟩
        ·
          have ho2 := (Array.getElem?_eq_some_iff.1 ho).2
          simp only [List.getElem_toArray, List.getElem_cons_succ, List.getElem_cons_zero] at ho2
          subst ho2
          clear ho
          have s140 := DG.is { on := 7, ground := .data } (by simp) rfl 140 rfl
          refine wk.Does.weak (R := fun w' x => ∃ a b, x = .tuple #[a, b, .int .i64 ke] ∧ IsX w' a c1' ∧ IsX w' b c2') ?_ (fun w' v hb hr => ⟨γ, hr, fun j u _ _ hj => CtR.next (fun _ => rfl) (fun _ => rfl) rfl rfl hb hj, hS4.next rfl rfl rfl rfl hb⟩)
          exact wk.does_move rfl s140
        ·
          have ho2 := (Array.getElem?_eq_some_iff.1 ho).2
          simp only [List.getElem_toArray, List.getElem_cons_succ, List.getElem_cons_zero] at ho2
          subst ho2
          clear ho
          have s132 := DG.is { on := 8, ground := .data } (by simp) rfl 132 rfl
          refine wk.Does.weak (R := fun w' x => IsX w' x c1') ?_ (fun w' v hb hr => ⟨γ, hr, fun j u _ _ hj => CtR.next (fun _ => rfl) (fun _ => rfl) rfl rfl hb hj, hS4.next rfl rfl rfl rfl hb⟩)
          obtain ⟨a, b, h1, h2, h3⟩ := s132
          exact wk.does_extract rfl h1 rfl h2
        ·
          have ho2 := (Array.getElem?_eq_some_iff.1 ho).2
          simp only [List.getElem_toArray, List.getElem_cons_succ, List.getElem_cons_zero] at ho2
          subst ho2
          clear ho
          have s132 := DG.is { on := 8, ground := .data } (by simp) rfl 132 rfl
          refine wk.Does.weak (R := fun w' x => IsX w' x c2') ?_ (fun w' v hb hr => ⟨γ, hr, fun j u _ _ hj => CtR.next (fun _ => rfl) (fun _ => rfl) rfl rfl hb hj, hS4.next rfl rfl rfl rfl hb⟩)
          obtain ⟨a, b, h1, h2, h3⟩ := s132
          exact wk.does_extract rfl h1 rfl h3
        ·
          have ho2 := (Array.getElem?_eq_some_iff.1 ho).2
          simp only [List.getElem_toArray, List.getElem_cons_succ, List.getElem_cons_zero] at ho2
          subst ho2
          clear ho
          have s132 := DG.is { on := 8, ground := .data } (by simp) rfl 132 rfl
          refine wk.Does.weak (R := fun w' x => x = .int .i64 ke) ?_ (fun w' v hb hr => ⟨γ, hr, fun j u _ _ hj => CtR.next (fun _ => rfl) (fun _ => rfl) rfl rfl hb hj, hS4.next rfl rfl rfl rfl hb⟩)
          obtain ⟨a, b, h1, h2, h3⟩ := s132
          exact wk.does_extract rfl h1 rfl rfl
        ·
          have ho2 := (Array.getElem?_eq_some_iff.1 ho).2
          simp only [List.getElem_toArray, List.getElem_cons_succ, List.getElem_cons_zero] at ho2
          subst ho2
          clear ho
          refine wk.Does.weak (R := fun w' x => x = .pointer (some ⟨w4.heap.size, 0, none⟩) ∧ TwoX w' w4.heap.size (.slice none 0 0) (.slice none 0 0) ∧ w4.heap.size < w'.heap.size) ?_ fun w' v hb hr => ⟨(w4.heap.size, γ.2), ⟨hr.1, _, _, _, _, _, _, hr.2.1, fun h => ?_⟩, fun j u hLj _ hj => CtR.next (γ := γ) (fun e => by subst e; rw [hL] at hLj; cases hLj) (fun e => rfl) rfl rfl hb hj, hS4.next12 hr.2.2 hb⟩
          · exact wk.does_new (w' := w4.alloc (.cells #[.slice none 0 0, .slice none 0 0] 25)) (by simp only [execOp]; go_simp) (below_new _ _) ⟨rfl, TwoX.new _ _ _, by rw [size_new]; omega⟩
          · replace h : L 14 = true := h
            have h9 := hS4.c14 h
            rw [hL] at h9; cases h9
        ·
          have ho2 := (Array.getElem?_eq_some_iff.1 ho).2
          simp only [List.getElem_toArray, List.getElem_cons_succ, List.getElem_cons_zero] at ho2
          subst ho2
          clear ho
          refine wk.Does.weak (R := fun w' x => x = .pointer (some ⟨w4.heap.size, 0, none⟩) ∧ TwoX w' w4.heap.size (.slice none 0 0) (.slice none 0 0) ∧ w4.heap.size < w'.heap.size) ?_ fun w' v hb hr => ⟨(γ.1, w4.heap.size), ⟨hr.1, _, _, _, _, _, _, hr.2.1, fun h => ?_⟩, fun j u hLj _ hj => CtR.next (γ := γ) (fun e => rfl) (fun e => by subst e; rw [hL] at hLj; cases hLj) rfl rfl hb hj, hS4.next13 hr.2.2 hb⟩
          · exact wk.does_new (w' := w4.alloc (.cells #[.slice none 0 0, .slice none 0 0] 25)) (by simp only [execOp]; go_simp) (below_new _ _) ⟨rfl, TwoX.new _ _ _, by rw [size_new]; omega⟩
          · replace h : L 15 = true := h
            have h9 := hS4.c15 h
            rw [hL] at h9; cases h9
        ·
          have ho2 := (Array.getElem?_eq_some_iff.1 ho).2
          simp only [List.getElem_toArray, List.getElem_cons_succ, List.getElem_cons_zero] at ho2
          subst ho2
          clear ho
          have s19 := DG.is { on := 12, ground := .data } (by simp) rfl 19 rfl
          have s141 := DG.is { on := 9, ground := .data } (by simp) rfl 141 rfl
          have hLa : L 12 = true := hdeps { on := 12, ground := .data } (by simp) rfl
          obtain ⟨hg, a1, a2, a3, a4, a5, a6, hT, _⟩ := s19
          obtain ⟨b1, b2, b3, b4, b5, b6, hq, hq1, hq2⟩ := s141
          have hc0 := hT.two.c0
          have hc1 := hT.two.c1
          have hf0 := hT.f0 0
          have hf1 := hT.f0 1
          refine wk.does_skip_t (w' := (w4.setCell ⟨γ.1, 0, none⟩ (.slice b1 b2 b3)).setCell ⟨γ.1, 1, none⟩ (.slice b4 b5 b6)) ?_ ⟨γ, trivial, fun j u hLj hu hj => CtR.store14 hT (fun e => by subst e; exact (hS4.ne hLa hLj).symm) hq1 hq2 hj, hS4.store14 hLa⟩
          simp only [execOp]
          rw [hg, hq]
          go_simp
        ·
          have ho2 := (Array.getElem?_eq_some_iff.1 ho).2
          simp only [List.getElem_toArray, List.getElem_cons_succ, List.getElem_cons_zero] at ho2
          subst ho2
          clear ho
          have s20 := DG.is { on := 13, ground := .data } (by simp) rfl 20 rfl
          have s142 := DG.is { on := 10, ground := .data } (by simp) rfl 142 rfl
          have hLa : L 13 = true := hdeps { on := 13, ground := .data } (by simp) rfl
          obtain ⟨hg, a1, a2, a3, a4, a5, a6, hT, _⟩ := s20
          obtain ⟨b1, b2, b3, b4, b5, b6, hq, hq1, hq2⟩ := s142
          have hc0 := hT.two.c0
          have hc1 := hT.two.c1
          have hf0 := hT.f0 0
          have hf1 := hT.f0 1
          refine wk.does_skip_t (w' := (w4.setCell ⟨γ.2, 0, none⟩ (.slice b1 b2 b3)).setCell ⟨γ.2, 1, none⟩ (.slice b4 b5 b6)) ?_ ⟨γ, trivial, fun j u hLj hu hj => CtR.store15 hT (fun e => by subst e; exact hS4.ne hLj hLa) hq1 hq2 hj, hS4.store15 hLa⟩
          simp only [execOp]
          rw [hg, hq]
          go_simp
        ·
          have ho2 := (Array.getElem?_eq_some_iff.1 ho).2
          simp only [List.getElem_toArray, List.getElem_cons_succ, List.getElem_cons_zero] at ho2
          subst ho2
          clear ho
          have e143 := DG.is { on := 11, ground := .data } (by simp) rfl 143 rfl
          replace e143 : E (.tmp 143) = .int .i64 ke := e143
          refine wk.Does.weak (R := fun w' x => x = .int .i64 ke) ?_ (fun w' v hb hr => ⟨γ, hr, fun j u _ _ hj => CtR.next (fun _ => rfl) (fun _ => rfl) rfl rfl hb hj, hS4.next rfl rfl rfl rfl hb⟩)
          exact wk.does_assign rfl e143
      case hdone =>
        intro vals LD w4 γ hall hS4 hv
        obtain ⟨hg1, a1, a2, a3, a4, a5, a6, hT1, hX1⟩ := hv 12 (by omega)
        obtain ⟨hg2, b1, b2, b3, b4, b5, b6, hT2, hX2⟩ := hv 13 (by omega)
        have h16 : vals 16 = .int .i64 ke := hv 16 (by omega)
        have hb := hS4.below
        have HX1 := Lib.hid (hX1 (hall 14 (by omega)))
        have HX2 := Lib.hid (hX2 (hall 15 (by omega)))
        obtain ⟨g1, g2⟩ := γ
        have HT1 : Hid (TwoX w4 g1 (.slice a1 a2 a3) (.slice a4 a5 a6)) := hT1
        have HT2 : Hid (TwoX w4 g2 (.slice b1 b2 b3) (.slice b4 b5 b6)) := hT2
        replace hg1 : vals 12 = .pointer (some ⟨g1, 0, none⟩) := hg1
        replace hg2 : vals 13 = .pointer (some ⟨g2, 0, none⟩) := hg2
        clear hv hX1 hX2 hT1 hT2 hall hS4
        simp only [List.drop_succ_cons, List.drop_zero, List.drop_nil, wpList, wk.setL, List.setIfInBounds_toArray, List.set_cons_zero, List.set_cons_succ, Nat.zero_add, Nat.reduceAdd, hg1, hg2, h16]
        generalize vals 0 = y0
        generalize vals 1 = y1
        generalize vals 2 = y2
        generalize vals 3 = y3
        generalize vals 4 = y4
        generalize vals 5 = y5
        generalize vals 6 = y6
        generalize vals 7 = y7
        generalize vals 8 = y8
        generalize vals 9 = y9
        generalize vals 10 = y10
        generalize vals 11 = y11
        replace HT := Lib.hid (HT.out.below hb)
        replace HX := Lib.hid (HX.out.below hb)
        replace HV := Lib.hid (HV.out.below hb)
        replace HU := Lib.hid (HU.out.below hb)
        replace HB := Lib.hid (Below.andThen HB.out hb)
        clear hb hax0 hax1
        have hc0HT := HT.out.two.c0
        have hc1HT := HT.out.two.c1
        have hc0HT1 := HT1.out.two.c0
        have hc1HT1 := HT1.out.two.c1
        have hc0HT2 := HT2.out.two.c0
        have hc1HT2 := HT2.out.two.c1
        by_cases hke : ke ≠ 0
        ·
          have hke' : (ke == 0) = false := by simpa using hke
          go_wp2_with fail
          clear hc0HT hc1HT hc0HT1 hc1HT1 hc0HT2 hc1HT2
          refine (sanity_calls _).mono ?_
          rintro e w' ⟨rfl, hb⟩
          have HBZ := Lib.hid (Below.andThen HB.out hb)
          clear hb
          go_wp2_with fail
          go_ret
          exact ⟨rfl, HBZ.out⟩
        obtain rfl : ke = 0 := by omega
        clear hke
        have hpa : Parts p c1' c2' rr.toNat t := by
          have h := HCR.out
          unfold cutR at h
          split at h
          · rename_i hok
            simp only [Prod.mk.injEq] at h
            obtain ⟨rfl, rfl, _⟩ := h
            exact cut_parts hok
          · simp at h
        have HPA := Lib.hid hpa
        have hin : has p (inner p pk) = true := has_inner HP.out
        obtain ⟨xi, hxi⟩ : ∃ xi, inner p pk = xi := ⟨_, rfl⟩
        rw [hxi] at hin
        obtain ⟨hxb, hhx⟩ : ∃ hxb, has c1' xi = hxb := ⟨_, rfl⟩
        have hhy : has c2' xi = !hxb := by rw [← hhx, hpa.one hin]; simp
        have HHX := Lib.hid hhx
        have HHY := Lib.hid hhy
        have HXI := Lib.hid hxi
        have hask := asked_iff.2 ⟨HM.out, HLP.out.symm, HP.out, HVV.out⟩
        have hask1 := asked_iff.2 ⟨HM.out, hpa.lx.trans HLP.out.symm, hpa.bx, HVV.out⟩
        have hask2 := asked_iff.2 ⟨HM.out, hpa.ly.trans HLP.out.symm, hpa.by', HVV.out⟩
        have HA0 := Lib.hid hask
        have HA1 := Lib.hid hask1
        have HA2 := Lib.hid hask2
        obtain ⟨k1, hk1⟩ : ∃ k1, keyf m (difs bq.gap c1' (l, l)) = k1 := ⟨_, rfl⟩
        obtain ⟨k2, hk2⟩ : ∃ k2, keyf m (difs bq.gap c2' (l, l)) = k2 := ⟨_, rfl⟩
        obtain ⟨f1, hf1⟩ : ∃ f1, keyf m (difs bq.reach c1' (l, l)) = f1 := ⟨_, rfl⟩
        obtain ⟨f2, hf2⟩ : ∃ f2, keyf m (difs bq.reach c2' (l, l)) = f2 := ⟨_, rfl⟩
        have hkn := hpa.near m l HLP.out
        have hkf := hpa.far m l HLP.out
        rw [hk1, hk2] at hkn
        rw [hf1, hf2] at hkf
        have HKN := Lib.hid hkn
        have HKF := Lib.hid hkf
        have HK1 := Lib.hid hk1
        have HK2 := Lib.hid hk2
        have HF1 := Lib.hid hf1
        have HF2 := Lib.hid hf2
        clear hpa hin hxi hhx hhy hask hask1 hask2 hk1 hk2 hf1 hf2 hkn hkf
        go_wp2_with fail
        clear hc0HT hc1HT hc0HT1 hc1HT1 hc0HT2 hc1HT2
        refine (inner_calls _ p _ _ _ pk _ HX.out HU.out HP.out).mono ?_
        rintro e w8 ⟨x, rfl, hx, hb⟩
        replace HT := Lib.hid (HT.out.below hb)
        replace HX := Lib.hid (HX.out.below hb)
        replace HV := Lib.hid (HV.out.below hb)
        replace HU := Lib.hid (HU.out.below hb)
        replace HX1 := Lib.hid (HX1.out.below hb)
        replace HX2 := Lib.hid (HX2.out.below hb)
        replace HT1 := Lib.hid (HT1.out.below hb)
        replace HT2 := Lib.hid (HT2.out.below hb)
        replace HB := Lib.hid (Below.andThen HB.out hb)
        obtain ⟨An, nn, cn, rfl, hx⟩ := hx
        rw [HXI.out] at hx
        have HI := Lib.hid (VI.mk hx)
        clear hx
        clear hb
        have hc0HT := HT.out.two.c0
        have hc1HT := HT.out.two.c1
        have hc0HT1 := HT1.out.two.c0
        have hc1HT1 := HT1.out.two.c1
        have hc0HT2 := HT2.out.two.c0
        have hc1HT2 := HT2.out.two.c1
        go_wp2_with fail
        clear hc0HT hc1HT hc0HT1 hc1HT1 hc0HT2 hc1HT2
        refine wk.region_tailS 19 [.is (.agg #[.slice a1 a2 a3, .slice a4 a5 a6]), .is (.slice An nn cn), .is (.bool hxb), .is (.agg #[.slice b1 b2 b3, .slice b4 b5 b6]), .is (.slice An nn cn), .is (.bool (!hxb)), .is (.bool false), .is (.bool false), .is (.agg #[.slice a1 a2 a3, .slice a4 a5 a6]), .is (.agg #[.slice A1 n c1, .slice A2 n2 c2]), .is (.bool true), .is (.bool false), .is (.bool false), .is (.bool false), .is (.agg #[.slice b1 b2 b3, .slice b4 b5 b6]), .is (.agg #[.slice A1 n c1, .slice A2 n2 c2]), .is (.bool true), .is (.bool false), .is (.bool false)] [some 150, some 151, some 152, some 153, some 154, some 155, some 156, some 157, some 158, some 159, some 160, some 161, some 162, some 163, some 164, some 165, some 166, some 167, some 168] (by kernel_rfl) (by kernel_rfl) (by kernel_rfl) (by kernel_rfl) [] (by kernel_rfl) (by intro p hp; cases hp) (by kernel_rfl) (by kernel_rfl) ?hstep ?hdone
        case hstep =>
          intro i o ho hi hns E w4 hb4 D
          have hi2 : i = 0 ∨ i = 1 ∨ i = 2 ∨ i = 3 ∨ i = 4 ∨ i = 5 ∨ i = 6 ∨ i = 7 ∨ i = 8 ∨ i = 9 ∨ i = 10 ∨ i = 11 ∨ i = 12 ∨ i = 13 ∨ i = 14 ∨ i = 15 ∨ i = 16 ∨ i = 17 ∨ i = 18 := by omega
          clear hi
          rcases hi2 with rfl | rfl | rfl | rfl | rfl | rfl | rfl | rfl | rfl | rfl | rfl | rfl | rfl | rfl | rfl | rfl | rfl | rfl | rfl
          ·
            have ho2 := (Array.getElem?_eq_some_iff.1 ho).2
            simp only [List.getElem_toArray, List.getElem_cons_zero] at ho2
            subst ho2
            clear ho
            have e19 := D.old 19 (by kernel_rfl)
            exact wk.does_load_row rfl (by rw [e19]; rfl) (HT1.out.below ((Below.refl _ _).drew.trans hb4)) Try.underlying25 rfl (by kernel_rfl) rfl
          ·
            have ho2 := (Array.getElem?_eq_some_iff.1 ho).2
            simp only [List.getElem_toArray, List.getElem_cons_succ, List.getElem_cons_zero] at ho2
            subst ho2
            clear ho
            have e22 := D.old 22 (by kernel_rfl)
            exact wk.does_move rfl (by rw [e22]; rfl)
          ·
            have ho2 := (Array.getElem?_eq_some_iff.1 ho).2
            simp only [List.getElem_toArray, List.getElem_cons_succ, List.getElem_cons_zero] at ho2
            subst ho2
            clear ho
            have e150 := D.is { on := 0, ground := .data } (by simp) rfl rfl 150 rfl
            have e151 := D.is { on := 1, ground := .data } (by simp) rfl rfl 151 rfl
            refine wk.does_fn (f := 33) (vs := #[.agg #[.slice a1 a2 a3, .slice a4 a5 a6], .slice An nn cn]) rfl (D.fn _) (by simp [e150, e151]) (by go_simp) ?_
            refine (has_calls _ c1' _ _ _ xi w4 (HX1.out.below ((Below.refl _ _).drew.trans hb4)) (isI_below HI.out.is ((Below.refl _ _).drew.trans hb4))).mono ?_
            rintro e w7 ⟨rfl, hb7⟩
            rw [HHX.out]
            exact ⟨_, rfl, hb7, rfl⟩
          ·
            have ho2 := (Array.getElem?_eq_some_iff.1 ho).2
            simp only [List.getElem_toArray, List.getElem_cons_succ, List.getElem_cons_zero] at ho2
            subst ho2
            clear ho
            have e20 := D.old 20 (by kernel_rfl)
            exact wk.does_load_row rfl (by rw [e20]; rfl) (HT2.out.below ((Below.refl _ _).drew.trans hb4)) Try.underlying25 rfl (by kernel_rfl) rfl
          ·
            have ho2 := (Array.getElem?_eq_some_iff.1 ho).2
            simp only [List.getElem_toArray, List.getElem_cons_succ, List.getElem_cons_zero] at ho2
            subst ho2
            clear ho
            have e22 := D.old 22 (by kernel_rfl)
            exact wk.does_move rfl (by rw [e22]; rfl)
          ·
            have ho2 := (Array.getElem?_eq_some_iff.1 ho).2
            simp only [List.getElem_toArray, List.getElem_cons_succ, List.getElem_cons_zero] at ho2
            subst ho2
            clear ho
            have e153 := D.is { on := 3, ground := .data } (by simp) rfl rfl 153 rfl
            have e154 := D.is { on := 4, ground := .data } (by simp) rfl rfl 154 rfl
            refine wk.does_fn (f := 33) (vs := #[.agg #[.slice b1 b2 b3, .slice b4 b5 b6], .slice An nn cn]) rfl (D.fn _) (by simp [e153, e154]) (by go_simp) ?_
            refine (has_calls _ c2' _ _ _ xi w4 (HX2.out.below ((Below.refl _ _).drew.trans hb4)) (isI_below HI.out.is ((Below.refl _ _).drew.trans hb4))).mono ?_
            rintro e w7 ⟨rfl, hb7⟩
            rw [HHY.out]
            exact ⟨_, rfl, hb7, rfl⟩
          ·
            have ho2 := (Array.getElem?_eq_some_iff.1 ho).2
            simp only [List.getElem_toArray, List.getElem_cons_succ, List.getElem_cons_zero] at ho2
            subst ho2
            clear ho
            have e152 := D.is { on := 2, ground := .data } (by simp) rfl rfl 152 rfl
            have e155 := D.is { on := 5, ground := .data } (by simp) rfl rfl 155 rfl
            cases hxb <;> exact wk.does_run (by simp only [execOp, resolve, List.map_toArray, List.map_cons, List.map_nil]; rw [e152, e155]; go_simp) rfl
          ·
            have ho2 := (Array.getElem?_eq_some_iff.1 ho).2
            simp only [List.getElem_toArray, List.getElem_cons_succ, List.getElem_cons_zero] at ho2
            subst ho2
            clear ho
            have e156 := D.is { on := 6, ground := .data } (by simp) rfl rfl 156 rfl
            exact wk.does_move rfl e156
          ·
            have ho2 := (Array.getElem?_eq_some_iff.1 ho).2
            simp only [List.getElem_toArray, List.getElem_cons_succ, List.getElem_cons_zero] at ho2
            subst ho2
            clear ho
            have e19 := D.old 19 (by kernel_rfl)
            exact wk.does_load_row rfl (by rw [e19]; rfl) (HT1.out.below ((Below.refl _ _).drew.trans hb4)) Try.underlying25 rfl (by kernel_rfl) rfl
          ·
            have ho2 := (Array.getElem?_eq_some_iff.1 ho).2
            simp only [List.getElem_toArray, List.getElem_cons_succ, List.getElem_cons_zero] at ho2
            subst ho2
            clear ho
            have e7 := D.old 7 (by kernel_rfl)
            exact wk.does_load_row rfl (by rw [e7]; rfl) (HT.out.below ((Below.refl _ _).drew.trans hb4)) Try.underlying25 rfl (by kernel_rfl) rfl
          ·
            have ho2 := (Array.getElem?_eq_some_iff.1 ho).2
            simp only [List.getElem_toArray, List.getElem_cons_succ, List.getElem_cons_zero] at ho2
            subst ho2
            clear ho
            have e158 := D.is { on := 8, ground := .data } (by simp) rfl rfl 158 rfl
            have e159 := D.is { on := 9, ground := .data } (by simp) rfl rfl 159 rfl
            refine wk.does_fn (f := 21) (vs := #[.agg #[.slice a1 a2 a3, .slice a4 a5 a6], .agg #[.slice A1 n c1, .slice A2 n2 c2]]) rfl (D.fn _) (by simp [e158, e159]) (by go_simp) ?_
            refine (inside_calls _ _ c1' p w4 (HX1.out.below ((Below.refl _ _).drew.trans hb4)) (HX.out.below ((Below.refl _ _).drew.trans hb4))).mono ?_
            rintro e w7 ⟨rfl, hb7⟩
            rw [HPA.out.inx]
            exact ⟨_, rfl, hb7, rfl⟩
          ·
            have ho2 := (Array.getElem?_eq_some_iff.1 ho).2
            simp only [List.getElem_toArray, List.getElem_cons_succ, List.getElem_cons_zero] at ho2
            subst ho2
            clear ho
            have e160 := D.is { on := 10, ground := .data } (by simp) rfl rfl 160 rfl
            exact wk.does_run (by simp only [execOp, resolve, List.map_toArray, List.map_cons, List.map_nil]; rw [e160]; go_simp) rfl
          ·
            have ho2 := (Array.getElem?_eq_some_iff.1 ho).2
            simp only [List.getElem_toArray, List.getElem_cons_succ, List.getElem_cons_zero] at ho2
            subst ho2
            clear ho
            have e157 := D.is { on := 7, ground := .data } (by simp) rfl rfl 157 rfl
            have e161 := D.is { on := 11, ground := .data } (by simp) rfl rfl 161 rfl
            exact wk.does_pick rfl e157 e161
          ·
            have ho2 := (Array.getElem?_eq_some_iff.1 ho).2
            simp only [List.getElem_toArray, List.getElem_cons_succ, List.getElem_cons_zero] at ho2
            subst ho2
            clear ho
            have e162 := D.is { on := 12, ground := .data } (by simp) rfl rfl 162 rfl
            exact wk.does_move rfl e162
          ·
            have ho2 := (Array.getElem?_eq_some_iff.1 ho).2
            simp only [List.getElem_toArray, List.getElem_cons_succ, List.getElem_cons_zero] at ho2
            subst ho2
            clear ho
            have e20 := D.old 20 (by kernel_rfl)
            exact wk.does_load_row rfl (by rw [e20]; rfl) (HT2.out.below ((Below.refl _ _).drew.trans hb4)) Try.underlying25 rfl (by kernel_rfl) rfl
          ·
            have ho2 := (Array.getElem?_eq_some_iff.1 ho).2
            simp only [List.getElem_toArray, List.getElem_cons_succ, List.getElem_cons_zero] at ho2
            subst ho2
            clear ho
            have e7 := D.old 7 (by kernel_rfl)
            exact wk.does_load_row rfl (by rw [e7]; rfl) (HT.out.below ((Below.refl _ _).drew.trans hb4)) Try.underlying25 rfl (by kernel_rfl) rfl
          ·
            have ho2 := (Array.getElem?_eq_some_iff.1 ho).2
            simp only [List.getElem_toArray, List.getElem_cons_succ, List.getElem_cons_zero] at ho2
            subst ho2
            clear ho
            have e164 := D.is { on := 14, ground := .data } (by simp) rfl rfl 164 rfl
            have e165 := D.is { on := 15, ground := .data } (by simp) rfl rfl 165 rfl
            refine wk.does_fn (f := 21) (vs := #[.agg #[.slice b1 b2 b3, .slice b4 b5 b6], .agg #[.slice A1 n c1, .slice A2 n2 c2]]) rfl (D.fn _) (by simp [e164, e165]) (by go_simp) ?_
            refine (inside_calls _ _ c2' p w4 (HX2.out.below ((Below.refl _ _).drew.trans hb4)) (HX.out.below ((Below.refl _ _).drew.trans hb4))).mono ?_
            rintro e w7 ⟨rfl, hb7⟩
            rw [HPA.out.iny]
            exact ⟨_, rfl, hb7, rfl⟩
          ·
            have ho2 := (Array.getElem?_eq_some_iff.1 ho).2
            simp only [List.getElem_toArray, List.getElem_cons_succ, List.getElem_cons_zero] at ho2
            subst ho2
            clear ho
            have e166 := D.is { on := 16, ground := .data } (by simp) rfl rfl 166 rfl
            exact wk.does_run (by simp only [execOp, resolve, List.map_toArray, List.map_cons, List.map_nil]; rw [e166]; go_simp) rfl
          ·
            have ho2 := (Array.getElem?_eq_some_iff.1 ho).2
            simp only [List.getElem_toArray, List.getElem_cons_succ, List.getElem_cons_zero] at ho2
            subst ho2
            clear ho
            have e163 := D.is { on := 13, ground := .data } (by simp) rfl rfl 163 rfl
            have e167 := D.is { on := 17, ground := .data } (by simp) rfl rfl 167 rfl
            exact wk.does_pick rfl e163 e167
        case hdone =>
          intro vals w4 hb4 hv
          have h18 := hv 18 (by omega)
          clear hv
          replace h18 : vals 18 = (.bool false) := h18
          simp only [List.drop_succ_cons, List.drop_zero, wpList, wk.setL, List.setIfInBounds_toArray, List.set_cons_zero, List.set_cons_succ, Nat.zero_add, Nat.reduceAdd, h18]
          generalize vals 0 = x0
          generalize vals 1 = x1
          generalize vals 2 = x2
          generalize vals 3 = x3
          generalize vals 4 = x4
          generalize vals 5 = x5
          generalize vals 6 = x6
          generalize vals 7 = x7
          generalize vals 8 = x8
          generalize vals 9 = x9
          generalize vals 10 = x10
          generalize vals 11 = x11
          generalize vals 12 = x12
          generalize vals 13 = x13
          generalize vals 14 = x14
          generalize vals 15 = x15
          generalize vals 16 = x16
          generalize vals 17 = x17
          have hb := ((Below.refl _ _).drew.trans hb4 : Below w8.heap.size w8 w4)
          clear hb4
          replace HT := Lib.hid (HT.out.below hb)
          replace HX := Lib.hid (HX.out.below hb)
          replace HV := Lib.hid (HV.out.below hb)
          replace HU := Lib.hid (HU.out.below hb)
          replace HX1 := Lib.hid (HX1.out.below hb)
          replace HX2 := Lib.hid (HX2.out.below hb)
          replace HT1 := Lib.hid (HT1.out.below hb)
          replace HT2 := Lib.hid (HT2.out.below hb)
          replace HI := Lib.hid (HI.out.below hb)
          replace HB := Lib.hid (Below.andThen HB.out hb)
          clear hb
          have hc0HT := HT.out.two.c0
          have hc1HT := HT.out.two.c1
          have hc0HT1 := HT1.out.two.c0
          have hc1HT1 := HT1.out.two.c1
          have hc0HT2 := HT2.out.two.c0
          have hc1HT2 := HT2.out.two.c1
          go_wp2_with fail
          clear hc0HT hc1HT hc0HT1 hc1HT1 hc0HT2 hc1HT2
          refine (near_calls m _ p A n c l _ HX.out HV.out.is).mono ?_
          rintro e w9 ⟨rfl, hb⟩
          replace HT := Lib.hid (HT.out.below hb)
          replace HX := Lib.hid (HX.out.below hb)
          replace HV := Lib.hid (HV.out.below hb)
          replace HU := Lib.hid (HU.out.below hb)
          replace HX1 := Lib.hid (HX1.out.below hb)
          replace HX2 := Lib.hid (HX2.out.below hb)
          replace HT1 := Lib.hid (HT1.out.below hb)
          replace HT2 := Lib.hid (HT2.out.below hb)
          replace HI := Lib.hid (HI.out.below hb)
          replace HB := Lib.hid (Below.andThen HB.out hb)
          rw [if_pos HA0.out, if_pos HA0.out, HKN.out]
          clear hb
          have hc0HT := HT.out.two.c0
          have hc1HT := HT.out.two.c1
          have hc0HT1 := HT1.out.two.c0
          have hc1HT1 := HT1.out.two.c1
          have hc0HT2 := HT2.out.two.c0
          have hc1HT2 := HT2.out.two.c1
          go_wp2_with fail
          clear hc0HT hc1HT hc0HT1 hc1HT1 hc0HT2 hc1HT2
          refine (near_calls m _ c1' A n c l _ HX1.out HV.out.is).mono ?_
          rintro e w10 ⟨rfl, hb⟩
          replace HT := Lib.hid (HT.out.below hb)
          replace HX := Lib.hid (HX.out.below hb)
          replace HV := Lib.hid (HV.out.below hb)
          replace HU := Lib.hid (HU.out.below hb)
          replace HX1 := Lib.hid (HX1.out.below hb)
          replace HX2 := Lib.hid (HX2.out.below hb)
          replace HT1 := Lib.hid (HT1.out.below hb)
          replace HT2 := Lib.hid (HT2.out.below hb)
          replace HI := Lib.hid (HI.out.below hb)
          replace HB := Lib.hid (Below.andThen HB.out hb)
          rw [if_pos HA1.out, if_pos HA1.out, HK1.out]
          clear hb
          have hc0HT := HT.out.two.c0
          have hc1HT := HT.out.two.c1
          have hc0HT1 := HT1.out.two.c0
          have hc1HT1 := HT1.out.two.c1
          have hc0HT2 := HT2.out.two.c0
          have hc1HT2 := HT2.out.two.c1
          go_wp2_with fail
          clear hc0HT hc1HT hc0HT1 hc1HT1 hc0HT2 hc1HT2
          refine (near_calls m _ c2' A n c l _ HX2.out HV.out.is).mono ?_
          rintro e w11 ⟨rfl, hb⟩
          replace HT := Lib.hid (HT.out.below hb)
          replace HX := Lib.hid (HX.out.below hb)
          replace HV := Lib.hid (HV.out.below hb)
          replace HU := Lib.hid (HU.out.below hb)
          replace HX1 := Lib.hid (HX1.out.below hb)
          replace HX2 := Lib.hid (HX2.out.below hb)
          replace HT1 := Lib.hid (HT1.out.below hb)
          replace HT2 := Lib.hid (HT2.out.below hb)
          replace HI := Lib.hid (HI.out.below hb)
          replace HB := Lib.hid (Below.andThen HB.out hb)
          rw [if_pos HA2.out, if_pos HA2.out, HK2.out]
          clear hb
          have hc0HT := HT.out.two.c0
          have hc1HT := HT.out.two.c1
          have hc0HT1 := HT1.out.two.c0
          have hc1HT1 := HT1.out.two.c1
          have hc0HT2 := HT2.out.two.c0
          have hc1HT2 := HT2.out.two.c1
          go_wp2_with fail
          clear hc0HT hc1HT hc0HT1 hc1HT1 hc0HT2 hc1HT2
          refine (far_calls m _ p A n c l _ HX.out HV.out.is).mono ?_
          rintro e w12 ⟨rfl, hb⟩
          replace HT := Lib.hid (HT.out.below hb)
          replace HX := Lib.hid (HX.out.below hb)
          replace HV := Lib.hid (HV.out.below hb)
          replace HU := Lib.hid (HU.out.below hb)
          replace HX1 := Lib.hid (HX1.out.below hb)
          replace HX2 := Lib.hid (HX2.out.below hb)
          replace HT1 := Lib.hid (HT1.out.below hb)
          replace HT2 := Lib.hid (HT2.out.below hb)
          replace HI := Lib.hid (HI.out.below hb)
          replace HB := Lib.hid (Below.andThen HB.out hb)
          rw [if_pos HA0.out, if_pos HA0.out, HKF.out]
          clear hb
          have hc0HT := HT.out.two.c0
          have hc1HT := HT.out.two.c1
          have hc0HT1 := HT1.out.two.c0
          have hc1HT1 := HT1.out.two.c1
          have hc0HT2 := HT2.out.two.c0
          have hc1HT2 := HT2.out.two.c1
          go_wp2_with fail
          clear hc0HT hc1HT hc0HT1 hc1HT1 hc0HT2 hc1HT2
          refine (far_calls m _ c1' A n c l _ HX1.out HV.out.is).mono ?_
          rintro e w13 ⟨rfl, hb⟩
          replace HT := Lib.hid (HT.out.below hb)
          replace HX := Lib.hid (HX.out.below hb)
          replace HV := Lib.hid (HV.out.below hb)
          replace HU := Lib.hid (HU.out.below hb)
          replace HX1 := Lib.hid (HX1.out.below hb)
          replace HX2 := Lib.hid (HX2.out.below hb)
          replace HT1 := Lib.hid (HT1.out.below hb)
          replace HT2 := Lib.hid (HT2.out.below hb)
          replace HI := Lib.hid (HI.out.below hb)
          replace HB := Lib.hid (Below.andThen HB.out hb)
          rw [if_pos HA1.out, if_pos HA1.out, HF1.out]
          clear hb
          have hc0HT := HT.out.two.c0
          have hc1HT := HT.out.two.c1
          have hc0HT1 := HT1.out.two.c0
          have hc1HT1 := HT1.out.two.c1
          have hc0HT2 := HT2.out.two.c0
          have hc1HT2 := HT2.out.two.c1
          go_wp2_with fail
          clear hc0HT hc1HT hc0HT1 hc1HT1 hc0HT2 hc1HT2
          refine (far_calls m _ c2' A n c l _ HX2.out HV.out.is).mono ?_
          rintro e w14 ⟨rfl, hb⟩
          replace HT := Lib.hid (HT.out.below hb)
          replace HX := Lib.hid (HX.out.below hb)
          replace HV := Lib.hid (HV.out.below hb)
          replace HU := Lib.hid (HU.out.below hb)
          replace HX1 := Lib.hid (HX1.out.below hb)
          replace HX2 := Lib.hid (HX2.out.below hb)
          replace HT1 := Lib.hid (HT1.out.below hb)
          replace HT2 := Lib.hid (HT2.out.below hb)
          replace HI := Lib.hid (HI.out.below hb)
          replace HB := Lib.hid (Below.andThen HB.out hb)
          rw [if_pos HA2.out, if_pos HA2.out, HF2.out]
          clear hb
          have hc0HT := HT.out.two.c0
          have hc1HT := HT.out.two.c1
          have hc0HT1 := HT1.out.two.c0
          have hc1HT1 := HT1.out.two.c1
          have hc0HT2 := HT2.out.two.c0
          have hc1HT2 := HT2.out.two.c1
          go_wp2_with fail
          clear hc0HT hc1HT hc0HT1 hc1HT1 hc0HT2 hc1HT2
          refine (sanity_calls _).mono ?_
          rintro e w15 ⟨rfl, hb⟩
          replace HT := Lib.hid (HT.out.below hb)
          replace HX := Lib.hid (HX.out.below hb)
          replace HV := Lib.hid (HV.out.below hb)
          replace HU := Lib.hid (HU.out.below hb)
          replace HX1 := Lib.hid (HX1.out.below hb)
          replace HX2 := Lib.hid (HX2.out.below hb)
          replace HT1 := Lib.hid (HT1.out.below hb)
          replace HT2 := Lib.hid (HT2.out.below hb)
          replace HI := Lib.hid (HI.out.below hb)
          replace HB := Lib.hid (Below.andThen HB.out hb)
          clear hb
          have hc0HT := HT.out.two.c0
          have hc1HT := HT.out.two.c1
          have hc0HT1 := HT1.out.two.c0
          have hc1HT1 := HT1.out.two.c1
          have hc0HT2 := HT2.out.two.c0
          have hc1HT2 := HT2.out.two.c1
          have HBE := HB.out
          go_wp2_with fail
          go_ret
          exact ⟨rfl, HBE⟩
end Go.Proofs.Ytlcdjabfkfmpdaa.boxCutsInTwo
