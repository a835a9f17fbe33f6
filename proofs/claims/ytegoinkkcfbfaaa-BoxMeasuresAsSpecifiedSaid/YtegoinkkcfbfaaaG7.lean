/- Joined: Bm Bo Bz Da Db. -/
import Derived.Test.YtegoinkkcfbfaaaG6

import Derived.OpenShut

import Derived.Maps.AppendAt
/- Cut. -/
namespace Go.Proofs.Ytegoinkkcfbfaaa.bk

open Go.ChangeShapes Go.WideShapes Go.ChangeAt Go.RowKit

open Go.Proofs.Ytegoinkkcfbfaaa.bq Go.Proofs.Ytegoinkkcfbfaaa.vk Go.Proofs.Ytegoinkkcfbfaaa.wk

set_option linter.unusedVariables false
def cutBlk (i : Nat) (v : Value) (b : Nat) : Prop :=
  if i = 1 ∨ i = 3 then ∃ g n c g' n' c', v = .agg #[.slice (some ⟨g, 0, none⟩) n c, .slice (some ⟨g', 0, none⟩) n' c'] ∧ (b = g ∨ b = g') else if i = 4 ∨ i = 5 then v = .pointer (some ⟨b, 0, none⟩) else False
theorem cutBlk_undef (i b : Nat) : ¬ cutBlk i undef b := by
  unfold cutBlk
  split
  · rintro ⟨g, n, c, g', n', c', h, _⟩; cases h
  · split
    · intro h; cases h
    · exact id
theorem cutBlk_rows {i g n c g' n' c' b : Nat} (hi : i = 1 ∨ i = 3) (h : cutBlk i (.agg #[.slice (some ⟨g, 0, none⟩) n c, .slice (some ⟨g', 0, none⟩) n' c']) b) : b = g ∨ b = g' := by
  unfold cutBlk at h
  rw [if_pos hi] at h
  obtain ⟨_, _, _, _, _, _, h, hb⟩ := h
  simp only [Value.agg.injEq, Array.mk.injEq, List.cons.injEq, Value.slice.injEq, Option.some.injEq, Addr.mk.injEq, and_true] at h
  obtain ⟨⟨rfl, _⟩, rfl, _⟩ := h
  exact hb
theorem cutBlk_ptr {i g b : Nat} (hi : i = 4 ∨ i = 5) (h : cutBlk i (.pointer (some ⟨g, 0, none⟩)) b) : b = g := by
  unfold cutBlk at h
  rw [if_neg (by omega), if_pos hi] at h
  simp only [Value.pointer.injEq, Option.some.injEq, Addr.mk.injEq, and_true] at h
  exact h.symm
def cutOk (p : Pair) (axis at_ : Int) : Prop := IsBox p ∧ 0 ≤ axis ∧ axis < p.1.length ∧ at' p.1 axis.toNat ≤ at_ ∧ at_ < at' p.2 axis.toNat
open Classical in
noncomputable def cutR (p : Pair) (axis at_ : Int) : Pair × Pair × Int :=
  if cutOk p axis at_ then ((p.1, p.2.set axis.toNat at_), (p.1.set axis.toNat (at_ + 1), p.2), 0) else (([], []), ([], []), 1)
theorem Owns.isI {w : World} {g n c : Nat} {l : List Int} (h : Owns w g n c l) (hb : ∀ x ∈ l, -9223372036854775808 ≤ x ∧ x ≤ 9223372036854775807) : wo.IsI w (some ⟨g, 0, none⟩) n c l := by
  obtain ⟨A, c', he, hI⟩ := isI_of_own h hb
  simp only [Value.slice.injEq, true_and] at he
  obtain ⟨rfl, rfl⟩ := he
  exact hI
theorem TwoX.other2 {w : World} {g k : Nat} {a b : Value} (h : TwoX w g a b) (hk : g ≠ k) (x y : Value) : TwoX ((w.setCell ⟨k, 0, none⟩ x).setCell ⟨k, 1, none⟩ y) g a b := (set2_other w k x y g hk).trans h
theorem res_x3 {fn : Func} {p q u : Tmp} (h : fn.results = #[.cell p 24, .cell q 24, .tmp u]) (tmps : Array Value) (w : World) (g g' : Nat) (a b c d : Value) (hp : tmps.getD p undef = .pointer (some ⟨g, 0, none⟩)) (hq : tmps.getD q undef = .pointer (some ⟨g', 0, none⟩)) (hg : w.heap[g]? = some (.cells #[a, b] 24 (0, 0))) (hg' : w.heap[g']? = some (.cells #[c, d] 24 (0, 0))) :
    (results fn tmps).run Try.prog w = .ok (.tuple #[.agg #[a, b], .agg #[c, d], tmps.getD u undef]) w := by
  have hp' : tmps[p]?.getD undef = .pointer (some ⟨g, 0, none⟩) := by simpa using hp
  have hq' : tmps[q]?.getD undef = .pointer (some ⟨g', 0, none⟩) := by simpa using hq
  simp [results, h, hp', hq', asAddr, run_loadVar_row w g _ _ #[a, b] (0, 0) _ hg Try.underlying24 rfl (by kernel_rfl), run_loadVar_row w g' _ _ #[c, d] (0, 0) _ hg' Try.underlying24 rfl (by kernel_rfl)]
set_option maxRecDepth 100000 in
set_option maxHeartbeats 8000000 in
theorem cut_calls (v : Value) (p : Pair) (axis at_ : Int) (w : World) (h : IsX w v p) :
    Calls Try.prog 10 #[v, .int .i64 axis, .int .i64 at_] w fun e w' => ∃ x y, e = .returned (.tuple #[x, y, .int .i64 (cutR p axis at_).2.2]) ∧ IsX w' x (cutR p axis at_).1 ∧ IsX w' y (cutR p axis at_).2.1 ∧ Below w.heap.size w w' := by
  have HV := Lib.hid (fun w' hb => valid_calls v p w' (h.below hb))
  have HX := Lib.hid h
  obtain ⟨A, n, c0, A', n', c0', rfl, hi, hi'⟩ := h
  have HBa := Lib.hid (Below.andThen (below_new w (.cells #[.slice A n c0, .slice A' n' c0'] 24)) (below_new _ (.cells #[.slice none 0 0, .slice none 0 0] 24)))
  have HB0 := Lib.hid (Below.andThen HBa.out (below_new _ (.cells #[.slice none 0 0, .slice none 0 0] 24)))
  have hT := ((TwoX.new w (.slice A n c0) (.slice A' n' c0')).below (below_new _ (.cells #[.slice none 0 0, .slice none 0 0] 24))).below (below_new _ (.cells #[.slice none 0 0, .slice none 0 0] 24))
  have hT6 := (TwoX.new (w.alloc (.cells #[.slice A n c0, .slice A' n' c0'] 24)) (.slice none 0 0) (.slice none 0 0)).below (below_new _ (.cells #[.slice none 0 0, .slice none 0 0] 24))
  have hT7 := TwoX.new ((w.alloc (.cells #[.slice A n c0, .slice A' n' c0'] 24)).alloc (.cells #[.slice none 0 0, .slice none 0 0] 24)) (.slice none 0 0) (.slice none 0 0)
  simp only [size_new] at hT6 hT7
  have hl := hi.1
  have hl' := hi'.1
  have hm := hi.2.2.1
  have hm' := hi'.2.2.1
  have hnc := hi.2.1
  have hnc' := hi'.2.1
  have HI := Lib.hid hi
  have HI' := Lib.hid hi'
  clear hi hi'
  obtain ⟨R, hR⟩ : ∃ R, cutR p axis at_ = R := ⟨_, rfl⟩
  rw [hR]
  have hno : ¬ cutOk p axis at_ → R = (([], []), ([], []), 1) := fun hh => by rw [← hR, cutR, if_neg hh]
  have hyes : cutOk p axis at_ → R = ((p.1, p.2.set axis.toNat at_), (p.1.set axis.toNat (at_ + 1), p.2), 0) := fun hh => by rw [← hR, cutR, if_pos hh]
  have HNO := Lib.hid hno
  have HYES := Lib.hid hyes
  clear hR hno hyes
  go_enter Try.func10, Try.ntmps10
  go_wp2_with fail
  refine (HV.out _ HB0.out).mono ?_
  rintro e w1 ⟨rfl, hb⟩
  have HB1 := Lib.hid (HB0.out.trans (hb.mono HB0.out.size))
  have HT := Lib.hid (hT.below hb)
  have HT6 := Lib.hid (hT6.below hb)
  have HT7 := Lib.hid (hT7.below hb)
  clear hb hT hT6 hT7
  have hc0 := HT6.out.two.c0
  have hc1 := HT6.out.two.c1
  have hc2 := HT7.out.two.c0
  have hc3 := HT7.out.two.c1
  have hf0 := HT6.out.f0 0
  have hf1 := HT6.out.f0 1
  have hf2 := HT7.out.f0 0
  have hf3 := HT7.out.f0 1
  by_cases hv : bvalid p = true
  · rw [hv]
    have hp := bvalid_iff.1 hv
    have hn1 := hp.lo.pos
    have hn2 := hp.lo.le
    have hln := hp.len
    obtain rfl : n' = n := by omega
    by_cases hax : 0 ≤ axis
    · by_cases hax2 : axis < (n' : Int)
      · obtain ⟨k, rfl⟩ := Int.eq_ofNat_of_zero_le hax
        have hk : k < n' := by omega
        obtain ⟨b, o, rfl, hcl, hbl⟩ := isI_get (isI_below HI.out HB1.out) hk
        obtain ⟨b', o', rfl, hch, hbh⟩ := isI_get (isI_below HI'.out HB1.out) hk
        have hlo := vec_at hp.lo (i := k) (by omega)
        have hhi := vec_at hp.hi (i := k) (by omega)
        have hc4 := HT.out.two.c0
        have hc5 := HT.out.two.c1
        have hk2 : (k : Int) < (n' : Int) := by omega
        by_cases hA1 : at' p.1 k ≤ at_
        · by_cases hA2 : at_ < at' p.2 k
          · have hok : cutOk p (k : Int) at_ := ⟨hp, by omega, by omega, by simpa using hA1, by simpa using hA2⟩
            have hRR := HYES.out hok
            rw [Int.toNat_natCast] at hRR
            have HRR := Lib.hid hRR
            have hcl' := fun w' (hb : Below w1.heap.size w1 w') => clone_calls _ p w' ((HX.out.below HB1.out).below hb) hln (by omega) (by omega)
            simp only [hl] at hcl'
            have HCL := Lib.hid hcl'
            have HP := Lib.hid hp
            clear hcl' hRR hok
            go_wp2_with fail
            clear hc0 hc1 hc2 hc3 hc4 hc5 hf0 hf1 hf2 hf3
            generalize hlk : at' p.1 k = lo at *
            generalize hhk : at' p.2 k = hi at *
            refine wk.region_tailF (cutBlk) (cutBlk_undef) 6 [.is (.agg #[.slice (some ⟨b, o, none⟩) n' c0, .slice (some ⟨b', o', none⟩) n' c0']), .st (fun u x => ∃ g c g' c', x = .agg #[.slice (some ⟨g, 0, none⟩) n' c, .slice (some ⟨g', 0, none⟩) n' c'] ∧ Owns u g n' c p.1 ∧ Owns u g' n' c' p.2 ∧ w1.heap.size ≤ g ∧ g < g') (fun u u2 x h hb => by obtain ⟨g, c, g', c', h1, h2, h3, h4, h5⟩ := h; exact ⟨g, c, g', c', h1, h2.below hb, h3.below hb, h4, h5⟩), .is (.agg #[.slice (some ⟨b, o, none⟩) n' c0, .slice (some ⟨b', o', none⟩) n' c0']), .st (fun u x => ∃ g c g' c', x = .agg #[.slice (some ⟨g, 0, none⟩) n' c, .slice (some ⟨g', 0, none⟩) n' c'] ∧ Owns u g n' c p.1 ∧ Owns u g' n' c' p.2 ∧ w1.heap.size ≤ g ∧ g < g') (fun u u2 x h hb => by obtain ⟨g, c, g', c', h1, h2, h3, h4, h5⟩ := h; exact ⟨g, c, g', c', h1, h2.below hb, h3.below hb, h4, h5⟩), .st (fun u x => ∃ g, x = .pointer (some ⟨g, 0, none⟩) ∧ TwoX u g (.slice none 0 0) (.slice none 0 0) ∧ w1.heap.size ≤ g) (fun u u2 x h hb => by obtain ⟨g, h1, h2, h3⟩ := h; exact ⟨g, h1, h2.below hb, h3⟩), .st (fun u x => ∃ g, x = .pointer (some ⟨g, 0, none⟩) ∧ TwoX u g (.slice none 0 0) (.slice none 0 0) ∧ w1.heap.size ≤ g) (fun u u2 x h hb => by obtain ⟨g, h1, h2, h3⟩ := h; exact ⟨g, h1, h2.below hb, h3⟩)] [some 45, some 46, some 47, some 48, some 9, some 10] (by kernel_rfl) (by kernel_rfl) (by kernel_rfl) (by kernel_rfl) [] (by kernel_rfl) (by intro p hp; cases hp) (by kernel_rfl) (by kernel_rfl) ?hstep ?hdone
            case hstep =>
              intro i o ho hi hns E w4 hb4 D
              have hi2 : i = 0 ∨ i = 1 ∨ i = 2 ∨ i = 3 ∨ i = 4 ∨ i = 5 := by omega
              clear hi
              rcases hi2 with rfl | rfl | rfl | rfl | rfl | rfl
              ·
                have ho2 := (Array.getElem?_eq_some_iff.1 ho).2
                simp only [List.getElem_toArray, List.getElem_cons_zero] at ho2
                subst ho2
                clear ho
                have e3 := D.old 3 (by kernel_rfl)
                refine wk.does_old (fun w' v b hh => absurd hh (by simp [cutBlk])) ?_
                exact wk.does_load_row rfl (by rw [e3]; rfl) (HT.out.below ((Below.refl _ _).drew.trans hb4)) Try.underlying24 rfl (by kernel_rfl) rfl
              ·
                have ho2 := (Array.getElem?_eq_some_iff.1 ho).2
                simp only [List.getElem_toArray, List.getElem_cons_succ, List.getElem_cons_zero] at ho2
                subst ho2
                clear ho
                have e45 := D.is { on := 0, ground := .data } (by simp) rfl rfl 45 rfl
                refine wk.does_fn (f := 36) (vs := #[.agg #[.slice (some ⟨b, o, none⟩) n' c0, .slice (some ⟨b', o', none⟩) n' c0']]) rfl (D.fn _) (by simp [e45]) (by go_simp) ?_
                refine (HCL.out w4 (((Below.refl _ _).drew.trans hb4))).mono ?_
                rintro e w7 ⟨g, c, g', c', rfl, hO1, hO2, hg1, hg2, hb7⟩
                exact ⟨_, rfl, hb7, ⟨g, c, g', c', rfl, hO1, hO2, Nat.le_trans hb4.size hg1, hg2⟩, fun b hb => by have := cutBlk_rows (by decide) hb; have := hO1.lt; have := hO2.lt; omega⟩
              ·
                have ho2 := (Array.getElem?_eq_some_iff.1 ho).2
                simp only [List.getElem_toArray, List.getElem_cons_succ, List.getElem_cons_zero] at ho2
                subst ho2
                clear ho
                have e3 := D.old 3 (by kernel_rfl)
                refine wk.does_old (fun w' v b hh => absurd hh (by simp [cutBlk])) ?_
                exact wk.does_load_row rfl (by rw [e3]; rfl) (HT.out.below ((Below.refl _ _).drew.trans hb4)) Try.underlying24 rfl (by kernel_rfl) rfl
              ·
                have ho2 := (Array.getElem?_eq_some_iff.1 ho).2
                simp only [List.getElem_toArray, List.getElem_cons_succ, List.getElem_cons_zero] at ho2
                subst ho2
                clear ho
                have e47 := D.is { on := 2, ground := .data } (by simp) rfl rfl 47 rfl
                refine wk.does_fn (f := 36) (vs := #[.agg #[.slice (some ⟨b, o, none⟩) n' c0, .slice (some ⟨b', o', none⟩) n' c0']]) rfl (D.fn _) (by simp [e47]) (by go_simp) ?_
                refine (HCL.out w4 (((Below.refl _ _).drew.trans hb4))).mono ?_
                rintro e w7 ⟨g, c, g', c', rfl, hO1, hO2, hg1, hg2, hb7⟩
                exact ⟨_, rfl, hb7, ⟨g, c, g', c', rfl, hO1, hO2, Nat.le_trans hb4.size hg1, hg2⟩, fun b hb => by have := cutBlk_rows (by decide) hb; have := hO1.lt; have := hO2.lt; omega⟩
              ·
                have ho2 := (Array.getElem?_eq_some_iff.1 ho).2
                simp only [List.getElem_toArray, List.getElem_cons_succ, List.getElem_cons_zero] at ho2
                subst ho2
                clear ho
                refine wk.does_new (v := .pointer (some ⟨w4.heap.size, 0, none⟩)) (w' := w4.alloc (.cells #[.slice none 0 0, .slice none 0 0] 24)) (by simp only [execOp]; go_simp) (below_new _ _) ⟨⟨_, rfl, TwoX.new _ _ _, hb4.size⟩, fun b hb => ?_⟩
                have hb' := (cutBlk_ptr (by decide) hb).symm
                rw [size_new]; omega
              ·
                have ho2 := (Array.getElem?_eq_some_iff.1 ho).2
                simp only [List.getElem_toArray, List.getElem_cons_succ, List.getElem_cons_zero] at ho2
                subst ho2
                clear ho
                refine wk.does_new (v := .pointer (some ⟨w4.heap.size, 0, none⟩)) (w' := w4.alloc (.cells #[.slice none 0 0, .slice none 0 0] 24)) (by simp only [execOp]; go_simp) (below_new _ _) ⟨⟨_, rfl, TwoX.new _ _ _, hb4.size⟩, fun b hb => ?_⟩
                have hb' := (cutBlk_ptr (by decide) hb).symm
                rw [size_new]; omega
            case hdone =>
              intro vals w4 hb4 hv hnew
              have hn13 := hnew 1 3 (by omega) (by omega) (by omega) rfl rfl
              have hn45 := hnew 4 5 (by omega) (by omega) (by omega) rfl rfl
              have hn14 := hnew 1 4 (by omega) (by omega) (by omega) rfl rfl
              have hn15 := hnew 1 5 (by omega) (by omega) (by omega) rfl rfl
              have hn34 := hnew 3 4 (by omega) (by omega) (by omega) rfl rfl
              have hn35 := hnew 3 5 (by omega) (by omega) (by omega) rfl rfl
              clear hnew
              have h1 := hv 1 (by omega)
              have h3 := hv 3 (by omega)
              have h4 := hv 4 (by omega)
              have h5 := hv 5 (by omega)
              clear hv
              simp only [List.drop_succ_cons, List.drop_zero, wk.setL, List.setIfInBounds_toArray, List.set_cons_zero, List.set_cons_succ, Nat.zero_add, Nat.reduceAdd]
              generalize vals 0 = x0
              generalize vals 1 = x1 at *
              generalize vals 2 = x2
              generalize vals 3 = x3 at *
              generalize vals 4 = x4 at *
              generalize vals 5 = x5 at *
              obtain ⟨r1, q1, r1', q1', rfl, hO1, hO1', hr1, hr1'⟩ := h1
              obtain ⟨r2, q2, r2', q2', rfl, hO2, hO2', hr2, hr2'⟩ := h3
              obtain ⟨g9, rfl, hg9, hg9B⟩ := h4
              obtain ⟨g10, rfl, hg10, hg10B⟩ := h5
              have d1 : ∀ x, x = r1 ∨ x = r1' → x ≠ r2 ∧ x ≠ r2' ∧ x ≠ g9 ∧ x ≠ g10 := fun x hx => by
                have hx1 : cutBlk 1 (.agg #[.slice (some ⟨r1, 0, none⟩) n' q1, .slice (some ⟨r1', 0, none⟩) n' q1']) x := ⟨_, _, _, _, _, _, rfl, hx⟩
                exact ⟨fun e => hn13 x hx1 (by rw [e]; exact ⟨_, _, _, _, _, _, rfl, .inl rfl⟩), fun e => hn13 x hx1 (by rw [e]; exact ⟨_, _, _, _, _, _, rfl, .inr rfl⟩), fun e => hn14 x hx1 (by rw [e]; exact rfl), fun e => hn15 x hx1 (by rw [e]; exact rfl)⟩
              have d2 : ∀ x, x = r2 ∨ x = r2' → x ≠ g9 ∧ x ≠ g10 := fun x hx => by
                have hx1 : cutBlk 3 (.agg #[.slice (some ⟨r2, 0, none⟩) n' q2, .slice (some ⟨r2', 0, none⟩) n' q2']) x := ⟨_, _, _, _, _, _, rfl, hx⟩
                exact ⟨fun e => hn34 x hx1 (by rw [e]; exact rfl), fun e => hn35 x hx1 (by rw [e]; exact rfl)⟩
              have d3 : g9 ≠ g10 := fun e => hn45 g9 rfl (by rw [e]; exact rfl)
              have e1 := d1 r1 (.inl rfl)
              have e1' := d1 r1' (.inr rfl)
              have e2 := d2 r2 (.inl rfl)
              have e2' := d2 r2' (.inr rfl)
              clear hn13 hn14 hn15 hn34 hn35 hn45 d1 d2
              obtain ⟨f1, f2, f3, f4⟩ := e1
              obtain ⟨f1', f2', f3', f4'⟩ := e1'
              obtain ⟨f5, f6⟩ := e2
              obtain ⟨f5', f6'⟩ := e2'
              have hb5 := ((Below.refl _ _).drew.trans hb4 : Below w1.heap.size w1 w4)
              have hG6 := (Array.getElem?_eq_some_iff.1 HT6.out).1
              have hG7 := (Array.getElem?_eq_some_iff.1 HT7.out).1
              have HB4 := Lib.hid (HB1.out.trans (hb5.mono HB1.out.size))
              have hx6 := HT6.out.below hb5
              have hx7 := HT7.out.below hb5
              have hwg9 : w.heap.size ≤ g9 := by omega
              have hwg10 : w.heap.size ≤ g10 := by omega
              have h69 : w.heap.size + 1 ≠ g9 := by omega
              have h610 : w.heap.size + 1 ≠ g10 := by omega
              have h79 : w.heap.size + 1 + 1 ≠ g9 := by omega
              have h710 : w.heap.size + 1 + 1 ≠ g10 := by omega
              have h6r : w.heap.size + 1 ≠ r1' ∧ w.heap.size + 1 ≠ r2 := by omega
              have h7r : w.heap.size + 1 + 1 ≠ r1' ∧ w.heap.size + 1 + 1 ≠ r2 := by omega
              have hwr : w.heap.size ≤ r1' ∧ w.heap.size ≤ r2 := by omega
              have hr12 : r1 ≠ r1' ∧ r2' ≠ r2 := by omega
              have hc0 := hg9.two.c0
              have hc1 := hg9.two.c1
              have hf0 := hg9.f0 0
              have hf1 := hg9.f0 1
              have hg10' := hg10.other2 (Ne.symm d3) (.slice (some ⟨r1, 0, none⟩) n' q1) (.slice (some ⟨r1', 0, none⟩) n' q1')
              have hc2 := hg10'.two.c0
              have hc3 := hg10'.two.c1
              have hf2 := hg10'.f0 0
              have hf3 := hg10'.f0 1
              have HG10 := Lib.hid (hg10'.set (.slice (some ⟨r2, 0, none⟩) n' q2) (.slice (some ⟨r2', 0, none⟩) n' q2'))
              have HG9 := Lib.hid ((hg9.set (.slice (some ⟨r1, 0, none⟩) n' q1) (.slice (some ⟨r1', 0, none⟩) n' q1')).other2 d3 (.slice (some ⟨r2, 0, none⟩) n' q2) (.slice (some ⟨r2', 0, none⟩) n' q2'))
              have HO1 := Lib.hid (((hO1.set2 f3 _ _).set2 f4 _ _ : Owns ((((w4.setCell ⟨g9, 0, none⟩ (.slice (some ⟨r1, 0, none⟩) n' q1)).setCell ⟨g9, 1, none⟩ (.slice (some ⟨r1', 0, none⟩) n' q1')).setCell ⟨g10, 0, none⟩ (.slice (some ⟨r2, 0, none⟩) n' q2)).setCell ⟨g10, 1, none⟩ (.slice (some ⟨r2', 0, none⟩) n' q2')) r1 n' q1 p.1))
              have HO1' := Lib.hid (((hO1'.set2 f3' _ _).set2 f4' _ _ : Owns ((((w4.setCell ⟨g9, 0, none⟩ (.slice (some ⟨r1, 0, none⟩) n' q1)).setCell ⟨g9, 1, none⟩ (.slice (some ⟨r1', 0, none⟩) n' q1')).setCell ⟨g10, 0, none⟩ (.slice (some ⟨r2, 0, none⟩) n' q2)).setCell ⟨g10, 1, none⟩ (.slice (some ⟨r2', 0, none⟩) n' q2')) r1' n' q1' p.2))
              have HO2 := Lib.hid (((hO2.set2 f5 _ _).set2 f6 _ _ : Owns ((((w4.setCell ⟨g9, 0, none⟩ (.slice (some ⟨r1, 0, none⟩) n' q1)).setCell ⟨g9, 1, none⟩ (.slice (some ⟨r1', 0, none⟩) n' q1')).setCell ⟨g10, 0, none⟩ (.slice (some ⟨r2, 0, none⟩) n' q2)).setCell ⟨g10, 1, none⟩ (.slice (some ⟨r2', 0, none⟩) n' q2')) r2 n' q2 p.1))
              have HO2' := Lib.hid (((hO2'.set2 f5' _ _).set2 f6' _ _ : Owns ((((w4.setCell ⟨g9, 0, none⟩ (.slice (some ⟨r1, 0, none⟩) n' q1)).setCell ⟨g9, 1, none⟩ (.slice (some ⟨r1', 0, none⟩) n' q1')).setCell ⟨g10, 0, none⟩ (.slice (some ⟨r2, 0, none⟩) n' q2)).setCell ⟨g10, 1, none⟩ (.slice (some ⟨r2', 0, none⟩) n' q2')) r2' n' q2' p.2))
              have HX6 := Lib.hid ((hx6.other2 h69 (.slice (some ⟨r1, 0, none⟩) n' q1) (.slice (some ⟨r1', 0, none⟩) n' q1')).other2 h610 (.slice (some ⟨r2, 0, none⟩) n' q2) (.slice (some ⟨r2', 0, none⟩) n' q2'))
              have HX7 := Lib.hid ((hx7.other2 h79 (.slice (some ⟨r1, 0, none⟩) n' q1) (.slice (some ⟨r1', 0, none⟩) n' q1')).other2 h710 (.slice (some ⟨r2, 0, none⟩) n' q2) (.slice (some ⟨r2', 0, none⟩) n' q2'))
              have HB5 := Lib.hid (below_set2 (below_set2 HB4.out hwg9 (.slice (some ⟨r1, 0, none⟩) n' q1) (.slice (some ⟨r1', 0, none⟩) n' q1')) hwg10 (.slice (some ⟨r2, 0, none⟩) n' q2) (.slice (some ⟨r2', 0, none⟩) n' q2'))
              clear hO1 hO1' hO2 hO2' hx6 hx7 hb4 hb5 hg10' hg9 hg10 hG6 hG7
              go_wp2_with fail
              clear hc0 hc1 hc2 hc3 hf0 hf1 hf2 hf3
              generalize (((w4.setCell ⟨g9, 0, none⟩ (.slice (some ⟨r1, 0, none⟩) n' q1)).setCell ⟨g9, 1, none⟩ (.slice (some ⟨r1', 0, none⟩) n' q1')).setCell ⟨g10, 0, none⟩ (.slice (some ⟨r2, 0, none⟩) n' q2)).setCell ⟨g10, 1, none⟩ (.slice (some ⟨r2', 0, none⟩) n' q2') = w5 at *
              have hc0 := HG9.out.two.c0
              have hc1 := HG9.out.two.c1
              have hc2 := HG10.out.two.c0
              have hc3 := HG10.out.two.c1
              have hr1c : w5.cell? ⟨r1', k, none⟩ = some (.int .i64 hi) := (World.ownsRow.cellAt HO1'.out k (by omega)).trans (by rw [← hhk]; simp [iv, of_at (show k < p.2.length by omega)])
              have hr2c : w5.cell? ⟨r2, k, none⟩ = some (.int .i64 lo) := (World.ownsRow.cellAt HO2.out k (by omega)).trans (by rw [← hlk]; simp [iv, of_at (show k < p.1.length by omega)])
              have hr1f := World.ownsRow.frozenAt HO1'.out k
              have hr2f := World.ownsRow.frozenAt HO2.out k
              have hk2' : k < n' := by omega
              have HBD : Hid (-1000 ≤ at_ ∧ at_ ≤ 999) := by show _ ∧ _; omega
              have HWR : Hid (wrap64 (at_ + 1) = at_ + 1) := by show _ = _; unfold wrap64; omega
              clear hlk hhk hlo hhi hA1 hA2
              go_region
              go_wp2_with fail
              clear hc0 hc1 hc2 hc3
              rw [HWR.out]
              have hs7 : ∀ q x y, q ≠ r1' → q ≠ r2 → (((w5.setCell ⟨r1', k, none⟩ x).setCell ⟨r2, k, none⟩ y).drew).heap[q]? = w5.heap[q]? := fun q x y h1 h2 => (Below.heap_setCell _ _ _ _ h2).trans (Below.heap_setCell _ _ _ _ h1)
              have hg9 : TwoX ((w5.setCell ⟨r1', k, none⟩ (.int .i64 at_)).setCell ⟨r2, k, none⟩ (.int .i64 (at_ + 1))).drew g9 (.slice (some ⟨r1, 0, none⟩) n' q1) (.slice (some ⟨r1', 0, none⟩) n' q1') := (hs7 _ _ _ (Ne.symm f3') (Ne.symm f5)).trans HG9.out
              have hg10 : TwoX ((w5.setCell ⟨r1', k, none⟩ (.int .i64 at_)).setCell ⟨r2, k, none⟩ (.int .i64 (at_ + 1))).drew g10 (.slice (some ⟨r2, 0, none⟩) n' q2) (.slice (some ⟨r2', 0, none⟩) n' q2') := (hs7 _ _ _ (Ne.symm f4') (Ne.symm f6)).trans HG10.out
              have hx6 : TwoX ((w5.setCell ⟨r1', k, none⟩ (.int .i64 at_)).setCell ⟨r2, k, none⟩ (.int .i64 (at_ + 1))).drew (w.heap.size + 1) (.slice none 0 0) (.slice none 0 0) := (hs7 _ _ _ h6r.1 h6r.2).trans HX6.out
              have hx7 : TwoX ((w5.setCell ⟨r1', k, none⟩ (.int .i64 at_)).setCell ⟨r2, k, none⟩ (.int .i64 (at_ + 1))).drew (w.heap.size + 1 + 1) (.slice none 0 0) (.slice none 0 0) := (hs7 _ _ _ h7r.1 h7r.2).trans HX7.out
              have hO1' := (World.ownsRow.stored HO1'.out k (.int .i64 at_)).1
              have hO2 := (World.ownsRow.stored (HO2.out.at (Below.heap_setCell w5 ⟨r1', k, none⟩ (.int .i64 at_) r2 (Ne.symm f1')) : Owns (w5.setCell ⟨r1', k, none⟩ (.int .i64 at_)) r2 n' q2 p.1) k (.int .i64 (at_ + 1))).1
              have hO1 := HO1.out.at (hs7 r1 (.int .i64 at_) (.int .i64 (at_ + 1)) hr12.1 f1)
              have hO2' := HO2'.out.at (hs7 r2' (.int .i64 at_) (.int .i64 (at_ + 1)) (Ne.symm f2') hr12.2)
              have hset : ∀ l : List Int, ∀ z, (iv l).set k (.int .i64 z) = iv (l.set k z) := fun l z => by simp [iv, List.map_set]
              rw [hset] at hO1' hO2
              have hO1'' : Owns ((w5.setCell ⟨r1', k, none⟩ (.int .i64 at_)).setCell ⟨r2, k, none⟩ (.int .i64 (at_ + 1))).drew r1' n' q1' (p.2.set k at_) := Owns.at hO1' (Below.heap_setCell _ ⟨r2, k, none⟩ _ r1' f1')
              have hO2'' : Owns ((w5.setCell ⟨r1', k, none⟩ (.int .i64 at_)).setCell ⟨r2, k, none⟩ (.int .i64 (at_ + 1))).drew r2 n' q2 (p.1.set k (at_ + 1)) := hO2
              have hB7 : Below w.heap.size w ((w5.setCell ⟨r1', k, none⟩ (.int .i64 at_)).setCell ⟨r2, k, none⟩ (.int .i64 (at_ + 1))).drew := ((HB5.out.setCell (p := ⟨r1', k, none⟩) hwr.1 _).setCell (p := ⟨r2, k, none⟩) hwr.2 _).drew
              clear hO1' hO2 hs7 hr1c hr2c hr1f hr2f HO1 HO1' HO2 HO2' HB5 HG9 HG10 HX6 HX7
              generalize ((w5.setCell ⟨r1', k, none⟩ (.int .i64 at_)).setCell ⟨r2, k, none⟩ (.int .i64 (at_ + 1))).drew = w7 at *
              have hc0 := hg9.two.c0
              have hc1 := hg9.two.c1
              have hc2 := hg10.two.c0
              have hc3 := hg10.two.c1
              have hc4 := hx6.two.c0
              have hc5 := hx6.two.c1
              have hf4 := hx6.f0 0
              have hf5 := hx6.f0 1
              have hc6 := hx7.two.c0
              have hc7 := hx7.two.c1
              have hf6 := hx7.f0 0
              have hf7 := hx7.f0 1
              have hv1 : wo.IsI w7 (some ⟨r1, 0, none⟩) n' q1 p.1 := hO1.isI HI.out.2.2.2.2
              have hv2 : wo.IsI w7 (some ⟨r2', 0, none⟩) n' q2' p.2 := hO2'.isI HI'.out.2.2.2.2
              have hv3 : wo.IsI w7 (some ⟨r1', 0, none⟩) n' q1' (p.2.set k at_) := hO1''.isI fun x hx => by
                rcases List.mem_or_eq_of_mem_set hx with h | h
                · exact HI'.out.2.2.2.2 x h
                · have := HBD.out; omega
              have hv4 : wo.IsI w7 (some ⟨r2, 0, none⟩) n' q2 (p.1.set k (at_ + 1)) := hO2''.isI fun x hx => by
                rcases List.mem_or_eq_of_mem_set hx with h | h
                · exact HI.out.2.2.2.2 x h
                · have := HBD.out; omega
              have hx7' := hx7.other2 (g := w.heap.size + 1 + 1) (k := w.heap.size + 1) (by omega) (.slice (some ⟨r1, 0, none⟩) n' q1) (.slice (some ⟨r1', 0, none⟩) n' q1')
              have HF6 := Lib.hid ((hx6.set (.slice (some ⟨r1, 0, none⟩) n' q1) (.slice (some ⟨r1', 0, none⟩) n' q1')).other2 (g := w.heap.size + 1) (k := w.heap.size + 1 + 1) (by omega) (.slice (some ⟨r2, 0, none⟩) n' q2) (.slice (some ⟨r2', 0, none⟩) n' q2'))
              have HF7 := Lib.hid (hx7'.set (.slice (some ⟨r2, 0, none⟩) n' q2) (.slice (some ⟨r2', 0, none⟩) n' q2'))
              have HY1 := Lib.hid (⟨_, _, _, _, _, _, rfl, isI_set2 (isI_set2 hv1 hx6 _ _) hx7' _ _, isI_set2 (isI_set2 hv3 hx6 _ _) hx7' _ _⟩ : IsX ((((w7.setCell ⟨w.heap.size + 1, 0, none⟩ (.slice (some ⟨r1, 0, none⟩) n' q1)).setCell ⟨w.heap.size + 1, 1, none⟩ (.slice (some ⟨r1', 0, none⟩) n' q1')).setCell ⟨w.heap.size + 1 + 1, 0, none⟩ (.slice (some ⟨r2, 0, none⟩) n' q2)).setCell ⟨w.heap.size + 1 + 1, 1, none⟩ (.slice (some ⟨r2', 0, none⟩) n' q2')) (.agg #[.slice (some ⟨r1, 0, none⟩) n' q1, .slice (some ⟨r1', 0, none⟩) n' q1']) (p.1, p.2.set k at_))
              have HY2 := Lib.hid (⟨_, _, _, _, _, _, rfl, isI_set2 (isI_set2 hv4 hx6 _ _) hx7' _ _, isI_set2 (isI_set2 hv2 hx6 _ _) hx7' _ _⟩ : IsX ((((w7.setCell ⟨w.heap.size + 1, 0, none⟩ (.slice (some ⟨r1, 0, none⟩) n' q1)).setCell ⟨w.heap.size + 1, 1, none⟩ (.slice (some ⟨r1', 0, none⟩) n' q1')).setCell ⟨w.heap.size + 1 + 1, 0, none⟩ (.slice (some ⟨r2, 0, none⟩) n' q2)).setCell ⟨w.heap.size + 1 + 1, 1, none⟩ (.slice (some ⟨r2', 0, none⟩) n' q2')) (.agg #[.slice (some ⟨r2, 0, none⟩) n' q2, .slice (some ⟨r2', 0, none⟩) n' q2']) (p.1.set k (at_ + 1), p.2))
              have HBZ := Lib.hid (below_set2 (below_set2 hB7 (show w.heap.size ≤ w.heap.size + 1 by omega) (.slice (some ⟨r1, 0, none⟩) n' q1) (.slice (some ⟨r1', 0, none⟩) n' q1')) (show w.heap.size ≤ w.heap.size + 1 + 1 by omega) (.slice (some ⟨r2, 0, none⟩) n' q2) (.slice (some ⟨r2', 0, none⟩) n' q2'))
              clear hv1 hv2 hv3 hv4 hx6 hx7 hx7' hO1 hO1'' hO2' hO2'' hg9 hg10 hB7
              go_region
              go_wp2_with fail
              rw [HRR.out]
              exact bodyPost_ret (v := .tuple #[.agg #[.slice (some ⟨r1, 0, none⟩) n' q1, .slice (some ⟨r1', 0, none⟩) n' q1'], .agg #[.slice (some ⟨r2, 0, none⟩) n' q2, .slice (some ⟨r2', 0, none⟩) n' q2'], .int .i64 0]) (res_x3 (fn := Try.f10) rfl _ _ (w.heap.size + 1) (w.heap.size + 1 + 1) _ _ _ _ rfl rfl HF6.out HF7.out) rfl ⟨_, _, rfl, HY1.out, HY2.out, HBZ.out.drew⟩
          · have hnok : ¬ cutOk p (k : Int) at_ := fun hh => hA2 (by have := hh.2.2.2.2; simpa using this)
            have HNOK := Lib.hid hnok
            generalize at' p.1 k = lo at *
            generalize at' p.2 k = hi at *
            clear hnok hp hv hln hn1 hn2
            go_wp2_with fail
            rw [HNO.out (HNOK.out)]
            exact bodyPost_ret (v := .tuple #[.agg #[.slice none 0 0, .slice none 0 0], .agg #[.slice none 0 0, .slice none 0 0], .int .i64 1]) (res_x3 (fn := Try.f10) rfl _ _ (w.heap.size + 1) (w.heap.size + 1 + 1) _ _ _ _ rfl rfl ((HT6.out.set _ _).other2 (by omega) _ _) ((HT7.out.other2 (by omega) _ _).set _ _)) rfl ⟨_, _, rfl, isX_nil _, isX_nil _, below_set2 (below_set2 HB1.out (by omega) _ _) (by omega) _ _⟩
        · have hnok : ¬ cutOk p (k : Int) at_ := fun hh => hA1 (by have := hh.2.2.2.1; simpa using this)
          have HNOK := Lib.hid hnok
          generalize at' p.1 k = lo at *
          generalize at' p.2 k = hi at *
          clear hnok hp hv hln hn1 hn2
          go_wp2_with fail
          rw [HNO.out (HNOK.out)]
          exact bodyPost_ret (v := .tuple #[.agg #[.slice none 0 0, .slice none 0 0], .agg #[.slice none 0 0, .slice none 0 0], .int .i64 1]) (res_x3 (fn := Try.f10) rfl _ _ (w.heap.size + 1) (w.heap.size + 1 + 1) _ _ _ _ rfl rfl ((HT6.out.set _ _).other2 (by omega) _ _) ((HT7.out.other2 (by omega) _ _).set _ _)) rfl ⟨_, _, rfl, isX_nil _, isX_nil _, below_set2 (below_set2 HB1.out (by omega) _ _) (by omega) _ _⟩
      · have HNOK : Hid (¬ cutOk p axis at_) := fun hh => by have := hh.2.2.1; omega
        have hc4 := HT.out.two.c0
        have hc5 := HT.out.two.c1
        clear hp hv hln hn1 hn2
        go_wp2_with fail
        rw [HNO.out (HNOK.out)]
        exact bodyPost_ret (v := .tuple #[.agg #[.slice none 0 0, .slice none 0 0], .agg #[.slice none 0 0, .slice none 0 0], .int .i64 1]) (res_x3 (fn := Try.f10) rfl _ _ (w.heap.size + 1) (w.heap.size + 1 + 1) _ _ _ _ rfl rfl ((HT6.out.set _ _).other2 (by omega) _ _) ((HT7.out.other2 (by omega) _ _).set _ _)) rfl ⟨_, _, rfl, isX_nil _, isX_nil _, below_set2 (below_set2 HB1.out (by omega) _ _) (by omega) _ _⟩
    · have HNOK : Hid (¬ cutOk p axis at_) := fun hh => hax hh.2.1
      clear hp hv hln hn1 hn2
      go_wp2_with fail
      rw [HNO.out (HNOK.out)]
      exact bodyPost_ret (v := .tuple #[.agg #[.slice none 0 0, .slice none 0 0], .agg #[.slice none 0 0, .slice none 0 0], .int .i64 1]) (res_x3 (fn := Try.f10) rfl _ _ (w.heap.size + 1) (w.heap.size + 1 + 1) _ _ _ _ rfl rfl ((HT6.out.set _ _).other2 (by omega) _ _) ((HT7.out.other2 (by omega) _ _).set _ _)) rfl ⟨_, _, rfl, isX_nil _, isX_nil _, below_set2 (below_set2 HB1.out (by omega) _ _) (by omega) _ _⟩
  · have hv' : bvalid p = false := by simpa using hv
    rw [hv']
    have HNOK : Hid (¬ cutOk p axis at_) := fun hh => hv (bvalid_iff.2 hh.1)
    go_wp2_with fail
    rw [HNO.out (HNOK.out)]
    exact bodyPost_ret (v := .tuple #[.agg #[.slice none 0 0, .slice none 0 0], .agg #[.slice none 0 0, .slice none 0 0], .int .i64 1]) (res_x3 (fn := Try.f10) rfl _ _ (w.heap.size + 1) (w.heap.size + 1 + 1) _ _ _ _ rfl rfl ((HT6.out.set _ _).other2 (by omega) _ _) ((HT7.out.other2 (by omega) _ _).set _ _)) rfl ⟨_, _, rfl, isX_nil _, isX_nil _, below_set2 (below_set2 HB1.out (by omega) _ _) (by omega) _ _⟩
end Go.Proofs.Ytegoinkkcfbfaaa.bk
/- Of. -/
namespace Go.Proofs.Ytegoinkkcfbfaaa.bq
/-- one step of Of: the box so far, or none -/
def ofS (acc : Option Pair) (v : List Int) : Option Pair := acc.bind fun b => if balike b (v, v) then some (join b (v, v)) else none
def ofL (L : List (List Int)) : Option Pair := match L with
  | [] => none
  | l :: _ => L.foldl ofS (some (l, l))
theorem ofS_none (L : List (List Int)) : L.foldl ofS none = none := by induction L with
  | nil => rfl
  | cons v L ih => exact ih
end Go.Proofs.Ytegoinkkcfbfaaa.bq

namespace Go.Proofs.Ytegoinkkcfbfaaa.vk

open Go.ChangeShapes Go.WideShapes Go.ChangeAt Go.RowKit
/-- a slice of slices of integers -/
def IsVV (w : World) (A : Option Addr) (n c : Nat) (L : List (List Int)) : Prop :=
  L.length = n ∧ n ≤ c ∧ c ≤ 9223372036854775807 ∧ ∀ k l, L[k]? = some l → ∃ b o A' n' c', A = some ⟨b, o, none⟩ ∧ b < w.heap.size ∧ w.cell? ⟨b, o + k, none⟩ = some (.slice A' n' c') ∧ wo.IsI w A' n' c' l
theorem isVV_below {w w' : World} {A : Option Addr} {n c : Nat} {L : List (List Int)} (h : IsVV w A n c L) (hb : Below w.heap.size w w') : IsVV w' A n c L :=
  ⟨h.1, h.2.1, h.2.2.1, fun k l hk => by
    obtain ⟨b, o, A', n', c', hA, hlt, hc, hI⟩ := h.2.2.2 k l hk
    exact ⟨b, o, A', n', c', hA, Nat.lt_of_lt_of_le hlt hb.size, (hb.cell (p := ⟨b, o + k, none⟩) hlt).trans hc, isI_below hI hb⟩⟩
theorem isVV_get {w : World} {A : Option Addr} {n c k : Nat} {L : List (List Int)} (h : IsVV w A n c L) (hk : k < n) : ∃ b o A' n' c' l, A = some ⟨b, o, none⟩ ∧ b < w.heap.size ∧ w.cell? ⟨b, o + k, none⟩ = some (.slice A' n' c') ∧ wo.IsI w A' n' c' l ∧ L[k]? = some l := by
  have hl : k < L.length := by have := h.1; omega
  obtain ⟨b, o, A', n', c', h1, h2, h3, h4⟩ := h.2.2.2 k L[k] (List.getElem?_eq_getElem hl)
  exact ⟨b, o, A', n', c', L[k], h1, h2, h3, h4, List.getElem?_eq_getElem hl⟩
end Go.Proofs.Ytegoinkkcfbfaaa.vk

namespace Go.Proofs.Ytegoinkkcfbfaaa.bk

open Go.ChangeShapes Go.WideShapes Go.ChangeAt Go.RowKit

open Go.Proofs.Ytegoinkkcfbfaaa.bq Go.Proofs.Ytegoinkkcfbfaaa.vk Go.Proofs.Ytegoinkkcfbfaaa.wk

set_option linter.unusedVariables false
def OfR (q : Pair) (ke : Int) (lo : Nat) (la lb v1 : Value) (L : Nat → Bool) (i : Nat) (u : World) (x : Value) : Prop :=
  match i with
  | 0 => x = .agg #[la, lb]
  | 1 => x = v1
  | 2 => x = .agg #[v1, v1]
  | 3 => ∃ y, x = .tuple #[y, .int .i64 ke] ∧ IsX u y q
  | 4 => ∃ y, x = .tuple #[y, .int .i64 ke] ∧ IsX u y q
  | 5 => IsX u x q
  | 6 => x = .int .i64 ke
  | 7 => ∃ g A n c A' n' c', x = .pointer (some ⟨g, 0, none⟩) ∧ lo ≤ g ∧ TwoX u g (.slice A n c) (.slice A' n' c') ∧ (L 8 = true → IsX u (.agg #[.slice A n c, .slice A' n' c']) q)
  | 9 => x = .int .i64 ke
  | _ => True
theorem OfR.next {q : Pair} {ke : Int} {lo : Nat} {la lb v1 : Value} {L L' : Nat → Bool} {i : Nat} {u u' : World} {x : Value} (h8 : L' 8 = L 8) (hb : Below u.heap.size u u') (h : OfR q ke lo la lb v1 L i u x) : OfR q ke lo la lb v1 L' i u' x := by
  unfold OfR at *
  split
  case h_1 => exact h
  case h_2 => exact h
  case h_3 => exact h
  case h_4 => obtain ⟨y, h1, h2⟩ := h; exact ⟨y, h1, h2.below hb⟩
  case h_5 => obtain ⟨y, h1, h2⟩ := h; exact ⟨y, h1, h2.below hb⟩
  case h_6 => exact IsX.below h hb
  case h_7 => exact h
  case h_8 => obtain ⟨g, a1, a2, a3, a4, a5, a6, h1, h2, h3, h4⟩ := h; exact ⟨g, a1, a2, a3, a4, a5, a6, h1, h2, h3.below hb, fun e => (h4 (h8 ▸ e)).below hb⟩
  case h_9 => exact h
  case h_10 => trivial
theorem isX_set2 {w : World} {g : Nat} {v : Value} {p : Pair} {A1 A2 : Option Addr} {n1 c1 n2 c2 : Nat} (h : IsX w v p) (hg : TwoX w g (.slice A1 n1 c1) (.slice A2 n2 c2)) (x y : Value) : IsX ((w.setCell ⟨g, 0, none⟩ x).setCell ⟨g, 1, none⟩ y) v p := by
  obtain ⟨a, b, c, d, e, f, h0, h1, h2⟩ := h
  exact ⟨a, b, c, d, e, f, h0, isI_set2 h1 hg _ _, isI_set2 h2 hg _ _⟩
theorem OfR.store {q : Pair} {ke : Int} {lo : Nat} {la lb v1 : Value} {L : Nat → Bool} {i : Nat} {u : World} {x y : Value} {g : Nat} {a1 a4 b1 b4 : Option Addr} {a2 a3 a5 a6 b2 b3 b5 b6 : Nat} (h8 : L 8 = false) (hT : TwoX u g (.slice a1 a2 a3) (.slice a4 a5 a6)) (hg : y = .pointer (some ⟨g, 0, none⟩)) (hq1 : wo.IsI u b1 b2 b3 q.1) (hq2 : wo.IsI u b4 b5 b6 q.2) (h7 : i = 7 → y = x)
    (h : OfR q ke lo la lb v1 L i u x) : OfR q ke lo la lb v1 (fun j => if j = 8 then true else L j) i ((u.setCell ⟨g, 0, none⟩ (.slice b1 b2 b3)).setCell ⟨g, 1, none⟩ (.slice b4 b5 b6)) x := by
  unfold OfR at *
  split
  case h_1 => exact h
  case h_2 => exact h
  case h_3 => exact h
  case h_4 => obtain ⟨y, h1, h2⟩ := h; exact ⟨y, h1, isX_set2 h2 hT _ _⟩
  case h_5 => obtain ⟨y, h1, h2⟩ := h; exact ⟨y, h1, isX_set2 h2 hT _ _⟩
  case h_6 => exact isX_set2 h hT _ _
  case h_7 => exact h
  case h_8 =>
    obtain ⟨g', _, _, _, _, _, _, h1, h2, _, _⟩ := h
    have he := h7 rfl
    rw [hg, h1] at he
    simp only [Value.pointer.injEq, Option.some.injEq, Addr.mk.injEq, and_true] at he
    subst he
    exact ⟨g, b1, b2, b3, b4, b5, b6, h1, h2, hT.set _ _, fun _ => ⟨_, _, _, _, _, _, rfl, isI_set2 hq1 hT _ _, isI_set2 hq2 hT _ _⟩⟩
  case h_9 => exact h
  case h_10 => trivial
structure OfS (wr : World) (L : Nat → Bool) (u : World) : Prop where
  below : Below wr.heap.size wr u
  c8 : L 8 = true → L 7 = true
theorem OfS.next {wr : World} {L L' : Nat → Bool} {u u' : World} (h : OfS wr L u) (h8 : L' 8 = L 8) (h7 : L' 7 = L 7) (hb : Below u.heap.size u u') : OfS wr L' u' := ⟨h.below.trans (hb.mono h.below.size), by rw [h8, h7]; exact h.c8⟩
theorem OfS.next7 {wr : World} {L : Nat → Bool} {u u' : World} (h : OfS wr L u) (h8 : L 8 = false) (hb : Below u.heap.size u u') : OfS wr (fun j => if j = 7 then true else L j) u' := ⟨h.below.trans (hb.mono h.below.size), fun _ => rfl⟩
theorem OfS.store {wr : World} {L : Nat → Bool} {u : World} (h : OfS wr L u) {g : Nat} (hlo : wr.heap.size ≤ g) (h7 : L 7 = true) {x y : Value} : OfS wr (fun j => if j = 8 then true else L j) ((u.setCell ⟨g, 0, none⟩ x).setCell ⟨g, 1, none⟩ y) := ⟨below_set2 h.below hlo _ _, fun _ => h7⟩
set_option maxRecDepth 100000 in
set_option maxHeartbeats 8000000 in
theorem of_calls (A : Option Addr) (n c : Nat) (L : List (List Int)) (w : World) (h : IsVV w A n c L) :
    Calls Try.prog 29 #[.slice A n c] w fun e w' => ∃ x, e = .returned (.tuple #[x, .int .i64 (if (ofL L).isSome then 0 else 1)]) ∧ IsX w' x ((ofL L).getD ([], [])) ∧ Below w.heap.size w w' := by
  have H := Lib.hid h
  have hm := h.2.2.1
  have hnc := h.2.1
  have hl := h.1
  have HB0 := Lib.hid (below_new w (.cells #[.slice none 0 0, .slice none 0 0] 24))
  have HT2 := Lib.hid (TwoX.new w (.slice none 0 0) (.slice none 0 0))
  have hc0 := HT2.out.two.c0
  have hc1 := HT2.out.two.c1
  have hf0 := HT2.out.f0 0
  have hf1 := HT2.out.f0 1
  clear h
  by_cases hn0 : n = 0
  · subst hn0
    obtain rfl : L = [] := List.eq_nil_of_length_eq_zero hl
    go_enter Try.func29, Try.ntmps29
    go_wp2_with fail
    exact bodyPost_ret (v := .tuple #[.agg #[.slice none 0 0, .slice none 0 0], .int .i64 1]) (res_x1 (fn := Try.f29) rfl _ _ w.heap.size _ _ rfl HT2.out) rfl ⟨_, rfl, isX_nil _, HB0.out⟩
  · obtain ⟨b, o, A0, n0, c0, l0, rfl, hb0, hcl0, hI0, hL0⟩ := isVV_get H.out (k := 0) (by omega)
    rw [Nat.add_zero] at hcl0
    have hn0' : (0 : Int) < (n : Int) := by omega
    have hn0'' : 0 < n := by omega
    have hcl : (w.alloc (.cells #[.slice none 0 0, .slice none 0 0] 24)).cell? ⟨b, o, none⟩ = some (.slice A0 n0 c0) := (HB0.out.cell (p := ⟨b, o, none⟩) hb0).trans hcl0
    have HI0 := Lib.hid hI0
    have HO : Hid (ofL L = L.foldl ofS (some (l0, l0))) := by
      show _ = _
      cases L with
      | nil => cases hL0
      | cons a L => simp at hL0; subst hL0; rfl
    obtain ⟨rv, hrv⟩ : ∃ rv : Int, (if (ofL L).isSome then 0 else 1) = rv := ⟨_, rfl⟩
    obtain ⟨rp, hrp⟩ : ∃ rp : Pair, (ofL L).getD ([], []) = rp := ⟨_, rfl⟩
    rw [hrv, hrp]
    have HRV := Lib.hid hrv
    have HRP := Lib.hid hrp
    clear hrv hrp
    clear hI0 hL0 hcl0 hl
    go_enter Try.func29, Try.ntmps29
    go_wp2_with fail
    refine (point_calls A0 n0 c0 _).mono ?_
    rintro e w1 ⟨rfl, hb⟩
    have HB1 := Lib.hid (HB0.out.trans (hb.mono HB0.out.size))
    have HT2' := Lib.hid (HT2.out.below hb)
    clear hb hc0 hc1 hf0 hf1 hcl
    go_wp2_with fail
    generalize hG : w.heap.size = G at *
    have hG1 : G < w1.heap.size := (Array.getElem?_eq_some_iff.1 HT2'.out).1
    generalize hS : w1.heap.size = S at *
    have hbn := below_new w1 (.cells #[.slice A0 n0 c0, .slice A0 n0 c0] 24)
    have HT3 : Hid (TwoX (w1.alloc (.cells #[.slice A0 n0 c0, .slice A0 n0 c0] 24)) S (.slice A0 n0 c0) (.slice A0 n0 c0)) := by rw [← hS]; exact TwoX.new _ _ _
    have HT4 := Lib.hid (HT2'.out.below hbn)
    have HB2 : Hid (Below G w (w1.alloc (.cells #[.slice A0 n0 c0, .slice A0 n0 c0] 24))) := HB1.out.trans (hbn.mono (by rw [hS]; omega))
    clear hbn
    go_loopg [19] n (fun g x wr => ∃ (k : Nat) (q : Pair) (a b : Value), k + g = n ∧ x = .int .i64 (k : Int) ∧ (L.take k).foldl ofS (some (l0, l0)) = some q ∧ TwoX wr S a b ∧ IsX wr (.agg #[a, b]) q ∧ TwoX wr G (.slice none 0 0) (.slice none 0 0) ∧ Below G w wr)
    case atStart => exact ⟨0, (l0, l0), _, _, by omega, rfl, rfl, HT3.out, ⟨_, _, _, _, _, _, rfl, isI_below HI0.out (by rw [hG]; exact HB2.out), isI_below HI0.out (by rw [hG]; exact HB2.out)⟩, HT4.out, HB2.out⟩
    case round =>
      obtain ⟨k, p, la, lb, hk, rfl, hfold, hTS, hXS, hTG, hbel⟩ := hrel
      have HK := Lib.hid hk
      have HF := Lib.hid hfold
      have HXS := Lib.hid hXS
      have HTG := Lib.hid hTG
      have HTS := Lib.hid hTS
      have HBEL := Lib.hid hbel
      have hkn : k ≤ n := by omega
      by_cases hlt : k < n
      · obtain ⟨b1, o1, A1, n1, c1, l1, e1, hb1, hc1, hI1, hL1⟩ := isVV_get (isVV_below H.out (by rw [hG]; exact hbel)) hlt
        cases e1
        have hk2 : (k : Int) < (n : Int) := by omega
        have hlc0 := hTS.two.c0
        have hlc1 := hTS.two.c1
        have HL1 := Lib.hid hL1
        have HJ := Lib.hid (fun w' (hb : Below wr.heap.size wr w') => join_calls (.agg #[la, lb]) (.agg #[.slice A1 n1 c1, .slice A1 n1 c1]) p (l1, l1) w' (hXS.below hb) ⟨_, _, _, _, _, _, rfl, isI_below hI1 hb, isI_below hI1 hb⟩)
        clear hk hfold hTS hXS hTG hbel hI1 hL1
        go_wp2_with fail
        obtain ⟨q, hq⟩ : ∃ q, (if balike p (l1, l1) then join p (l1, l1) else ([], [])) = q := ⟨_, rfl⟩
        obtain ⟨ke, hke⟩ : ∃ ke : Int, (if balike p (l1, l1) then 0 else 1) = ke := ⟨_, rfl⟩
        rw [hq, hke] at HJ
        have HQ := Lib.hid hq
        have HKE := Lib.hid hke
        clear hq hke
        refine wk.region_lev2 10 (OfR q ke wr.heap.size la lb (.slice A1 n1 c1)) [some 24, some 25, some 26, some 27, some 23, some 28, some 29, some 7, none, some 8] (fun L u => OfS wr L u) (⟨(Below.refl _ _).drew, fun h => (by cases h)⟩) (by kernel_rfl) (by kernel_rfl) (by kernel_rfl) (by kernel_rfl) (by kernel_rfl) (by kernel_rfl) ?hstep ?hdone
        case hstep =>
          intro i o ho hi E L w4 hS4 hL hdeps DG
          have hi2 : i = 0 ∨ i = 1 ∨ i = 2 ∨ i = 3 ∨ i = 4 ∨ i = 5 ∨ i = 6 ∨ i = 7 ∨ i = 8 ∨ i = 9 := by omega
          clear hi
          rcases hi2 with rfl | rfl | rfl | rfl | rfl | rfl | rfl | rfl | rfl | rfl
          ·
            have ho2 := (Array.getElem?_eq_some_iff.1 ho).2
            simp only [List.getElem_toArray, List.getElem_cons_zero] at ho2
            subst ho2
            clear ho
            have e4 := DG.old 4 (by kernel_rfl)
            refine wk.Does.weak (R := fun w' x => x = .agg #[la, lb]) ?_ (fun w' v hb hr => ⟨hr, fun j u _ _ hj => OfR.next rfl hb hj, hS4.next rfl rfl hb⟩)
            exact wk.does_load_row rfl (by rw [e4]; rfl) (HTS.out.below hS4.below) Try.underlying24 rfl (by kernel_rfl) rfl
          ·
            have ho2 := (Array.getElem?_eq_some_iff.1 ho).2
            simp only [List.getElem_toArray, List.getElem_cons_succ, List.getElem_cons_zero] at ho2
            subst ho2
            clear ho
            have e6 := DG.old 6 (by kernel_rfl)
            refine wk.Does.weak (R := fun w' x => x = .slice A1 n1 c1) ?_ (fun w' v hb hr => ⟨hr, fun j u _ _ hj => OfR.next rfl hb hj, hS4.next rfl rfl hb⟩)
            exact wk.does_move rfl (by rw [e6]; rfl)
          ·
            have ho2 := (Array.getElem?_eq_some_iff.1 ho).2
            simp only [List.getElem_toArray, List.getElem_cons_succ, List.getElem_cons_zero] at ho2
            subst ho2
            clear ho
            have e25 := DG.is { on := 1, ground := .data } (by simp) rfl 25 rfl
            replace e25 : E (.tmp 25) = .slice A1 n1 c1 := e25
            refine wk.Does.weak (R := fun w' x => x = .agg #[.slice A1 n1 c1, .slice A1 n1 c1]) ?_ (fun w' v hb hr => ⟨hr, fun j u _ _ hj => OfR.next rfl hb hj, hS4.next rfl rfl hb⟩)
            refine wk.does_fn (f := 32) (vs := #[.slice A1 n1 c1]) rfl (DG.fn _) (by simp [e25]) (by go_simp) ?_
            refine (point_calls A1 n1 c1 w4).mono ?_
            rintro e w7 ⟨rfl, hb7⟩
            exact ⟨_, rfl, hb7, rfl⟩
          ·
            have ho2 := (Array.getElem?_eq_some_iff.1 ho).2
            simp only [List.getElem_toArray, List.getElem_cons_succ, List.getElem_cons_zero] at ho2
            subst ho2
            clear ho
            have e24 := DG.is { on := 0, ground := .data } (by simp) rfl 24 rfl
            replace e24 : E (.tmp 24) = .agg #[la, lb] := e24
            have e26 := DG.is { on := 2, ground := .data } (by simp) rfl 26 rfl
            replace e26 : E (.tmp 26) = .agg #[.slice A1 n1 c1, .slice A1 n1 c1] := e26
            refine wk.Does.weak (R := fun w' x => ∃ y, x = .tuple #[y, .int .i64 ke] ∧ IsX w' y q) ?_ (fun w' v hb hr => ⟨hr, fun j u _ _ hj => OfR.next rfl hb hj, hS4.next rfl rfl hb⟩)
            refine wk.does_fn (f := 68) (vs := #[.agg #[la, lb], .agg #[.slice A1 n1 c1, .slice A1 n1 c1]]) rfl (DG.fn _) (by simp [e24, e26]) (by go_simp) ?_
            refine (HJ.out w4 hS4.below).mono ?_
            rintro e w7 ⟨y, rfl, hI7, hb7⟩
            exact ⟨_, rfl, hb7, y, rfl, hI7⟩
          ·
            have ho2 := (Array.getElem?_eq_some_iff.1 ho).2
            simp only [List.getElem_toArray, List.getElem_cons_succ, List.getElem_cons_zero] at ho2
            subst ho2
            clear ho
            have s27 := DG.is { on := 3, ground := .data } (by simp) rfl 27 rfl
            refine wk.Does.weak (R := fun w' x => ∃ y, x = .tuple #[y, .int .i64 ke] ∧ IsX w' y q) ?_ (fun w' v hb hr => ⟨hr, fun j u _ _ hj => OfR.next rfl hb hj, hS4.next rfl rfl hb⟩)
            exact wk.does_move rfl s27
          ·
            have ho2 := (Array.getElem?_eq_some_iff.1 ho).2
            simp only [List.getElem_toArray, List.getElem_cons_succ, List.getElem_cons_zero] at ho2
            subst ho2
            clear ho
            have s23 := DG.is { on := 4, ground := .data } (by simp) rfl 23 rfl
            refine wk.Does.weak (R := fun w' x => IsX w' x q) ?_ (fun w' v hb hr => ⟨hr, fun j u _ _ hj => OfR.next rfl hb hj, hS4.next rfl rfl hb⟩)
            obtain ⟨y, h1, h2⟩ := s23
            exact wk.does_extract rfl h1 rfl h2
          ·
            have ho2 := (Array.getElem?_eq_some_iff.1 ho).2
            simp only [List.getElem_toArray, List.getElem_cons_succ, List.getElem_cons_zero] at ho2
            subst ho2
            clear ho
            have s23 := DG.is { on := 4, ground := .data } (by simp) rfl 23 rfl
            refine wk.Does.weak (R := fun w' x => x = .int .i64 ke) ?_ (fun w' v hb hr => ⟨hr, fun j u _ _ hj => OfR.next rfl hb hj, hS4.next rfl rfl hb⟩)
            obtain ⟨y, h1, h2⟩ := s23
            exact wk.does_extract rfl h1 rfl rfl
          ·
            have ho2 := (Array.getElem?_eq_some_iff.1 ho).2
            simp only [List.getElem_toArray, List.getElem_cons_succ, List.getElem_cons_zero] at ho2
            subst ho2
            clear ho
            have h8 : L 8 = false := by cases h : L 8; rfl; rw [hS4.c8 h] at hL; cases hL
            refine wk.Does.weak (R := fun w' x => x = .pointer (some ⟨w4.heap.size, 0, none⟩) ∧ TwoX w' w4.heap.size (.slice none 0 0) (.slice none 0 0)) ?_ fun w' v hb hr => ⟨?_, fun j u _ _ hj => OfR.next rfl hb hj, hS4.next7 h8 hb⟩
            · exact wk.does_new (w' := w4.alloc (.cells #[.slice none 0 0, .slice none 0 0] 24)) (by simp only [execOp]; go_simp) (below_new _ _) ⟨rfl, TwoX.new _ _ _⟩
            · exact ⟨_, _, _, _, _, _, _, hr.1, hS4.below.size, hr.2, fun h => by replace h : L 8 = true := h; rw [h8] at h; cases h⟩
          ·
            have ho2 := (Array.getElem?_eq_some_iff.1 ho).2
            simp only [List.getElem_toArray, List.getElem_cons_succ, List.getElem_cons_zero] at ho2
            subst ho2
            clear ho
            have s7 := DG.is { on := 7, ground := .data } (by simp) rfl 7 rfl
            have s28 := DG.is { on := 5, ground := .data } (by simp) rfl 28 rfl
            obtain ⟨g, a1, a2, a3, a4, a5, a6, hg, hlo, hT, _⟩ := s7
            obtain ⟨b1, b2, b3, b4, b5, b6, hq, hq1, hq2⟩ := s28
            have hc0 := hT.two.c0
            have hc1 := hT.two.c1
            have hf0 := hT.f0 0
            have hf1 := hT.f0 1
            refine wk.does_skip_t (w' := (w4.setCell ⟨g, 0, none⟩ (.slice b1 b2 b3)).setCell ⟨g, 1, none⟩ (.slice b4 b5 b6)) ?_ ⟨trivial, fun j u hLj hu hj => OfR.store hL hT hg hq1 hq2 (fun e => by subst e; exact hu 7 rfl) hj, hS4.store hlo (hdeps { on := 7, ground := .data } (by simp) rfl)⟩
            simp only [execOp]
            rw [hg, hq]
            go_simp
          ·
            have ho2 := (Array.getElem?_eq_some_iff.1 ho).2
            simp only [List.getElem_toArray, List.getElem_cons_succ, List.getElem_cons_zero] at ho2
            subst ho2
            clear ho
            have e29 := DG.is { on := 6, ground := .data } (by simp) rfl 29 rfl
            replace e29 : E (.tmp 29) = .int .i64 ke := e29
            refine wk.Does.weak (R := fun w' x => x = .int .i64 ke) ?_ (fun w' v hb hr => ⟨hr, fun j u _ _ hj => OfR.next rfl hb hj, hS4.next rfl rfl hb⟩)
            exact wk.does_assign rfl e29
        case hdone =>
          intro vals LD w4 hall hS4 hv
          obtain ⟨g, a1, a2, a3, a4, a5, a6, hg, hlo, hT, hX⟩ := hv 7 (by omega)
          have hX2 := hX (hall 8 (by omega))
          have h9 : vals 9 = .int .i64 ke := hv 9 (by omega)
          have hb5 := hS4.below
          clear hv hX hall hS4
          simp only [List.drop_succ_cons, List.drop_nil, wpList, wk.setL, List.setIfInBounds_toArray, List.set_cons_zero, List.set_cons_succ, Nat.zero_add, Nat.reduceAdd, hg, h9]
          generalize vals 0 = x0
          generalize vals 1 = x1
          generalize vals 2 = x2
          generalize vals 3 = x3
          generalize vals 4 = x4
          generalize vals 5 = x5
          generalize vals 6 = x6
          have hTS5 := HTS.out.below hb5
          obtain ⟨c1, c2, c3, c4, c5, c6, hlab, _, _⟩ := HXS.out
          have hla : la = .slice c1 c2 c3 ∧ lb = .slice c4 c5 c6 := by simpa using hlab
          rw [hla.1, hla.2] at hTS5
          clear hlab hla
          have hTG5 := HTG.out.below hb5
          have hlen4 := hb5.size
          have hSw : S < wr.heap.size := (Array.getElem?_eq_some_iff.1 HTS.out).1
          have hGw : G < wr.heap.size := (Array.getElem?_eq_some_iff.1 HTG.out).1
          have hGS : G ≠ S := by omega
          have hB5 := HBEL.out.trans (hb5.mono (by omega))
          have hc0 := hT.two.c0
          have hc1 := hT.two.c1
          have hc4 := hTS5.two.c0
          have hc5 := hTS5.two.c1
          have hf4 := hTS5.f0 0
          have hf5 := hTS5.f0 1
          have hc6 := hTG5.two.c0
          have hc7 := hTG5.two.c1
          have hf6 := hTG5.f0 0
          have hf7 := hTG5.f0 1
          cases hal : balike p (l1, l1)
          · have hke := HKE.out
            rw [hal] at hke
            simp only [if_false, Bool.false_eq_true] at hke
            subst hke
            have HRN : Hid (ofL L = none) := by
              show _ = _
              rw [HO.out, ← List.take_append_drop (k + 1) L, List.foldl_append, vq.take_snoc HL1.out, List.foldl_append, HF.out]
              have : ofS (some p) l1 = none := by simp [ofS, hal]
              simp only [List.foldl_cons, List.foldl_nil, this, ofS_none]
            have HTG6 := Lib.hid (TwoX.set hTG5 (.slice none 0 0) (.slice none 0 0))
            have HB6 := Lib.hid hB5
            clear hX2 hT hTS5 hTG5 hB5 hb5 hal
            go_wp2_with fail
            rw [← HRV.out, ← HRP.out, HRN.out]
            exact bodyPost_ret (v := .tuple #[.agg #[.slice none 0 0, .slice none 0 0], .int .i64 1]) (res_x1 (fn := Try.f29) rfl _ _ G _ _ rfl HTG6.out) rfl ⟨_, rfl, isX_nil _, by exact by rw [hG]; exact below_set2 HB6.out (Nat.le_refl _) _ _⟩
          · have hke := HKE.out
            have hqq := HQ.out
            rw [hal] at hke hqq
            simp only [if_true] at hke hqq
            subst hke hqq
            have HF2 : Hid ((L.take (k + 1)).foldl ofS (some (l0, l0)) = some (join p (l1, l1))) := by
              show _ = _
              rw [vq.take_snoc HL1.out, List.foldl_append, HF.out]
              simp [ofS, hal]
            have HTG6 := Lib.hid (TwoX.other2 hTG5 hGS (.slice a1 a2 a3) (.slice a4 a5 a6))
            have HTS6 := Lib.hid (TwoX.set hTS5 (.slice a1 a2 a3) (.slice a4 a5 a6))
            have HX6 := Lib.hid (isX_set2 hX2 hTS5 (.slice a1 a2 a3) (.slice a4 a5 a6))
            have HB6 := Lib.hid (below_set2 hB5 (show G ≤ S by omega) (.slice a1 a2 a3) (.slice a4 a5 a6))
            clear hX2 hT hTS5 hTG5 hB5 hb5 hal
            go_wp2_with fail
            go_roundg (gk - 1)
            case measure => have := HK.out; omega
            case rel => exact ⟨k + 1, _, _, _, by have := HK.out; omega, by go_num, HF2.out, HTS6.out, HX6.out, HTG6.out, HB6.out⟩
      · obtain rfl : k = n := by omega
        rw [List.take_of_length_le (by have := H.out.1; omega)] at hfold
        have HRS : Hid (ofL L = some p) := by show _ = _; rw [HO.out, hfold]
        obtain ⟨a1, a2, a3, a4, a5, a6, he, hq1, hq2⟩ := hXS
        simp only [Value.agg.injEq, Array.mk.injEq, List.cons.injEq, and_true] at he
        obtain ⟨rfl, rfl⟩ := he
        have hc4 := hTS.two.c0
        have hc5 := hTS.two.c1
        have hc6 := hTG.two.c0
        have hc7 := hTG.two.c1
        have hf6 := hTG.f0 0
        have hf7 := hTG.f0 1
        have HTG6 := Lib.hid (TwoX.set hTG (.slice a1 a2 a3) (.slice a4 a5 a6))
        have HX6 := Lib.hid (isX_set2 HXS.out hTG (.slice a1 a2 a3) (.slice a4 a5 a6))
        have HB6 := Lib.hid (below_set2 hbel (Nat.le_refl G) (.slice a1 a2 a3) (.slice a4 a5 a6))
        clear hk hfold hTS hTG hbel hq1 hq2 HXS
        go_wp2_with fail
        rw [← HRV.out, ← HRP.out, HRS.out]
        exact bodyPost_ret (v := .tuple #[.agg #[.slice a1 a2 a3, .slice a4 a5 a6], .int .i64 0]) (res_x1 (fn := Try.f29) rfl _ _ G _ _ rfl HTG6.out) rfl ⟨_, rfl, HX6.out, by rw [hG]; exact HB6.out⟩
end Go.Proofs.Ytegoinkkcfbfaaa.bk
/- Boxes, plainly: what Of, Join and Meet give. No program here. -/
namespace Go.Proofs.Ytegoinkkcfbfaaa.bq

open Go.Proofs.Ytegoinkkcfbfaaa Go.Proofs.Ytegoinkkcfbfaaa.bk

set_option linter.unusedVariables false
theorem mins_at {a b : List Int} {i : Nat} (h : i < a.length) : at' (mins a b) i = min (at' a i) (at' b i) := map_at _ _ h
theorem maxs_at {a b : List Int} {i : Nat} (h : i < a.length) : at' (maxs a b) i = max (at' a i) (at' b i) := map_at _ _ h
theorem mins_length (a b : List Int) : (mins a b).length = a.length := by simp [mins]
theorem maxs_length (a b : List Int) : (maxs a b).length = a.length := by simp [maxs]
theorem mins_comm {a b : List Int} (h : a.length = b.length) : mins a b = mins b a := map_congr' h fun i _ => Int.min_comm _ _
theorem maxs_comm {a b : List Int} (h : a.length = b.length) : maxs a b = maxs b a := map_congr' h fun i _ => Int.max_comm _ _
theorem box_bd {p : Pair} (h : IsBox p) {i : Nat} (hi : i < p.1.length) : -1000 ≤ at' p.1 i ∧ at' p.1 i ≤ at' p.2 i ∧ at' p.2 i ≤ 1000 := by
  have h1 := vec_at h.lo hi
  have h2 := vec_at h.hi (i := i) (by have := h.len; omega)
  have h3 := h.le i hi
  omega
theorem box_of {a b : List Int} (h1 : 1 ≤ a.length) (h2 : a.length ≤ 32) (hl : a.length = b.length) (h : ∀ i, i < a.length → -1000 ≤ at' a i ∧ at' a i ≤ at' b i ∧ at' b i ≤ 1000) : IsBox (a, b) := by
  have ha : vq.Vec a := vec_of h1 h2 fun i hi => by have := h i hi; omega
  have hb : vq.Vec b := vec_of (by omega) (by omega) fun i hi => by have := h i (by omega); omega
  exact ⟨ha, hb, hl, fun i hi => (h i hi).2.1⟩
section

variable {p q : Pair}
theorem join_box (hp : IsBox p) (hq : IsBox q) (hl : p.1.length = q.1.length) : IsBox (join p q) := by
  have h1 := hp.len
  refine box_of (by rw [mins_length]; exact hp.lo.pos) (by rw [mins_length]; exact hp.lo.le) (by rw [mins_length, maxs_length]; exact h1) fun i hi => ?_
  rw [mins_length] at hi
  rw [mins_at hi, maxs_at (by omega)]
  have := box_bd hp hi
  have := box_bd hq (i := i) (by omega)
  omega
theorem join_comm (hp : IsBox p) (hq : IsBox q) (hl : p.1.length = q.1.length) : join p q = join q p := by
  unfold join
  rw [mins_comm hl, maxs_comm (by have := hp.len; have := hq.len; omega)]
theorem meet_comm (hp : IsBox p) (hq : IsBox q) (hl : p.1.length = q.1.length) : meet p q = meet q p := by
  unfold meet
  rw [maxs_comm hl, mins_comm (by have := hp.len; have := hq.len; omega)]
theorem has_join (hp : IsBox p) (hq : IsBox q) (hl : p.1.length = q.1.length) {v : List Int} (h : has p v = true ∨ has q v = true) : has (join p q) v = true := by
  have h1 := hp.len
  refine (has_iff (join_box hp hq hl)).2 ?_
  show v.length = (mins p.1 q.1).length ∧ _
  rw [mins_length]
  rcases h with h | h
  · obtain ⟨hv, hb⟩ := (has_iff hp).1 h
    refine ⟨hv, fun i hi => ?_⟩
    have hi : i < p.1.length := by rw [← mins_length p.1 q.1]; exact hi
    show at' (mins p.1 q.1) i ≤ _ ∧ _ ≤ at' (maxs p.2 q.2) i
    rw [mins_at hi, maxs_at (by omega)]
    have := hb i hi
    omega
  · obtain ⟨hv, hb⟩ := (has_iff hq).1 h
    refine ⟨by omega, fun i hi => ?_⟩
    have hi : i < p.1.length := by rw [← mins_length p.1 q.1]; exact hi
    show at' (mins p.1 q.1) i ≤ _ ∧ _ ≤ at' (maxs p.2 q.2) i
    rw [mins_at hi, maxs_at (by omega)]
    have := hb i (by omega)
    omega
theorem in_join (hp : IsBox p) (hq : IsBox q) (hl : p.1.length = q.1.length) : inside p (join p q) = true ∧ inside q (join p q) = true := by
  have h1 := hp.len
  have h2 := hq.len
  have hj := join_box hp hq hl
  simp only [inside, Bool.and_eq_true, balike_iff, le_iff]
  refine ⟨⟨⟨⟨(mins_length _ _).symm, hp, hj⟩, fun i hi => ?_⟩, fun i hi => ?_⟩, ⟨⟨⟨?_, hq, hj⟩, fun i hi => ?_⟩, fun i hi => ?_⟩⟩
  · have hi : i < p.1.length := by rw [← mins_length p.1 q.1]; exact hi
    show at' (mins p.1 q.1) i ≤ _
    rw [mins_at hi]; omega
  · show _ ≤ at' (maxs p.2 q.2) i
    rw [maxs_at hi]; omega
  · show _ = (mins p.1 q.1).length
    rw [mins_length]; exact hl.symm
  · have hi : i < p.1.length := by rw [← mins_length p.1 q.1]; exact hi
    show at' (mins p.1 q.1) i ≤ _
    rw [mins_at hi]; omega
  · show _ ≤ at' (maxs p.2 q.2) i
    rw [maxs_at (by omega)]; omega
theorem meet_at (hp : IsBox p) {i : Nat} (hi : i < p.1.length) : at' (meet p q).1 i = max (at' p.1 i) (at' q.1 i) ∧ at' (meet p q).2 i = min (at' p.2 i) (at' q.2 i) :=
  ⟨maxs_at hi, mins_at (by have := hp.len; omega)⟩
theorem meet_length : (meet p q).1.length = p.1.length := maxs_length _ _
theorem in_meet (hp : IsBox p) (hq : IsBox q) (hl : p.1.length = q.1.length) (hm : bvalid (meet p q) = true) : inside (meet p q) p = true ∧ inside (meet p q) q = true := by
  have h1 := hp.len
  have h2 := hq.len
  have hj := bvalid_iff.1 hm
  have hj2 : (meet p q).2.length = p.1.length := by rw [← hj.len]; exact meet_length
  simp only [inside, Bool.and_eq_true, balike_iff, le_iff]
  refine ⟨⟨⟨⟨meet_length, hj, hp⟩, fun i hi => ?_⟩, fun i hi => ?_⟩, ⟨⟨⟨meet_length.trans hl, hj, hq⟩, fun i hi => ?_⟩, fun i hi => ?_⟩⟩
  · rw [(meet_at hp hi).1]; omega
  · rw [(meet_at hp (i := i) (by omega)).2]; omega
  · rw [(meet_at hp (i := i) (by omega)).1]; omega
  · rw [(meet_at hp (i := i) (by omega)).2]; omega
theorem has_meet (hp : IsBox p) (hq : IsBox q) (hl : p.1.length = q.1.length) {v : List Int} (hv : has p v = true) : has q v = (bvalid (meet p q) && has (meet p q) v) := by
  obtain ⟨hl1, hb1⟩ := (has_iff hp).1 hv
  have hlen := hp.len
  cases hm : bvalid (meet p q)
  · rw [Bool.false_and]
    cases hh : has q v
    · rfl
    · exfalso
      obtain ⟨_, hb2⟩ := (has_iff hq).1 hh
      have : IsBox (meet p q) := by
        refine box_of (by rw [maxs_length]; exact hp.lo.pos) (by rw [maxs_length]; exact hp.lo.le) (by rw [maxs_length, mins_length]; exact hlen) fun i hi => ?_
        rw [maxs_length] at hi
        rw [maxs_at hi, mins_at (by omega)]
        have := box_bd hp hi
        have := box_bd hq (i := i) (by omega)
        have := hb1 i hi
        have := hb2 i (by omega)
        omega
      rw [bvalid_iff.2 this] at hm
      cases hm
  · rw [Bool.true_and]
    have hj := bvalid_iff.1 hm
    rw [Bool.eq_iff_iff, has_iff hq, has_iff hj, meet_length]
    constructor
    · rintro ⟨h3, h4⟩
      refine ⟨hl1, fun i hi => ?_⟩
      rw [(meet_at hp hi).1, (meet_at hp hi).2]
      have := hb1 i hi
      have := h4 i (by omega)
      omega
    · rintro ⟨h3, h4⟩
      refine ⟨by omega, fun i hi => ?_⟩
      have h5 := h4 i (by omega)
      rw [(meet_at hp (i := i) (by omega)).1, (meet_at hp (i := i) (by omega)).2] at h5
      omega
end
/-- the box of some vectors -/
structure BoxOf (S : List (List Int)) (p : Pair) : Prop where
  box : IsBox p
  all : ∀ v ∈ S, has p v = true
  lo : ∀ k, k < p.1.length → ∃ v ∈ S, at' v k = at' p.1 k
  hi : ∀ k, k < p.1.length → ∃ v ∈ S, at' v k = at' p.2 k
theorem point_box {v : List Int} (h : vq.Vec v) : IsBox (v, v) := ⟨h, h, rfl, fun i _ => Int.le_refl _⟩
theorem has_point {v : List Int} (h : vq.Vec v) : has (v, v) v = true := (has_iff (point_box h)).2 ⟨rfl, fun i _ => ⟨Int.le_refl _, Int.le_refl _⟩⟩
theorem BoxOf.step {S : List (List Int)} {p q : Pair} {v : List Int} (h : BoxOf S p) (e : ofS (some p) v = some q) : BoxOf (S ++ [v]) q := by
  have hb : balike p (v, v) = true := by
    cases hh : balike p (v, v)
    · simp [ofS, hh] at e
    · rfl
  obtain rfl : join p (v, v) = q := by simpa [ofS, hb] using e
  obtain ⟨hl, hp, hv⟩ := balike_iff.1 hb
  have hlen := hp.len
  have hl' : p.1.length = v.length := hl
  refine ⟨join_box hp hv hl, fun u hu => ?_, fun k hk => ?_, fun k hk => ?_⟩
  · rcases List.mem_append.1 hu with hu | hu
    · exact has_join hp hv hl (.inl (h.all u hu))
    · obtain rfl : u = v := by simpa using hu
      exact has_join hp hv hl (.inr (has_point hv.lo))
  · have hk' : k < p.1.length := by rw [← mins_length p.1 v]; exact hk
    have e1 : at' (join p (v, v)).1 k = min (at' p.1 k) (at' v k) := mins_at hk'
    rw [e1]
    by_cases hc : at' p.1 k ≤ at' v k
    · obtain ⟨u, hu, hu2⟩ := h.lo k hk'
      exact ⟨u, List.mem_append_left _ hu, by omega⟩
    · exact ⟨v, by simp, by omega⟩
  · have hk' : k < p.1.length := by rw [← mins_length p.1 v]; exact hk
    have e1 : at' (join p (v, v)).2 k = max (at' p.2 k) (at' v k) := maxs_at (by omega)
    rw [e1]
    by_cases hc : at' v k ≤ at' p.2 k
    · obtain ⟨u, hu, hu2⟩ := h.hi k hk'
      exact ⟨u, List.mem_append_left _ hu, by omega⟩
    · exact ⟨v, by simp, by omega⟩
theorem boxOf_fold : ∀ (T S : List (List Int)) (p q : Pair), BoxOf S p → T.foldl ofS (some p) = some q → BoxOf (S ++ T) q
  | [], S, p, q, h, e => by
    simp only [List.foldl_nil, Option.some.injEq] at e
    subst e
    simpa using h
  | v :: T, S, p, q, h, e => by
    rw [List.foldl_cons] at e
    cases hs : ofS (some p) v with
    | none => rw [hs, ofS_none] at e; cases e
    | some r =>
      rw [hs] at e
      have := boxOf_fold T (S ++ [v]) r q (h.step hs) e
      simpa using this
theorem boxOf {L : List (List Int)} {p : Pair} (h : ofL L = some p) : BoxOf L p := by
  cases L with
  | nil => cases h
  | cons l T =>
    have h : (l :: T).foldl ofS (some (l, l)) = some p := h
    rw [List.foldl_cons] at h
    cases hs : ofS (some (l, l)) l with
    | none => rw [hs, ofS_none] at h; cases h
    | some r =>
      rw [hs] at h
      have hb : balike (l, l) (l, l) = true := by
        cases hh : balike (l, l) (l, l)
        · simp [ofS, hh] at hs
        · rfl
      obtain ⟨_, hp, _⟩ := balike_iff.1 hb
      have h0 : BoxOf [l] (l, l) := ⟨hp, fun v hv => by rw [show v = l by simpa using hv]; exact has_point hp.lo, fun k _ => ⟨l, by simp, rfl⟩, fun k _ => ⟨l, by simp, rfl⟩⟩
      obtain rfl : join (l, l) (l, l) = r := by simpa [ofS, hb] using hs
      have e1 : join (l, l) (l, l) = (l, l) := by
        unfold join
        have a1 : mins l l = l := ext_at (mins_length _ _) fun i hi => by rw [mins_length] at hi; rw [mins_at hi]; omega
        have a2 : maxs l l = l := ext_at (maxs_length _ _) fun i hi => by rw [maxs_length] at hi; rw [maxs_at hi]; omega
        simp only [a1, a2]
      rw [e1] at h
      simpa using boxOf_fold T [l] (l, l) p h0 h
end Go.Proofs.Ytegoinkkcfbfaaa.bq

namespace Go.Proofs.Ytegoinkkcfbfaaa.bk

open Go.ChangeShapes Go.WideShapes Go.ChangeAt Go.RowKit

open Go.Proofs.Ytegoinkkcfbfaaa.bq Go.Proofs.Ytegoinkkcfbfaaa.vk Go.Proofs.Ytegoinkkcfbfaaa.wk

set_option linter.unusedVariables false
def shortB (L : List (List Int)) : Bool := L.all (fun l => decide (l.length ≤ 40)) && decide (L.length ≤ 20)
end Go.Proofs.Ytegoinkkcfbfaaa.bk

namespace Go.Proofs.Ytegoinkkcfbfaaa.vk

open Go Go.ChangeShapes Go.WideShapes Go.ChangeAt Go.RowKit

set_option linter.unusedVariables false

section

variable {H : Type} {enc : TypeId × Value → H} {P : Program} {w : World} {base : Nat} {spare : Nat → Bool} {held : Bool} {t e e0 : TypeId} {a : Option Addr} {n c fuel : Nat} {x : DataW H × List MemPlace}
theorem openVV (ht : P.underlying t = some (.slice e)) (he : P.underlying e = some (.slice e0)) (he0 : P.underlying e0 = some (.int .i64)) (hc : P.cellsOf e = 1) (hc0 : P.cellsOf e0 = 1)
    (h : DataW.trod enc P w base spare held fuel t [.slice a n c] = some x) : ∃ L, IsVV w a n c L := by
  rcases DataW.trod_slice ht h with ⟨hcs, _⟩ | ⟨ad, len, cap, elems, rest, m, _, hcs, _, hb, hl, hm, hlen, hel, _⟩
  · simp only [List.cons.injEq, Value.slice.injEq, and_true] at hcs
    obtain ⟨rfl, rfl, rfl⟩ := hcs
    exact ⟨[], rfl, Nat.le_refl _, by omega, fun k l hk => by simp at hk⟩
  · simp only [List.cons.injEq, Value.slice.injEq, and_true] at hcs
    obtain ⟨rfl, rfl, rfl⟩ := hcs
    rw [hc] at hel
    have hone : ∀ i, i < n → ∃ l : List Int, ∃ A' n' c', w.cell? (ad.add i) = some (.slice A' n' c') ∧ wo.IsI w A' n' c' l := fun i hi => by
      have hi' := hel i hi
      rw [List.getElem?_eq_getElem (by omega), Nat.mul_one] at hi'
      cases hcc : w.cells? base (ad.add i) 1 with
      | none => rw [hcc] at hi'; simp at hi'
      | some cs =>
        rw [hcc] at hi'
        simp only [Option.bind_some] at hi'
        obtain ⟨hlen1, _, hcell⟩ := World.cells?_some hcc
        have h0 := hcell 0 (by omega)
        have hadd : (ad.add i).add 0 = ad.add i := by unfold Addr.add; simp
        rw [hadd] at h0
        rcases DataW.trod_slice he hi' with ⟨hcs, _⟩ | ⟨ad', len', cap', _, _, _, _, hcs, _⟩
        · subst hcs
          obtain ⟨l, hI⟩ := wo.openI he he0 hc0 hi'
          exact ⟨l, _, _, _, by simpa using h0, hI⟩
        · subst hcs
          obtain ⟨l, hI⟩ := wo.openI he he0 hc0 hi'
          exact ⟨l, _, _, _, by simpa using h0, hI⟩
    obtain ⟨L, hLl, hLq⟩ := wo.exists_list n hone
    refine ⟨L, hLl, hl, by unfold maxLen at hm; omega, fun k l hk => ?_⟩
    have hkn : k < n := by
      rcases Nat.lt_or_ge k n with h' | h'
      · exact h'
      · rw [List.getElem?_eq_none (by omega)] at hk; cases hk
    obtain ⟨A', n', c', hcell, hI⟩ := hLq k l hk
    obtain ⟨A0, m0, k0, hc00, _⟩ := (hone 0 (by omega)).choose_spec
    obtain ⟨b, o, rfl⟩ := wo.at_plain hc00
    have hlt := block_lt_of_cell hcell
    rw [wk.add_at] at hcell hlt
    exact ⟨b, o, A', n', c', rfl, hlt, hcell, hI⟩
end

end Go.Proofs.Ytegoinkkcfbfaaa.vk
/- Of of many vectors, column by column: mathematics. No program here. -/
namespace Go.Proofs.Ytegoinkkcfbfaaa.bq

set_option linter.unusedVariables false
def colLo (L : List (List Int)) (k : Nat) : Int := L.foldl (fun s l => min s (at' l k)) (at' (L.headD []) k)
def colHi (L : List (List Int)) (k : Nat) : Int := L.foldl (fun s l => max s (at' l k)) (at' (L.headD []) k)
def okV (n : Nat) (l : List Int) : Bool := vq.valid l && decide (l.length = n)
def okL (L : List (List Int)) : Bool := L.all (okV (L.headD []).length) && decide (1 ≤ L.length)
def boxL (L : List (List Int)) : Pair := ((List.range (L.headD []).length).map (colLo L), (List.range (L.headD []).length).map (colHi L))
theorem foldl_mins_length : ∀ (M : List (List Int)) (a : List Int), (M.foldl mins a).length = a.length
  | [], a => rfl
  | v :: M, a => by rw [List.foldl_cons, foldl_mins_length M, mins_length]
theorem foldl_maxs_length : ∀ (M : List (List Int)) (a : List Int), (M.foldl maxs a).length = a.length
  | [], a => rfl
  | v :: M, a => by rw [List.foldl_cons, foldl_maxs_length M, maxs_length]
theorem foldl_mins_at : ∀ (M : List (List Int)) (a : List Int) (k : Nat), k < a.length → at' (M.foldl mins a) k = M.foldl (fun s l => min s (at' l k)) (at' a k)
  | [], a, k, h => rfl
  | v :: M, a, k, h => by
    rw [List.foldl_cons, List.foldl_cons, foldl_mins_at M _ k (by rw [mins_length]; exact h), mins_at h]
theorem foldl_maxs_at : ∀ (M : List (List Int)) (a : List Int) (k : Nat), k < a.length → at' (M.foldl maxs a) k = M.foldl (fun s l => max s (at' l k)) (at' a k)
  | [], a, k, h => rfl
  | v :: M, a, k, h => by
    rw [List.foldl_cons, List.foldl_cons, foldl_maxs_at M _ k (by rw [maxs_length]; exact h), maxs_at h]
theorem ext_at2 {a : List Int} {f : Nat → Int} (h : ∀ k, k < a.length → at' a k = f k) : a = (List.range a.length).map f := by
  apply List.ext_getElem (by simp)
  intro i h1 h2
  have := h i h1
  simp only [at', List.getD_eq_getElem?_getD, List.getElem?_eq_getElem h1, Option.getD_some] at this
  simp [this]
theorem balike_point {p : Pair} (hp : IsBox p) (v : List Int) : balike p (v, v) = okV p.1.length v := by
  rw [Bool.eq_iff_iff, balike_iff]
  unfold okV
  simp only [Bool.and_eq_true, decide_eq_true_eq]
  constructor
  · rintro ⟨h1, -, h3⟩
    exact ⟨vq.valid_iff.2 h3.lo, h1.symm⟩
  · rintro ⟨h1, h2⟩
    exact ⟨h2.symm, hp, point_box (vq.valid_iff.1 h1)⟩
theorem foldl_ofS : ∀ (M : List (List Int)) (p : Pair), IsBox p → M.foldl ofS (some p) = if M.all (okV p.1.length) then some (M.foldl mins p.1, M.foldl maxs p.2) else none
  | [], p, h => rfl
  | v :: M, p, h => by
    rw [List.foldl_cons, List.foldl_cons, List.foldl_cons, List.all_cons]
    have e : ofS (some p) v = if okV p.1.length v then some (join p (v, v)) else none := by
      show (if balike p (v, v) then some (join p (v, v)) else none) = _
      rw [balike_point h]
    rw [e]
    cases hv : okV p.1.length v
    · simp only [Bool.false_eq_true, if_false, Bool.false_and]
      exact ofS_none M
    · simp only [if_true, Bool.true_and]
      unfold okV at hv
      simp only [Bool.and_eq_true, decide_eq_true_eq] at hv
      have hj := join_box h (point_box (vq.valid_iff.1 hv.1)) (q := (v, v)) hv.2.symm
      rw [foldl_ofS M _ hj]
      have e2 : (join p (v, v)).1.length = p.1.length := mins_length _ _
      rw [e2]
      rfl
theorem ofL_eq (L : List (List Int)) : ofL L = if okL L then some (boxL L) else none := by
  cases L with
  | nil => rfl
  | cons l T =>
    have hh : (l :: T).headD [] = l := rfl
    show (l :: T).foldl ofS (some (l, l)) = _
    cases hv : vq.valid l
    · have e1 : okL (l :: T) = false := by unfold okL okV; rw [List.all_cons, hh, hv]; rfl
      rw [e1, List.foldl_cons]
      have e2 : ofS (some (l, l)) l = none := by
        show (if balike (l, l) (l, l) then some (join (l, l) (l, l)) else none) = none
        have : balike (l, l) (l, l) = false := by
          cases hb : balike (l, l) (l, l)
          · rfl
          · have := (balike_iff.1 hb).2.1.lo
            rw [vq.valid_iff.2 this] at hv; cases hv
        rw [this]; rfl
      rw [e2]; exact ofS_none T
    · have hp : IsBox (l, l) := point_box (vq.valid_iff.1 hv)
      rw [foldl_ofS _ _ hp]
      have e1 : okL (l :: T) = (l :: T).all (okV l.length) := by
        unfold okL
        rw [hh, show decide (1 ≤ (l :: T).length) = true from decide_eq_true (by simp), Bool.and_true]
      rw [e1]
      have e3 : ((l :: T).foldl mins l, (l :: T).foldl maxs l) = boxL (l :: T) := by
        unfold boxL
        rw [hh]
        have a1 := ext_at2 (a := (l :: T).foldl mins l) (f := colLo (l :: T)) (fun k hk => by rw [foldl_mins_length] at hk; exact foldl_mins_at _ _ _ hk)
        have a2 := ext_at2 (a := (l :: T).foldl maxs l) (f := colHi (l :: T)) (fun k hk => by rw [foldl_maxs_length] at hk; exact foldl_maxs_at _ _ _ hk)
        rw [foldl_mins_length] at a1
        rw [foldl_maxs_length] at a2
        rw [a1, a2]
      simp only [e3]
theorem ofL_join {p q : Pair} (h : balike p q = true) : ofL [p.1, p.2, q.1, q.2] = some (join p q) := by
  obtain ⟨hl, hp, hq⟩ := balike_iff.1 h
  have hpl := hp.len
  have hql := hq.len
  rw [ofL_eq]
  have ov : ∀ l : List Int, vq.Vec l → l.length = p.1.length → okV p.1.length l = true := fun l h1 h2 => by
    unfold okV
    rw [vq.valid_iff.2 h1, Bool.true_and, decide_eq_true_eq]
    exact h2
  have e1 : okL [p.1, p.2, q.1, q.2] = true := by
    show ((okV p.1.length p.1 && (okV p.1.length p.2 && (okV p.1.length q.1 && (okV p.1.length q.2 && true)))) && true) = true
    rw [ov _ hp.lo rfl, ov _ hp.hi (by omega), ov _ hq.lo (by omega), ov _ hq.hi (by omega)]
    rfl
  rw [e1, if_pos rfl]
  congr 1
  unfold boxL join
  have b1 : mins p.1 q.1 = (List.range p.1.length).map (colLo [p.1, p.2, q.1, q.2]) := by
    have := ext_at2 (a := mins p.1 q.1) (f := colLo [p.1, p.2, q.1, q.2]) (fun k hk => by
      rw [mins_length] at hk
      rw [mins_at hk]
      have h1 := box_bd hp hk
      have h2 := box_bd hq (i := k) (by omega)
      unfold colLo
      simp only [List.foldl_cons, List.foldl_nil, List.headD_cons]
      omega)
    rw [mins_length] at this; exact this
  have b2 : maxs p.2 q.2 = (List.range p.1.length).map (colHi [p.1, p.2, q.1, q.2]) := by
    have := ext_at2 (a := maxs p.2 q.2) (f := colHi [p.1, p.2, q.1, q.2]) (fun k hk => by
      rw [maxs_length] at hk
      rw [maxs_at hk]
      have h1 := box_bd hp (i := k) (by omega)
      have h2 := box_bd hq (i := k) (by omega)
      unfold colHi
      simp only [List.foldl_cons, List.foldl_nil, List.headD_cons]
      omega)
    rw [maxs_length, ← hpl] at this; exact this
  rw [b1, b2]
  rfl
def ofF (L : List (List Int)) : Pair × Bool × Int := match ofL L with
  | some p => (p, true, 0)
  | none => (([], []), false, 1)
def joinF (p q : Pair) : Pair × Bool × Int := if balike p q then (join p q, true, 0) else (([], []), false, 1)
theorem ofF_ok {L : List (List Int)} (h : okL L = true) : ofF L = (boxL L, true, 0) := by unfold ofF; rw [ofL_eq, if_pos h]
theorem ofF_not {L : List (List Int)} (h : okL L = false) : ofF L = (([], []), false, 1) := by unfold ofF; rw [ofL_eq, if_neg (by simp [h])]
theorem ofF_join {p q : Pair} (h : balike p q = true) : ofF [p.1, p.2, q.1, q.2] = joinF p q := by
  unfold ofF joinF
  rw [ofL_join h, if_pos h]
theorem boxL_box {L : List (List Int)} (h : okL L = true) : IsBox (boxL L) := (boxOf (L := L) (p := boxL L) (by rw [ofL_eq, if_pos h])).box
theorem vec_bd {l : List Int} (h : vq.Vec l) : ∀ x ∈ l, -9223372036854775808 ≤ x ∧ x ≤ 9223372036854775807 := fun x hx => by
  have h1 := h.lo x hx
  have h2 := h.hi x hx
  omega
theorem okL_row {L : List (List Int)} (h : okL L = true) {k : Nat} {l : List Int} (hk : L[k]? = some l) : l.length = (L.headD []).length := by
  unfold okL at h
  simp only [Bool.and_eq_true, List.all_eq_true] at h
  have := h.1 l (List.mem_of_getElem? hk)
  unfold okV at this
  simp only [Bool.and_eq_true, decide_eq_true_eq] at this
  exact this.2
theorem headD_of {L : List (List Int)} {l : List Int} (h : L[0]? = some l) : L.headD [] = l := by
  cases L with
  | nil => cases h
  | cons a T => simpa using h
theorem okL_bad {L : List (List Int)} {k : Nat} {l : List Int} (hk : L[k]? = some l) (h : okV (L.headD []).length l = false) : okL L = false := by
  cases hh : okL L
  · rfl
  · unfold okL at hh
    simp only [Bool.and_eq_true, List.all_eq_true] at hh
    rw [hh.1 l (List.mem_of_getElem? hk)] at h
    cases h
theorem okL_all {L : List (List Int)} {n : Nat} (hn : L.length = n) (h1 : 0 < n) (h : (L.take n).all (okV (L.headD []).length) = true) : okL L = true := by
  unfold okL
  rw [List.take_of_length_le (Nat.le_of_eq hn)] at h
  rw [h, Bool.true_and, decide_eq_true_eq]
  omega
theorem colLo_snoc (L : List (List Int)) (k : Nat) {j : Nat} {l : List Int} (hj : L[j]? = some l) (a : Int) : (L.take (j + 1)).foldl (fun s l => min s (at' l k)) a = min ((L.take j).foldl (fun s l => min s (at' l k)) a) (at' l k) := by
  rw [vq.take_snoc hj, List.foldl_append]; rfl
theorem colHi_snoc (L : List (List Int)) (k : Nat) {j : Nat} {l : List Int} (hj : L[j]? = some l) (a : Int) : (L.take (j + 1)).foldl (fun s l => max s (at' l k)) a = max ((L.take j).foldl (fun s l => max s (at' l k)) a) (at' l k) := by
  rw [vq.take_snoc hj, List.foldl_append]; rfl
end Go.Proofs.Ytegoinkkcfbfaaa.bq
/- A result of four cells; two rows that grow in a box. -/
namespace Go.Proofs.Ytegoinkkcfbfaaa.bk

open Go.ChangeShapes Go.WideShapes Go.ChangeAt Go.RowKit

open Go.Proofs.Ytegoinkkcfbfaaa.bq Go.Proofs.Ytegoinkkcfbfaaa.vk Go.Proofs.Ytegoinkkcfbfaaa.wk

set_option linter.unusedVariables false
theorem below_set4 {n g : Nat} {w0 w : World} (h : Below n w0 w) (hg : n ≤ g) (x y z u : Value) : Below n w0 ((((w.setCell ⟨g, 0, none⟩ x).setCell ⟨g, 1, none⟩ y).setCell ⟨g, 2, none⟩ z).setCell ⟨g, 3, none⟩ u) :=
  (((h.setCell (p := ⟨g, 0, none⟩) hg _).setCell (p := ⟨g, 1, none⟩) hg _).setCell (p := ⟨g, 2, none⟩) hg _).setCell (p := ⟨g, 3, none⟩) hg _
theorem set4_other (w : World) (g : Nat) (x y z u : Value) (k : Nat) (hk : k ≠ g) : ((((w.setCell ⟨g, 0, none⟩ x).setCell ⟨g, 1, none⟩ y).setCell ⟨g, 2, none⟩ z).setCell ⟨g, 3, none⟩ u).heap[k]? = w.heap[k]? :=
  (Below.heap_setCell _ _ _ _ hk).trans ((Below.heap_setCell _ _ _ _ hk).trans ((Below.heap_setCell _ _ _ _ hk).trans (Below.heap_setCell _ _ _ _ hk)))
theorem set4_size (w : World) (g : Nat) (x y z u : Value) : ((((w.setCell ⟨g, 0, none⟩ x).setCell ⟨g, 1, none⟩ y).setCell ⟨g, 2, none⟩ z).setCell ⟨g, 3, none⟩ u).heap.size = w.heap.size := by simp
/-- it lies at or behind a block -/
def Behind (lo : Nat) (A : Option Addr) : Prop := ∀ a, A = some a → lo ≤ a.block
theorem behind_none (lo : Nat) : Behind lo none := fun a h => by cases h
theorem isI_other {w w' : World} {g lo : Nat} {A : Option Addr} {n c : Nat} {l : List Int} (h : wo.IsI w A n c l) (hl : Behind lo A) (hg : g < lo) (hs : w.heap.size ≤ w'.heap.size) (hk : ∀ k, k < w.heap.size → k ≠ g → w'.heap[k]? = w.heap[k]?) : wo.IsI w' A n c l := by
  refine ⟨h.1, h.2.1, h.2.2.1, fun hp => ?_, h.2.2.2.2⟩
  obtain ⟨b, o, rfl, hb, hc⟩ := h.2.2.2.1 hp
  have hbg : b ≠ g := by
    have h2 : lo ≤ b := hl _ rfl
    omega
  exact ⟨b, o, rfl, Nat.lt_of_lt_of_le hb hs, fun j u hu => (World.cell?_of_block (hk b hb hbg)).trans (hc j u hu)⟩
theorem isI_set4 {w : World} {g lo : Nat} {A : Option Addr} {n c : Nat} {l : List Int} (h : wo.IsI w A n c l) (hl : Behind lo A) (hg : g < lo) (x y z u : Value) : wo.IsI ((((w.setCell ⟨g, 0, none⟩ x).setCell ⟨g, 1, none⟩ y).setCell ⟨g, 2, none⟩ z).setCell ⟨g, 3, none⟩ u) A n c l :=
  isI_other h hl hg (by rw [set4_size]; exact Nat.le_refl _) (fun k _ hk => set4_other w g x y z u k hk)
/-- what Of, Join and Meet of the reference give -/
def IsF (lo : Nat) (w : World) (v : Value) (r : Pair × Bool × Int) : Prop := ∃ A n c A' n' c', v = .agg #[.slice A n c, .slice A' n' c', .bool r.2.1, .int .i64 r.2.2] ∧ wo.IsI w A n c r.1.1 ∧ wo.IsI w A' n' c' r.1.2 ∧ Behind lo A ∧ Behind lo A'
theorem isI_nil (w : World) : wo.IsI w none 0 0 [] := ⟨rfl, Nat.le_refl _, by omega, fun h => absurd h (by simp), by simp⟩
theorem isF_nil (lo : Nat) (w : World) (b : Bool) (k : Int) : IsF lo w (.agg #[.slice none 0 0, .slice none 0 0, .bool b, .int .i64 k]) (([], []), b, k) :=
  ⟨_, _, _, _, _, _, rfl, isI_nil w, isI_nil w, behind_none _, behind_none _⟩
theorem IsF.below {lo : Nat} {w w' : World} {v : Value} {r : Pair × Bool × Int} (h : IsF lo w v r) (hb : Below w.heap.size w w') : IsF lo w' v r := by
  obtain ⟨A, n, c, A', n', c', h0, h1, h2, h3, h4⟩ := h
  exact ⟨A, n, c, A', n', c', h0, isI_below h1 hb, isI_below h2 hb, h3, h4⟩
theorem IsF.mono {lo lo' : Nat} {w : World} {v : Value} {r : Pair × Bool × Int} (h : IsF lo w v r) (hl : lo' ≤ lo) : IsF lo' w v r := by
  obtain ⟨A, n, c, A', n', c', h0, h1, h2, h3, h4⟩ := h
  exact ⟨A, n, c, A', n', c', h0, h1, h2, fun a ha => Nat.le_trans hl (h3 a ha), fun a ha => Nat.le_trans hl (h4 a ha)⟩
theorem IsF.set4 {lo g : Nat} {w : World} {v : Value} {r : Pair × Bool × Int} (h : IsF lo w v r) (hg : g < lo) (x y z u : Value) : IsF lo ((((w.setCell ⟨g, 0, none⟩ x).setCell ⟨g, 1, none⟩ y).setCell ⟨g, 2, none⟩ z).setCell ⟨g, 3, none⟩ u) v r := by
  obtain ⟨A, n, c, A', n', c', h0, h1, h2, h3, h4⟩ := h
  exact ⟨A, n, c, A', n', c', h0, isI_set4 h1 h3 hg _ _ _ _, isI_set4 h2 h4 hg _ _ _ _, h3, h4⟩
theorem isVV_four {w : World} {A A' B B' : Option Addr} {n c n' c' m d m' d' : Nat} {a a' b b' : List Int} (h1 : wo.IsI w A n c a) (h2 : wo.IsI w A' n' c' a') (h3 : wo.IsI w B m d b) (h4 : wo.IsI w B' m' d' b') :
    IsVV (w.alloc (.cells #[.slice A n c, .slice A' n' c', .slice B m d, .slice B' m' d'] 22)) (some ⟨w.heap.size, 0, none⟩) 4 4 [a, a', b, b'] := by
  have hr := heap_alloc_new w (.cells #[.slice A n c, .slice A' n' c', .slice B m d, .slice B' m' d'] 22)
  have hb := below_new w (.cells #[.slice A n c, .slice A' n' c', .slice B m d, .slice B' m' d'] 22)
  refine ⟨rfl, Nat.le_refl _, by omega, fun k l hk => ?_⟩
  match k, hk with
  | 0, hk =>
    simp at hk; subst hk
    exact ⟨_, _, _, _, _, rfl, by rw [size_new]; omega, by rw [cell_of_row _ _ _ _ _ _ hr]; rfl, isI_below h1 hb⟩
  | 1, hk =>
    simp at hk; subst hk
    exact ⟨_, _, _, _, _, rfl, by rw [size_new]; omega, by rw [cell_of_row _ _ _ _ _ _ hr]; rfl, isI_below h2 hb⟩
  | 2, hk =>
    simp at hk; subst hk
    exact ⟨_, _, _, _, _, rfl, by rw [size_new]; omega, by rw [cell_of_row _ _ _ _ _ _ hr]; rfl, isI_below h3 hb⟩
  | 3, hk =>
    simp at hk; subst hk
    exact ⟨_, _, _, _, _, rfl, by rw [size_new]; omega, by rw [cell_of_row _ _ _ _ _ _ hr]; rfl, isI_below h4 hb⟩
  | k + 4, hk => simp at hk
/-- two rows, each at home in its own block, their slices in one box -/
structure Rows (w : World) (S : Nat) (va vb : Value) (n m : Nat) (xs ys : List Value) : Prop where
  two : TwoX w S va vb
  a : w.ownsRow (S + 1) 3 1 va n xs
  b : w.ownsRow (S + 1) 3 1 vb m ys
  ne : vb.ownBlock = none ∨ vb.ownBlock ≠ va.ownBlock
theorem Rows.below {w w' : World} {S : Nat} {va vb : Value} {n m : Nat} {xs ys : List Value} (h : Rows w S va vb n m xs ys) (hb : Below w.heap.size w w') : Rows w' S va vb n m xs ys :=
  ⟨h.two.below hb, World.ownsRow.kept h.a (grown_of hb) (by cases va.ownBlock; left; rfl; right; simp), World.ownsRow.kept h.b (grown_of hb) (by cases vb.ownBlock; left; rfl; right; simp), h.ne⟩
theorem Rows.new (w : World) : Rows (w.alloc (.cells #[.slice none 0 0, .slice none 0 0] 24)) w.heap.size (.slice none 0 0) (.slice none 0 0) 0 0 [] [] :=
  ⟨TwoX.new _ _ _, World.ownsRow_nil _ _ _ _, World.ownsRow_nil _ _ _ _, .inl rfl⟩
theorem grown_set (w : World) (a : Addr) (x : Value) : w.grownBy (w.setCell a x) (some a.block) :=
  ⟨rfl, rfl, rfl, by simp [World.setCell], fun k hk hn => Below.heap_setCell _ _ _ _ (fun e => hn (by rw [e]))⟩
theorem set1_size (w : World) (a : Addr) (x : Value) : (w.setCell a x).heap.size = w.heap.size := by simp [World.setCell]
theorem own_slice {w : World} {S n : Nat} {v : Value} {xs : List Value} (h : w.ownsRow S 3 1 v n xs) : ∃ A n c, v = .slice A n c := by
  rcases h.2 with ⟨rfl, _⟩ | ⟨g, cap, cur, rfl, _⟩
  · exact ⟨_, _, _, rfl⟩
  · exact ⟨_, _, _, rfl⟩
theorem own_ne {w : World} {S n : Nat} {v : Value} {xs : List Value} (h : w.ownsRow (S + 1) 3 1 v n xs) : v.ownBlock = none ∨ v.ownBlock ≠ some S := by
  cases hv : v.ownBlock with
  | none => exact .inl rfl
  | some b =>
    refine .inr fun e => ?_
    have h1 := (h.lt b hv).1
    injection e with e
    omega
/-- the first row grew, its slice not stored yet -/
theorem Rows.grow0 {w w2 : World} {S n m n' : Nat} {va vb v' : Value} {xs ys zs : List Value} (h : Rows w S va vb n m xs ys) (o : Obj) (h2 : w2.ownsRow (S + 1) 3 1 v' n' zs) (hg : (w.alloc o).grownBy w2 va.ownBlock)
    (hat : v'.ownBlock = va.ownBlock ∨ v'.ownBlock = some (w.heap.size + 1)) : TwoX w2 S va vb ∧ Rows (w2.setCell ⟨S, 0, none⟩ v') S v' vb n' m zs ys ∧ Below S w (w2.setCell ⟨S, 0, none⟩ v') := by
  have h1 := h.below (below_new w o)
  have hS := h.two.two
  have hlt : S < (w.alloc o).heap.size := (Array.getElem?_eq_some_iff.1 h1.two).1
  have hlt0 : S < w.heap.size := (Array.getElem?_eq_some_iff.1 h.two).1
  have hT : TwoX w2 S va vb := (hg.block S hlt (fun e => by have := (h1.a.lt S e.symm).1; omega)).trans h1.two
  have hb : w2.ownsRow (S + 1) 3 1 vb m ys := World.ownsRow.kept h1.b hg h.ne
  have hs := grown_set w2 ⟨S, 0, none⟩ v'
  refine ⟨hT, ⟨heap_setCell_same w2 S 0 #[va, vb] 24 v' hT, World.ownsRow.kept h2 hs (own_ne h2), World.ownsRow.kept hb hs (own_ne hb), ?_⟩, ?_⟩
  · cases hv : vb.ownBlock with
    | none => exact .inl rfl
    | some b =>
      right
      rcases hat with e | e
      · rw [e, ← hv]
        rcases h.ne with h0 | h0
        · rw [h0] at hv; cases hv
        · exact h0
      · rw [e]
        intro e2
        injection e2 with e2
        have := (h1.b.lt b hv).2
        rw [size_new] at this
        omega
  · exact (((Below.refl S w).alloc (by omega) o).grown hg (by omega) (fun k hk => by have := (h1.a.lt k hk).1; omega)).setCell (p := ⟨S, 0, none⟩) (Nat.le_refl S) v'
theorem Rows.grow1 {w w2 : World} {S n m n' : Nat} {va vb v' : Value} {xs ys zs : List Value} (h : Rows w S va vb n m xs ys) (o : Obj) (h2 : w2.ownsRow (S + 1) 3 1 v' n' zs) (hg : (w.alloc o).grownBy w2 vb.ownBlock)
    (hat : v'.ownBlock = vb.ownBlock ∨ v'.ownBlock = some (w.heap.size + 1)) : TwoX w2 S va vb ∧ Rows (w2.setCell ⟨S, 1, none⟩ v') S va v' n n' xs zs ∧ Below S w (w2.setCell ⟨S, 1, none⟩ v') := by
  have h1 := h.below (below_new w o)
  have hlt : S < (w.alloc o).heap.size := (Array.getElem?_eq_some_iff.1 h1.two).1
  have hlt0 : S < w.heap.size := (Array.getElem?_eq_some_iff.1 h.two).1
  have hT : TwoX w2 S va vb := (hg.block S hlt (fun e => by have := (h1.b.lt S e.symm).1; omega)).trans h1.two
  have hne : va.ownBlock = none ∨ va.ownBlock ≠ vb.ownBlock := by
    rcases h.ne with h0 | h0
    · rw [h0]; cases va.ownBlock <;> simp
    · exact .inr fun e => h0 e.symm
  have ha : w2.ownsRow (S + 1) 3 1 va n xs := World.ownsRow.kept h1.a hg hne
  have hs := grown_set w2 ⟨S, 1, none⟩ v'
  refine ⟨hT, ⟨heap_setCell_same w2 S 1 #[va, vb] 24 v' hT, World.ownsRow.kept ha hs (own_ne ha), World.ownsRow.kept h2 hs (own_ne h2), ?_⟩, ?_⟩
  · rcases hat with e | e
    · rw [e]; exact h.ne
    · right
      rw [e]
      intro e2
      have := (h1.a.lt _ e2.symm).2
      rw [size_new] at this
      omega
  · exact (((Below.refl S w).alloc (by omega) o).grown hg (by omega) (fun k hk => by have := (h1.b.lt k hk).1; omega)).setCell (p := ⟨S, 1, none⟩) (Nat.le_refl S) v'
theorem Rows.set4 {w : World} {S n m g : Nat} {va vb : Value} {xs ys : List Value} (h : Rows w S va vb n m xs ys) (hg : g < S) (x y z u : Value) : Rows ((((w.setCell ⟨g, 0, none⟩ x).setCell ⟨g, 1, none⟩ y).setCell ⟨g, 2, none⟩ z).setCell ⟨g, 3, none⟩ u) S va vb n m xs ys := by
  have hgr : w.grownBy ((((w.setCell ⟨g, 0, none⟩ x).setCell ⟨g, 1, none⟩ y).setCell ⟨g, 2, none⟩ z).setCell ⟨g, 3, none⟩ u) (some g) :=
    ⟨rfl, rfl, rfl, by rw [set4_size]; exact Nat.le_refl _, fun k hk hn => set4_other _ _ _ _ _ _ _ (fun e => hn (by rw [e]))⟩
  have hne : ∀ {v : Value} {n : Nat} {xs : List Value}, w.ownsRow (S + 1) 3 1 v n xs → v.ownBlock = none ∨ v.ownBlock ≠ some g := fun {v n xs} h => by
    cases hv : v.ownBlock with
    | none => exact .inl rfl
    | some b =>
      refine .inr fun e => ?_
      have h1 := (h.lt b hv).1
      injection e with e
      omega
  exact ⟨(set4_other w g _ _ _ _ S (by omega)).trans h.two, World.ownsRow.kept h.a hgr (hne h.a), World.ownsRow.kept h.b hgr (hne h.b), h.ne⟩
theorem behind_own {w : World} {S n n' c : Nat} {A : Option Addr} {xs : List Value} (h : w.ownsRow (S + 1) 3 1 (.slice A n' c) n xs) {lo : Nat} (hl : lo ≤ S) : Behind lo A := fun a ha => by
  subst ha
  have := (h.lt a.block rfl).1
  omega
theorem Rows.isF {w : World} {S n lo g : Nat} {va vb : Value} {p : Pair} (h : Rows w S va vb n n (iv p.1) (iv p.2)) (h1 : ∀ x ∈ p.1, -9223372036854775808 ≤ x ∧ x ≤ 9223372036854775807) (h2 : ∀ x ∈ p.2, -9223372036854775808 ≤ x ∧ x ≤ 9223372036854775807) (hl : lo ≤ S) (hg : g < S) :
    ∃ A c A' c', va = .slice A n c ∧ vb = .slice A' n c' ∧ ∀ x y z u, IsF lo ((((w.setCell ⟨g, 0, none⟩ x).setCell ⟨g, 1, none⟩ y).setCell ⟨g, 2, none⟩ z).setCell ⟨g, 3, none⟩ u) (.agg #[.slice A n c, .slice A' n c', .bool true, .int .i64 0]) (p, true, 0) := by
  obtain ⟨A, c, rfl, ha⟩ := isI_of_own h.a h1
  obtain ⟨A', c', rfl, hb⟩ := isI_of_own h.b h2
  exact ⟨A, c, A', c', rfl, rfl, fun x y z u => ⟨_, _, _, _, _, _, rfl, isI_set4 ha (behind_own h.a (Nat.le_refl S)) hg _ _ _ _, isI_set4 hb (behind_own h.b (Nat.le_refl S)) hg _ _ _ _, behind_own h.a hl, behind_own h.b hl⟩⟩
end Go.Proofs.Ytegoinkkcfbfaaa.bk
