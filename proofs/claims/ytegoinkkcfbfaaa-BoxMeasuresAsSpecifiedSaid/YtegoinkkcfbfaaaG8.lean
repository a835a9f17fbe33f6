/- Joined: Dc Ca Cb Cc Bn Bu Cd. -/
import Derived.Test.YtegoinkkcfbfaaaG7

import Derived.Laws.EntriesVeiled
/- The reference's Of. -/
namespace Go.Proofs.Ytegoinkkcfbfaaa.bk

open Go.ChangeShapes Go.WideShapes Go.ChangeAt Go.RowKit

open Go.Proofs.Ytegoinkkcfbfaaa.bq Go.Proofs.Ytegoinkkcfbfaaa.vk Go.Proofs.Ytegoinkkcfbfaaa.wk

set_option linter.unusedVariables false
end Go.Proofs.Ytegoinkkcfbfaaa.bk
/- The reference's Valid, alike, asked. -/
namespace Go.Proofs.Ytegoinkkcfbfaaa.bk

open Go.ChangeShapes Go.WideShapes Go.ChangeAt Go.RowKit

open Go.Proofs.Ytegoinkkcfbfaaa.bq Go.Proofs.Ytegoinkkcfbfaaa.vk Go.Proofs.Ytegoinkkcfbfaaa.wk

set_option linter.unusedVariables false
set_option maxRecDepth 100000 in
set_option maxHeartbeats 4000000 in
theorem refvalid_calls (v : Value) (p : Pair) (w : World) (h : IsX w v p) :
    Calls Try.prog 44 #[v] w fun e w' => e = .returned (.bool (bvalid p)) ∧ Below w.heap.size w w' := by
  obtain ⟨A, n, c, A', n', c', rfl, hi, hi'⟩ := h
  have HB := Lib.hid (below_new w (.cells #[.slice A n c, .slice A' n' c'] 24))
  have HT := Lib.hid (TwoX.new w (.slice A n c) (.slice A' n' c'))
  have HI := Lib.hid (isI_below hi HB.out)
  have HI' := Lib.hid (isI_below hi' HB.out)
  have hm := hi.2.2.1
  have hm' := hi'.2.2.1
  have hnc := hi.2.1
  have hnc' := hi'.2.1
  have HL := Lib.hid hi.1
  have HL' := Lib.hid hi'.1
  obtain ⟨R, hR⟩ : ∃ R, bvalid p = R := ⟨_, rfl⟩
  rw [hR]
  have HR := Lib.hid hR
  have hc0 := HT.out.two.c0
  have hc1 := HT.out.two.c1
  clear hi hi' hR
  go_enter Try.func44, Try.ntmps44
  go_wp2_with fail
  refine (rvector_calls A n c p.1 _ HI.out).mono ?_
  rintro e w' ⟨rfl, rfl⟩
  cases hv1 : vq.valid p.1
  · have hf : R = false := by rw [← HR.out]; simp [bvalid, hv1]
    subst hf
    go_wp2_with fail
    go_ret
    exact ⟨rfl, HB.out⟩
  · go_wp2_with fail
    refine (rvector_calls A' n' c' p.2 _ HI'.out).mono ?_
    rintro e w' ⟨rfl, rfl⟩
    cases hv2 : vq.valid p.2
    · have hf : R = false := by rw [← HR.out]; simp [bvalid, hv2]
      subst hf
      go_wp2_with fail
      go_ret
      exact ⟨rfl, HB.out⟩
    · by_cases hnn : n ≠ n'
      · have hf : R = false := by
          rw [← HR.out]
          have : ¬ p.1.length = p.2.length := by rw [HL.out, HL'.out]; exact hnn
          simp [bvalid, this]
        subst hf
        have hnn' : ¬ ((n : Int) = (n' : Int)) := by omega
        go_wp2_with fail
        go_ret
        exact ⟨rfl, HB.out⟩
      · obtain rfl : n = n' := by omega
        have HE : Hid (R = le p.1 p.2) := by
          show _ = _
          rw [← HR.out]
          have : p.1.length = p.2.length := by rw [HL.out, HL'.out]
          simp [bvalid, hv1, hv2, this]
        clear hnn hv1 hv2 HR
        go_wp2_with fail
        go_loopg [3] n (fun g x wr => ∃ (k q : Nat), k + g = n ∧ x = .int .i64 (k : Int) ∧ wr = (w.alloc (.cells #[.slice A n c, .slice A' n c'] 24)).drewN q ∧ ∀ i, i < k → at' p.1 i ≤ at' p.2 i)
        case atStart => exact ⟨0, 0, by omega, rfl, rfl, fun i hi => by omega⟩
        case round =>
          obtain ⟨k, q, hk, rfl, rfl, hr⟩ := hrel
          have HK := Lib.hid hk
          have HRR := Lib.hid hr
          have hkn : k ≤ n := by omega
          clear hk hr
          by_cases hlt : k < n
          · obtain ⟨b1, o1, rfl, hd1, hb1⟩ := isI_get HI.out hlt
            obtain ⟨b2, o2, rfl, hd2, hb2⟩ := isI_get HI'.out hlt
            have hlt0 : (k : Int) < (n : Int) := by omega
            by_cases hle : at' p.1 k ≤ at' p.2 k
            · have HLE := Lib.hid hle
              have hgt : ¬ at' p.2 k < at' p.1 k := by omega
              generalize hx : at' p.1 k = x at *
              generalize hy : at' p.2 k = y at *
              have HX := Lib.hid hx
              have HY := Lib.hid hy
              clear hx hy
              go_wp2_with fail
              go_quiet (fail)
              go_wp2_with fail
              go_roundg (gk - 1)
              case measure => have := HK.out; omega
              case rel =>
                refine ⟨k + 1, _, by have := HK.out; omega, by go_num, by first | rfl | exact dr_add _ _ _, fun i hi => ?_⟩
                by_cases hik : i = k
                · subst hik; rw [HX.out, HY.out]; exact HLE.out
                · exact HRR.out i (by omega)
            · have hf : R = false := by rw [HE.out]; exact le_not (by rw [HL.out]; exact hlt) (by omega)
              subst hf
              have hgt : at' p.2 k < at' p.1 k := by omega
              generalize hx : at' p.1 k = x at *
              generalize hy : at' p.2 k = y at *
              clear hx hy
              go_wp2_with fail
              go_quiet (fail)
              go_wp2_with fail
              go_ret
              exact ⟨rfl, by first | exact below_dr HB.out _ | exact below_dr (below_dr HB.out _) _⟩
          · obtain rfl : k = n := by omega
            have ht : R = true := by rw [HE.out]; exact le_iff.2 fun i hi => HRR.out i (by rw [HL.out] at hi; exact hi)
            subst ht
            go_wp2_with fail
            go_ret
            exact ⟨rfl, by first | exact below_dr HB.out _ | exact below_dr (below_dr HB.out _) _⟩
set_option maxRecDepth 100000 in
set_option maxHeartbeats 4000000 in
theorem refalike_calls (v u : Value) (p q : Pair) (w : World) (h : IsX w v p) (h2 : IsX w u q) :
    Calls Try.prog 43 #[v, u] w fun e w' => e = .returned (.bool (balike p q)) ∧ Below w.heap.size w w' := by
  obtain ⟨A, n, c, A', n', c', rfl, hi, hi'⟩ := h
  obtain ⟨B, m, d, B', m', d', rfl, hj, hj'⟩ := h2
  have HB := Lib.hid (Below.andThen (below_new w (.cells #[.slice A n c, .slice A' n' c'] 24)) (below_new _ (.cells #[.slice B m d, .slice B' m' d'] 24)))
  have HT := Lib.hid ((TwoX.new w (.slice A n c) (.slice A' n' c')).below (below_new _ (.cells #[.slice B m d, .slice B' m' d'] 24)))
  have HT2 := Lib.hid (TwoX.new (w.alloc (.cells #[.slice A n c, .slice A' n' c'] 24)) (.slice B m d) (.slice B' m' d'))
  rw [size_new] at HT2
  have HX : Hid (IsX _ (.agg #[.slice A n c, .slice A' n' c']) p) := IsX.below ⟨_, _, _, _, _, _, rfl, hi, hi'⟩ HB.out
  have HY : Hid (IsX _ (.agg #[.slice B m d, .slice B' m' d']) q) := IsX.below ⟨_, _, _, _, _, _, rfl, hj, hj'⟩ HB.out
  have HL := Lib.hid hi.1
  have HL' := Lib.hid hj.1
  have hc0 := HT.out.two.c0
  have hc1 := HT.out.two.c1
  have hc2 := HT2.out.two.c0
  have hc3 := HT2.out.two.c1
  clear hi hi' hj hj'
  go_enter Try.func43, Try.ntmps43
  go_wp2_with fail
  clear hc0 hc1 hc2 hc3
  refine (refvalid_calls _ p _ HX.out).mono ?_
  rintro e w1 ⟨rfl, hb⟩
  replace HT := Lib.hid (HT.out.below hb)
  replace HT2 := Lib.hid (HT2.out.below hb)
  replace HY := Lib.hid (HY.out.below hb)
  replace HB := Lib.hid (Below.andThen HB.out hb)
  clear hb
  have hc0 := HT.out.two.c0
  have hc1 := HT.out.two.c1
  have hc2 := HT2.out.two.c0
  have hc3 := HT2.out.two.c1
  cases hv1 : bvalid p
  · have hf : balike p q = false := by simp [balike, hv1]
    go_wp2_with fail
    go_ret
    exact ⟨by rw [hf]; rfl, HB.out⟩
  · go_wp2_with fail
    clear hc0 hc1 hc2 hc3
    refine (refvalid_calls _ q _ HY.out).mono ?_
    rintro e w2 ⟨rfl, hb⟩
    replace HT := Lib.hid (HT.out.below hb)
    replace HT2 := Lib.hid (HT2.out.below hb)
    replace HB := Lib.hid (Below.andThen HB.out hb)
    clear hb
    have hc0 := HT.out.two.c0
    have hc1 := HT.out.two.c1
    have hc2 := HT2.out.two.c0
    have hc3 := HT2.out.two.c1
    cases hv2 : bvalid q
    · have hf : balike p q = false := by simp [balike, hv2]
      go_wp2_with fail
      go_ret
      exact ⟨by rw [hf]; rfl, HB.out⟩
    · by_cases hnm : n = m
      · subst hnm
        have hf : balike p q = true := by
          have : p.1.length = q.1.length := by rw [HL.out, HL'.out]
          simp [balike, hv1, hv2, this]
        go_wp2_with fail
        go_ret
        exact ⟨by rw [hf]; rfl, HB.out⟩
      · have hf : balike p q = false := by
          have : ¬ p.1.length = q.1.length := by rw [HL.out, HL'.out]; exact hnm
          simp [balike, this]
        have hnm' : ¬ ((n : Int) = (m : Int)) := by omega
        have hnmb : ((n : Int) == (m : Int)) = false := by simpa using hnm'
        go_wp2_with fail
        go_ret
        exact ⟨by rw [hf]; rfl, HB.out⟩
end Go.Proofs.Ytegoinkkcfbfaaa.bk
/- The reference's asked, Has, Inside. -/
namespace Go.Proofs.Ytegoinkkcfbfaaa.bk

open Go.ChangeShapes Go.WideShapes Go.ChangeAt Go.RowKit

open Go.Proofs.Ytegoinkkcfbfaaa.bq Go.Proofs.Ytegoinkkcfbfaaa.vk Go.Proofs.Ytegoinkkcfbfaaa.wk

set_option linter.unusedVariables false
theorem askedv (m : Int) (p : Pair) (l : List Int) : asked m p (l, l) = (metricB m && (bvalid p && (vq.valid l && decide (l.length = p.1.length)))) := by
  rw [Bool.eq_iff_iff, asked_iff]
  simp only [Bool.and_eq_true, decide_eq_true_eq, bvalid_iff, vq.valid_iff]
  have : metricB m = true ↔ m = 1 ∨ m = 2 ∨ m = 3 := metric_iff
  rw [this]
  exact ⟨fun ⟨a, b, c, d⟩ => ⟨a, c, d, b.symm⟩, fun ⟨a, c, d, b⟩ => ⟨a, b.symm, c, d⟩⟩
set_option maxRecDepth 100000 in
set_option maxHeartbeats 4000000 in
theorem refasked_calls (m : Int) (v : Value) (p : Pair) (A3 : Option Addr) (n3 c3 : Nat) (l : List Int) (w : World) (h : IsX w v p) (h2 : wo.IsI w A3 n3 c3 l) :
    Calls Try.prog 38 #[.int .i64 m, v, .slice A3 n3 c3] w fun e w' => e = .returned (.bool (asked m p (l, l))) ∧ Below w.heap.size w w' := by
  obtain ⟨A, n, c, A', n', c', rfl, hi, hi'⟩ := h
  have HB := Lib.hid (below_new w (.cells #[.slice A n c, .slice A' n' c'] 24))
  have HT := Lib.hid (TwoX.new w (.slice A n c) (.slice A' n' c'))
  have HX : Hid (IsX _ (.agg #[.slice A n c, .slice A' n' c']) p) := IsX.below ⟨_, _, _, _, _, _, rfl, hi, hi'⟩ HB.out
  have HI := Lib.hid (isI_below h2 HB.out)
  have HL := Lib.hid hi.1
  have HL3 := Lib.hid h2.1
  have hc0 := HT.out.two.c0
  have hc1 := HT.out.two.c1
  clear hi hi' h2
  go_enter Try.func38, Try.ntmps38
  go_wp2_with fail
  refine (rmetric_calls m _).mono ?_
  rintro e w' ⟨rfl, rfl⟩
  cases hm : metricB m
  · have hf : asked m p (l, l) = false := by rw [askedv, hm]; rfl
    go_wp2_with fail
    go_ret
    exact ⟨by rw [hf]; rfl, HB.out⟩
  · go_wp2_with fail
    clear hc0 hc1
    refine (refvalid_calls _ p _ HX.out).mono ?_
    rintro e w1 ⟨rfl, hb⟩
    replace HT := Lib.hid (HT.out.below hb)
    replace HI := Lib.hid (isI_below HI.out hb)
    replace HB := Lib.hid (Below.andThen HB.out hb)
    clear hb
    have hc0 := HT.out.two.c0
    have hc1 := HT.out.two.c1
    cases hv1 : bvalid p
    · have hf : asked m p (l, l) = false := by rw [askedv, hm, hv1]; rfl
      go_wp2_with fail
      go_ret
      exact ⟨by rw [hf]; rfl, HB.out⟩
    · go_wp2_with fail
      refine (rvector_calls A3 n3 c3 l _ HI.out).mono ?_
      rintro e w' ⟨rfl, rfl⟩
      cases hv2 : vq.valid l
      · have hf : asked m p (l, l) = false := by rw [askedv, hm, hv1, hv2]; rfl
        go_wp2_with fail
        go_ret
        exact ⟨by rw [hf]; rfl, HB.out⟩
      · by_cases hnm : n3 = n
        · subst hnm
          have hf : asked m p (l, l) = true := by
            rw [askedv, hm, hv1, hv2]
            simp [HL.out, HL3.out]
          go_wp2_with fail
          go_ret
          exact ⟨by rw [hf]; rfl, HB.out⟩
        · have hf : asked m p (l, l) = false := by
            rw [askedv, hm, hv1, hv2]
            simp [HL.out, HL3.out, hnm]
          have hnm' : ¬ ((n3 : Int) = (n : Int)) := by omega
          have hnmb : ((n3 : Int) == (n : Int)) = false := by simpa using hnm'
          go_wp2_with fail
          go_ret
          exact ⟨by rw [hf]; rfl, HB.out⟩
end Go.Proofs.Ytegoinkkcfbfaaa.bk
/- The reference's Has, Inside. -/
namespace Go.Proofs.Ytegoinkkcfbfaaa.bk

open Go.ChangeShapes Go.WideShapes Go.ChangeAt Go.RowKit

open Go.Proofs.Ytegoinkkcfbfaaa.bq Go.Proofs.Ytegoinkkcfbfaaa.vk Go.Proofs.Ytegoinkkcfbfaaa.wk

set_option linter.unusedVariables false
theorem has_valid {p : Pair} {l : List Int} (h : bvalid p = false) : has p l = false := by
  cases hh : has p l
  · rfl
  · simp only [has, inside, Bool.and_eq_true, balike_iff] at hh
    rw [bvalid_iff.2 hh.1.1.2.2] at h
    cases h
set_option maxRecDepth 100000 in
set_option maxHeartbeats 4000000 in
theorem refhas_calls (v : Value) (p : Pair) (A3 : Option Addr) (n3 c3 : Nat) (l : List Int) (w : World) (h : IsX w v p) (h2 : wo.IsI w A3 n3 c3 l) :
    Calls Try.prog 19 #[v, .slice A3 n3 c3] w fun e w' => e = .returned (.bool (has p l)) ∧ Below w.heap.size w w' := by
  obtain ⟨A, n, c, A', n', c', rfl, hi, hi'⟩ := h
  have HB := Lib.hid (below_new w (.cells #[.slice A n c, .slice A' n' c'] 24))
  have HT := Lib.hid (TwoX.new w (.slice A n c) (.slice A' n' c'))
  have HX : Hid (IsX _ (.agg #[.slice A n c, .slice A' n' c']) p) := IsX.below ⟨_, _, _, _, _, _, rfl, hi, hi'⟩ HB.out
  have HI := Lib.hid (isI_below h2 HB.out)
  have HI1 := Lib.hid (isI_below hi HB.out)
  have HI2 := Lib.hid (isI_below hi' HB.out)
  have HL := Lib.hid hi.1
  have HL' := Lib.hid hi'.1
  have HL3 := Lib.hid h2.1
  have hm := hi.2.2.1
  have hm' := hi'.2.2.1
  have hnc := hi.2.1
  have hnc' := hi'.2.1
  have hm3 := h2.2.2.1
  have hnc3 := h2.2.1
  have hc0 := HT.out.two.c0
  have hc1 := HT.out.two.c1
  clear hi hi' h2
  go_enter Try.func19, Try.ntmps19
  go_wp2_with fail
  clear hc0 hc1
  refine (refvalid_calls _ p _ HX.out).mono ?_
  rintro e w1 ⟨rfl, hb⟩
  replace HT := Lib.hid (HT.out.below hb)
  replace HI := Lib.hid (isI_below HI.out hb)
  replace HI1 := Lib.hid (isI_below HI1.out hb)
  replace HI2 := Lib.hid (isI_below HI2.out hb)
  replace HB := Lib.hid (Below.andThen HB.out hb)
  clear hb
  have hc0 := HT.out.two.c0
  have hc1 := HT.out.two.c1
  cases hv1 : bvalid p
  · have hf := has_valid (l := l) hv1
    go_wp2_with fail
    go_ret
    exact ⟨by rw [hf]; rfl, HB.out⟩
  · have HP := Lib.hid (bvalid_iff.1 hv1)
    by_cases hnm : n3 ≠ n
    · have hf : has p l = false := by
        cases hh : has p l
        · rfl
        · have := ((has_iff HP.out).1 hh).1
          rw [HL.out, HL3.out] at this
          exact absurd this hnm
      have hnm' : ¬ ((n3 : Int) = (n : Int)) := by omega
      have hnmb : ((n3 : Int) == (n : Int)) = false := by simpa using hnm'
      go_wp2_with fail
      go_ret
      exact ⟨by rw [hf]; rfl, HB.out⟩
    · obtain rfl : n3 = n := by omega
      obtain rfl : n3 = n' := by rw [← HL.out, ← HL'.out]; exact HP.out.len
      have HN : Hid (has p l = true ↔ ∀ i, i < n3 → at' p.1 i ≤ at' l i ∧ at' l i ≤ at' p.2 i) := by
        show _ ↔ _
        rw [has_iff HP.out, HL.out, HL3.out]
        exact ⟨fun h => h.2, fun h => ⟨rfl, h⟩⟩
      obtain ⟨R, hR⟩ : ∃ R, has p l = R := ⟨_, rfl⟩
      rw [hR] at HN
      have HR := Lib.hid hR
      clear hnm hv1 hR
      go_wp2_with fail
      go_loopg [5] n3 (fun g x wr => ∃ (k q : Nat), k + g = n3 ∧ x = .int .i64 (k : Int) ∧ wr = w1.drewN q ∧ ∀ i, i < k → at' p.1 i ≤ at' l i ∧ at' l i ≤ at' p.2 i)
      case atStart => exact ⟨0, 0, by omega, rfl, rfl, fun i hi => by omega⟩
      case round =>
        obtain ⟨k, q, hk, rfl, rfl, hr⟩ := hrel
        have HK := Lib.hid hk
        have HRR := Lib.hid hr
        have hkn : k ≤ n3 := by omega
        clear hk hr
        by_cases hlt : k < n3
        · obtain ⟨b1, o1, rfl, hd1, hb1⟩ := isI_get HI1.out hlt
          obtain ⟨b2, o2, rfl, hd2, hb2⟩ := isI_get HI2.out hlt
          obtain ⟨b3, o3, rfl, hd3, hb3⟩ := isI_get HI.out hlt
          have hlt0 : (k : Int) < (n3 : Int) := by omega
          have HC : Hid (R = true → at' p.1 k ≤ at' l k ∧ at' l k ≤ at' p.2 k) := fun e => HN.out.1 e k hlt
          by_cases hle : at' l k < at' p.1 k
          · have hf : R = false := by
              cases R
              · rfl
              · have := HC.out rfl; omega
            generalize hx : at' p.1 k = x at *
            generalize hy : at' l k = y at *
            clear hx hy HC
            go_wp2_with fail
            go_quiet (fail)
            go_wp2_with fail
            go_ret
            exact ⟨by rw [HR.out, hf]; rfl, by first | exact below_dr HB.out _ | exact below_dr (below_dr HB.out _) _⟩
          · by_cases hle2 : at' p.2 k < at' l k
            · have hf : R = false := by
                cases R
                · rfl
                · have := HC.out rfl; omega
              generalize hx : at' p.1 k = x at *
              generalize hy : at' l k = y at *
              generalize hz : at' p.2 k = z at *
              clear hx hy hz HC
              go_wp2_with fail
              go_quiet (fail)
              go_wp2_with fail
              go_ret
              exact ⟨by rw [HR.out, hf]; rfl, by first | exact below_dr HB.out _ | exact below_dr (below_dr HB.out _) _⟩
            · have HLE : Hid (at' p.1 k ≤ at' l k ∧ at' l k ≤ at' p.2 k) := by show _ ∧ _; omega
              generalize hx : at' p.1 k = x at *
              generalize hy : at' l k = y at *
              generalize hz : at' p.2 k = z at *
              have HXX := Lib.hid hx
              have HYY := Lib.hid hy
              have HZZ := Lib.hid hz
              clear hx hy hz HC
              go_wp2_with fail
              go_quiet (fail)
              go_wp2_with fail
              go_roundg (gk - 1)
              case measure => have := HK.out; omega
              case rel =>
                refine ⟨k + 1, _, by have := HK.out; omega, by go_num, by first | rfl | exact dr_add _ _ _, fun i hi => ?_⟩
                by_cases hik : i = k
                · subst hik; rw [HXX.out, HYY.out, HZZ.out]; exact HLE.out
                · exact HRR.out i (by omega)
        · obtain rfl : k = n3 := by omega
          have ht : R = true := HN.out.2 HRR.out
          go_wp2_with fail
          go_ret
          exact ⟨by rw [HR.out, ht]; rfl, by first | exact below_dr HB.out _ | exact below_dr (below_dr HB.out _) _⟩
end Go.Proofs.Ytegoinkkcfbfaaa.bk
/- Split. -/
namespace Go.Proofs.Ytegoinkkcfbfaaa.bq
def splS (d : Nat → Int) (s : Nat × Int) (i : Nat) : Nat × Int := if s.2 < d i then (i, d i) else s
def spl (d : Nat → Int) (l : List Nat) : Nat × Int := l.foldl (splS d) (0, 0)
theorem spl_snoc (d : Nat → Int) (l : List Nat) (i : Nat) : spl d (l ++ [i]) = splS d (spl d l) i := by simp [spl]
def side (p : Pair) (i : Nat) : Int := at' p.2 i - at' p.1 i
def splitR (p : Pair) : Int × Int × Int :=
  if bvalid p then (if (spl (side p) (List.range p.1.length)).2 = 0 then (0, 0, 4) else ((spl (side p) (List.range p.1.length)).1, (at' p.1 (spl (side p) (List.range p.1.length)).1 + at' p.2 (spl (side p) (List.range p.1.length)).1) / 2, 0)) else (0, 0, 1)
theorem spl_fold_bd (d : Nat → Int) (n : Nat) (hd : ∀ i, i < n → 0 ≤ d i ∧ d i ≤ 2000) : ∀ (l : List Nat) (s : Nat × Int), (∀ i ∈ l, i < n) → (0 ≤ s.2 ∧ s.2 ≤ 2000) → (s.1 < n ∨ s = (0, 0)) → (0 ≤ (l.foldl (splS d) s).2 ∧ (l.foldl (splS d) s).2 ≤ 2000) ∧ ((l.foldl (splS d) s).1 < n ∨ l.foldl (splS d) s = (0, 0))
  | [], s, _, h, h' => ⟨h, h'⟩
  | i :: l, s, hl, h, h' => by
    have hi := hd i (hl i (by simp))
    simp only [List.foldl_cons]
    refine spl_fold_bd d n hd l (splS d s i) (fun j hj => hl j (by simp [hj])) ?_ ?_
    · unfold splS; split <;> omega
    · unfold splS
      split
      · exact .inl (hl i (by simp))
      · exact h'
theorem spl_bd (d : Nat → Int) (n : Nat) (hd : ∀ i, i < n → 0 ≤ d i ∧ d i ≤ 2000) (l : List Nat) (hl : ∀ i ∈ l, i < n) (hn : 1 ≤ n) : 0 ≤ (spl d l).2 ∧ (spl d l).2 ≤ 2000 ∧ (spl d l).1 < n := by
  have := spl_fold_bd d n hd l (0, 0) hl (by omega) (.inr rfl)
  unfold spl
  refine ⟨this.1.1, this.1.2, ?_⟩
  rcases this.2 with h | h
  · exact h
  · rw [h]; exact hn
end Go.Proofs.Ytegoinkkcfbfaaa.bq

namespace Go.Proofs.Ytegoinkkcfbfaaa.bk

open Go.ChangeShapes Go.WideShapes Go.ChangeAt Go.RowKit

open Go.Proofs.Ytegoinkkcfbfaaa.bq Go.Proofs.Ytegoinkkcfbfaaa.vk Go.Proofs.Ytegoinkkcfbfaaa.wk

set_option linter.unusedVariables false
attribute [local go_sem] Oper.semAt_some
theorem _root_.Go.Proofs.Ytegoinkkcfbfaaa.wk.Exc.cell {B m : Nat} {W u : World} (h : Exc [m] B W u) {p : Addr} (hb : p.block < B) (hne : p.block ≠ m) : u.cell? p = W.cell? p := World.cell?_of_block (h.block p.block hb (by simpa using hne))
structure SplS (W : World) (G S Bx : Nat) (ax wd lo hi : Int) (u : World) : Prop where
  o1 : One u (G + 1) 3 (.int .i64 ax)
  o2 : One u S 3 (.int .i64 wd)
  tb : Two u Bx (.int .i64 lo) (.int .i64 hi)
  tu : Turn [G + 1, S] (S + 2) W u
theorem SplS.next {W : World} {G S Bx : Nat} {ax wd lo hi : Int} {u u' : World} (h : SplS W G S Bx ax wd lo hi u) (hb : Below u.heap.size u u') (hs : S + 2 ≤ u.heap.size) : SplS W G S Bx ax wd lo hi u' :=
  ⟨h.o1.below hb, h.o2.below hb, h.tb.below hb, h.tu.trans (Turn.of_below hb hs)⟩
theorem SplS.store {W : World} {G S Bx : Nat} {ax wd lo hi : Int} {u : World} (h : SplS W G S Bx ax wd lo hi u) (hS : S ≠ G + 1) (hB : Bx ≠ G + 1) {x : Int} : SplS W G S Bx x wd lo hi (u.setCell ⟨G + 1, 0, none⟩ (.int .i64 x)) :=
  ⟨h.o1.set _, h.o2.other _ hS, h.tb.at (Below.heap_setCell _ _ _ _ hB), h.tu.trans (Turn.setCell _ (by simp))⟩
theorem res_i2 {fn : Func} {p u v : Tmp} (h : fn.results = #[.cell p 3, .tmp u, .tmp v]) (tmps : Array Value) (w : World) (g : Nat) (a : Value) (hp : tmps.getD p undef = .pointer (some ⟨g, 0, none⟩)) (hg : One w g 3 a) :
    (results fn tmps).run Try.prog w = .ok (.tuple #[a, tmps.getD u undef, tmps.getD v undef]) w := by
  have hp' : tmps[p]?.getD undef = .pointer (some ⟨g, 0, none⟩) := by simpa using hp
  have hagg : (isAgg 3).run Try.prog w = .ok false w := by
    unfold isAgg
    rw [Sem.run_bind, run_underlying Try.underlying3 w]
    rfl
  simp [results, h, hp', asAddr, loadVar, hagg, hg.cell]
set_option maxRecDepth 100000 in
set_option maxHeartbeats 8000000 in
theorem split_calls (v : Value) (p : Pair) (w : World) (h : IsX w v p) :
    Calls Try.prog 11 #[v] w fun e w' => e = .returned (.tuple #[.int .i64 (splitR p).1, .int .i64 (splitR p).2.1, .int .i64 (splitR p).2.2]) ∧ Below w.heap.size w w' := by
  obtain ⟨R, hR⟩ : ∃ R, splitR p = R := ⟨_, rfl⟩
  rw [hR]
  have HR := Lib.hid hR
  clear hR
  have HV := Lib.hid (fun w' hb => valid_calls v p w' (h.below hb))
  have HX := Lib.hid h
  obtain ⟨A, n, c, A', n', c', rfl, hi, hi'⟩ := h
  have hl := hi.1
  have HI := Lib.hid hi
  have HI' := Lib.hid hi'
  have HB0 := Lib.hid (Below.andThen (below_new w (.cells #[.slice A n c, .slice A' n' c'] 24)) (below_new _ (.cells #[.int .i64 0] 3)))
  have hT := (TwoX.new w (.slice A n c) (.slice A' n' c')).below (below_new _ (.cells #[.int .i64 0] 3))
  have hO := One.new (w.alloc (.cells #[.slice A n c, .slice A' n' c'] 24)) 3 (.int .i64 0)
  rw [size_new] at hO
  clear hi hi'
  refine enter_marks Try.func11 rfl ?_
  simp only [Try.ntmps11, List.size_toArray, List.length_cons, List.length_nil, Nat.reduceAdd, Nat.reduceSub, Array.replicate_succ, Array.replicate_zero, List.push_toArray, List.append_toArray, List.nil_append, List.cons_append]
  go_wp2_with fail
  refine (HV.out _ HB0.out).mono ?_
  rintro e w1 ⟨rfl, hb⟩
  have HB1 := Lib.hid (HB0.out.trans (hb.mono HB0.out.size))
  have HT := Lib.hid (hT.below hb)
  have HO := Lib.hid (hO.below hb)
  clear hb hT hO
  have hcO := HO.out.cell
  have hfO := HO.out.frozen
  by_cases hv : bvalid p = true
  · rw [hv]
    have hp := bvalid_iff.1 hv
    have hx1 := HT.out.below (below_new w1 (.cells #[.int .i64 0] 3))
    have hc0 := hx1.two.c0
    have hc1 := hx1.two.c1
    have HP := Lib.hid hp
    have HVV := Lib.hid hv
    clear hx1 hp hv hl
    go_wp2_with fail
    refine (sides_calls _ _ _).mono ?_
    rintro e w2 ⟨rfl, rfl⟩
    go_wp2_with fail
    generalize hG : w.heap.size = G at *
    generalize hSS : w1.heap.size = S at *
    have hGS : G + 1 < S := by rw [← hSS]; exact HO.out.lt
    have hs2 : ∀ o1 o2, ((w1.alloc o1).alloc o2).heap.size = S + 2 := fun o1 o2 => by simp only [size_new, hSS]
    have hbx := below_new w1 (.cells #[.int .i64 0] 3)
    have hby := below_new (w1.alloc (.cells #[.int .i64 0] 3)) (.cells #[.slice A n c, .slice A' n' c'] 24)
    have hbz := Below.andThen hbx hby
    have hOb := (One.new w1 3 (.int .i64 0)).below hby
    have hTw := Two.new (w1.alloc (.cells #[.int .i64 0] 3)) (.slice A n c) (.slice A' n' c') 24
    rw [hSS] at hOb
    simp only [size_new, hSS] at hTw
    have hOa := HO.out.below hbz
    have HT2 := Lib.hid (HT.out.below hbz)
    have hB2 : Below G w ((w1.alloc (.cells #[.int .i64 0] 3)).alloc (.cells #[.slice A n c, .slice A' n' c'] 24)) := HB1.out.trans (hbz.mono (by omega))
    clear hbx hby hbz hc0 hc1 hcO hfO
    obtain ⟨K, hK⟩ : ∃ K : List (Nth p.1.length) → Nat × Int, K = fun pre => spl (bq.side p) (pre.map (·.1)) := ⟨_, rfl⟩
    have hsd : ∀ i, i < p.1.length → 0 ≤ bq.side p i ∧ bq.side p i ≤ 2000 := fun i hi => by
      have h1 := HP.out.le i hi
      have h2 := vec_at HP.out.lo hi
      have h3 := vec_at HP.out.hi (i := i) (by have := HP.out.len; omega)
      unfold bq.side
      omega
    have HKB : Hid (∀ pre, 0 ≤ (K pre).2 ∧ (K pre).2 ≤ 2000 ∧ (K pre).1 < p.1.length) := by
      intro pre
      rw [hK]
      exact spl_bd (bq.side p) p.1.length hsd _ (fun i hi => by obtain ⟨y, _, rfl⟩ := List.mem_map.1 hi; exact y.2) HP.out.lo.pos
    have HK0 : Hid (K [] = (0, 0)) := by show _ = _; rw [hK]; rfl
    have HKS : Hid (∀ pre x, K (pre ++ [x]) = if (K pre).2 < bq.side p x.1 then (x.1, bq.side p x.1) else K pre) := by
      intro pre x
      rw [hK]
      show spl (bq.side p) ((pre ++ [x]).map (·.1)) = _
      rw [List.map_append, List.map_singleton, spl_snoc]; rfl
    have HKE : Hid (∀ ys : List (Nth p.1.length), ys.map (·.1) = List.range p.1.length → K ys = spl (bq.side p) (List.range p.1.length)) := by
      intro ys hys
      rw [hK, ← hys]
    have HSD := Lib.hid hsd
    clear hK hsd
    refine range_sides' (some 6) 7 G (S + 1) [G + 1, S] p (.slice A n c) (.slice A' n' c') rfl ?c1 ?c2 ?c0 ?c3 ?c4 ?c5 ?c6 (fun pre W => One W (G + 1) 3 (.int .i64 ((K pre).1 : Nat)) ∧ One W S 3 (.int .i64 (K pre).2)) (fun c W => False) ?c7 ?c8 ?c9 ?rassign ?rbody ?rdone ?rstop
    case c0 => exact hTw
    case c1 => intro j hj; simp only [List.mem_cons, List.not_mem_nil, or_false] at hj; omega
    case c2 => rw [hs2]; omega
    case c3 => intro hj; simp only [List.mem_cons, List.not_mem_nil, or_false] at hj; omega
    case c4 => intro j hj; rw [hs2]; simp only [List.mem_cons, List.not_mem_nil, or_false] at hj; omega
    case c5 => have := HP.out.len; omega
    case c6 =>
      intro w' hb
      exact HX.out.below (by rw [hG]; exact hB2.trans hb)
    case c7 => exact OwnFrom.and (own_one (by rw [hs2]; omega)) (own_one (by rw [hs2]; omega))
    case c8 => intro c' s W W' row hs _ _; exact hs
    case c9 => rw [HK0.out]; exact ⟨hOa, hOb⟩
    case rassign =>
      intro l m i a b W K hK
      unfold rng at hK ⊢
      simp only [roundT, List.setIfInBounds_toArray, List.set_cons_succ, List.set_cons_zero] at hK ⊢
      gi_wp2
      exact hK
    case rbody =>
      rintro l m' pre x Bx W hBx hTB hx ⟨hO1, hO2⟩ hlen
      have HTB := Lib.hid hTB
      have HO1 := Lib.hid hO1
      have HO2 := Lib.hid hO2
      have hT0 := hTB.c0
      have hT1 := hTB.c1
      have hc2 := hO2.cell
      have hkb := HKB.out pre
      have hsd := HSD.out x.1 x.2
      have hks := HKS.out pre x
      have HXB : Hid (0 ≤ at' p.2 x.1 - at' p.1 x.1 ∧ at' p.2 x.1 - at' p.1 x.1 ≤ 2000) := hsd
      have HWB : Hid (S + 2 ≤ W.heap.size) := by have := hx.size; rw [hs2] at this; exact this
      have HSG : Hid (S ≠ G + 1) := by show _ ≠ _; omega
      have HBX : Hid (Bx ≠ G + 1) := by rw [hs2] at hBx; show _ ≠ _; omega
      unfold bq.side at hsd hks
      clear hTB hO1 hO2 hx
      simp only [roundT, List.setIfInBounds_toArray, List.set_cons_succ, List.set_cons_zero]
      by_cases hlt : (K pre).2 < at' p.2 x.1 - at' p.1 x.1
      · rw [if_pos hlt] at hks
        have HKT := Lib.hid hks
        clear hks
        gi_wp2
        refine wk.region_many_in l (by kernel_rfl) (fun ⟨_, _, h⟩ => h) 7 [.int .i64 (x.1 : Int), .pointer (some ⟨Bx, 1, none⟩), .int .i64 (at' p.2 x.1), .pointer (some ⟨Bx, 0, none⟩), .int .i64 (at' p.1 x.1), .int .i64 (at' p.2 x.1 - at' p.1 x.1), undef] [some 22, some 23, some 24, some 25, some 26, some 27, none] (fun L u => SplS W G S Bx (if L 6 then (x.1 : Int) else ((K pre).1 : Nat)) (K pre).2 (at' p.1 x.1) (at' p.2 x.1) u) (⟨HO1.out, HO2.out, HTB.out, Turn.of_below ((Below.refl _ _).drew) HWB.out⟩) rfl (by kernel_rfl) (by kernel_rfl) (by kernel_rfl) (by kernel_rfl) (by kernel_rfl) (by kernel_rfl) ?hstep ?hdone
        case hstep =>
          intro i o ho hi E L w4 hS4 hL hdeps D
          have hi2 : i = 0 ∨ i = 1 ∨ i = 2 ∨ i = 3 ∨ i = 4 ∨ i = 5 ∨ i = 6 := by omega
          clear hi
          rcases hi2 with rfl | rfl | rfl | rfl | rfl | rfl | rfl
          ·
            have ho2 := (Array.getElem?_eq_some_iff.1 ho).2
            simp only [List.getElem_toArray, List.getElem_cons_zero] at ho2
            subst ho2
            clear ho
            have e6 := D.old 6 (by kernel_rfl)
            refine wk.Does.weak (R := fun _ v => v = _) ?_ fun w' v hb hr => ⟨hr, hS4.next hb (Nat.le_trans HWB.out hS4.tu.exc.size)⟩
            exact wk.does_move rfl (by rw [e6]; rfl)
          ·
            have ho2 := (Array.getElem?_eq_some_iff.1 ho).2
            simp only [List.getElem_toArray, List.getElem_cons_succ, List.getElem_cons_zero] at ho2
            subst ho2
            clear ho
            have e7 := D.old 7 (by kernel_rfl)
            refine wk.Does.weak (R := fun _ v => v = _) ?_ fun w' v hb hr => ⟨hr, hS4.next hb (Nat.le_trans HWB.out hS4.tu.exc.size)⟩
            exact wk.does_run (by simp only [execOp]; rw [show E (.tmp 7) = .pointer (some ⟨Bx, 0, none⟩) by rw [e7]; rfl]; go_simp) rfl
          ·
            have ho2 := (Array.getElem?_eq_some_iff.1 ho).2
            simp only [List.getElem_toArray, List.getElem_cons_succ, List.getElem_cons_zero] at ho2
            subst ho2
            clear ho
            have e23 := D.is { on := 1, ground := .data } (by simp) rfl rfl 23 rfl
            refine wk.Does.weak (R := fun _ v => v = _) ?_ fun w' v hb hr => ⟨hr, hS4.next hb (Nat.le_trans HWB.out hS4.tu.exc.size)⟩
            exact wk.does_load1 rfl e23 hS4.tb.c1 Try.underlying3 rfl rfl
          ·
            have ho2 := (Array.getElem?_eq_some_iff.1 ho).2
            simp only [List.getElem_toArray, List.getElem_cons_succ, List.getElem_cons_zero] at ho2
            subst ho2
            clear ho
            have e7 := D.old 7 (by kernel_rfl)
            refine wk.Does.weak (R := fun _ v => v = _) ?_ fun w' v hb hr => ⟨hr, hS4.next hb (Nat.le_trans HWB.out hS4.tu.exc.size)⟩
            exact wk.does_run (by simp only [execOp]; rw [show E (.tmp 7) = .pointer (some ⟨Bx, 0, none⟩) by rw [e7]; rfl]; go_simp) rfl
          ·
            have ho2 := (Array.getElem?_eq_some_iff.1 ho).2
            simp only [List.getElem_toArray, List.getElem_cons_succ, List.getElem_cons_zero] at ho2
            subst ho2
            clear ho
            have e25 := D.is { on := 3, ground := .data } (by simp) rfl rfl 25 rfl
            refine wk.Does.weak (R := fun _ v => v = _) ?_ fun w' v hb hr => ⟨hr, hS4.next hb (Nat.le_trans HWB.out hS4.tu.exc.size)⟩
            exact wk.does_load1 rfl e25 hS4.tb.c0 Try.underlying3 rfl rfl
          ·
            have ho2 := (Array.getElem?_eq_some_iff.1 ho).2
            simp only [List.getElem_toArray, List.getElem_cons_succ, List.getElem_cons_zero] at ho2
            subst ho2
            clear ho
            have e24 := D.is { on := 2, ground := .data } (by simp) rfl rfl 24 rfl
            have e26 := D.is { on := 4, ground := .data } (by simp) rfl rfl 26 rfl
            refine wk.Does.weak (R := fun _ v => v = _) ?_ fun w' v hb hr => ⟨hr, hS4.next hb (Nat.le_trans HWB.out hS4.tu.exc.size)⟩
            have hw : IntKind.i64.wrap (at' p.2 x.1 - at' p.1 x.1) = at' p.2 x.1 - at' p.1 x.1 := by rw [IntKind.wrap_i64]; have := HXB.out; omega
            exact wk.does_bin rfl (by rw [e24, e26]; go_simp) rfl
          ·
            have ho2 := (Array.getElem?_eq_some_iff.1 ho).2
            simp only [List.getElem_toArray, List.getElem_cons_succ, List.getElem_cons_zero] at ho2
            subst ho2
            clear ho
            have e2 := D.old 2 (by kernel_rfl)
            have e22 := D.is { on := 0, ground := .data } (by simp) rfl rfl 22 rfl
            have hc5 := hS4.o1.cell
            have hf5 := hS4.o1.frozen
            refine wk.does_skip_t (w' := w4.setCell ⟨G + 1, 0, none⟩ (.int .i64 (x.1 : Int))) ?_ ⟨rfl, hS4.store HSG.out HBX.out⟩
            simp only [execOp]
            rw [e22, show E (.tmp 2) = .pointer (some ⟨G + 1, 0, none⟩) by rw [e2]; rfl]
            go_simp
        case hdone =>
          intro L w4 hall hS4
          simp only [List.drop_succ_cons, List.drop_zero, wk.setL, List.setIfInBounds_toArray, List.set_cons_zero, List.set_cons_succ, Nat.zero_add, Nat.reduceAdd, List.getD_cons_zero, List.getD_cons_succ]
          have h6 := hall 6 (by omega)
          rw [h6] at hS4
          simp only [if_true] at hS4
          have hc6 := hS4.o2.cell
          have hf6 := hS4.o2.frozen
          have HS5 := Lib.hid hS4
          clear hS4 h6
          go_wp2_with fail
          rw [hs2]
          refine ⟨HS5.out.tu.trans (Turn.setCell (p := ⟨S, 0, none⟩) _ (by simp)), ?_, ?_⟩
          · rw [HKT.out]; exact HS5.out.o1.other _ (Ne.symm HSG.out)
          · rw [HKT.out]; exact HS5.out.o2.set _
      · rw [if_neg hlt] at hks
        have HKT := Lib.hid hks
        clear hks
        gi_wp2
        refine ⟨Turn.refl _ _ _, ?_, ?_⟩
        · rw [HKT.out]; exact HO1.out
        · rw [HKT.out]; exact HO2.out
    case rdone =>
      rintro D ys W hD hys hx ⟨hO1, hO2⟩ hK
      rw [hs2] at hD
      have hke := HKE.out ys hys
      have hkb := HKB.out ys
      rw [hke] at hO1 hO2 hkb
      have hR := HR.out
      rw [splitR, if_pos HVV.out] at hR
      generalize spl (bq.side p) (List.range p.1.length) = s at *
      obtain ⟨s1, s2⟩ := s
      simp only at hO1 hO2 hkb hR
      have hbW : Below G w W := hB2.trans (hx.below (by rw [hs2]; omega) (by intro j hj; simp only [List.mem_cons, List.not_mem_nil, or_false] at hj; omega))
      have hc2 := hO2.cell
      have hc3 := hO1.cell
      have hf3 := hO1.frozen
      have hTW : TwoX W G (.slice A n c) (.slice A' n' c') := (hx.block G (by rw [hs2]; omega) (by simp only [List.mem_cons, List.not_mem_nil, or_false]; omega)).trans HT2.out
      have hc0 := hTW.two.c0
      have hc1 := hTW.two.c1
      have hlen := HP.out.len
      rw [HI.out.1] at hkb
      rw [HI.out.1, HI'.out.1] at hlen
      obtain ⟨b, o, rfl, hcl0, hbl⟩ := isI_get HI.out hkb.2.2
      obtain ⟨b', o', rfl, hch0, hbh⟩ := isI_get HI'.out (show s1 < n' by omega)
      rw [hG] at hbl hbh
      have hcl := (hbW.cell (p := ⟨b, o + s1, none⟩) hbl).trans hcl0
      have hch := (hbW.cell (p := ⟨b', o' + s1, none⟩) hbh).trans hch0
      have hne1 : b ≠ G + 1 := by omega
      have hne2 : b' ≠ G + 1 := by omega
      have hne3 : G ≠ G + 1 := by omega
      clear hcl0 hch0
      have hlo := vec_at HP.out.lo (i := s1) (by rw [HI.out.1]; exact hkb.2.2)
      have hhi := vec_at HP.out.hi (i := s1) (by rw [HI'.out.1]; omega)
      have hm := HI.out.2.2.1
      have hm' := HI'.out.2.2.1
      have hnc := HI.out.2.1
      have hnc' := HI'.out.2.1
      have hk1 : (s1 : Int) < (n : Int) := by omega
      have hk2 : (s1 : Int) < (n' : Int) := by omega
      have HBW := Lib.hid hbW
      have HO1 := Lib.hid hO1
      have HKK := Lib.hid hK
      have HDN := Lib.hid hD
      generalize at' p.1 s1 = lo at *
      generalize at' p.2 s1 = hi at *
      have hTW' : W.heap[G]? = _ := hTW
      clear hbW hO1 hO2 hTW hke hys hx hK
      by_cases h0 : s2 = 0
      · rw [if_pos h0] at hR
        have HRR := Lib.hid hR.symm
        clear hR
        go_wp2_with fail
        rw [HRR.out]
        refine leave_mark ?_ (res_i2 (fn := Try.f11) rfl _ _ (G + 1) _ rfl ((HO1.out.set _).put (by have := HDN.out; omega))) ⟨rfl, ?_⟩
        · exact (Below.heap_setCell _ _ _ _ (by have := HDN.out; show D ≠ G + 1; omega)).trans HKK.out
        · rw [hG]; exact below_mark (HBW.out.setCell (p := ⟨G + 1, 0, none⟩) (by show G ≤ G + 1; omega) _) (by have := HDN.out; omega)
      · rw [if_neg h0] at hR
        have HRR := Lib.hid hR.symm
        clear hR
        have hGW : G < W.heap.size := (Array.getElem?_eq_some_iff.1 hTW').1
        have hbW1 : b < W.heap.size := by omega
        have hbW2 : b' < W.heap.size := by omega
        clear hTW'
        go_wp2_with fail
        refine wk.region_many 14 [.int .i64 (s1 : Int), .pointer (some ⟨G, 0, none⟩), .slice (some ⟨b, o, none⟩) n c, .int .i64 (s1 : Int), .pointer (some ⟨b, o + s1, none⟩), .int .i64 lo, .pointer (some ⟨G, 1, none⟩), .slice (some ⟨b', o', none⟩) n' c', .int .i64 (s1 : Int), .pointer (some ⟨b', o' + s1, none⟩), .int .i64 hi, .int .i64 (lo + hi), .int .i64 ((lo + hi) / 2), undef] [some 30, some 31, some 32, some 33, some 34, some 35, some 36, some 37, some 38, some 39, some 40, some 41, some 42, none] (fun L u => One u (G + 1) 3 (.int .i64 (s1 : Int)) ∧ Exc [G + 1] W.heap.size W u) (⟨HO1.out, Exc.of_below (Below.refl _ _).drew⟩) rfl (by kernel_rfl) (by kernel_rfl) (by kernel_rfl) (by kernel_rfl) (by kernel_rfl) (by kernel_rfl) ?hstep ?hdone
        case hstep =>
          intro i o ho hi E L w4 hS4 hL hdeps D
          have hi2 : i = 0 ∨ i = 1 ∨ i = 2 ∨ i = 3 ∨ i = 4 ∨ i = 5 ∨ i = 6 ∨ i = 7 ∨ i = 8 ∨ i = 9 ∨ i = 10 ∨ i = 11 ∨ i = 12 ∨ i = 13 := by omega
          clear hi
          rcases hi2 with rfl | rfl | rfl | rfl | rfl | rfl | rfl | rfl | rfl | rfl | rfl | rfl | rfl | rfl
          ·
            have ho2 := (Array.getElem?_eq_some_iff.1 ho).2
            simp only [List.getElem_toArray, List.getElem_cons_zero] at ho2
            subst ho2
            clear ho
            have e2 := D.old 2 (by kernel_rfl)
            refine wk.Does.weak (R := fun _ v => v = _) ?_ fun w' v hb hr => ⟨hr, ⟨hS4.1.below hb, hS4.2.trans (Exc.of_below (hb.mono hS4.2.size))⟩⟩
            have hc5 := hS4.1.cell
            exact wk.does_load1 rfl (by rw [e2]; rfl) hc5 Try.underlying3 rfl rfl
          ·
            have ho2 := (Array.getElem?_eq_some_iff.1 ho).2
            simp only [List.getElem_toArray, List.getElem_cons_succ, List.getElem_cons_zero] at ho2
            subst ho2
            clear ho
            have e1 := D.old 1 (by kernel_rfl)
            refine wk.Does.weak (R := fun _ v => v = _) ?_ fun w' v hb hr => ⟨hr, ⟨hS4.1.below hb, hS4.2.trans (Exc.of_below (hb.mono hS4.2.size))⟩⟩
            exact wk.does_run (by simp only [execOp]; rw [show E (.tmp 1) = .pointer (some ⟨G, 0, none⟩) by rw [e1]; rfl]; go_simp) rfl
          ·
            have ho2 := (Array.getElem?_eq_some_iff.1 ho).2
            simp only [List.getElem_toArray, List.getElem_cons_succ, List.getElem_cons_zero] at ho2
            subst ho2
            clear ho
            have e31 := D.is { on := 1, ground := .data } (by simp) rfl rfl 31 rfl
            refine wk.Does.weak (R := fun _ v => v = _) ?_ fun w' v hb hr => ⟨hr, ⟨hS4.1.below hb, hS4.2.trans (Exc.of_below (hb.mono hS4.2.size))⟩⟩
            exact wk.does_load1 rfl e31 ((hS4.2.cell hGW hne3).trans hc0) Try.underlying22 rfl rfl
          ·
            have ho2 := (Array.getElem?_eq_some_iff.1 ho).2
            simp only [List.getElem_toArray, List.getElem_cons_succ, List.getElem_cons_zero] at ho2
            subst ho2
            clear ho
            have e2 := D.old 2 (by kernel_rfl)
            refine wk.Does.weak (R := fun _ v => v = _) ?_ fun w' v hb hr => ⟨hr, ⟨hS4.1.below hb, hS4.2.trans (Exc.of_below (hb.mono hS4.2.size))⟩⟩
            have hc5 := hS4.1.cell
            exact wk.does_load1 rfl (by rw [e2]; rfl) hc5 Try.underlying3 rfl rfl
          ·
            have ho2 := (Array.getElem?_eq_some_iff.1 ho).2
            simp only [List.getElem_toArray, List.getElem_cons_succ, List.getElem_cons_zero] at ho2
            subst ho2
            clear ho
            have e32 := D.is { on := 2, ground := .data } (by simp) rfl rfl 32 rfl
            have e33 := D.is { on := 3, ground := .data } (by simp) rfl rfl 33 rfl
            refine wk.Does.weak (R := fun _ v => v = _) ?_ fun w' v hb hr => ⟨hr, ⟨hS4.1.below hb, hS4.2.trans (Exc.of_below (hb.mono hS4.2.size))⟩⟩
            exact wk.does_run (by simp only [execOp]; rw [e32, e33]; go_simp) rfl
          ·
            have ho2 := (Array.getElem?_eq_some_iff.1 ho).2
            simp only [List.getElem_toArray, List.getElem_cons_succ, List.getElem_cons_zero] at ho2
            subst ho2
            clear ho
            have e34 := D.is { on := 4, ground := .data } (by simp) rfl rfl 34 rfl
            refine wk.Does.weak (R := fun _ v => v = _) ?_ fun w' v hb hr => ⟨hr, ⟨hS4.1.below hb, hS4.2.trans (Exc.of_below (hb.mono hS4.2.size))⟩⟩
            exact wk.does_load1 rfl e34 ((hS4.2.cell hbW1 hne1).trans hcl) Try.underlying3 rfl rfl
          ·
            have ho2 := (Array.getElem?_eq_some_iff.1 ho).2
            simp only [List.getElem_toArray, List.getElem_cons_succ, List.getElem_cons_zero] at ho2
            subst ho2
            clear ho
            have e1 := D.old 1 (by kernel_rfl)
            refine wk.Does.weak (R := fun _ v => v = _) ?_ fun w' v hb hr => ⟨hr, ⟨hS4.1.below hb, hS4.2.trans (Exc.of_below (hb.mono hS4.2.size))⟩⟩
            exact wk.does_run (by simp only [execOp]; rw [show E (.tmp 1) = .pointer (some ⟨G, 0, none⟩) by rw [e1]; rfl]; go_simp) rfl
          ·
            have ho2 := (Array.getElem?_eq_some_iff.1 ho).2
            simp only [List.getElem_toArray, List.getElem_cons_succ, List.getElem_cons_zero] at ho2
            subst ho2
            clear ho
            have e36 := D.is { on := 6, ground := .data } (by simp) rfl rfl 36 rfl
            refine wk.Does.weak (R := fun _ v => v = _) ?_ fun w' v hb hr => ⟨hr, ⟨hS4.1.below hb, hS4.2.trans (Exc.of_below (hb.mono hS4.2.size))⟩⟩
            exact wk.does_load1 rfl e36 ((hS4.2.cell hGW hne3).trans hc1) Try.underlying22 rfl rfl
          ·
            have ho2 := (Array.getElem?_eq_some_iff.1 ho).2
            simp only [List.getElem_toArray, List.getElem_cons_succ, List.getElem_cons_zero] at ho2
            subst ho2
            clear ho
            have e2 := D.old 2 (by kernel_rfl)
            refine wk.Does.weak (R := fun _ v => v = _) ?_ fun w' v hb hr => ⟨hr, ⟨hS4.1.below hb, hS4.2.trans (Exc.of_below (hb.mono hS4.2.size))⟩⟩
            have hc5 := hS4.1.cell
            exact wk.does_load1 rfl (by rw [e2]; rfl) hc5 Try.underlying3 rfl rfl
          ·
            have ho2 := (Array.getElem?_eq_some_iff.1 ho).2
            simp only [List.getElem_toArray, List.getElem_cons_succ, List.getElem_cons_zero] at ho2
            subst ho2
            clear ho
            have e37 := D.is { on := 7, ground := .data } (by simp) rfl rfl 37 rfl
            have e38 := D.is { on := 8, ground := .data } (by simp) rfl rfl 38 rfl
            refine wk.Does.weak (R := fun _ v => v = _) ?_ fun w' v hb hr => ⟨hr, ⟨hS4.1.below hb, hS4.2.trans (Exc.of_below (hb.mono hS4.2.size))⟩⟩
            exact wk.does_run (by simp only [execOp]; rw [e37, e38]; go_simp) rfl
          ·
            have ho2 := (Array.getElem?_eq_some_iff.1 ho).2
            simp only [List.getElem_toArray, List.getElem_cons_succ, List.getElem_cons_zero] at ho2
            subst ho2
            clear ho
            have e39 := D.is { on := 9, ground := .data } (by simp) rfl rfl 39 rfl
            refine wk.Does.weak (R := fun _ v => v = _) ?_ fun w' v hb hr => ⟨hr, ⟨hS4.1.below hb, hS4.2.trans (Exc.of_below (hb.mono hS4.2.size))⟩⟩
            exact wk.does_load1 rfl e39 ((hS4.2.cell hbW2 hne2).trans hch) Try.underlying3 rfl rfl
          ·
            have ho2 := (Array.getElem?_eq_some_iff.1 ho).2
            simp only [List.getElem_toArray, List.getElem_cons_succ, List.getElem_cons_zero] at ho2
            subst ho2
            clear ho
            have e35 := D.is { on := 5, ground := .data } (by simp) rfl rfl 35 rfl
            have e40 := D.is { on := 10, ground := .data } (by simp) rfl rfl 40 rfl
            refine wk.Does.weak (R := fun _ v => v = _) ?_ fun w' v hb hr => ⟨hr, ⟨hS4.1.below hb, hS4.2.trans (Exc.of_below (hb.mono hS4.2.size))⟩⟩
            have hw : IntKind.i64.wrap (lo + hi) = lo + hi := by rw [IntKind.wrap_i64]; omega
            exact wk.does_bin rfl (by rw [e35, e40]; go_simp) rfl
          ·
            have ho2 := (Array.getElem?_eq_some_iff.1 ho).2
            simp only [List.getElem_toArray, List.getElem_cons_succ, List.getElem_cons_zero] at ho2
            subst ho2
            clear ho
            have e41 := D.is { on := 11, ground := .data } (by simp) rfl rfl 41 rfl
            refine wk.Does.weak (R := fun _ v => v = _) ?_ fun w' v hb hr => ⟨hr, ⟨hS4.1.below hb, hS4.2.trans (Exc.of_below (hb.mono hS4.2.size))⟩⟩
            exact wk.does_bin rfl (by rw [e41, D.con]; go_simp) rfl
          ·
            have ho2 := (Array.getElem?_eq_some_iff.1 ho).2
            simp only [List.getElem_toArray, List.getElem_cons_succ, List.getElem_cons_zero] at ho2
            subst ho2
            clear ho
            have e2 := D.old 2 (by kernel_rfl)
            have e30 := D.is { on := 0, ground := .data } (by simp) rfl rfl 30 rfl
            have hc5 := hS4.1.cell
            have hf5 := hS4.1.frozen
            refine wk.does_skip_t (w' := w4.setCell ⟨G + 1, 0, none⟩ (.int .i64 (s1 : Int))) ?_ ⟨rfl, hS4.1.set _, hS4.2.trans (Exc.setCell _ (.inl (by simp)))⟩
            simp only [execOp]
            rw [e30, show E (.tmp 2) = .pointer (some ⟨G + 1, 0, none⟩) by rw [e2]; rfl]
            go_simp
        case hdone =>
          intro L w4 hall hS4
          simp only [List.drop_succ_cons, List.drop_zero, wk.setL, List.setIfInBounds_toArray, List.set_cons_zero, List.set_cons_succ, Nat.zero_add, Nat.reduceAdd, List.getD_cons_zero, List.getD_cons_succ]
          have hK4 := (hS4.2.block D (by have := (Array.getElem?_eq_some_iff.1 HKK.out).1; omega) (by have := HDN.out; simp only [List.mem_singleton]; omega)).trans HKK.out
          have HO4 := Lib.hid hS4.1
          have HB4 := Lib.hid (HBW.out.trans (hS4.2.below (n := G) (by omega) (by intro j hj; rw [List.mem_singleton] at hj; omega)))
          clear hS4 hall
          go_wp2_with fail
          rw [HRR.out]
          refine leave_mark hK4 (res_i2 (fn := Try.f11) rfl _ _ (G + 1) _ rfl (HO4.out.put (by have := HDN.out; omega))) ⟨rfl, ?_⟩
          rw [hG]; exact below_mark HB4.out (by have := HDN.out; omega)
    case rstop =>
      rintro D c W hD hx hF hK
      exact hF.elim
  · have hv' : bvalid p = false := by simpa using hv
    rw [hv']
    have hr : R = (0, 0, 1) := by rw [← HR.out, splitR, if_neg hv]
    have HRR := Lib.hid hr
    go_wp2_with fail
    rw [HRR.out]
    exact leave_bare (res_i2 (fn := Try.f11) rfl _ _ (w.heap.size + 1) _ rfl (HO.out.set _)) ⟨rfl, HB1.out.setCell (p := ⟨w.heap.size + 1, 0, none⟩) (by show w.heap.size ≤ w.heap.size + 1; omega) _⟩
end Go.Proofs.Ytegoinkkcfbfaaa.bk
/- The examples that every law computes first. -/
namespace Go.Proofs.Ytegoinkkcfbfaaa.bk

open Go.ChangeShapes Go.WideShapes Go.ChangeAt Go.RowKit

open Go.Proofs.Ytegoinkkcfbfaaa.bq Go.Proofs.Ytegoinkkcfbfaaa.vk Go.Proofs.Ytegoinkkcfbfaaa.wk

set_option linter.unusedVariables false
theorem isI_lit (w : World) (l : List Int) (h : ∀ x ∈ l, -9223372036854775808 ≤ x ∧ x ≤ 9223372036854775807) (hl : l.length ≤ 1000) : wo.IsI (w.alloc (.cells (l.map (Value.int .i64)).toArray 3)) (some ⟨w.heap.size, 0, none⟩) l.length l.length l := by
  refine ⟨rfl, Nat.le_refl _, by omega, fun _ => ⟨w.heap.size, 0, rfl, by rw [size_new]; omega, fun j u hu => ?_⟩, h⟩
  rw [cell_of_row _ _ _ _ _ _ (heap_alloc_new w _), Nat.zero_add]
  simpa using hu
theorem isI_two (w : World) (g : Nat) (hg : w.heap.size = g) (a b : Int) (h : -1000 ≤ a ∧ a ≤ 1000) (h' : -1000 ≤ b ∧ b ≤ 1000) : wo.IsI (w.alloc (.cells #[.int .i64 a, .int .i64 b] 3)) (some ⟨g, 0, none⟩) 2 2 [a, b] := by
  subst hg
  exact isI_lit w [a, b] (fun x hx => by simp at hx; omega) (by simp)
theorem isX_two (w : World) (g : Nat) (hg : w.heap.size = g) (a b c d : Int) (h1 : -1000 ≤ a ∧ a ≤ 1000) (h2 : -1000 ≤ b ∧ b ≤ 1000) (h3 : -1000 ≤ c ∧ c ≤ 1000) (h4 : -1000 ≤ d ∧ d ≤ 1000) :
    IsX ((w.alloc (.cells #[.int .i64 a, .int .i64 b] 3)).alloc (.cells #[.int .i64 c, .int .i64 d] 3)) (.agg #[.slice (some ⟨g, 0, none⟩) 2 2, .slice (some ⟨g + 1, 0, none⟩) 2 2]) ([a, b], [c, d]) :=
  ⟨_, _, _, _, _, _, rfl, isI_below (isI_two w g hg a b h1 h2) (below_new _ _), isI_two _ _ (by rw [size_new, hg]) c d h3 h4⟩
theorem isVV_two (w : World) (a b c d : Int) (h1 : -1000 ≤ a ∧ a ≤ 1000) (h2 : -1000 ≤ b ∧ b ≤ 1000) (h3 : -1000 ≤ c ∧ c ≤ 1000) (h4 : -1000 ≤ d ∧ d ≤ 1000) :
    IsVV (((w.alloc (.cells #[.int .i64 a, .int .i64 b] 3)).alloc (.cells #[.int .i64 c, .int .i64 d] 3)).alloc (.cells #[.slice (some ⟨w.heap.size, 0, none⟩) 2 2, .slice (some ⟨w.heap.size + 1, 0, none⟩) 2 2] 22)) (some ⟨w.heap.size + 1 + 1, 0, none⟩) 2 2 [[a, b], [c, d]] := by
  have i1 := isI_below (isI_two w _ rfl a b h1 h2) (below_new _ (.cells #[.int .i64 c, .int .i64 d] 3))
  have i2 := isI_two (w.alloc (.cells #[.int .i64 a, .int .i64 b] 3)) (w.heap.size + 1) (size_new _ _) c d h3 h4
  have hr := heap_alloc_new ((w.alloc (.cells #[.int .i64 a, .int .i64 b] 3)).alloc (.cells #[.int .i64 c, .int .i64 d] 3)) (.cells #[.slice (some ⟨w.heap.size, 0, none⟩) 2 2, .slice (some ⟨w.heap.size + 1, 0, none⟩) 2 2] 22)
  simp only [size_new] at hr
  refine ⟨rfl, Nat.le_refl _, by omega, fun k l hk => ?_⟩
  match k, hk with
  | 0, hk => simp at hk; subst hk; exact ⟨_, _, _, _, _, rfl, (Array.getElem?_eq_some_iff.1 hr).1, by rw [cell_of_row _ _ _ _ _ _ hr]; rfl, isI_below i1 (below_new _ _)⟩
  | 1, hk => simp at hk; subst hk; exact ⟨_, _, _, _, _, rfl, (Array.getElem?_eq_some_iff.1 hr).1, by rw [cell_of_row _ _ _ _ _ _ hr]; rfl, isI_below i2 (below_new _ _)⟩
def exB : Pair := ([0, 0], [4, 2])
def exV : List Int := [7, -1]
theorem IsVq.below {w w' : World} {A : Option Addr} {n c : Nat} {l : List Int} (h : wo.IsI w A n c l) (hb : Below w.heap.size w w') : wo.IsI w' A n c l := isI_below h hb
structure VI (w : World) (A : Option Addr) (n c : Nat) (l : List Int) : Prop where
  is : wo.IsI w A n c l
theorem VI.below {w w' : World} {A : Option Addr} {n c : Nat} {l : List Int} (h : VI w A n c l) (hb : Below w.heap.size w w') : VI w' A n c l := ⟨isI_below h.is hb⟩
theorem VI.at {u : World} {g n c k : Nat} {l : List Int} {x : Int} (h : VI u (some ⟨g, 0, none⟩) n c l) (hx : l[k]? = some x) : u.cell? ⟨g, k, none⟩ = some (.int .i64 x) := by
  obtain ⟨b, o, hA, hc⟩ := wi.RC_at h.is.2.2.2.1 (k := k) (u := .int .i64 x) (by simp [hx])
  simp only [Option.some.injEq, Addr.mk.injEq, and_true] at hA
  obtain ⟨rfl, rfl⟩ := hA
  rw [Nat.zero_add] at hc
  exact hc
structure SanF (w0 : World) (g1 gv gw : Nat) (s1 s2 : Value) (u : World) : Prop where
  t1 : TwoX u g1 s1 s2
  x : IsX u (.agg #[s1, s2]) exB
  v : VI u (some ⟨gv, 0, none⟩) 2 2 exV
  wn : VI u (some ⟨gw, 0, none⟩) 6 6 [4, 10, 3, 10, 58, 7]
  b : Below w0.heap.size w0 u
theorem SanF.below {w0 : World} {g1 gv gw : Nat} {s1 s2 : Value} {u u' : World} (h : SanF w0 g1 gv gw s1 s2 u) (hb : Below u.heap.size u u') : SanF w0 g1 gv gw s1 s2 u' :=
  ⟨h.t1.below hb, h.x.below hb, h.v.below hb, h.wn.below hb, Below.andThen h.b hb⟩
theorem exB_box : IsBox exB := bvalid_iff.1 (by decide)
theorem exB_cut : cutR exB 0 1 = (([0, 0], [1, 2]), ([2, 0], [4, 2]), 0) := by
  rw [cutR, if_pos ⟨exB_box, by decide, by decide, by decide, by decide⟩]; rfl
theorem san_n (j : Int) (h : j = 0 ∨ j = 1 ∨ j = 2) : ([4, 10, 3, 10, 58, 7] : List Int)[j.toNat]? = some (keyf (j + 1) (difs bq.gap exB (exV, exV))) := by rcases h with rfl | rfl | rfl <;> decide
theorem san_f (j : Int) (h : j = 0 ∨ j = 1 ∨ j = 2) : ([4, 10, 3, 10, 58, 7] : List Int)[(j + 3).toNat]? = some (keyf (j + 1) (difs bq.reach exB (exV, exV))) := by rcases h with rfl | rfl | rfl <;> decide
theorem san_a (j : Int) (h : j = 0 ∨ j = 1 ∨ j = 2) : asked (j + 1) exB (exV, exV) = true := by rcases h with rfl | rfl | rfl <;> decide
theorem san_m : meetR exB ([5, 0], [5, 0]) = (([], []), false, 0) := by decide
theorem san_s : splitR exB = (0, 2, 0) := by decide
theorem san_p : asked 2 exB ([7, 5], [9, 9]) = true := by decide
theorem san_k : keyf 2 (difs bq.gap exB ([7, 5], [9, 9])) = 18 := by decide
theorem san_b1 : sameB ([0, 0], [1, 2]) ([0, 0], [1, 2]) = true := by decide
theorem san_b2 : sameB ([2, 0], [4, 2]) ([2, 0], [4, 2]) = true := by decide
set_option maxRecDepth 100000 in
set_option maxHeartbeats 40000000 in
theorem sanity_calls (w : World) : Calls Try.prog 6 #[] w fun e w' => e = .returned (.bool true) ∧ Below w.heap.size w w' := by
  have HB := Lib.hid (Below.refl w.heap.size w)
  go_enter Try.func6, Try.ntmps6
  go_wp2_with fail
  refine (of_calls _ _ _ _ _ (isVV_two _ 4 0 0 2 (by decide) (by decide) (by decide) (by decide))).mono ?_
  rintro e w1 ⟨x, rfl, hx, hb⟩
  replace HB := Lib.hid (Below.andThen (Below.andThen HB.out (Below.andThen (Below.andThen (below_new _ _) (below_new _ _)) (below_new _ _))) hb)
  have h0 : (ofL [[4, 0], [0, 2]]) = some exB := by decide
  rw [h0] at hx
  obtain ⟨A1, n1, c1, A2, n2, c2, rfl, hx1, hx2⟩ := hx
  have HX : Hid (IsX w1 (.agg #[.slice A1 n1 c1, .slice A2 n2 c2]) exB) := ⟨_, _, _, _, _, _, rfl, hx1, hx2⟩
  have HE : Hid ((if (ofL [[4, 0], [0, 2]]).isSome then (0 : Int) else 1) = 0) := by show _ = _; rw [h0]; rfl
  rw [HE.out]
  clear h0 hx1 hx2
  clear hb
  go_wp2_with fail
  refine (sameBox_calls _ _ exB ([0, 0], [4, 2]) _ (HX.out.below (Below.andThen (Below.andThen (Below.andThen (below_new _ _) (below_new _ _)) (below_new _ _)) (below_new _ _))) (isX_two _ (w1.heap.size + 1 + 1) (by simp only [size_new]) 0 0 4 2 (by decide) (by decide) (by decide) (by decide))).mono ?_
  rintro e w2 ⟨rfl, hb⟩
  replace HX := Lib.hid ((HX.out.below (Below.andThen (Below.andThen (Below.andThen (below_new _ _) (below_new _ _)) (below_new _ _)) (below_new _ _))).below hb)
  replace HB := Lib.hid (Below.andThen (Below.andThen HB.out (Below.andThen (Below.andThen (Below.andThen (below_new _ _) (below_new _ _)) (below_new _ _)) (below_new _ _))) hb)
  have HT1 := Lib.hid (((TwoX.new w1 (.slice A1 n1 c1) (.slice A2 n2 c2)).below (Below.andThen (Below.andThen (below_new _ _) (below_new _ _)) (below_new _ _))).below hb)
  have HVV := Lib.hid (((VI.mk (isI_two (w1.alloc (.cells #[.slice A1 n1 c1, .slice A2 n2 c2] 24)) (w1.heap.size + 1) (size_new _ _) 7 (-1) (by decide) (by decide))).below (Below.andThen (below_new _ _) (below_new _ _))).below hb)
  rw [show sameB exB ([0, 0], [4, 2]) = true from by decide]
  clear hb
  have hc0HT1 := HT1.out.two.c0
  have hc1HT1 := HT1.out.two.c1
  go_wp2_with fail
  clear hc0HT1 hc1HT1
  refine (has_calls _ exB _ _ _ [4, 2] _ (HX.out.below (below_new _ _)) (isI_two _ (w2.heap.size) rfl 4 2 (by decide) (by decide))).mono ?_
  rintro e w3 ⟨rfl, hb⟩
  replace HX := Lib.hid ((HX.out.below (below_new _ _)).below hb)
  replace HT1 := Lib.hid ((HT1.out.below (below_new _ _)).below hb)
  replace HVV := Lib.hid ((HVV.out.below (below_new _ _)).below hb)
  replace HB := Lib.hid (Below.andThen (Below.andThen HB.out (below_new _ _)) hb)
  rw [show has exB [4, 2] = true from by decide]
  clear hb
  have hc0HT1 := HT1.out.two.c0
  have hc1HT1 := HT1.out.two.c1
  go_wp2_with fail
  clear hc0HT1 hc1HT1
  refine (has_calls _ exB _ _ _ exV _ HX.out HVV.out.is).mono ?_
  rintro e w4 ⟨rfl, hb⟩
  replace HX := Lib.hid ((HX.out.below (Below.refl _ _)).below hb)
  replace HT1 := Lib.hid ((HT1.out.below (Below.refl _ _)).below hb)
  replace HVV := Lib.hid ((HVV.out.below (Below.refl _ _)).below hb)
  replace HB := Lib.hid (Below.andThen (Below.andThen HB.out (Below.refl _ _)) hb)
  rw [show has exB exV = false from by decide]
  clear hb
  have hc0HT1 := HT1.out.two.c0
  have hc1HT1 := HT1.out.two.c1
  go_wp2_with fail
  clear hc0HT1 hc1HT1
  have HW := Lib.hid (VI.mk (isI_lit w4 [4, 10, 3, 10, 58, 7] (fun x hx => by simp at hx; omega) (by decide)))
  have HF : Hid (SanF w w1.heap.size (w1.heap.size + 1) w4.heap.size (.slice A1 n1 c1) (.slice A2 n2 c2) (w4.alloc (.cells #[.int .i64 4, .int .i64 10, .int .i64 3, .int .i64 10, .int .i64 58, .int .i64 7] 3))) :=
    ⟨HT1.out.below (below_new _ _), HX.out.below (below_new _ _), HVV.out.below (below_new _ _), HW.out, Below.andThen HB.out (below_new _ _)⟩
  clear HX HT1 HVV HB HW
  obtain ⟨gw, hgw⟩ : ∃ gw, w4.heap.size = gw := ⟨_, rfl⟩
  obtain ⟨g1, hg1⟩ : ∃ g1, w1.heap.size = g1 := ⟨_, rfl⟩
  rw [hgw, hg1] at HF
  simp only [hgw, hg1]
  clear hgw hg1
  go_loopg [5] 3 (fun g x wr => ∃ j : Int, j + g = 3 ∧ 0 ≤ j ∧ x = .int .i64 j ∧ SanF w g1 (g1 + 1) gw (.slice A1 n1 c1) (.slice A2 n2 c2) wr)
  case atStart => exact ⟨0, by omega, by omega, rfl, HF.out⟩
  case round =>
    obtain ⟨j, hj, hj0, rfl, hF⟩ := hrel
    have HF := Lib.hid hF
    have hc0 := hF.t1.two.c0
    have hc1 := hF.t1.two.c1
    clear hF
    by_cases hj3 : j = 3
    · subst hj3
      have hgk : gk = 0 := by omega
      go_wp2_with fail
      clear hc0 hc1
      refine (cut_calls _ exB 0 1 _ HF.out.x).mono ?_
      rintro e w11 ⟨x, y, rfl, hx, hy, hb⟩
      replace HF := Lib.hid ((HF.out.below (Below.refl _ _)).below hb)
      rw [exB_cut] at hx hy
      obtain ⟨a1, a2, a3, a4, a5, a6, rfl, hx1, hx2⟩ := hx
      obtain ⟨b1, b2, b3, b4, b5, b6, rfl, hy1, hy2⟩ := hy
      have HX1 : Hid (IsX w11 (.agg #[.slice a1 a2 a3, .slice a4 a5 a6]) ([0, 0], [1, 2])) := ⟨_, _, _, _, _, _, rfl, hx1, hx2⟩
      have HY1 : Hid (IsX w11 (.agg #[.slice b1 b2 b3, .slice b4 b5 b6]) ([2, 0], [4, 2])) := ⟨_, _, _, _, _, _, rfl, hy1, hy2⟩
      clear hx1 hx2 hy1 hy2
      rw [exB_cut]
      clear hb
      have hc0 := HF.out.t1.two.c0
      have hc1 := HF.out.t1.two.c1
      clear hc0 hc1
      have hc0 := (HF.out.t1.below (show Below _ w11 ((w11.alloc (.cells #[.slice a1 a2 a3, .slice a4 a5 a6] 24)).alloc (.cells #[.slice b1 b2 b3, .slice b4 b5 b6] 24)) from (Below.andThen (below_new _ _) (below_new _ _)))).two.c0
      have hc1 := (HF.out.t1.below (show Below _ w11 ((w11.alloc (.cells #[.slice a1 a2 a3, .slice a4 a5 a6] 24)).alloc (.cells #[.slice b1 b2 b3, .slice b4 b5 b6] 24)) from (Below.andThen (below_new _ _) (below_new _ _)))).two.c1
      obtain ⟨ga, hga⟩ : ∃ ga, w11.heap.size = ga := ⟨_, rfl⟩
      have hga1 : w11.heap.size + 1 = ga + 1 := by rw [hga]
      have HTA := Lib.hid ((TwoX.new w11 (.slice a1 a2 a3) (.slice a4 a5 a6)).below (below_new _ (.cells #[.slice b1 b2 b3, .slice b4 b5 b6] 24)))
      have HTB := Lib.hid (TwoX.new (w11.alloc (.cells #[.slice a1 a2 a3, .slice a4 a5 a6] 24)) (.slice b1 b2 b3) (.slice b4 b5 b6))
      rw [hga] at HTA
      rw [size_new, hga] at HTB
      simp only
      go_wp2_with fail
      clear hc0 hc1
      refine (split_calls _ exB _ (HF.out.x.below (Below.andThen (below_new _ _) (below_new _ _)))).mono ?_
      rintro e w12 ⟨rfl, hb⟩
      replace HF := Lib.hid ((HF.out.below (Below.andThen (below_new _ _) (below_new _ _))).below hb)
      replace HTA := Lib.hid (HTA.out.below hb)
      replace HTB := Lib.hid (HTB.out.below hb)
      replace HX1 := Lib.hid ((HX1.out.below (Below.andThen (below_new _ _) (below_new _ _))).below hb)
      replace HY1 := Lib.hid ((HY1.out.below (Below.andThen (below_new _ _) (below_new _ _))).below hb)
      rw [san_s]
      clear hb
      have hc0 := HF.out.t1.two.c0
      have hc1 := HF.out.t1.two.c1
      go_wp2_with fail
      clear hc0 hc1
      refine (meet_calls _ _ exB ([5, 0], [5, 0]) _ (HF.out.x.below (Below.andThen (below_new _ _) (below_new _ _))) (isX_two _ _ rfl 5 0 5 0 (by decide) (by decide) (by decide) (by decide))).mono ?_
      rintro e w13 ⟨x, rfl, hx, hb⟩
      replace HF := Lib.hid ((HF.out.below (Below.andThen (below_new _ _) (below_new _ _))).below hb)
      replace HTA := Lib.hid ((HTA.out.below (Below.andThen (below_new _ _) (below_new _ _))).below hb)
      replace HTB := Lib.hid ((HTB.out.below (Below.andThen (below_new _ _) (below_new _ _))).below hb)
      replace HX1 := Lib.hid ((HX1.out.below (Below.andThen (below_new _ _) (below_new _ _))).below hb)
      replace HY1 := Lib.hid ((HY1.out.below (Below.andThen (below_new _ _) (below_new _ _))).below hb)
      rw [san_m] at hx
      rw [san_m]
      obtain ⟨m1, m2, m3, m4, m5, m6, rfl, _, _⟩ := hx
      clear hb
      have hc0 := (HF.out.t1.below (show Below _ w13 (w13.alloc (.cells #[.slice m1 m2 m3, .slice m4 m5 m6] 24)) from (below_new _ _))).two.c0
      have hc1 := (HF.out.t1.below (show Below _ w13 (w13.alloc (.cells #[.slice m1 m2 m3, .slice m4 m5 m6] 24)) from (below_new _ _))).two.c1
      go_wp2_with fail
      clear hc0 hc1
      refine (apart_calls 2 _ _ exB ([7, 5], [9, 9]) _ (HF.out.x.below (Below.andThen (Below.andThen (below_new _ _) (below_new _ _)) (below_new _ _))) (isX_two _ (w13.heap.size + 1) (by simp only [size_new]) 7 5 9 9 (by decide) (by decide) (by decide) (by decide))).mono ?_
      rintro e w14 ⟨rfl, hb⟩
      replace HF := Lib.hid ((HF.out.below (Below.andThen (Below.andThen (below_new _ _) (below_new _ _)) (below_new _ _))).below hb)
      replace HTA := Lib.hid ((HTA.out.below (Below.andThen (Below.andThen (below_new _ _) (below_new _ _)) (below_new _ _))).below hb)
      replace HTB := Lib.hid ((HTB.out.below (Below.andThen (Below.andThen (below_new _ _) (below_new _ _)) (below_new _ _))).below hb)
      replace HX1 := Lib.hid ((HX1.out.below (Below.andThen (Below.andThen (below_new _ _) (below_new _ _)) (below_new _ _))).below hb)
      replace HY1 := Lib.hid ((HY1.out.below (Below.andThen (Below.andThen (below_new _ _) (below_new _ _)) (below_new _ _))).below hb)
      rw [if_pos san_p, if_pos san_p, san_k]
      clear hb
      have hc0HTA := HTA.out.two.c0
      have hc1HTA := HTA.out.two.c1
      have hc0HTB := HTB.out.two.c0
      have hc1HTB := HTB.out.two.c1
      go_wp2_with fail
      clear hc0HTA hc1HTA hc0HTB hc1HTB
      refine (sameBox_calls _ _ ([0, 0], [1, 2]) ([0, 0], [1, 2]) _ (HX1.out.below (Below.andThen (below_new _ _) (below_new _ _))) (isX_two _ _ rfl 0 0 1 2 (by decide) (by decide) (by decide) (by decide))).mono ?_
      rintro e w15 ⟨rfl, hb⟩
      replace HF := Lib.hid ((HF.out.below (Below.andThen (below_new _ _) (below_new _ _))).below hb)
      replace HTA := Lib.hid ((HTA.out.below (Below.andThen (below_new _ _) (below_new _ _))).below hb)
      replace HTB := Lib.hid ((HTB.out.below (Below.andThen (below_new _ _) (below_new _ _))).below hb)
      replace HX1 := Lib.hid ((HX1.out.below (Below.andThen (below_new _ _) (below_new _ _))).below hb)
      replace HY1 := Lib.hid ((HY1.out.below (Below.andThen (below_new _ _) (below_new _ _))).below hb)
      rw [san_b1]
      clear hb
      have hc0HTA := HTA.out.two.c0
      have hc1HTA := HTA.out.two.c1
      have hc0HTB := HTB.out.two.c0
      have hc1HTB := HTB.out.two.c1
      go_wp2_with fail
      clear hc0HTA hc1HTA hc0HTB hc1HTB
      refine (sameBox_calls _ _ ([2, 0], [4, 2]) ([2, 0], [4, 2]) _ (HY1.out.below (Below.andThen (below_new _ _) (below_new _ _))) (isX_two _ _ rfl 2 0 4 2 (by decide) (by decide) (by decide) (by decide))).mono ?_
      rintro e w16 ⟨rfl, hb⟩
      replace HF := Lib.hid ((HF.out.below (Below.andThen (below_new _ _) (below_new _ _))).below hb)
      replace HTA := Lib.hid ((HTA.out.below (Below.andThen (below_new _ _) (below_new _ _))).below hb)
      replace HTB := Lib.hid ((HTB.out.below (Below.andThen (below_new _ _) (below_new _ _))).below hb)
      replace HX1 := Lib.hid ((HX1.out.below (Below.andThen (below_new _ _) (below_new _ _))).below hb)
      replace HY1 := Lib.hid ((HY1.out.below (Below.andThen (below_new _ _) (below_new _ _))).below hb)
      rw [san_b2]
      clear hb
      go_wp2_with fail
      go_ret
      exact ⟨rfl, HF.out.b⟩
    · have hj012 : j = 0 ∨ j = 1 ∨ j = 2 := by omega
      have hm1 := san_a j hj012
      have hw1 := san_n j hj012
      have hw2 := san_f j hj012
      obtain ⟨kn, hkn⟩ : ∃ kn : Int, keyf (j + 1) (difs bq.gap exB (exV, exV)) = kn := ⟨_, rfl⟩
      obtain ⟨kf, hkf⟩ : ∃ kf : Int, keyf (j + 1) (difs bq.reach exB (exV, exV)) = kf := ⟨_, rfl⟩
      rw [hkn] at hw1
      rw [hkf] at hw2
      have hlt : j < 3 := by omega
      go_wp2_with fail
      clear hc0 hc1
      refine (near_calls (j + 1) _ exB _ _ _ exV _ HF.out.x HF.out.v.is).mono ?_
      rintro e u1 ⟨rfl, hb⟩
      replace HF := Lib.hid (HF.out.below hb)
      clear hb
      rw [if_pos hm1, if_pos hm1, hkn]
      have hc0 := HF.out.t1.two.c0
      have hc1 := HF.out.t1.two.c1
      go_wp2_with fail
      clear hc0 hc1
      refine (far_calls (j + 1) _ exB _ _ _ exV _ HF.out.x HF.out.v.is).mono ?_
      rintro e u2 ⟨rfl, hb⟩
      replace HF := Lib.hid (HF.out.below hb)
      clear hb
      rw [if_pos hm1, if_pos hm1, hkf]
      have hk1 := HF.out.wn.at hw1
      have hk2 := HF.out.wn.at hw2
      go_wp2_with fail
      go_roundg (gk - 1)
      case measure => omega
      case rel => exact ⟨j + 1, by omega, by omega, by go_num, HF.out⟩
end Go.Proofs.Ytegoinkkcfbfaaa.bk
/- The reference's Inside. -/
namespace Go.Proofs.Ytegoinkkcfbfaaa.bk

open Go.ChangeShapes Go.WideShapes Go.ChangeAt Go.RowKit

open Go.Proofs.Ytegoinkkcfbfaaa.bq Go.Proofs.Ytegoinkkcfbfaaa.vk Go.Proofs.Ytegoinkkcfbfaaa.wk

set_option linter.unusedVariables false
theorem insidev (p q : Pair) : inside p q = (bvalid p && (bvalid q && (has q p.1 && has q p.2))) := by
  rw [Bool.eq_iff_iff]
  simp only [inside, Bool.and_eq_true, balike_iff, le_iff, bvalid_iff]
  constructor
  · rintro ⟨⟨⟨hl, hp, hq⟩, h1⟩, h2⟩
    have e1 := hp.len
    have e2 := hq.len
    refine ⟨hp, hq, (has_iff hq).2 ⟨hl, fun i hi => ?_⟩, (has_iff hq).2 ⟨by omega, fun i hi => ?_⟩⟩
    · have := h1 i hi; have := h2 i (by omega); have := hp.le i (by omega); omega
    · have := h1 i hi; have := h2 i (by omega); have := hp.le i (by omega); omega
  · rintro ⟨hp, hq, h1, h2⟩
    obtain ⟨hl, b1⟩ := (has_iff hq).1 h1
    obtain ⟨hl2, b2⟩ := (has_iff hq).1 h2
    exact ⟨⟨⟨hl, hp, hq⟩, fun i hi => (b1 i hi).1⟩, fun i hi => (b2 i (by omega)).2⟩
end Go.Proofs.Ytegoinkkcfbfaaa.bk
