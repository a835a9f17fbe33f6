/- The reference's small functions. -/
import Derived.Test.YtlcdjabfkfmpdaaBf

import Derived.BigQuiet

namespace Go.Proofs.Ytlcdjabfkfmpdaa.bk

open Go.ChangeShapes Go.WideShapes Go.ChangeAt Go.RowKit

open Go.Proofs.Ytlcdjabfkfmpdaa.bq Go.Proofs.Ytlcdjabfkfmpdaa.vk Go.Proofs.Ytlcdjabfkfmpdaa.wk

set_option linter.unusedVariables false
theorem dr_add (w : World) (a b : Nat) : (w.drewN a).drewN b = w.drewN (a + b) := World.drewN_drewN ..
theorem below_dr {B : Nat} {a w : World} (h : Below B a w) (q : Nat) : Below B a (w.drewN q) := ⟨h.os, h.tape, h.output, h.size, h.block⟩
theorem isI_dr {w : World} {A : Option Addr} {n c : Nat} {l : List Int} (h : wo.IsI w A n c l) (q : Nat) : wo.IsI (w.drewN q) A n c l := h
def metricB (m : Int) : Bool := decide (1 ≤ m) && decide (m ≤ 3)
set_option maxRecDepth 100000 in
theorem rvector_calls (A : Option Addr) (n c : Nat) (l : List Int) (w : World) (h : wo.IsI w A n c l) :
    Calls Try.prog 35 #[.slice A n c] w fun e w' => e = .returned (.bool (vq.valid l)) ∧ w' = w := by
  have hl := h.1
  have hm := h.2.2.1
  have hnc := h.2.1
  have H := Lib.hid h
  have HL := Lib.hid hl
  clear h hl
  go_enter Try.func35, Try.ntmps35
  go_wp2_with fail
  go_loopg [3] n (fun g x wr => ∃ k : Nat, k + g = n ∧ x = .int .i64 (k : Int) ∧ wr = w ∧ (l.take k).all vq.okc = true)
  case atStart => exact ⟨0, by omega, rfl, rfl, by simp⟩
  case round =>
    obtain ⟨k, hk, rfl, rfl, hr⟩ := hrel
    have HK := Lib.hid hk
    have HR := Lib.hid hr
    have hkn : k ≤ n := by omega
    clear hk hr
    by_cases hlt : k < n
    · obtain ⟨b, o, rfl, hc, hb⟩ := isI_get H.out hlt
      have hlt0 : (k : Int) < (n : Int) := by omega
      have HX : Hid (l[k]? = some (at' l k)) := of_at (by rw [HL.out]; exact hlt)
      generalize at' l k = x at *
      by_cases h1 : -1000 ≤ x
      · by_cases h2 : x ≤ 1000
        · go_wp2_with fail
          go_roundg (gk - 1)
          case measure => have := HK.out; omega
          case rel =>
            refine ⟨k + 1, by have := HK.out; omega, by go_num, rfl, ?_⟩
            rw [vq.take_snoc HX.out, List.all_append, HR.out]
            simp [vq.okc, h1, h2]
        · have HV : Hid (vq.valid l = false) := by
            show _ = _
            have h0 : l.all vq.okc = false := by
              rw [List.all_eq_false]
              exact ⟨x, List.mem_of_getElem? HX.out, by simp [vq.okc, h2]⟩
            simp [vq.valid, h0]
          go_wp2_with fail
          go_ret
          exact ⟨by rw [HV.out]; rfl, rfl⟩
      · have HV : Hid (vq.valid l = false) := by
          show _ = _
          have h0 : l.all vq.okc = false := by
            rw [List.all_eq_false]
            exact ⟨x, List.mem_of_getElem? HX.out, by simp [vq.okc, h1]⟩
          simp [vq.valid, h0]
        go_wp2_with fail
        go_ret
        exact ⟨by rw [HV.out]; rfl, rfl⟩
    · have hall := HR.out
      rw [List.take_of_length_le (by have := HL.out; omega)] at hall
      have HV : Hid (vq.valid l = (decide (1 ≤ n) && decide (n ≤ 32))) := by show _ = _; simp [vq.valid, hall, HL.out]
      clear hall
      by_cases h1 : 1 ≤ n
      · go_wp2_with fail
        go_ret
        refine ⟨?_, rfl⟩
        rw [HV.out]
        congr 2
        simp [h1]
        omega
      · go_wp2_with fail
        go_ret
        refine ⟨?_, rfl⟩
        rw [HV.out]
        congr 2
        simp [h1]
set_option maxRecDepth 100000 in
theorem rmetric_calls (m : Int) (w : World) : Calls Try.prog 36 #[.int .i64 m] w fun e w' => e = .returned (.bool (metricB m)) ∧ w' = w := by
  unfold metricB
  by_cases h1 : 1 ≤ m
  · by_cases h2 : m ≤ 3
    · go_enter Try.func36, Try.ntmps36
      go_wp2_with fail
      go_ret
      refine ⟨?_, rfl⟩
      congr 2
      simp [h1, h2]
    · go_enter Try.func36, Try.ntmps36
      go_wp2_with fail
      go_ret
      refine ⟨?_, rfl⟩
      congr 2
      simp [h2] <;> omega
  · go_enter Try.func36, Try.ntmps36
    go_wp2_with fail
    go_ret
    refine ⟨?_, rfl⟩
    congr 2
    simp <;> omega
set_option maxRecDepth 100000 in
set_option maxHeartbeats 1000000 in
theorem same_calls (A A' : Option Addr) (n c n' c' : Nat) (a b : List Int) (w : World) (h : wo.IsI w A n c a) (h' : wo.IsI w A' n' c' b) :
    Calls Try.prog 47 #[.slice A n c, .slice A' n' c'] w fun e w' => e = .returned (.bool (a == b)) ∧ ∃ q, w' = w.drewN q := by
  have hm := h.2.2.1
  have hm' := h'.2.2.1
  have hnc := h.2.1
  have hnc' := h'.2.1
  have H := Lib.hid h
  have H' := Lib.hid h'
  clear h h'
  by_cases hnn : n = n'
  · subst hnn
    go_enter Try.func47, Try.ntmps47
    go_wp2_with fail
    go_loopg [5] n (fun g x wr => ∃ k q : Nat, k + g = n ∧ x = .int .i64 (k : Int) ∧ wr = w.drewN q ∧ ∀ i, i < k → at' a i = at' b i)
    case atStart => exact ⟨0, 0, by omega, rfl, rfl, fun i hi => by omega⟩
    case round =>
      obtain ⟨k, q, hk, rfl, rfl, hr⟩ := hrel
      have HK := Lib.hid hk
      have HR := Lib.hid hr
      have hkn : k ≤ n := by omega
      clear hk hr
      by_cases hlt : k < n
      · obtain ⟨b1, o1, rfl, hc1, hb1⟩ := isI_get H.out hlt
        obtain ⟨b2, o2, rfl, hc2, hb2⟩ := isI_get H'.out hlt
        have hlt0 : (k : Int) < (n : Int) := by omega
        by_cases he : at' a k = at' b k
        · have hxe := Lib.hid he
          rw [← he] at hc2
          generalize hxk : at' a k = x at *
          have HXK := Lib.hid hxk
          clear he hxk
          go_wp2_with fail
          go_quiet (fail)
          go_wp2_with fail
          go_roundg (gk - 1)
          case measure => have := HK.out; omega
          case rel =>
            refine ⟨k + 1, _, by have := HK.out; omega, by go_num, by first | rfl | exact dr_add _ _ _, fun i hi => ?_⟩
            by_cases hik : i = k
            · subst hik; rw [HXK.out]; exact hxe.out
            · exact HR.out i (by omega)
        · have HN : Hid ((a == b) = false) := by
            show _ = _
            rw [beq_eq_false_iff_ne]
            intro hab
            exact he (by rw [hab])
          generalize at' a k = x at *
          generalize at' b k = y at *
          go_wp2_with fail
          go_quiet (fail)
          go_wp2_with fail
          go_ret
          exact ⟨by rw [HN.out]; rfl, _, by first | rfl | exact dr_add _ _ _⟩
      · obtain rfl : k = n := by omega
        have HE : Hid ((a == b) = true) := by
          show _ = _
          rw [beq_iff_eq]
          exact ext_at (by rw [H.out.1, H'.out.1]) (fun i hi => HR.out i (by rw [H.out.1] at hi; exact hi))
        go_wp2_with fail
        go_ret
        exact ⟨by rw [HE.out]; rfl, q, rfl⟩
  · have HN : Hid ((a == b) = false) := by
      show _ = _
      rw [beq_eq_false_iff_ne]
      intro hab
      exact hnn (by rw [← H.out.1, ← H'.out.1, hab])
    go_enter Try.func47, Try.ntmps47
    go_wp2_with fail
    go_ret
    exact ⟨by rw [HN.out]; rfl, 0, rfl⟩
set_option maxRecDepth 100000 in
theorem few_calls (v : Value) (p : Pair) (w : World) (h : IsX w v p) :
    Calls Try.prog 10 #[v] w fun e w' => e = .returned (.bool (decide (p.1.length ≤ 40) && decide (p.2.length ≤ 40))) ∧ Below w.heap.size w w' := by
  obtain ⟨A, n, c, A', n', c', rfl, hi, hi'⟩ := h
  rw [hi.1, hi'.1]
  have hm := hi.2.2.1
  have hm' := hi'.2.2.1
  have hn := hi.2.1
  have hn' := hi'.2.1
  have HB0 := Lib.hid (below_new w (.cells #[.slice A n c, .slice A' n' c'] 25))
  clear hi hi'
  by_cases h1 : n ≤ 40
  · by_cases h2 : n' ≤ 40
    all_goals
      go_enter Try.func10, Try.ntmps10
      go_wp2_with fail
      go_ret
      refine ⟨?_, HB0.out⟩
      congr 2
      simp [h1, h2] <;> omega
  · go_enter Try.func10, Try.ntmps10
    go_wp2_with fail
    go_ret
    exact ⟨by simp [h1] <;> omega, HB0.out⟩
def sameB (p q : Pair) : Bool := p.1 == q.1 && p.2 == q.2
set_option maxRecDepth 100000 in
theorem sameBox_calls (v u : Value) (p q : Pair) (w : World) (h : IsX w v p) (h2 : IsX w u q) :
    Calls Try.prog 18 #[v, u] w fun e w' => e = .returned (.bool (sameB p q)) ∧ Below w.heap.size w w' := by
  obtain ⟨A, n, c, A', n', c', rfl, hi, hi'⟩ := h
  obtain ⟨A2, n2, c2, A2', n2', c2', rfl, hi2, hi2'⟩ := h2
  have hb := Below.andThen (below_new w (.cells #[.slice A n c, .slice A' n' c'] 25)) (below_new _ (.cells #[.slice A2 n2 c2, .slice A2' n2' c2'] 25))
  have HS1 := Lib.hid (same_calls A A2 n c n2 c2 p.1 q.1 _ (isI_below hi hb) (isI_below hi2 hb))
  have HS2 := Lib.hid (fun qq => same_calls A' A2' n' c' n2' c2' p.2 q.2 _ (isI_dr (isI_below hi' hb) qq) (isI_dr (isI_below hi2' hb) qq))
  have HB := Lib.hid hb
  unfold sameB
  clear hi hi' hi2 hi2' hb
  cases h1 : p.1 == q.1
  · rw [h1] at HS1
    go_enter Try.func18, Try.ntmps18
    go_wp2_with fail
    refine HS1.out.mono ?_
    rintro e w1 ⟨rfl, qq, rfl⟩
    go_wp2_with fail
    go_ret
    exact ⟨rfl, below_dr HB.out _⟩
  · rw [h1] at HS1
    rw [Bool.true_and]
    go_enter Try.func18, Try.ntmps18
    go_wp2_with fail
    refine HS1.out.mono ?_
    rintro e w1 ⟨rfl, qq, rfl⟩
    go_wp2_with fail
    refine (HS2.out qq).mono ?_
    rintro e w2 ⟨rfl, qq2, rfl⟩
    go_wp2_with fail
    go_ret
    exact ⟨rfl, below_dr HB.out _⟩
end Go.Proofs.Ytlcdjabfkfmpdaa.bk
