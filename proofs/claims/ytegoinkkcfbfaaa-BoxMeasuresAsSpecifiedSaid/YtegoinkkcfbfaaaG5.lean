/- Joined: Bp Bq Val6 Br Bt Bs Bh Bi. -/
import Derived.Test.YtegoinkkcfbfaaaG4

import Derived.BigQuiet

import Derived.Lib.MinMax

import Derived.Laws.EntriesVeiled
/- The reference's small functions. -/
namespace Go.Proofs.Ytegoinkkcfbfaaa.bk

open Go.ChangeShapes Go.WideShapes Go.ChangeAt Go.RowKit

open Go.Proofs.Ytegoinkkcfbfaaa.bq Go.Proofs.Ytegoinkkcfbfaaa.vk Go.Proofs.Ytegoinkkcfbfaaa.wk

set_option linter.unusedVariables false
theorem dr_add (w : World) (a b : Nat) : (w.drewN a).drewN b = w.drewN (a + b) := World.drewN_drewN ..
theorem below_dr {B : Nat} {a w : World} (h : Below B a w) (q : Nat) : Below B a (w.drewN q) := ⟨h.os, h.tape, h.output, h.size, h.block⟩
theorem isI_dr {w : World} {A : Option Addr} {n c : Nat} {l : List Int} (h : wo.IsI w A n c l) (q : Nat) : wo.IsI (w.drewN q) A n c l := h
def metricB (m : Int) : Bool := decide (1 ≤ m) && decide (m ≤ 3)
set_option maxRecDepth 100000 in
theorem rvector_calls (A : Option Addr) (n c : Nat) (l : List Int) (w : World) (h : wo.IsI w A n c l) :
    Calls Try.prog 77 #[.slice A n c] w fun e w' => e = .returned (.bool (vq.valid l)) ∧ w' = w := by
  have hl := h.1
  have hm := h.2.2.1
  have hnc := h.2.1
  have H := Lib.hid h
  have HL := Lib.hid hl
  clear h hl
  go_enter Try.func77, Try.ntmps77
  go_wp2_with fail
  go_loopg [3] n (fun g x wr => ∃ k : Nat, k + g = n ∧ x = .int .i64 (k : Int) ∧ wr = w ∧ (l.take k).all vq.okc = true)
  case atStart => exact ⟨0, by omega, rfl, rfl, by simp⟩
  case round =>
    obtain ⟨k, hk, rfl, rfl, hr⟩ := hrel
    have HK := Lib.hid hk
    have HR := Lib.hid hr
    have hkn : k ≤ n := by omega
    clear hk hr
    by_cases hlt : k < n
    · obtain ⟨b, o, rfl, hc, hb⟩ := isI_get H.out hlt
      have hlt0 : (k : Int) < (n : Int) := by omega
      have HX : Hid (l[k]? = some (at' l k)) := of_at (by rw [HL.out]; exact hlt)
      generalize at' l k = x at *
      by_cases h1 : -1000 ≤ x
      · by_cases h2 : x ≤ 1000
        · go_wp2_with fail
          go_roundg (gk - 1)
          case measure => have := HK.out; omega
          case rel =>
            refine ⟨k + 1, by have := HK.out; omega, by go_num, rfl, ?_⟩
            rw [vq.take_snoc HX.out, List.all_append, HR.out]
            simp [vq.okc, h1, h2]
        · have HV : Hid (vq.valid l = false) := by
            show _ = _
            have h0 : l.all vq.okc = false := by
              rw [List.all_eq_false]
              exact ⟨x, List.mem_of_getElem? HX.out, by simp [vq.okc, h2]⟩
            simp [vq.valid, h0]
          go_wp2_with fail
          go_ret
          exact ⟨by rw [HV.out]; rfl, rfl⟩
      · have HV : Hid (vq.valid l = false) := by
          show _ = _
          have h0 : l.all vq.okc = false := by
            rw [List.all_eq_false]
            exact ⟨x, List.mem_of_getElem? HX.out, by simp [vq.okc, h1]⟩
          simp [vq.valid, h0]
        go_wp2_with fail
        go_ret
        exact ⟨by rw [HV.out]; rfl, rfl⟩
    · have hall := HR.out
      rw [List.take_of_length_le (by have := HL.out; omega)] at hall
      have HV : Hid (vq.valid l = (decide (1 ≤ n) && decide (n ≤ 32))) := by show _ = _; simp [vq.valid, hall, HL.out]
      clear hall
      by_cases h1 : 1 ≤ n
      · go_wp2_with fail
        go_ret
        refine ⟨?_, rfl⟩
        rw [HV.out]
        congr 2
        simp [h1]
        omega
      · go_wp2_with fail
        go_ret
        refine ⟨?_, rfl⟩
        rw [HV.out]
        congr 2
        simp [h1]
set_option maxRecDepth 100000 in
theorem rmetric_calls (m : Int) (w : World) : Calls Try.prog 42 #[.int .i64 m] w fun e w' => e = .returned (.bool (metricB m)) ∧ w' = w := by
  unfold metricB
  by_cases h1 : 1 ≤ m
  · by_cases h2 : m ≤ 3
    · go_enter Try.func42, Try.ntmps42
      go_wp2_with fail
      go_ret
      refine ⟨?_, rfl⟩
      congr 2
      simp [h1, h2]
    · go_enter Try.func42, Try.ntmps42
      go_wp2_with fail
      go_ret
      refine ⟨?_, rfl⟩
      congr 2
      simp [h2] <;> omega
  · go_enter Try.func42, Try.ntmps42
    go_wp2_with fail
    go_ret
    refine ⟨?_, rfl⟩
    congr 2
    simp <;> omega
set_option maxRecDepth 100000 in
set_option maxHeartbeats 1000000 in
theorem same_calls (A A' : Option Addr) (n c n' c' : Nat) (a b : List Int) (w : World) (h : wo.IsI w A n c a) (h' : wo.IsI w A' n' c' b) :
    Calls Try.prog 45 #[.slice A n c, .slice A' n' c'] w fun e w' => e = .returned (.bool (a == b)) ∧ ∃ q, w' = w.drewN q := by
  have hm := h.2.2.1
  have hm' := h'.2.2.1
  have hnc := h.2.1
  have hnc' := h'.2.1
  have H := Lib.hid h
  have H' := Lib.hid h'
  clear h h'
  by_cases hnn : n = n'
  · subst hnn
    go_enter Try.func45, Try.ntmps45
    go_wp2_with fail
    go_loopg [5] n (fun g x wr => ∃ k q : Nat, k + g = n ∧ x = .int .i64 (k : Int) ∧ wr = w.drewN q ∧ ∀ i, i < k → at' a i = at' b i)
    case atStart => exact ⟨0, 0, by omega, rfl, rfl, fun i hi => by omega⟩
    case round =>
      obtain ⟨k, q, hk, rfl, rfl, hr⟩ := hrel
      have HK := Lib.hid hk
      have HR := Lib.hid hr
      have hkn : k ≤ n := by omega
      clear hk hr
      by_cases hlt : k < n
      · obtain ⟨b1, o1, rfl, hc1, hb1⟩ := isI_get H.out hlt
        obtain ⟨b2, o2, rfl, hc2, hb2⟩ := isI_get H'.out hlt
        have hlt0 : (k : Int) < (n : Int) := by omega
        by_cases he : at' a k = at' b k
        · have hxe := Lib.hid he
          rw [← he] at hc2
          generalize hxk : at' a k = x at *
          have HXK := Lib.hid hxk
          clear he hxk
          go_wp2_with fail
          go_quiet (fail)
          go_wp2_with fail
          go_roundg (gk - 1)
          case measure => have := HK.out; omega
          case rel =>
            refine ⟨k + 1, _, by have := HK.out; omega, by go_num, by first | rfl | exact dr_add _ _ _, fun i hi => ?_⟩
            by_cases hik : i = k
            · subst hik; rw [HXK.out]; exact hxe.out
            · exact HR.out i (by omega)
        · have HN : Hid ((a == b) = false) := by
            show _ = _
            rw [beq_eq_false_iff_ne]
            intro hab
            exact he (by rw [hab])
          generalize at' a k = x at *
          generalize at' b k = y at *
          go_wp2_with fail
          go_quiet (fail)
          go_wp2_with fail
          go_ret
          exact ⟨by rw [HN.out]; rfl, _, by first | rfl | exact dr_add _ _ _⟩
      · obtain rfl : k = n := by omega
        have HE : Hid ((a == b) = true) := by
          show _ = _
          rw [beq_iff_eq]
          exact ext_at (by rw [H.out.1, H'.out.1]) (fun i hi => HR.out i (by rw [H.out.1] at hi; exact hi))
        go_wp2_with fail
        go_ret
        exact ⟨by rw [HE.out]; rfl, q, rfl⟩
  · have HN : Hid ((a == b) = false) := by
      show _ = _
      rw [beq_eq_false_iff_ne]
      intro hab
      exact hnn (by rw [← H.out.1, ← H'.out.1, hab])
    go_enter Try.func45, Try.ntmps45
    go_wp2_with fail
    go_ret
    exact ⟨by rw [HN.out]; rfl, 0, rfl⟩
set_option maxRecDepth 100000 in
theorem few_calls (v : Value) (p : Pair) (w : World) (h : IsX w v p) :
    Calls Try.prog 5 #[v] w fun e w' => e = .returned (.bool (decide (p.1.length ≤ 40) && decide (p.2.length ≤ 40))) ∧ Below w.heap.size w w' := by
  obtain ⟨A, n, c, A', n', c', rfl, hi, hi'⟩ := h
  rw [hi.1, hi'.1]
  have hm := hi.2.2.1
  have hm' := hi'.2.2.1
  have hn := hi.2.1
  have hn' := hi'.2.1
  have HB0 := Lib.hid (below_new w (.cells #[.slice A n c, .slice A' n' c'] 24))
  clear hi hi'
  by_cases h1 : n ≤ 40
  · by_cases h2 : n' ≤ 40
    all_goals
      go_enter Try.func5, Try.ntmps5
      go_wp2_with fail
      go_ret
      refine ⟨?_, HB0.out⟩
      congr 2
      simp [h1, h2] <;> omega
  · go_enter Try.func5, Try.ntmps5
    go_wp2_with fail
    go_ret
    exact ⟨by simp <;> omega, HB0.out⟩
def sameB (p q : Pair) : Bool := p.1 == q.1 && p.2 == q.2
set_option maxRecDepth 100000 in
theorem sameBox_calls (v u : Value) (p q : Pair) (w : World) (h : IsX w v p) (h2 : IsX w u q) :
    Calls Try.prog 17 #[v, u] w fun e w' => e = .returned (.bool (sameB p q)) ∧ Below w.heap.size w w' := by
  obtain ⟨A, n, c, A', n', c', rfl, hi, hi'⟩ := h
  obtain ⟨A2, n2, c2, A2', n2', c2', rfl, hi2, hi2'⟩ := h2
  have hb := Below.andThen (below_new w (.cells #[.slice A n c, .slice A' n' c'] 24)) (below_new _ (.cells #[.slice A2 n2 c2, .slice A2' n2' c2'] 24))
  have HS1 := Lib.hid (same_calls A A2 n c n2 c2 p.1 q.1 _ (isI_below hi hb) (isI_below hi2 hb))
  have HS2 := Lib.hid (fun qq => same_calls A' A2' n' c' n2' c2' p.2 q.2 _ (isI_dr (isI_below hi' hb) qq) (isI_dr (isI_below hi2' hb) qq))
  have HB := Lib.hid hb
  unfold sameB
  clear hi hi' hi2 hi2' hb
  cases h1 : p.1 == q.1
  · rw [h1] at HS1
    go_enter Try.func17, Try.ntmps17
    go_wp2_with fail
    refine HS1.out.mono ?_
    rintro e w1 ⟨rfl, qq, rfl⟩
    go_wp2_with fail
    go_ret
    exact ⟨rfl, below_dr HB.out _⟩
  · rw [h1] at HS1
    rw [Bool.true_and]
    go_enter Try.func17, Try.ntmps17
    go_wp2_with fail
    refine HS1.out.mono ?_
    rintro e w1 ⟨rfl, qq, rfl⟩
    go_wp2_with fail
    refine (HS2.out qq).mono ?_
    rintro e w2 ⟨rfl, qq2, rfl⟩
    go_wp2_with fail
    go_ret
    exact ⟨rfl, below_dr HB.out _⟩
end Go.Proofs.Ytegoinkkcfbfaaa.bk
/- The reference's Key, Nearest, Farthest; the law's inner. -/
namespace Go.Proofs.Ytegoinkkcfbfaaa.bk

open Go.ChangeShapes Go.WideShapes Go.ChangeAt Go.RowKit

open Go.Proofs.Ytegoinkkcfbfaaa.bq Go.Proofs.Ytegoinkkcfbfaaa.vk Go.Proofs.Ytegoinkkcfbfaaa.wk

set_option linter.unusedVariables false
theorem dists_snoc (a b : List Int) {k : Nat} (hk : k < a.length) : (dists a b).take (k + 1) = (dists a b).take k ++ [max (at' a k - at' b k) (at' b k - at' a k)] := by
  rw [List.take_add_one]
  congr 1
  simp [dists, hk]
set_option maxRecDepth 100000 in
set_option maxHeartbeats 4000000 in
theorem rkey_calls (m : Int) (hmm : m = 1 ∨ m = 2 ∨ m = 3) (A A' : Option Addr) (n c n' c' : Nat) (a b : List Int) (w : World) (h : wo.IsI w A n c a) (h' : wo.IsI w A' n' c' b) (hnn : n ≤ n') (hn : n ≤ 32)
    (hd : ∀ i, i < n → -4000 ≤ at' a i ∧ at' a i ≤ 4000 ∧ -4000 ≤ at' b i ∧ at' b i ≤ 4000 ∧ at' a i - at' b i ≤ 2000 ∧ at' b i - at' a i ≤ 2000) :
    Calls Try.prog 39 #[.int .i64 m, .slice A n c, .slice A' n' c'] w fun e w' => e = .returned (.int .i64 (keyf m (dists a b))) ∧ ∃ q, w' = w.drewN q := by
  have hm := h.2.2.1
  have hm' := h'.2.2.1
  have hnc := h.2.1
  have hnc' := h'.2.1
  have H := Lib.hid h
  have H' := Lib.hid h'
  have HD := Lib.hid hd
  have HKB : Hid (∀ k, k ≤ n → 0 ≤ keyf m ((dists a b).take k) ∧ keyf m ((dists a b).take k) ≤ 4000000 * k) := by
    intro k hk
    have h1 := keyf_bd m ((dists a b).take k) (fun d hd' => by
      have h2 := List.mem_of_mem_take hd'
      simp only [dists, List.mem_map, List.mem_range] at h2
      obtain ⟨i, hi, rfl⟩ := h2
      have := HD.out i (by rw [H.out.1] at hi; exact hi)
      omega)
    have h2 : ((dists a b).take k).length = k := by rw [List.length_take, dists, List.length_map, List.length_range, H.out.1]; omega
    rw [h2] at h1
    exact h1
  obtain ⟨KV, hKV⟩ : ∃ KV, keyf m (dists a b) = KV := ⟨_, rfl⟩
  rw [hKV]
  have HKV := Lib.hid hKV
  clear h h' hd hKV
  go_enter Try.func39, Try.ntmps39
  go_wp2_with fail
  go_loopg [7, 8] n (fun g v x wr => ∃ k q : Nat, k + g = n ∧ x = .int .i64 (k : Int) ∧ wr = w.drewN q ∧ v = .int .i64 (keyf m ((dists a b).take k)))
  case atStart => exact ⟨0, 0, by omega, rfl, rfl, rfl⟩
  case round =>
    obtain ⟨k, q, hk, rfl, rfl, rfl⟩ := hrel
    have HK := Lib.hid hk
    have hkn : k ≤ n := by omega
    have hkb := HKB.out k hkn
    clear hk
    by_cases hlt : k < n
    · obtain ⟨b1, o1, rfl, hc1, hb1⟩ := isI_get H.out hlt
      obtain ⟨b2, o2, rfl, hc2, hb2⟩ := isI_get H'.out (show k < n' by omega)
      have hlt0 : (k : Int) < (n : Int) := by omega
      have hlt1 : (k : Int) < (n' : Int) := by omega
      have hkk : k < n' := by omega
      have hdk := HD.out k hlt
      have HS : Hid ((dists a b).take (k + 1) = (dists a b).take k ++ [max (at' a k - at' b k) (at' b k - at' a k)]) := dists_snoc a b (by rw [H.out.1]; exact hlt)
      generalize (dists a b).take k = ds at *
      generalize at' a k = x at *
      generalize at' b k = y at *
      obtain ⟨d, hdd⟩ : ∃ d, max (x - y) (y - x) = d := ⟨_, rfl⟩
      have hd0 : 0 ≤ d ∧ d ≤ 2000 := by omega
      have hdq : 0 ≤ d * d ∧ d * d ≤ 4000000 := ⟨Int.mul_nonneg hd0.1 hd0.1, by have := Int.mul_le_mul hd0.2 hd0.2 hd0.1 (by omega); omega⟩
      have hks : keyf m (ds ++ [d]) = bq.step m (keyf m ds) d := keyf_snoc _ _ _
      have HS2 : Hid ((dists a b).take (k + 1) = ds ++ [d]) := by show _ = _; rw [HS.out, hdd]
      have HKS := Lib.hid hks
      clear hks HS
      generalize hks0 : keyf m ds = s at *
      clear hks0
      obtain ⟨mx, hmx⟩ : ∃ mx, max s d = mx := ⟨_, rfl⟩
      rcases hmm with rfl | rfl | rfl
      · have HST : Hid (bq.step 1 s d = s + d) := rfl
        go_wp2_with fail
        go_quiet (fail)
        go_wp2_with fail
        go_roundg (gk - 1)
        case measure => have := HK.out; omega
        case rel => exact ⟨k + 1, _, by have := HK.out; omega, by go_num, by first | rfl | exact dr_add _ _ _, by rw [HS2.out, HKS.out, HST.out]⟩
      · have HST : Hid (bq.step 2 s d = s + d * d) := rfl
        go_wp2_with fail
        go_quiet (fail)
        go_wp2_with fail
        go_roundg (gk - 1)
        case measure => have := HK.out; omega
        case rel => exact ⟨k + 1, _, by have := HK.out; omega, by go_num, by first | rfl | exact dr_add _ _ _, by rw [HS2.out, HKS.out, HST.out]⟩
      · have HST : Hid (bq.step 3 s d = mx) := hmx
        go_wp2_with fail
        go_quiet (fail)
        go_wp2_with fail
        go_roundg (gk - 1)
        case measure => have := HK.out; omega
        case rel => exact ⟨k + 1, _, by have := HK.out; omega, by go_num, by first | rfl | exact dr_add _ _ _, by rw [HS2.out, HKS.out, HST.out]⟩
    · have hkv := HKV.out
      rw [← List.take_of_length_le (l := dists a b) (i := k) (by rw [dists, List.length_map, List.length_range, H.out.1]; omega)] at hkv
      have HKW := Lib.hid hkv
      clear hkv
      generalize keyf m ((dists a b).take k) = kk at *
      go_wp2_with fail
      go_ret
      exact ⟨by rw [← HKW.out]; rfl, q, rfl⟩
end Go.Proofs.Ytegoinkkcfbfaaa.bk
/- A region whose tail writes a slot that its first operations read. No program here. -/
namespace Go.Proofs.Ytegoinkkcfbfaaa.wk

open Go.RowKit

set_option linter.unusedVariables false

section

variable {P : Program} {ops : Array Oper} {Q : Exit → Act → World → Prop}
/-- none of the first k operations writes this slot -/
def unwK (ops : Array Oper) (k s : Nat) : Bool := (List.range k).all fun i => dstOf ops i != some s
theorem vinv_stepK {a0 : Act} {B : World} {k : Nat} (R : List SP) (hap : apart ops a0.tmps.size = true) (hg : guardedS ops R k = true) (hsk : ∀ i, i < k → skips ops R i = true → R.getD i SP.any = .is undef) {L : Nat → Bool} {a : Act} {w : World} {i : Nat} {o : Oper} (hik : i < k) (hI : VInv ops R B a0 L a w) (ho : ops[i]? = some o) (hLi : L i = false) (hdep : ∀ e ∈ o.after, Region.binds .any e = true → L e.on = true) (hno : ∀ j, k ≤ j → L j = false)
    (hstep : skips ops R i = false → ∀ E w, Below B.heap.size B w → Due ops R a0 o E w → (∀ s, unwK ops k s = true → E (.tmp s) = a0.eval (.tmp s)) → Does P Q o E w (R.getD i SP.any).has) :
    wpOp P ops Q i (fun a' w' => VInv ops R B a0 (fun j => if j = i then true else L j) a' w') a w := by
  have hio : i < ops.size := (Array.getElem?_eq_some_iff.1 ho).1
  have hdv : ∀ e ∈ o.after, Region.binds .any e = true → ∃ v, (R.getD e.on SP.any).has w v ∧ ∀ d, dstOf ops e.on = some d → a.tmps[d]? = some v := fun e he hb => hI.vals e.on (hdep e he hb)
  have hfin : ∀ v w', Below w.heap.size w w' → (R.getD i SP.any).has w' v → VInv ops R B a0 (fun j => if j = i then true else L j) (a.put o.dst v) w' := fun v w' hb hR => by
    have hB := hI.below.trans (hb.mono hI.below.size)
    have hdo : dstOf ops i = o.dst := by unfold dstOf; rw [ho]; rfl
    refine ⟨hB, ?_, ?_, fun j hj => ?_, fun k hk => ?_⟩
    · cases hd : o.dst <;> exact hI.defers
    · cases hd : o.dst <;> simp only [Act.put, Array.size_setIfInBounds] <;> exact hI.size
    · by_cases hji : j = i
      · subst hji
        refine ⟨v, hR, fun d hd => ?_⟩
        rw [hdo] at hd
        have hlt := apart_lt hap hio (by rw [hdo]; exact hd)
        rw [hd]
        show (a.tmps.setIfInBounds d v)[d]? = some v
        rw [Array.getElem?_setIfInBounds, if_pos rfl, if_pos (by rw [hI.size]; exact hlt)]
      · rw [if_neg hji] at hj
        obtain ⟨u, hu, hud⟩ := hI.vals j hj
        refine ⟨u, SP.has_below hu hb, fun d hd => ?_⟩
        cases hod : o.dst with
        | none => exact hud d hd
        | some d' =>
          have hne : d' ≠ d := fun e => hji (apart_ne hap (dst_lt hd) hio hd (by rw [hdo, hod, e]))
          show (a.tmps.setIfInBounds d' v)[d]? = some u
          rw [Array.getElem?_setIfInBounds, if_neg hne]
          exact hud d hd
    · have hk' : ∀ j, L j = true → dstOf ops j ≠ some k := fun j hj => hk j (by by_cases h : j = i <;> simp [h, hj])
      have hki : o.dst ≠ some k := by rw [← hdo]; exact hk i (by simp)
      cases hod : o.dst with
      | none => exact hI.rest k hk'
      | some d' =>
        have hne : d' ≠ k := fun e => hki (by rw [hod, e])
        show (a.tmps.setIfInBounds d' v)[k]? = _
        rw [Array.getElem?_setIfInBounds, if_neg hne]
        exact hI.rest k hk'
  by_cases hs : skips ops R i = true
  · have hw : Region.wanted o (yielded ops a.tmps) = false := by
      have h1 := List.all_eq_true.1 hg i (List.mem_range.2 hik)
      unfold skips at hs
      simp only [ho] at h1 hs
      unfold Region.wanted
      cases hgd : o.guard with
      | none => rw [hgd] at hs; cases hs
      | some x =>
        obtain ⟨j, want⟩ := x
        simp only [hgd, Bool.and_eq_true] at h1 hs
        obtain ⟨⟨_, hsm⟩, h2⟩ := h1
        obtain ⟨ix, hix, h3⟩ := Array.any_eq_true.1 h2
        have he : o.after[ix] ∈ o.after := Array.getElem_mem hix
        generalize o.after[ix] = e at *
        simp only [Bool.and_eq_true, beq_iff_eq] at h3
        obtain ⟨h3, h4⟩ := h3
        obtain ⟨v, hv, hd⟩ := hdv e he h4
        rw [h3] at hv hd
        have hvb : v = .bool (!want) := by
          cases hr : R.getD j SP.any with
          | is x =>
            rw [hr] at hs hv
            cases x <;> simp only [SP.bool?, Bool.false_eq_true] at hs
            rename_i bb
            have hbb : bb = !want := by cases bb <;> cases want <;> simp_all
            rw [hbb] at hv
            exact hv
          | st p hp => rw [hr] at hs; simp [SP.bool?] at hs
        obtain ⟨d, hdj⟩ := Option.isSome_iff_exists.1 hsm
        have hy : yielded ops a.tmps j = some (!want) := by
          unfold yielded
          have e1 : (ops[j]?).bind (·.dst) = some d := hdj
          rw [e1]
          simp only [Option.bind_some, hd d hdj, hvb]
        simp only [hy]
        cases want <;> rfl
    refine wpOp_step ho fun K' hK => ?_
    rw [if_neg (by rw [hw]; exact Bool.false_ne_true)]
    exact hK _ _ (hfin undef w (Below.refl _ _) (by rw [hsk i hik hs]; rfl))
  have hw : Region.wanted o (yielded ops a.tmps) = true := by
    have h1 := List.all_eq_true.1 hg i (List.mem_range.2 hik)
    unfold skips at hs
    simp only [ho] at h1 hs
    unfold Region.wanted
    cases hgd : o.guard with
    | none => rfl
    | some x =>
      obtain ⟨j, want⟩ := x
      simp only [hgd, Bool.and_eq_true] at h1 hs
      obtain ⟨⟨⟨hbs, _⟩, hsm⟩, h2⟩ := h1
      obtain ⟨ix, hix, h3⟩ := Array.any_eq_true.1 h2
      have he : o.after[ix] ∈ o.after := Array.getElem_mem hix
      generalize o.after[ix] = e at *
      simp only [Bool.and_eq_true, beq_iff_eq] at h3
      obtain ⟨h3, h4⟩ := h3
      obtain ⟨v, hv, hd⟩ := hdv e he h4
      rw [h3] at hv hd
      have hvb : v = .bool want := by
        cases hr : R.getD j SP.any with
        | is x =>
          rw [hr] at hs hv hbs
          cases x <;> simp only [SP.bool?, Option.isSome_none, Bool.false_eq_true] at hbs
          rename_i bb
          simp only [SP.bool?] at hs
          have hbb : bb = want := by cases bb <;> cases want <;> simp_all
          rw [hbb] at hv
          exact hv
        | st p hp => rw [hr] at hbs; simp [SP.bool?] at hbs
      obtain ⟨d, hdj⟩ := Option.isSome_iff_exists.1 hsm
      have hy : yielded ops a.tmps j = some want := by
        unfold yielded
        have e1 : (ops[j]?).bind (·.dst) = some d := hdj
        rw [e1]
        simp only [Option.bind_some, hd d hdj, hvb]
      simp only [hy, beq_self_eq_true]
  refine wpOp_step ho fun K' hK => ?_
  rw [if_pos hw]
  refine hstep (by simpa using hs) a.eval w hI.below ⟨fun _ => rfl, fun _ => rfl, fun k hk => ?_, fun e he hb => ?_⟩ (fun s hs2 => ?_) a K' rfl fun v w' hb hR => ?_
  · show a.tmps.getD k undef = a0.tmps.getD k undef
    rw [Array.getD_eq_getD_getElem?, Array.getD_eq_getD_getElem?, hI.rest k fun j hj h => ?_]
    have := List.all_eq_true.1 hk j (List.mem_range.2 (dst_lt h))
    rw [h] at this
    simp at this
  · obtain ⟨v, hv, hd⟩ := hdv e he hb
    exact ⟨v, hv, fun d hdd => getD_of (hd d hdd)⟩
  · show a.tmps.getD s undef = a0.tmps.getD s undef
    rw [Array.getD_eq_getD_getElem?, Array.getD_eq_getD_getElem?, hI.rest s fun j hj h => ?_]
    have hjk : j < k := by
      rcases Nat.lt_or_ge j k with h1 | h1
      · exact h1
      · rw [hno j h1] at hj; cases hj
    have := List.all_eq_true.1 hs2 j (List.mem_range.2 hjk)
    rw [h] at this
    simp at this
  · exact hK _ _ (hfin v w' hb hR)
theorem region_tailK {id : Nat} {a0 : Act} {w0 : World} (k : Nat) (R : List SP) (ds : List (Option Tmp)) (hm : P.follows .mixedOrders = true) (hord : orderedB .any ops = true) (hap : apart ops a0.tmps.size = true) (hg : guardedS ops R k = true) (sk : List Nat) (hskl : skipped ops R k = sk) (hsk0 : ∀ p ∈ sk, R.getD p SP.any = .is undef) (hds : (List.range k).map (dstOf ops) = ds) (htl : tailed ops k = true)
    (hstep : ∀ i o, ops[i]? = some o → i < k → skips ops R i = false → ∀ E w, Below w0.drew.heap.size w0.drew w → Due ops R a0 o E w → (∀ s, unwK ops k s = true → E (.tmp s) = a0.eval (.tmp s)) → Does P Q o E w (R.getD i SP.any).has)
    (hdone : ∀ (vals : Nat → Value) w, Below w0.drew.heap.size w0.drew w → (∀ i, i < k → (R.getD i SP.any).has w (vals i)) → wpList P ops Q (ops.toList.drop k) { a0 with tmps := setL ds vals 0 a0.tmps } w) : (Code.region id ops true).wp P Q a0 w0 := by
  have hsk := skip_of hskl hsk0
  unfold tailed at htl
  simp only [Bool.and_eq_true, decide_eq_true_eq] at htl
  obtain ⟨⟨hkn, hcov⟩, hch⟩ := htl
  have hchain : ∀ i, k ≤ i → i + 1 < ops.size → waitsFor ops (i + 1) i = true := fun i h1 h2 => by
    have := List.all_eq_true.1 hch i (List.mem_range.2 (by omega))
    simp only [Bool.or_eq_true, decide_eq_true_eq] at this
    rcases this with (h | h) | h
    · omega
    · omega
    · exact h
  have hcover : ∀ j, j < k → k < ops.size → ∃ i, j < i ∧ i ≤ k ∧ waitsFor ops i j = true := fun j h1 h2 => by
    have := List.all_eq_true.1 hcov j (List.mem_range.2 h1)
    simp only [Bool.or_eq_true, beq_iff_eq] at this
    rcases this with h | h
    · omega
    · obtain ⟨i, hi, h⟩ := List.any_eq_true.1 h
      simp only [Bool.and_eq_true, decide_eq_true_eq] at h
      exact ⟨i, h.1, by have := List.mem_range.1 hi; omega, h.2⟩
  have hfin : ∀ L a w, VInv ops R w0.drew a0 L a w → (∀ j, j < k → L j = true) → (∀ j, k ≤ j → L j = false) → wpList P ops Q (ops.toList.drop k) a w := fun L a w hI hall hno => by
    have hv : ∀ i, ∃ v, i < k → (R.getD i SP.any).has w v ∧ ∀ d, dstOf ops i = some d → a.tmps[d]? = some v := fun i => by
      by_cases hi : i < k
      · obtain ⟨v, h⟩ := hI.vals i (hall i hi); exact ⟨v, fun _ => h⟩
      · exact ⟨undef, fun h => absurd h hi⟩
    obtain ⟨vals, hvals⟩ := Classical.axiomOfChoice hv
    have ha : a = { a0 with tmps := setAll ops vals k a0.tmps } := by
      obtain ⟨tm, df⟩ := a
      have h1 : df = a0.defers := hI.defers
      have h2 : tm = setAll ops vals k a0.tmps := by
        refine Array.ext_getElem? fun s => ?_
        have hset := setAll_get vals hap s k a0.tmps hkn rfl
        by_cases hk : ∃ i, i < k ∧ dstOf ops i = some s
        · obtain ⟨i, hik, hi⟩ := hk
          rw [hset.2 i hik hi]
          exact (hvals i hik).2 s hi
        · rw [hset.1 fun i hi h => hk ⟨i, hi, h⟩]
          refine hI.rest s fun i hi h => ?_
          rcases Nat.lt_or_ge i k with hl | hl
          · exact hk ⟨i, hl, h⟩
          · rw [hno i hl] at hi; cases hi
      rw [h1, h2]
    rw [ha, setAll_eq, hds]
    exact hdone vals w hI.below fun i hi => (hvals i hi).1
  refine region_invB (fun a0 B L a w => (VInv ops R B a0 L a w ∧ (∀ i, k ≤ i → L i = false) ∧ Closed ops L) ∨ ∃ m, k ≤ m ∧ m ≤ ops.size ∧ (∀ i, L i = decide (i < m)) ∧ wpList P ops Q (ops.toList.drop m) a w) hm hord
    (Or.inl ⟨⟨Below.refl _ _, rfl, rfl, fun i h => (Bool.noConfusion h), fun k _ => rfl⟩, fun _ _ => rfl, fun i o _ h => (Bool.noConfusion h)⟩) ?_ ?_
  · intro L a w hI i o ho hLi hdep
    have hio : i < ops.size := (Array.getElem?_eq_some_iff.1 ho).1
    rcases hI with ⟨hI, hno, hcl⟩ | ⟨m, hm1, hm2, hL, hwp⟩
    · by_cases hik : i < k
      · refine wpOp_mono (fun a' w' h => Or.inl ?_) (vinv_stepK R hap hg hsk hik hI ho hLi hdep hno (hstep i o ho hik))
        refine ⟨h, fun j hj => ?_, fun j o' ho' hj e he hb => ?_⟩
        · have hji : j ≠ i := by omega
          simp only [hji, if_false]
          exact hno j hj
        · by_cases hji : j = i
          · subst hji
            rw [ho] at ho'; cases ho'
            by_cases h2 : e.on = j
            · simp [h2]
            · simp only [h2, if_false]; exact hdep e he hb
          · simp only [hji, if_false] at hj
            by_cases h2 : e.on = i
            · simp [h2]
            · simp only [h2, if_false]; exact hcl j o' ho' hj e he hb
      · have hik' : i = k := by
          rcases Nat.lt_or_ge k i with h | h
          · have := waits_done (L := L) (hchain (i - 1) (by omega) (by omega)) (by rw [show i - 1 + 1 = i by omega]; exact ho) hdep
            rw [hno (i - 1) (by omega)] at this; cases this
          · omega
        subst hik'
        have hall : ∀ d j, i - j ≤ d → j < i → L j = true := by
          intro d
          induction d with
          | zero => intro j h1 h2; omega
          | succ d ih =>
            intro j h1 h2
            obtain ⟨q, hq1, hq2, hq3⟩ := hcover j h2 hio
            by_cases hqi : q = i
            · subst hqi; exact waits_done hq3 ho hdep
            · have hq : L q = true := ih q (by omega) (by omega)
              have hqo : ops[q]? = some ops[q] := Array.getElem?_eq_getElem (by omega)
              exact waits_done hq3 hqo (hcl q _ hqo hq)
        refine wpOp_mono (fun a' w' h => Or.inr ⟨i + 1, by omega, by omega, fun j => ?_, h⟩) (wpList_to_op ho (hfin L a w hI (fun j hj => hall _ j (Nat.le_refl _) hj) hno))
        by_cases hji : j = i
        · subst hji; simp
        · simp only [hji, if_false]
          rcases Nat.lt_or_ge j i with h1 | h1
          · rw [hall _ j (Nat.le_refl _) h1]; simp; omega
          · rw [hno j h1]; simp; omega
    · have him : i = m := by
        have h1 : ¬ i < m := fun h => by rw [hL i] at hLi; simp [h] at hLi
        rcases Nat.lt_or_ge m i with h | h
        · have := waits_done (L := L) (hchain (i - 1) (by omega) (by omega)) (by rw [show i - 1 + 1 = i by omega]; exact ho) hdep
          rw [hL (i - 1)] at this
          simp at this; omega
        · omega
      subst him
      refine wpOp_mono (fun a' w' h => Or.inr ⟨i + 1, by omega, by omega, fun j => ?_, h⟩) (wpList_to_op ho hwp)
      by_cases hji : j = i
      · subst hji; simp
      · simp only [hji, if_false]
        rw [hL j]
        rcases Nat.lt_or_ge j i with h1 | h1
        · simp [h1]; omega
        · simp; omega
  · intro L a w hall hI
    rcases hI with ⟨hI, hno, hcl⟩ | ⟨m, hm1, hm2, hL, hwp⟩
    · have hk : k = ops.size := by
        rcases Nat.lt_or_ge k ops.size with h | h
        · have := hall k h; rw [hno k (Nat.le_refl _)] at this; cases this
        · omega
      have := hfin L a w hI (fun j hj => hall j (by omega)) hno
      rw [hk, ← Array.length_toList, List.drop_length] at this
      exact this
    · have hk : m = ops.size := by
        rcases Nat.lt_or_ge m ops.size with h | h
        · have := hall m h; rw [hL m] at this; simp at this
        · omega
      rw [hk, ← Array.length_toList, List.drop_length] at hwp
      exact hwp
end

end Go.Proofs.Ytegoinkkcfbfaaa.wk
/- The reference's Nearest. -/
namespace Go.Proofs.Ytegoinkkcfbfaaa.bk

open Go.ChangeShapes Go.WideShapes Go.ChangeAt Go.RowKit

open Go.Proofs.Ytegoinkkcfbfaaa.bq Go.Proofs.Ytegoinkkcfbfaaa.vk Go.Proofs.Ytegoinkkcfbfaaa.wk

set_option linter.unusedVariables false
def nearest (p : Pair) (v : List Int) : List Int := (List.range v.length).map fun i => min (max (at' v i) (at' p.1 i)) (at' p.2 i)
theorem map_snoc' (n : Nat) (f : Nat → Int) {k : Nat} (hk : k < n) : ((List.range n).map f).take (k + 1) = ((List.range n).map f).take k ++ [f k] := by
  rw [List.take_add_one]
  congr 1
  simp [hk]
set_option maxRecDepth 100000 in
set_option maxHeartbeats 4000000 in
theorem nearest_calls (bv : Value) (p : Pair) (A : Option Addr) (n c : Nat) (vv : List Int) (w : World) (h : IsX w bv p) (h2 : wo.IsI w A n c vv) (hl1 : p.1.length = n) (hl2 : p.2.length = n) (hn : n ≤ 1000) :
    Calls Try.prog 40 #[bv, .slice A n c] w fun e w' => ∃ x, e = .returned x ∧ IsV w' x (nearest p vv) ∧ Below w.heap.size w w' := by
  obtain ⟨i0, hi, hz0, hz1, hz2⟩ := info_parts wi.infoI
  obtain ⟨A1, n1, c1, A1', n1', c1', rfl, hi1, hi2⟩ := h
  have hm := h2.2.2.1
  have hm1 := hi1.2.2.1
  have hm2 := hi2.2.2.1
  have hnc := h2.2.1
  have hnc1 := hi1.2.1
  have hnc2 := hi2.2.1
  obtain rfl : n1 = n := by rw [← hi1.1, hl1]
  obtain rfl : n1' = n1 := by rw [← hi2.1, hl2]
  have H1 := Lib.hid hi1
  have H2 := Lib.hid hi2
  have H := Lib.hid h2
  have HBN : Hid (∀ x ∈ nearest p vv, -9223372036854775808 ≤ x ∧ x ≤ 9223372036854775807) := fun x hx => by
    simp only [nearest, List.mem_map, List.mem_range] at hx
    obtain ⟨i, hi, rfl⟩ := hx
    rw [H.out.1] at hi
    have q1 := H.out.2.2.2.2 (at' vv i) (List.mem_of_getElem? (of_at (by rw [H.out.1]; omega)))
    have q2 := H1.out.2.2.2.2 (at' p.1 i) (List.mem_of_getElem? (of_at (by omega)))
    have q3 := H2.out.2.2.2.2 (at' p.2 i) (List.mem_of_getElem? (of_at (by omega)))
    omega
  have HLN : Hid ((nearest p vv).length = n1') := by show _ = _; rw [nearest, List.length_map, List.length_range, H.out.1]
  have HSN : Hid (∀ k, k < n1' → (nearest p vv).take (k + 1) = (nearest p vv).take k ++ [min (max (at' vv k) (at' p.1 k)) (at' p.2 k)]) := fun k hk => map_snoc' _ _ (by rw [H.out.1]; exact hk)
  obtain ⟨ls, hls⟩ : ∃ ls, nearest p vv = ls := ⟨_, rfl⟩
  rw [hls] at HBN HLN HSN ⊢
  have HB0 := Lib.hid (below_new w (.cells #[.slice A1 n1' c1, .slice A1' n1' c1'] 24))
  have HT0 := Lib.hid (Two.new w (.slice A1 n1' c1) (.slice A1' n1' c1') 24)
  clear h2 hi1 hi2 hl1 hl2 hls
  go_enter Try.func40, Try.ntmps40
  go_wp2_with fail
  generalize hG : w.heap.size = B at *
  have HG := Lib.hid hG
  clear hG
  go_loopg [5, 6] n1' (fun g v x wr => ∃ (k : Nat), k + g = n1' ∧ x = .int .i64 (k : Int) ∧ wr.ownsRow (B + 1) 3 1 v k (iv (ls.take k)) ∧ Below B w wr ∧ Two wr B (.slice A1 n1' c1) (.slice A1' n1' c1'))
  case atStart => exact ⟨0, by omega, rfl, World.ownsRow_nil _ _ _ _, HB0.out, HT0.out⟩
  case round =>
    obtain ⟨k, hk, rfl, hown, hbel, hT⟩ := hrel
    have HK := Lib.hid hk
    have HOWN := Lib.hid hown
    have HBEL := Lib.hid hbel
    have HT := Lib.hid hT
    have hkn : k ≤ n1' := by omega
    have HBW : Hid (B + 1 ≤ wr.heap.size) := by have := hT.lt; show _ ≤ _; omega
    by_cases hlt : k < n1'
    · have hbb : Below w.heap.size w wr := by rw [HG.out]; exact hbel
      obtain ⟨b1, o1, rfl, hc1, hb1⟩ := isI_get (isI_below H.out hbb) hlt
      obtain ⟨b2, o2, rfl, hc2, hb2⟩ := isI_get (isI_below H1.out hbb) (show k < n1' by omega)
      obtain ⟨b3, o3, rfl, hc3, hb3⟩ := isI_get (isI_below H2.out hbb) (show k < n1' by omega)
      have hlt0 : (k : Int) < (n1' : Int) := by omega
      have hlt1 : (k : Int) < (n1' : Int) := by omega
      have hlt2 : (k : Int) < (n1' : Int) := by omega
      have hS := HSN.out k hlt
      generalize at' vv k = x at *
      generalize at' p.1 k = y at *
      generalize at' p.2 k = z at *
      obtain ⟨m1, hm1'⟩ : ∃ m1, max x y = m1 := ⟨_, rfl⟩
      rw [hm1'] at hS
      obtain ⟨m2, hm2'⟩ : ∃ m2, min m1 z = m2 := ⟨_, rfl⟩
      rw [hm2'] at hS
      have HS := Lib.hid hS
      clear hk hown hbel hbb hS hT
      go_wp2_with fail
      refine wk.region_tailK 18 [.is u5, .is (.slice (some ⟨b1, o1, none⟩) n1' c), .is (.int .i64 (k : Int)), .is (.pointer (some ⟨b1, o1 + k, none⟩)), .is (.int .i64 x), .is (.pointer (some ⟨B, 0, none⟩)), .is (.slice (some ⟨b2, o2, none⟩) n1' c1), .is (.int .i64 (k : Int)), .is (.pointer (some ⟨b2, o2 + k, none⟩)), .is (.int .i64 y), .is (.int .i64 m1), .is (.pointer (some ⟨B, 1, none⟩)), .is (.slice (some ⟨b3, o3, none⟩) n1' c1'), .is (.int .i64 (k : Int)), .is (.pointer (some ⟨b3, o3 + k, none⟩)), .is (.int .i64 z), .is (.int .i64 m2), .st (fun u x => ∃ g, x = .slice (some ⟨g, 0, none⟩) 1 1 ∧ One u g 3 (.int .i64 m2)) (fun u u2 x h hb => by obtain ⟨g, h1, h2⟩ := h; exact ⟨g, h1, h2.below hb⟩)] [some 13, some 14, some 15, some 16, some 17, some 18, some 19, some 20, some 21, some 22, some 23, some 24, some 25, some 26, some 27, some 28, some 29, some 30] (by kernel_rfl) (by kernel_rfl) (by kernel_rfl) (by kernel_rfl) [] (by kernel_rfl) (by intro p hp; cases hp) (by kernel_rfl) (by kernel_rfl) ?hstep ?hdone
      case hstep =>
        intro i o ho hi hns E w4 hb4 D hold
        have hi2 : i = 0 ∨ i = 1 ∨ i = 2 ∨ i = 3 ∨ i = 4 ∨ i = 5 ∨ i = 6 ∨ i = 7 ∨ i = 8 ∨ i = 9 ∨ i = 10 ∨ i = 11 ∨ i = 12 ∨ i = 13 ∨ i = 14 ∨ i = 15 ∨ i = 16 ∨ i = 17 := by omega
        clear hi
        rcases hi2 with rfl | rfl | rfl | rfl | rfl | rfl | rfl | rfl | rfl | rfl | rfl | rfl | rfl | rfl | rfl | rfl | rfl | rfl
        ·
          have ho2 := (Array.getElem?_eq_some_iff.1 ho).2
          simp only [List.getElem_toArray, List.getElem_cons_zero] at ho2
          subst ho2
          clear ho
          have e5 := hold 5 (by kernel_rfl)
          exact wk.does_move rfl (by rw [e5]; rfl)
        ·
          have ho2 := (Array.getElem?_eq_some_iff.1 ho).2
          simp only [List.getElem_toArray, List.getElem_cons_succ, List.getElem_cons_zero] at ho2
          subst ho2
          clear ho
          have e1 := D.old 1 (by kernel_rfl)
          exact wk.does_move rfl (by rw [e1]; rfl)
        ·
          have ho2 := (Array.getElem?_eq_some_iff.1 ho).2
          simp only [List.getElem_toArray, List.getElem_cons_succ, List.getElem_cons_zero] at ho2
          subst ho2
          clear ho
          have e6 := D.old 6 (by kernel_rfl)
          exact wk.does_move rfl (by rw [e6]; rfl)
        ·
          have ho2 := (Array.getElem?_eq_some_iff.1 ho).2
          simp only [List.getElem_toArray, List.getElem_cons_succ, List.getElem_cons_zero] at ho2
          subst ho2
          clear ho
          have e14 := D.is { on := 1, ground := .data } (by simp) rfl rfl 14 rfl
          have e15 := D.is { on := 2, ground := .data } (by simp) rfl rfl 15 rfl
          exact wk.does_run (by simp only [execOp]; rw [e14, e15]; go_simp) rfl
        ·
          have ho2 := (Array.getElem?_eq_some_iff.1 ho).2
          simp only [List.getElem_toArray, List.getElem_cons_succ, List.getElem_cons_zero] at ho2
          subst ho2
          clear ho
          have e16 := D.is { on := 3, ground := .data } (by simp) rfl rfl 16 rfl
          exact wk.does_load1 rfl e16 ((((Below.refl _ _).drew.trans hb4 : Below wr.heap.size wr w4).cell (p := ⟨_, _, none⟩) hb1).trans hc1) Try.underlying3 rfl rfl
        ·
          have ho2 := (Array.getElem?_eq_some_iff.1 ho).2
          simp only [List.getElem_toArray, List.getElem_cons_succ, List.getElem_cons_zero] at ho2
          subst ho2
          clear ho
          have e2 := D.old 2 (by kernel_rfl)
          exact wk.does_run (by simp only [execOp]; rw [show E (.tmp 2) = .pointer (some ⟨B, 0, none⟩) by rw [e2]; rfl]; go_simp) rfl
        ·
          have ho2 := (Array.getElem?_eq_some_iff.1 ho).2
          simp only [List.getElem_toArray, List.getElem_cons_succ, List.getElem_cons_zero] at ho2
          subst ho2
          clear ho
          have e18 := D.is { on := 5, ground := .data } (by simp) rfl rfl 18 rfl
          exact wk.does_load1 rfl e18 ((HT.out.below ((Below.refl _ _).drew.trans hb4)).c0) Try.underlying22 rfl rfl
        ·
          have ho2 := (Array.getElem?_eq_some_iff.1 ho).2
          simp only [List.getElem_toArray, List.getElem_cons_succ, List.getElem_cons_zero] at ho2
          subst ho2
          clear ho
          have e6 := D.old 6 (by kernel_rfl)
          exact wk.does_move rfl (by rw [e6]; rfl)
        ·
          have ho2 := (Array.getElem?_eq_some_iff.1 ho).2
          simp only [List.getElem_toArray, List.getElem_cons_succ, List.getElem_cons_zero] at ho2
          subst ho2
          clear ho
          have e19 := D.is { on := 6, ground := .data } (by simp) rfl rfl 19 rfl
          have e20 := D.is { on := 7, ground := .data } (by simp) rfl rfl 20 rfl
          exact wk.does_run (by simp only [execOp]; rw [e19, e20]; go_simp) rfl
        ·
          have ho2 := (Array.getElem?_eq_some_iff.1 ho).2
          simp only [List.getElem_toArray, List.getElem_cons_succ, List.getElem_cons_zero] at ho2
          subst ho2
          clear ho
          have e21 := D.is { on := 8, ground := .data } (by simp) rfl rfl 21 rfl
          exact wk.does_load1 rfl e21 ((((Below.refl _ _).drew.trans hb4 : Below wr.heap.size wr w4).cell (p := ⟨_, _, none⟩) hb2).trans hc2) Try.underlying3 rfl rfl
        ·
          have ho2 := (Array.getElem?_eq_some_iff.1 ho).2
          simp only [List.getElem_toArray, List.getElem_cons_succ, List.getElem_cons_zero] at ho2
          subst ho2
          clear ho
          have e17 := D.is { on := 4, ground := .data } (by simp) rfl rfl 17 rfl
          have e22 := D.is { on := 9, ground := .data } (by simp) rfl rfl 22 rfl
          exact wk.does_run (by simp only [execOp, resolve, List.map_toArray, List.map_cons, List.map_nil]; rw [e17, e22]; go_simp) rfl
        ·
          have ho2 := (Array.getElem?_eq_some_iff.1 ho).2
          simp only [List.getElem_toArray, List.getElem_cons_succ, List.getElem_cons_zero] at ho2
          subst ho2
          clear ho
          have e2 := D.old 2 (by kernel_rfl)
          exact wk.does_run (by simp only [execOp]; rw [show E (.tmp 2) = .pointer (some ⟨B, 0, none⟩) by rw [e2]; rfl]; go_simp) rfl
        ·
          have ho2 := (Array.getElem?_eq_some_iff.1 ho).2
          simp only [List.getElem_toArray, List.getElem_cons_succ, List.getElem_cons_zero] at ho2
          subst ho2
          clear ho
          have e24 := D.is { on := 11, ground := .data } (by simp) rfl rfl 24 rfl
          exact wk.does_load1 rfl e24 ((HT.out.below ((Below.refl _ _).drew.trans hb4)).c1) Try.underlying22 rfl rfl
        ·
          have ho2 := (Array.getElem?_eq_some_iff.1 ho).2
          simp only [List.getElem_toArray, List.getElem_cons_succ, List.getElem_cons_zero] at ho2
          subst ho2
          clear ho
          have e6 := D.old 6 (by kernel_rfl)
          exact wk.does_move rfl (by rw [e6]; rfl)
        ·
          have ho2 := (Array.getElem?_eq_some_iff.1 ho).2
          simp only [List.getElem_toArray, List.getElem_cons_succ, List.getElem_cons_zero] at ho2
          subst ho2
          clear ho
          have e25 := D.is { on := 12, ground := .data } (by simp) rfl rfl 25 rfl
          have e26 := D.is { on := 13, ground := .data } (by simp) rfl rfl 26 rfl
          exact wk.does_run (by simp only [execOp]; rw [e25, e26]; go_simp) rfl
        ·
          have ho2 := (Array.getElem?_eq_some_iff.1 ho).2
          simp only [List.getElem_toArray, List.getElem_cons_succ, List.getElem_cons_zero] at ho2
          subst ho2
          clear ho
          have e27 := D.is { on := 14, ground := .data } (by simp) rfl rfl 27 rfl
          exact wk.does_load1 rfl e27 ((((Below.refl _ _).drew.trans hb4 : Below wr.heap.size wr w4).cell (p := ⟨_, _, none⟩) hb3).trans hc3) Try.underlying3 rfl rfl
        ·
          have ho2 := (Array.getElem?_eq_some_iff.1 ho).2
          simp only [List.getElem_toArray, List.getElem_cons_succ, List.getElem_cons_zero] at ho2
          subst ho2
          clear ho
          have e23 := D.is { on := 10, ground := .data } (by simp) rfl rfl 23 rfl
          have e28 := D.is { on := 15, ground := .data } (by simp) rfl rfl 28 rfl
          exact wk.does_run (by simp only [execOp, resolve, List.map_toArray, List.map_cons, List.map_nil]; rw [e23, e28]; go_simp) rfl
        ·
          have ho2 := (Array.getElem?_eq_some_iff.1 ho).2
          simp only [List.getElem_toArray, List.getElem_cons_succ, List.getElem_cons_zero] at ho2
          subst ho2
          clear ho
          have e29 := D.is { on := 16, ground := .data } (by simp) rfl rfl 29 rfl
          refine wk.does_new (v := .slice (some ⟨w4.heap.size, 0, none⟩) 1 1) (w' := w4.alloc (.cells #[.int .i64 m2] 3)) (by simp only [execOp, List.map_toArray, List.map_cons, List.map_nil]; rw [e29]; go_simp) (below_new _ _) ⟨_, rfl, One.new _ _ _⟩
      case hdone =>
        intro vals w4 hb4 hv
        have h0 := hv 0 (by omega)
        have h17 := hv 17 (by omega)
        clear hv
        replace h0 : vals 0 = u5 := h0
        simp only [List.drop_succ_cons, List.drop_zero, wk.setL, List.setIfInBounds_toArray, List.set_cons_zero, List.set_cons_succ, Nat.zero_add, Nat.reduceAdd, h0]
        generalize vals 1 = x1
        generalize vals 2 = x2
        generalize vals 3 = x3
        generalize vals 4 = x4
        generalize vals 5 = x5
        generalize vals 6 = x6
        generalize vals 7 = x7
        generalize vals 8 = x8
        generalize vals 9 = x9
        generalize vals 10 = x10
        generalize vals 11 = x11
        generalize vals 12 = x12
        generalize vals 13 = x13
        generalize vals 14 = x14
        generalize vals 15 = x15
        generalize vals 16 = x16
        generalize vals 17 = x17 at *
        obtain ⟨g, rfl, hg⟩ := h17
        have hb5 := ((Below.refl _ _).drew.trans hb4 : Below wr.heap.size wr w4)
        have hbe5 := HBEL.out.trans (hb5.mono (by have := HBW.out; omega))
        have HOW : Hid (w4.ownsRow (B + 1) 3 1 u5 k (iv (ls.take k))) := World.ownsRow.kept HOWN.out (grown_of hb5) (by cases u5.ownBlock <;> simp)
        have hgl := (Array.getElem?_eq_some_iff.1 hg).1
        have hcg : ∀ j u, [Value.int .i64 (m2)][j]? = some u → w4.cell? ((⟨g, 0, none⟩ : Addr).add j) = some u := fun j u hu => by
          cases j with
          | zero => simp at hu; subst hu; rw [wk.add_at]; exact hg.cell
          | succ j => simp at hu
        have hB4 : B + 1 ≤ w4.heap.size := by have := hb5.size; have := HBW.out; omega
        have HT5 := Lib.hid (HT.out.below hb5)
        have HBE5 := Lib.hid hbe5
        have HCG := Lib.hid hcg
        clear hb4 hb5 hg hcg hbe5
        go_wp2_with (at_builtin; refine wpList_append_own _ rfl _ _ 22 rfl (B + 1) 3 i0 (.int .i64 0) 1 8 Try.underlying22 hi hz0 hz1 hz2 rfl (by decide) _ _ _ rfl HOW.out ⟨g, 0, none⟩ 1 1 [.int .i64 (m2)] rfl rfl HCG.out ?c2 ?c3 ?c4 ?c5 ?_)
        case c2 => simp [Value.oneCell']
        case c3 => unfold maxLen; omega
        case c4 => omega
        case c5 => omega
        intro v' w2 hown2 hgrow _
        have HT9 := Lib.hid (HT5.out.at (hgrow.block B HT5.out.lt (fun e => by have := (HOW.out.lt B e.symm).1; omega)))
        have hbe : Below B w w2 := HBE5.out.grown hgrow (by omega) (fun q hq => by have := (HOW.out.lt q hq).1; omega)
        have HB2 := Lib.hid hbe
        have HO2 := Lib.hid hown2
        clear hown2 hgrow hbe
        go_wp2_with fail
        go_roundg (gk - 1)
        case measure => have := HK.out; omega
        case rel =>
          refine ⟨k + 1, by have := HK.out; omega, by go_num, ?_, HB2.out, HT9.out⟩
          have h := HO2.out
          rw [HS.out]
          unfold iv at h ⊢
          rw [List.map_append]
          simpa using h
    · obtain rfl : k = n1' := by omega
      have ho := HOWN.out
      rw [List.take_of_length_le (by have := HLN.out; omega)] at ho
      obtain ⟨A2, c2, rfl, hI⟩ := isI_of_own ho HBN.out
      have HI := Lib.hid hI
      clear ho hI hown hbel hT
      go_wp2_with fail
      go_ret
      exact ⟨_, rfl, ⟨A2, k, c2, rfl, HI.out⟩, by rw [HG.out]; exact HBEL.out⟩
end Go.Proofs.Ytegoinkkcfbfaaa.bk
/- The law's inner. -/
namespace Go.Proofs.Ytegoinkkcfbfaaa.bk

open Go.ChangeShapes Go.WideShapes Go.ChangeAt Go.RowKit

open Go.Proofs.Ytegoinkkcfbfaaa.bq Go.Proofs.Ytegoinkkcfbfaaa.vk Go.Proofs.Ytegoinkkcfbfaaa.wk

set_option linter.unusedVariables false
/-- a slice of small numbers -/
def IsU (w : World) (A : Option Addr) (n c : Nat) (l : List Int) : Prop := l.length = n ∧ n ≤ c ∧ c ≤ 9223372036854775807 ∧ wp.RC w A (l.map (Value.int .u16)) ∧ ∀ x ∈ l, 0 ≤ x ∧ x ≤ 65535
theorem isU_below {w w' : World} {A : Option Addr} {n c : Nat} {l : List Int} (h : IsU w A n c l) (hb : Below w.heap.size w w') : IsU w' A n c l := ⟨h.1, h.2.1, h.2.2.1, h.2.2.2.1.below hb, h.2.2.2.2⟩
theorem isU_get {w : World} {A : Option Addr} {n c k : Nat} {l : List Int} (h : IsU w A n c l) (hk : k < n) : ∃ b o, A = some ⟨b, o, none⟩ ∧ w.cell? ⟨b, o + k, none⟩ = some (.int .u16 (at' l k)) ∧ b < w.heap.size ∧ 0 ≤ at' l k ∧ at' l k ≤ 65535 := by
  have hl : k < l.length := by have := h.1; omega
  have hx := of_at hl
  obtain ⟨b, o, hA, hc⟩ := wi.RC_at h.2.2.2.1 (k := k) (u := .int .u16 (at' l k)) (by simp [hx])
  exact ⟨b, o, hA, hc, block_lt_of_cell hc, h.2.2.2.2 _ (List.mem_of_getElem? hx)⟩
def innf (a b x : Int) : Int := a + x % (b - a + 1)
def inner (p : Pair) (pk : List Int) : List Int := (List.range p.1.length).map fun i => innf (at' p.1 i) (at' p.2 i) (at' pk i)
end Go.Proofs.Ytegoinkkcfbfaaa.bk
/- The reference's Farthest. -/
namespace Go.Proofs.Ytegoinkkcfbfaaa.bk

open Go.ChangeShapes Go.WideShapes Go.ChangeAt Go.RowKit

open Go.Proofs.Ytegoinkkcfbfaaa.bq Go.Proofs.Ytegoinkkcfbfaaa.vk Go.Proofs.Ytegoinkkcfbfaaa.wk

set_option linter.unusedVariables false
def farf (a b v : Int) : Int := if v - a < b - v then b else a
def farthest (p : Pair) (v : List Int) : List Int := (List.range v.length).map fun i => farf (at' p.1 i) (at' p.2 i) (at' v i)
set_option maxRecDepth 100000 in
set_option maxHeartbeats 4000000 in
theorem farthest_calls (bv : Value) (p : Pair) (A : Option Addr) (n c : Nat) (vv : List Int) (w : World) (h : IsX w bv p) (h2 : wo.IsI w A n c vv) (hl1 : p.1.length = n) (hl2 : p.2.length = n) (hn : n ≤ 1000) (hbd : ∀ i, i < n → -1000 ≤ at' p.1 i ∧ at' p.1 i ≤ 1000 ∧ -1000 ≤ at' p.2 i ∧ at' p.2 i ≤ 1000 ∧ -1000 ≤ at' vv i ∧ at' vv i ≤ 1000) :
    Calls Try.prog 41 #[bv, .slice A n c] w fun e w' => ∃ x, e = .returned x ∧ IsV w' x (farthest p vv) ∧ Below w.heap.size w w' := by
  obtain ⟨i0, hi, hz0, hz1, hz2⟩ := info_parts wi.infoI
  obtain ⟨A1, n1, c1, A1', n1', c1', rfl, hi1, hi2⟩ := h
  have hm := h2.2.2.1
  have hm1 := hi1.2.2.1
  have hm2 := hi2.2.2.1
  have hnc := h2.2.1
  have hnc1 := hi1.2.1
  have hnc2 := hi2.2.1
  obtain rfl : n1 = n := by rw [← hi1.1, hl1]
  obtain rfl : n1' = n1 := by rw [← hi2.1, hl2]
  have HBDD := Lib.hid hbd
  clear hbd
  have H1 := Lib.hid hi1
  have H2 := Lib.hid hi2
  have H := Lib.hid h2
  have HBN : Hid (∀ x ∈ farthest p vv, -9223372036854775808 ≤ x ∧ x ≤ 9223372036854775807) := fun x hx => by
    simp only [farthest, List.mem_map, List.mem_range] at hx
    obtain ⟨i, hi, rfl⟩ := hx
    rw [H.out.1] at hi
    have q1 := H.out.2.2.2.2 (at' vv i) (List.mem_of_getElem? (of_at (by rw [H.out.1]; omega)))
    have q2 := H1.out.2.2.2.2 (at' p.1 i) (List.mem_of_getElem? (of_at (by omega)))
    have q3 := H2.out.2.2.2.2 (at' p.2 i) (List.mem_of_getElem? (of_at (by omega)))
    unfold farf
    split <;> omega
  have HLN : Hid ((farthest p vv).length = n1') := by show _ = _; rw [farthest, List.length_map, List.length_range, H.out.1]
  have HSN : Hid (∀ k, k < n1' → (farthest p vv).take (k + 1) = (farthest p vv).take k ++ [farf (at' p.1 k) (at' p.2 k) (at' vv k)]) := fun k hk => map_snoc' _ _ (by rw [H.out.1]; exact hk)
  obtain ⟨ls, hls⟩ : ∃ ls, farthest p vv = ls := ⟨_, rfl⟩
  rw [hls] at HBN HLN HSN ⊢
  have HB0 := Lib.hid (below_new w (.cells #[.slice A1 n1' c1, .slice A1' n1' c1'] 24))
  have HT0 := Lib.hid (Two.new w (.slice A1 n1' c1) (.slice A1' n1' c1') 24)
  clear h2 hi1 hi2 hl1 hl2 hls
  go_enter Try.func41, Try.ntmps41
  go_wp2_with fail
  generalize hG : w.heap.size = B at *
  have HG := Lib.hid hG
  clear hG
  go_loopg [5, 6] n1' (fun g v x wr => ∃ (k : Nat), k + g = n1' ∧ x = .int .i64 (k : Int) ∧ wr.ownsRow (B + 1) 3 1 v k (iv (ls.take k)) ∧ Below B w wr ∧ Two wr B (.slice A1 n1' c1) (.slice A1' n1' c1'))
  case atStart => exact ⟨0, by omega, rfl, World.ownsRow_nil _ _ _ _, HB0.out, HT0.out⟩
  case round =>
    obtain ⟨k, hk, rfl, hown, hbel, hT⟩ := hrel
    have HK := Lib.hid hk
    have HOWN := Lib.hid hown
    have HBEL := Lib.hid hbel
    have HT := Lib.hid hT
    have hkn : k ≤ n1' := by omega
    have HBW : Hid (B + 1 ≤ wr.heap.size) := by have := hT.lt; show _ ≤ _; omega
    by_cases hlt : k < n1'
    · have hbb : Below w.heap.size w wr := by rw [HG.out]; exact hbel
      obtain ⟨b1, o1, rfl, hc1, hb1⟩ := isI_get (isI_below H.out hbb) hlt
      obtain ⟨b2, o2, rfl, hc2, hb2⟩ := isI_get (isI_below H1.out hbb) (show k < n1' by omega)
      obtain ⟨b3, o3, rfl, hc3, hb3⟩ := isI_get (isI_below H2.out hbb) (show k < n1' by omega)
      have hlt0 : (k : Int) < (n1' : Int) := by omega
      have hlt1 : (k : Int) < (n1' : Int) := by omega
      have hlt2 : (k : Int) < (n1' : Int) := by omega
      have hS := HSN.out k hlt
      have hbdd := HBDD.out k hlt
      generalize at' vv k = x at *
      generalize at' p.1 k = y at *
      generalize at' p.2 k = z at *
      by_cases hf : x - y < z - x
      · rw [farf, if_pos hf] at hS
        have HS := Lib.hid hS
        have hTc0 := hT.c0
        have hTc1 := hT.c1
        clear hk hown hbel hbb hS hT
        go_wp2_with fail
        go_quiet (fail)
        go_wp2_with (at_builtin; refine wpList_append_own _ rfl _ _ 22 rfl (B + 1) 3 i0 (.int .i64 0) 1 8 Try.underlying22 hi hz0 hz1 hz2 rfl (by decide) _ _ _ rfl (World.ownsRow.alloc (w := wr.drewN _) HOWN.out _) ⟨wr.heap.size, 0, none⟩ 1 1 [.int .i64 (z)] rfl rfl ?c1 ?c2 ?c3 ?c4 ?c5 ?_)
        case c1 => exact cell_one_new (wr.drewN _) _ _
        case c2 => simp [Value.oneCell']
        case c3 => unfold maxLen; omega
        case c4 => omega
        case c5 => have := HBW.out; simp; omega
        intro v' w2 hown2 hgrow _
        have hbn : ∀ m, Below wr.heap.size wr ((wr.drewN m).alloc (.cells #[.int .i64 (z)] 3)) := fun m => (below_dr (Below.refl _ _) m).alloc (Nat.le_refl _) _
        have HT9 := Lib.hid (HT.out.at ((hgrow.block B (Nat.lt_of_lt_of_le HT.out.lt (hbn _).size) (fun e => by have := (HOWN.out.lt B e.symm).1; omega)).trans ((hbn _).block B HT.out.lt)))
        have hbe : Below B w w2 := (HBEL.out.trans ((hbn _).mono (by have := HBW.out; omega))).grown hgrow (by have := HBW.out; simp; omega) (fun q hq => by have := (HOWN.out.lt q hq).1; omega)
        have HB2 := Lib.hid hbe
        have HO2 := Lib.hid hown2
        clear hown2 hgrow hbe hbn
        go_wp2_with fail
        go_roundg (gk - 1)
        case measure => have := HK.out; omega
        case rel =>
          refine ⟨k + 1, by have := HK.out; omega, by go_num, ?_, HB2.out, HT9.out⟩
          have h := HO2.out
          rw [HS.out]
          unfold iv at h ⊢
          rw [List.map_append]
          simpa using h
      · rw [farf, if_neg hf] at hS
        have HS := Lib.hid hS
        have hTc0 := hT.c0
        have hTc1 := hT.c1
        clear hk hown hbel hbb hS hT
        go_wp2_with fail
        go_quiet (fail)
        go_wp2_with (at_builtin; refine wpList_append_own _ rfl _ _ 22 rfl (B + 1) 3 i0 (.int .i64 0) 1 8 Try.underlying22 hi hz0 hz1 hz2 rfl (by decide) _ _ _ rfl (World.ownsRow.alloc (w := wr.drewN _) HOWN.out _) ⟨wr.heap.size, 0, none⟩ 1 1 [.int .i64 (y)] rfl rfl ?c1 ?c2 ?c3 ?c4 ?c5 ?_)
        case c1 => exact cell_one_new (wr.drewN _) _ _
        case c2 => simp [Value.oneCell']
        case c3 => unfold maxLen; omega
        case c4 => omega
        case c5 => have := HBW.out; simp; omega
        intro v' w2 hown2 hgrow _
        have hbn : ∀ m, Below wr.heap.size wr ((wr.drewN m).alloc (.cells #[.int .i64 (y)] 3)) := fun m => (below_dr (Below.refl _ _) m).alloc (Nat.le_refl _) _
        have HT9 := Lib.hid (HT.out.at ((hgrow.block B (Nat.lt_of_lt_of_le HT.out.lt (hbn _).size) (fun e => by have := (HOWN.out.lt B e.symm).1; omega)).trans ((hbn _).block B HT.out.lt)))
        have hbe : Below B w w2 := (HBEL.out.trans ((hbn _).mono (by have := HBW.out; omega))).grown hgrow (by have := HBW.out; simp; omega) (fun q hq => by have := (HOWN.out.lt q hq).1; omega)
        have HB2 := Lib.hid hbe
        have HO2 := Lib.hid hown2
        clear hown2 hgrow hbe hbn
        go_wp2_with fail
        go_roundg (gk - 1)
        case measure => have := HK.out; omega
        case rel =>
          refine ⟨k + 1, by have := HK.out; omega, by go_num, ?_, HB2.out, HT9.out⟩
          have h := HO2.out
          rw [HS.out]
          unfold iv at h ⊢
          rw [List.map_append]
          simpa using h
    · obtain rfl : k = n1' := by omega
      have ho := HOWN.out
      rw [List.take_of_length_le (by have := HLN.out; omega)] at ho
      obtain ⟨A2, c2, rfl, hI⟩ := isI_of_own ho HBN.out
      have HI := Lib.hid hI
      clear ho hI hown hbel hT
      go_wp2_with fail
      go_ret
      exact ⟨_, rfl, ⟨A2, k, c2, rfl, HI.out⟩, by rw [HG.out]; exact HBEL.out⟩
end Go.Proofs.Ytegoinkkcfbfaaa.bk
/- Inside, Has; the adders. -/
namespace Go.Proofs.Ytegoinkkcfbfaaa.bk

open Go.ChangeShapes Go.WideShapes Go.ChangeAt Go.RowKit

open Go.Proofs.Ytegoinkkcfbfaaa.bq Go.Proofs.Ytegoinkkcfbfaaa.vk Go.Proofs.Ytegoinkkcfbfaaa.wk

set_option linter.unusedVariables false
attribute [local go_sem] Oper.semAt_some
def within (p q : Pair) : Bool := le q.1 p.1 && le p.2 q.2
theorem within_iff {p q : Pair} (h1 : q.1.length = p.1.length) (h2 : p.2.length = p.1.length) : within p q = true ↔ ∀ i, i < p.1.length → at' q.1 i ≤ at' p.1 i ∧ at' p.2 i ≤ at' q.2 i := by
  simp only [within, Bool.and_eq_true, le_iff, h1, h2]
  exact ⟨fun h i hi => ⟨h.1 i hi, h.2 i hi⟩, fun h => ⟨fun i hi => (h i hi).1, fun i hi => (h i hi).2⟩⟩
theorem within_not {p q : Pair} (h1 : q.1.length = p.1.length) (h2 : p.2.length = p.1.length) {i : Nat} (hi : i < p.1.length) (hn : at' p.1 i < at' q.1 i ∨ at' q.2 i < at' p.2 i) : within p q = false := by
  cases hh : within p q
  · rfl
  · have := (within_iff h1 h2).1 hh i hi; omega
theorem inside_eq (p q : Pair) : inside p q = (balike p q && within p q) := by simp [inside, within, Bool.and_assoc]
set_option maxRecDepth 100000 in
set_option maxHeartbeats 4000000 in
theorem inside_calls (v u : Value) (p q : Pair) (w : World) (h : IsX w v p) (h2 : IsX w u q) :
    Calls Try.prog 46 #[v, u] w fun e w' => e = .returned (.bool (inside p q)) ∧ Below w.heap.size w w' := by
  rw [inside_eq]
  have HA := Lib.hid (fun w' hb => alike_calls v u p q w' (h.below hb) (h2.below hb))
  have HX := Lib.hid h
  have HX2 := Lib.hid h2
  obtain ⟨A, n, c, A', n', c', rfl, hi, hi'⟩ := h
  obtain ⟨A2, n2, c2, A2', n2', c2', rfl, hi2, hi2'⟩ := h2
  have HB0 := Lib.hid (Below.andThen (Below.andThen (below_new w (.cells #[.slice A n c, .slice A' n' c'] 24)) (below_new _ (.cells #[.slice A2 n2 c2, .slice A2' n2' c2'] 24))) (below_new _ (.cells #[.bool false] 4)))
  have hT1 := (TwoX.new w (.slice A n c) (.slice A' n' c')).below (below_new _ (.cells #[.slice A2 n2 c2, .slice A2' n2' c2'] 24)) |>.below (below_new _ (.cells #[.bool false] 4))
  have hT2 := (TwoX.new (w.alloc (.cells #[.slice A n c, .slice A' n' c'] 24)) (.slice A2 n2 c2) (.slice A2' n2' c2')).below (below_new _ (.cells #[.bool false] 4))
  have hO := One.new ((w.alloc (.cells #[.slice A n c, .slice A' n' c'] 24)).alloc (.cells #[.slice A2 n2 c2, .slice A2' n2' c2'] 24)) 4 (.bool false)
  simp only [size_new] at hT2 hO
  clear hi hi' hi2 hi2'
  refine enter_marks Try.func46 rfl ?_
  simp only [Try.ntmps46, List.size_toArray, List.length_cons, List.length_nil, Nat.reduceAdd, Nat.reduceSub, Array.replicate_succ, Array.replicate_zero, List.push_toArray, List.append_toArray, List.nil_append, List.cons_append]
  by_cases hal : balike p q = true
  · obtain ⟨hl, hp, hq⟩ := balike_iff.1 hal
    rw [hal] at HA ⊢
    rw [Bool.true_and]
    go_wp2_with fail
    refine (HA.out _ HB0.out).mono ?_
    rintro e w1 ⟨rfl, hb⟩
    have hB1 := HB0.out.trans (hb.mono HB0.out.size)
    have HT2 := Lib.hid (hT2.below hb)
    have HO := Lib.hid (hO.below hb)
    have hx1 := hT1.below hb
    have hc0 := hx1.two.c0
    have hc1 := hx1.two.c1
    have HB1 := Lib.hid hB1
    clear hx1 hb hB1 hT1 hT2 hO
    go_wp2_with fail
    refine (sides_calls _ _ _).mono ?_
    rintro e w2 ⟨rfl, rfl⟩
    go_wp2_with fail
    generalize hG : w.heap.size = G at *
    have hG1 : G + 2 < w1.heap.size := HO.out.lt
    have hs3 : ∀ o, (w1.alloc o).heap.size = w1.heap.size + 1 := fun o => size_new _ _
    have hB3 : Below G w (w1.alloc (.cells #[.slice A n c, .slice A' n' c'] 24)) := HB1.out.trans ((below_new _ _).mono (by omega))
    refine range_sides' (some 5) 6 G w1.heap.size [G + 1 + 1] p (.slice A n c) (.slice A' n' c') rfl ?c1 ?c2 ?c0 ?c3 ?c4 ?c5 ?c6 (fun pre W => One W (G + 1 + 1) 4 (.bool false) ∧ ∀ x ∈ pre, at' q.1 x.1 ≤ at' p.1 x.1 ∧ at' p.2 x.1 ≤ at' q.2 x.1) (fun c W => (c = .ret ∧ within p q = false) ∧ One W (G + 1 + 1) 4 (.bool false)) ?c7 ?c8 ?c9 ?hassign ?hbody ?hdone ?hstop
    case c0 => exact Two.new _ _ _ _
    case c1 => intro j hj; rw [List.mem_singleton] at hj; omega
    case c2 => rw [hs3]; omega
    case c3 => simp; omega
    case c4 => rw [hs3]; simp; omega
    case c5 => have := hp.len; omega
    case c6 =>
      intro w' hb
      exact HX.out.below (by rw [hG]; exact hB3.trans hb)
    case c7 => exact OwnFrom.and (own_one (by rw [hs3]; omega)) own_pure
    case c8 => intro c'; exact OwnFrom.and own_pure (own_one (by rw [hs3]; omega))
    case c9 => exact ⟨HO.out.below (below_new _ _), fun x hx => by cases hx⟩
    case hassign =>
      intro l m i a b W K hK
      unfold rng at hK ⊢
      simp only [roundT, List.setIfInBounds_toArray, List.set_cons_succ, List.set_cons_zero] at hK ⊢
      gi_wp2
      exact hK
    case hbody =>
      rintro l m pre x Bx W hBx hT hx ⟨hO, hI⟩ hlen
      simp only [roundT, List.setIfInBounds_toArray, List.set_cons_succ, List.set_cons_zero]
      have hBG : Below G w W := hB3.trans (hx.below (by rw [hs3]; omega) (by intro j hj; rw [List.mem_singleton] at hj; omega))
      have hT2 : TwoX W (G + 1) (.slice A2 n2 c2) (.slice A2' n2' c2') := (hx.block (G + 1) (by rw [hs3]; omega) (by simp)).trans (HT2.out.below (below_new _ _))
      have hc2 := hT2.two.c0
      have hc3 := hT2.two.c1
      have hxl := x.2
      have HS := Lib.hid (side_calls _ q x.1 W (HX2.out.below (by rw [hG]; exact hBG)) (by omega) (by have := hq.len; omega))
      have hWB : w1.heap.size + 1 ≤ W.heap.size := by have := hx.size; rw [hs3] at this; exact this
      gi_wp2
      refine ⟨trivial, (fun hh => by cases hh), CallsIn.inRound l ((callsIn_wide.2 HS.out).mono ?_)⟩
      rintro e w2 ⟨rfl, hb⟩
      have hbn := below_new w2 (.cells #[.int .i64 (at' q.1 x.1), .int .i64 (at' q.2 x.1)] 75)
      have hT' := (hT.below hb).below hbn
      have hO' := (hO.below hb).below hbn
      have hT0 := hT'.c0
      have hT1 := hT'.c1
      have hO0 := hO'.cell
      have hO1 := hO'.frozen
      have hTU : Turn [G + 1 + 1] (w1.heap.size + 1) W (w2.alloc (.cells #[.int .i64 (at' q.1 x.1), .int .i64 (at' q.2 x.1)] 75)) := Turn.of_below (Below.andThen hb hbn) hWB
      have HOO := Lib.hid hO'
      have HTU := Lib.hid hTU
      clear hbn hT' hO' hTU hb
      unfold rng
      by_cases hlo : at' q.1 x.1 ≤ at' p.1 x.1
      · by_cases hhi : at' p.2 x.1 ≤ at' q.2 x.1
        · gi_wp2
          rw [hs3]
          exact ⟨HTU.out, HOO.out, fun y hy => by rcases List.mem_append.1 hy with h | h; exact hI y h; rw [List.mem_singleton] at h; subst h; exact ⟨hlo, hhi⟩⟩
        · gi_wp2
          rw [hs3]
          exact ⟨HTU.out.trans (Turn.setCell _ (by simp)), ⟨rfl, within_not (by omega) (by have := hp.len; omega) hxl (.inr (by omega))⟩, HOO.out.set _⟩
      · gi_wp2
        rw [hs3]
        exact ⟨HTU.out.trans (Turn.setCell _ (by simp)), ⟨rfl, within_not (by omega) (by have := hp.len; omega) hxl (.inl (by omega))⟩, HOO.out.set _⟩
    case hdone =>
      rintro D ys W hD hys hx ⟨hO, hI⟩ hK
      have hO0 := hO.cell
      have hO1 := hO.frozen
      have hle : within p q = true := (within_iff (by omega) (by have := hp.len; omega)).2 (all_range hys hI)
      rw [hs3] at hD
      go_wp2_with fail
      refine leave_bool (fn := Try.f46) rfl rfl rfl Try.underlying4 (hO.set _) ?_ (by omega) ⟨by rw [hle], ?_⟩
      · exact (Below.heap_setCell _ _ _ _ (by show D ≠ G + 1 + 1; omega)).trans hK
      · rw [hG]; exact below_mark (((hB3.trans (hx.below (by rw [hs3]; omega) (by intro j hj; rw [List.mem_singleton] at hj; omega))).setCell (p := ⟨G + 1 + 1, 0, none⟩) (by show G ≤ G + 1 + 1; omega) _)) (by omega)
    case hstop =>
      rintro D c W hD hx ⟨⟨rfl, hle⟩, hO⟩ hK
      rw [hs3] at hD
      go_wp2_with fail
      refine leave_bool (fn := Try.f46) rfl rfl rfl Try.underlying4 hO hK (by omega) ⟨by rw [hle], ?_⟩
      rw [hG]
      exact below_mark (hB3.trans (hx.below (by rw [hs3]; omega) (by intro j hj; rw [List.mem_singleton] at hj; omega))) (by omega)
  · have hal' : balike p q = false := by simpa using hal
    rw [hal'] at HA ⊢
    rw [Bool.false_and]
    go_wp2_with fail
    refine (HA.out _ HB0.out).mono ?_
    rintro e w1 ⟨rfl, hb⟩
    have HB1 := Lib.hid (HB0.out.trans (hb.mono HB0.out.size))
    have HO := Lib.hid (hO.below hb)
    have hc0 := HO.out.cell
    have hf0 := HO.out.frozen
    clear hb hT1 hT2 hO
    go_wp2_with fail
    exact leave_bool0 (fn := Try.f46) rfl rfl rfl Try.underlying4 (HO.out.set _) ⟨rfl, HB1.out.setCell (p := ⟨w.heap.size + 1 + 1, 0, none⟩) (by show w.heap.size ≤ w.heap.size + 1 + 1; omega) _⟩
end Go.Proofs.Ytegoinkkcfbfaaa.bk
/- Has; the adders; keys. -/
namespace Go.Proofs.Ytegoinkkcfbfaaa.bk

open Go.ChangeShapes Go.WideShapes Go.ChangeAt Go.RowKit

open Go.Proofs.Ytegoinkkcfbfaaa.bq Go.Proofs.Ytegoinkkcfbfaaa.vk Go.Proofs.Ytegoinkkcfbfaaa.wk

set_option linter.unusedVariables false
attribute [local go_sem] Oper.semAt_some
set_option maxRecDepth 100000 in
theorem has_calls (v : Value) (p : Pair) (A : Option Addr) (n c : Nat) (l : List Int) (w : World) (h : IsX w v p) (h2 : wo.IsI w A n c l) :
    Calls Try.prog 18 #[v, .slice A n c] w fun e w' => e = .returned (.bool (has p l)) ∧ Below w.heap.size w w' := by
  have HI := Lib.hid (fun w' hb => inside_calls (.agg #[.slice A n c, .slice A n c]) v (l, l) p w' ⟨A, n, c, A, n, c, rfl, isI_below h2 hb, isI_below h2 hb⟩ (h.below hb))
  obtain ⟨A1, n1, c1, A1', n1', c1', rfl, hi, hi'⟩ := h
  have HB0 := Lib.hid (below_new w (.cells #[.slice A1 n1 c1, .slice A1' n1' c1'] 24))
  have HT := Lib.hid (TwoX.new w (.slice A1 n1 c1) (.slice A1' n1' c1'))
  clear hi hi' h2
  go_enter Try.func18, Try.ntmps18
  go_wp2_with fail
  refine wk.region_tailS 5 [.is (.slice A n c), .is (.agg #[.slice A n c, .slice A n c]), .is (.agg #[.slice A1 n1 c1, .slice A1' n1' c1']), .is (.bool (has p l)), .is (.bool (has p l))] [some 5, some 6, some 7, some 8, some 4] (by kernel_rfl) (by kernel_rfl) (by kernel_rfl) (by kernel_rfl) [] (by kernel_rfl) (by intro p hp; cases hp) (by kernel_rfl) (by kernel_rfl) ?hstep ?hdone
  case hstep =>
    intro i o ho hi hns E w4 hb4 D
    have hi2 : i = 0 ∨ i = 1 ∨ i = 2 ∨ i = 3 ∨ i = 4 := by omega
    clear hi
    rcases hi2 with rfl | rfl | rfl | rfl | rfl
    ·
      have ho2 := (Array.getElem?_eq_some_iff.1 ho).2
      simp only [List.getElem_toArray, List.getElem_cons_zero] at ho2
      subst ho2
      clear ho
      have e1 := D.old 1 (by kernel_rfl)
      exact wk.does_move rfl (by rw [e1]; rfl)
    ·
      have ho2 := (Array.getElem?_eq_some_iff.1 ho).2
      simp only [List.getElem_toArray, List.getElem_cons_succ, List.getElem_cons_zero] at ho2
      subst ho2
      clear ho
      have e5 := D.is { on := 0, ground := .data } (by simp) rfl rfl 5 rfl
      refine wk.does_fn (f := 32) (vs := #[.slice A n c]) rfl (D.fn _) (by simp [e5]) (by go_simp) ?_
      refine (point_calls A n c w4).mono ?_
      rintro e w7 ⟨rfl, hb7⟩
      exact ⟨_, rfl, hb7, rfl⟩
    ·
      have ho2 := (Array.getElem?_eq_some_iff.1 ho).2
      simp only [List.getElem_toArray, List.getElem_cons_succ, List.getElem_cons_zero] at ho2
      subst ho2
      clear ho
      have e2 := D.old 2 (by kernel_rfl)
      exact wk.does_load_row rfl (by rw [e2]; rfl) (HT.out.below ((Below.refl _ _).drew.trans hb4)) Try.underlying24 rfl (by kernel_rfl) rfl
    ·
      have ho2 := (Array.getElem?_eq_some_iff.1 ho).2
      simp only [List.getElem_toArray, List.getElem_cons_succ, List.getElem_cons_zero] at ho2
      subst ho2
      clear ho
      have e6 := D.is { on := 1, ground := .data } (by simp) rfl rfl 6 rfl
      have e7 := D.is { on := 2, ground := .data } (by simp) rfl rfl 7 rfl
      refine wk.does_fn (f := 46) (vs := #[.agg #[.slice A n c, .slice A n c], .agg #[.slice A1 n1 c1, .slice A1' n1' c1']]) rfl (D.fn _) (by simp [e6, e7]) (by go_simp) ?_
      refine (HI.out w4 (Below.andThen HB0.out ((Below.refl _ _).drew.trans hb4))).mono ?_
      rintro e w7 ⟨rfl, hb7⟩
      exact ⟨_, rfl, hb7, rfl⟩
    ·
      have ho2 := (Array.getElem?_eq_some_iff.1 ho).2
      simp only [List.getElem_toArray, List.getElem_cons_succ, List.getElem_cons_zero] at ho2
      subst ho2
      clear ho
      have e8 := D.is { on := 3, ground := .data } (by simp) rfl rfl 8 rfl
      exact wk.does_assign rfl e8
  case hdone =>
    intro vals w4 hb4 hv
    have h4 := hv 4 (by omega)
    clear hv
    replace h4 : vals 4 = (.bool (has p l)) := h4
    simp only [List.drop_succ_cons, List.drop_zero, wpList, wk.setL, List.setIfInBounds_toArray, List.set_cons_zero, List.set_cons_succ, Nat.zero_add, Nat.reduceAdd, h4]
    generalize vals 0 = x0
    generalize vals 1 = x1
    generalize vals 2 = x2
    generalize vals 3 = x3
    have HB1 := Lib.hid (Below.andThen HB0.out ((Below.refl _ _).drew.trans hb4))
    clear hb4
    go_wp2_with fail
    go_ret
    exact ⟨rfl, HB1.out⟩
/-- the adders -/
def addf (m : Int) : Nat := if m = 1 then 100 else if m = 2 then 101 else 102
set_option maxRecDepth 100000 in
theorem add_calls (m : Int) (hm : m = 1 ∨ m = 2 ∨ m = 3) (g : Nat) (s d : Int) (w : World) (h : One w g 3 (.int .i64 s)) (h0 : 0 ≤ s) (h1 : s ≤ 128000000) (h2 : 0 ≤ d) (h3 : d ≤ 2000) :
    Calls Try.prog (addf m) #[.int .i64 d, .pointer (some ⟨g, 0, none⟩)] w fun e w' => e = .returned (.int .i64 (bq.step m s d)) ∧ w' = w.setCell ⟨g, 0, none⟩ (.int .i64 (bq.step m s d)) := by
  have hc := h.cell
  have hf := h.frozen
  have hdd : 0 ≤ d * d := Int.mul_nonneg h2 h2
  have hdd2 : d * d ≤ 2000 * 2000 := Int.mul_le_mul h3 h3 h2 (by omega)
  rcases hm with rfl | rfl | rfl
  · have hs : bq.step 1 s d = s + d := rfl
    rw [hs]
    have hcell := (h.set (.int .i64 (s + d))).cell
    clear h
    simp only [addf, if_true]
    go_enter Try.func100, Try.ntmps100
    go_wp2_with fail
    go_ret
    exact ⟨rfl, rfl⟩
  · have hs : bq.step 2 s d = s + d * d := rfl
    rw [hs]
    have hcell := (h.set (.int .i64 (s + d * d))).cell
    clear h
    have ha : addf 2 = 101 := rfl
    rw [ha]
    go_enter Try.func101, Try.ntmps101
    go_wp2_with fail
    go_ret
    exact ⟨rfl, rfl⟩
  · have hs : bq.step 3 s d = max s d := rfl
    rw [hs]
    have hcell := (h.set (.int .i64 (max s d))).cell
    clear h
    have ha : addf 3 = 102 := rfl
    rw [ha]
    obtain ⟨x, hx⟩ : ∃ x, max s d = x := ⟨_, rfl⟩
    rw [hx] at hcell ⊢
    go_enter Try.func102, Try.ntmps102
    go_wp2_with fail
    go_ret
    exact ⟨rfl, rfl⟩
theorem add_enters (m : Int) (hm : m = 1 ∨ m = 2 ∨ m = 3) : ∀ args w, (callFunc (addf m) args).run Try.prog w = .ok (.enter (addf m) args) w := by
  rcases hm with rfl | rfl | rfl
  · intro args w; kernel_rfl
  · intro args w; kernel_rfl
  · intro args w; kernel_rfl
def metric (m : Int) : Bool := decide (1 ≤ m) && decide (m ≤ 3)
theorem metric_iff {m : Int} : metric m = true ↔ m = 1 ∨ m = 2 ∨ m = 3 := by simp [metric]; omega
set_option maxRecDepth 100000 in
theorem adder_calls (m : Int) (hm : m = 1 ∨ m = 2 ∨ m = 3) (w : World) :
    Calls Try.prog 73 #[.int .i64 m] w fun e w' => e = .returned (.tuple #[.func (.func (addf m)) #[] #[.pointer (some ⟨w.heap.size, 0, none⟩)], .bool true]) ∧ w' = w.alloc (.cells #[.int .i64 0] 3) := by
  rcases hm with rfl | rfl | rfl
  all_goals
    go_enter Try.func73, Try.ntmps73
    go_wp2_with fail
    exact bodyPost_ret (results_tmp2 rfl _ _ _) rfl ⟨rfl, rfl⟩
set_option maxRecDepth 100000 in
theorem adder_no (m : Int) (hm : metric m = false) (w : World) :
    Calls Try.prog 73 #[.int .i64 m] w fun e w' => e = .returned (.tuple #[Value.nilFunc, .bool false]) ∧ w' = w.alloc (.cells #[.int .i64 0] 3) := by
  have h : ¬ (m = 1 ∨ m = 2 ∨ m = 3) := fun hh => by rw [metric_iff.2 hh] at hm; cases hm
  have h1 : (m == 1) = false := by simp; omega
  have h2 : (m == 2) = false := by simp; omega
  have h3 : (m == 3) = false := by simp; omega
  go_enter Try.func73, Try.ntmps73
  go_wp2_with fail
  exact bodyPost_ret (results_tmp2 rfl _ _ _) rfl ⟨rfl, rfl⟩
end Go.Proofs.Ytegoinkkcfbfaaa.bk
