/- Alike, the functions on pairs of boxes. -/
import Derived.Test.YtlcdjabfkfmpdaaBd

namespace Go.Proofs.Ytlcdjabfkfmpdaa.bk

open Go.ChangeShapes Go.WideShapes Go.ChangeAt Go.RowKit

open Go.Proofs.Ytlcdjabfkfmpdaa.bq Go.Proofs.Ytlcdjabfkfmpdaa.vk Go.Proofs.Ytlcdjabfkfmpdaa.wk

set_option linter.unusedVariables false
set_option maxRecDepth 100000 in
set_option maxHeartbeats 2000000 in
theorem alike_calls (v u : Value) (p q : Pair) (w : World) (h : IsX w v p) (h2 : IsX w u q) :
    Calls Try.prog 42 #[v, u] w fun e w' => e = .returned (.bool (balike p q)) ∧ Below w.heap.size w w' := by
  have HV := Lib.hid (fun w' hb => valid_calls v p w' (h.below hb))
  have HU := Lib.hid (fun w' hb => valid_calls u q w' (h2.below hb))
  obtain ⟨A, n, c, A', n', c', rfl, hi, hi'⟩ := h
  obtain ⟨A2, n2, c2, A2', n2', c2', rfl, hi2, hi2'⟩ := h2
  have hm := hi.2.2.1
  have hm2 := hi2.2.2.1
  have hn := hi.2.1
  have hn2 := hi2.2.1
  have hl := hi.1
  have hl2 := hi2.1
  have HB0 := Lib.hid (Below.andThen (below_new w (.cells #[.slice A n c, .slice A' n' c'] 25)) (below_new _ (.cells #[.slice A2 n2 c2, .slice A2' n2' c2'] 25)))
  have hT1 := (Two.new w (.slice A n c) (.slice A' n' c') 25).below (below_new _ (.cells #[.slice A2 n2 c2, .slice A2' n2' c2'] 25))
  have hT2 := Two.new (w.alloc (.cells #[.slice A n c, .slice A' n' c'] 25)) (.slice A2 n2 c2) (.slice A2' n2' c2') 25
  simp only [size_new] at hT2
  have HT1 := Lib.hid hT1
  have HT2 := Lib.hid hT2
  clear hi hi' hi2 hi2' hT1 hT2
  by_cases hlen : n = n2
  · subst hlen
    by_cases hv1 : bvalid p = true
    · rw [hv1] at HV
      have hV : balike p q = bvalid q := by simp [balike, hl, hl2, hv1]
      rw [hV]
      go_enter Try.func42, Try.ntmps42
      go_wp2_with fail
      refine (HV.out _ HB0.out).mono ?_
      rintro e w1 ⟨rfl, hb⟩
      have HB1 := Lib.hid (HB0.out.trans (hb.mono HB0.out.size))
      have hT := HT2.out.below hb
      have hc0 := hT.c0
      have hc1 := hT.c1
      clear hb hT
      go_wp2_with fail
      refine (HU.out _ HB1.out).mono ?_
      rintro e w2 ⟨rfl, hb⟩
      have HB2 := Lib.hid (HB1.out.trans (hb.mono HB1.out.size))
      clear hb
      go_wp2_with fail
      go_ret
      exact ⟨rfl, HB2.out⟩
    · have hV : balike p q = false := by simp [balike, hv1]
      have hv1' : bvalid p = false := by simpa using hv1
      rw [hv1'] at HV
      rw [hV]
      go_enter Try.func42, Try.ntmps42
      go_wp2_with fail
      refine (HV.out _ HB0.out).mono ?_
      rintro e w1 ⟨rfl, hb⟩
      have HB1 := Lib.hid (HB0.out.trans (hb.mono HB0.out.size))
      clear hb
      go_wp2_with fail
      go_ret
      exact ⟨rfl, HB1.out⟩
  · have hV : balike p q = false := by simp [balike, hl, hl2, hlen]
    rw [hV]
    go_enter Try.func42, Try.ntmps42
    go_wp2_with fail
    go_ret
    exact ⟨rfl, HB0.out⟩
abbrev iv (l : List Int) : List Value := l.map (Value.int .i64)
theorem isI_of_own {w : World} {B n : Nat} {v : Value} {l : List Int} (h : w.ownsRow B 3 1 v n (iv l)) (hb : ∀ x ∈ l, -9223372036854775808 ≤ x ∧ x ≤ 9223372036854775807) : ∃ A c, v = .slice A n c ∧ wo.IsI w A n c l := by
  have hl : l.length = n := by have := h.1; simpa [iv] using this
  obtain ⟨A, c, rfl, h1, h2, hR⟩ := wp.RC.of_own h
  exact ⟨A, c, rfl, hl, h1, by unfold maxLen at h2; omega, hR, hb⟩
/-- joined, with lesser or greater -/
def pickf (f : Nat) (a b : Int) : Int := if f = 44 then min a b else max a b
theorem pick_calls (f : Nat) (hf : f = 44 ∨ f = 45) (a b : Int) (w : World) : Calls Try.prog f #[.int .i64 a, .int .i64 b] w fun e w' => e = .returned (.int .i64 (pickf f a b)) ∧ w' = w := by
  rcases hf with rfl | rfl
  · exact lesser_calls a b w
  · exact greater_calls a b w
theorem pick_enters (f : Nat) (hf : f = 44 ∨ f = 45) : ∀ args w, (callFunc f args).run Try.prog w = .ok (.enter f args) w := by
  rcases hf with rfl | rfl
  · intro args w; kernel_rfl
  · intro args w; kernel_rfl
def joinf (f : Nat) (a b : List Int) : List Int := (List.range a.length).map fun i => pickf f (at' a i) (at' b i)
theorem joinf_snoc (f : Nat) (a b : List Int) {k : Nat} (hk : k < a.length) : (joinf f a b).take (k + 1) = (joinf f a b).take k ++ [pickf f (at' a k) (at' b k)] := by
  rw [List.take_add_one]
  congr 1
  simp [joinf, hk]
set_option maxRecDepth 100000 in
set_option maxHeartbeats 2000000 in
theorem joined_calls (f : Nat) (hf : f = 44 ∨ f = 45) (A A' : Option Addr) (n c n' c' : Nat) (a b : List Int) (w : World) (h : wo.IsI w A n c a) (h' : wo.IsI w A' n' c' b) (hn : n ≤ n') (hn1 : n ≤ 1000) :
    Calls Try.prog 43 #[.slice A n c, .slice A' n' c', .func (.func f) #[] #[]] w fun e w' => ∃ v, e = .returned v ∧ IsV w' v (joinf f a b) ∧ Below w.heap.size w w' := by
  obtain ⟨i0, hi, hz0, hz1, hz2⟩ := info_parts wi.infoI
  have HP := Lib.hid (fun x y w' => pick_calls f hf x y w')
  have hE := pick_enters f hf
  have hm := h.2.2.1
  have hm' := h'.2.2.1
  have hnc := h.2.1
  have hnc' := h'.2.1
  have HI := Lib.hid h
  have HI' := Lib.hid h'
  have HL := Lib.hid h.1
  have HL' := Lib.hid h'.1
  clear h h' hf
  have hnI : (i0.bytes : Nat) * n ≤ 281474976710656 := by rw [hz2]; omega
  obtain ⟨w1, hmk, hown, hgr⟩ := run_make_own (P := Try.prog) w w.heap.size 23 3 i0 (.int .i64 0) 1 Try.underlying23 hi hz0 hz1 .i64 .i64 n hnI (by unfold maxLen; omega) (Nat.le_refl _)
  have HB1 : Hid (Below w.heap.size w w1) := (Below.refl _ _).grown hgr (Nat.le_refl _) (fun k hk => by cases hk)
  have HOWN := Lib.hid hown
  have HBND : Hid (∀ x ∈ joinf f a b, -9223372036854775808 ≤ x ∧ x ≤ 9223372036854775807) := fun x hx => by
    simp only [joinf, List.mem_map, List.mem_range] at hx
    obtain ⟨i, hi, rfl⟩ := hx
    have h1 := HI.out.2.2.2.2 (at' a i) (List.mem_of_getElem? (of_at hi))
    have h2 := HI'.out.2.2.2.2 (at' b i) (List.mem_of_getElem? (of_at (by rw [HL'.out]; rw [HL.out] at hi; omega)))
    unfold pickf
    split <;> omega
  have HJL : Hid ((joinf f a b).length = n) := by show _ = _; rw [joinf, List.length_map, List.length_range, HL.out]
  clear hown hgr
  generalize hG : w.heap.size = B at *
  have HG := Lib.hid hG
  clear hG
  go_enter Try.func43, Try.ntmps43
  go_wp2_with fail
  go_loopg [7, 15] n (fun g v x wr => ∃ (k : Nat), k + g = n ∧ x = .int .i64 (k : Int) ∧ wr.ownsRow B 3 1 v k (iv ((joinf f a b).take k)) ∧ Below B w wr)
  case atStart => exact ⟨0, by omega, rfl, HOWN.out, HB1.out⟩
  case round =>
    obtain ⟨k, hk, rfl, hown, hbel⟩ := hrel
    have HK := Lib.hid hk
    have HOWN2 := Lib.hid hown
    have HBEL := Lib.hid hbel
    have HBW : Hid (B ≤ wr.heap.size) := by have := hbel.size; have := HG.out; show _ ≤ _; omega
    have hkn : k ≤ n := by omega
    by_cases hlt : k < n
    · have hb1 : Below w.heap.size w wr := by rw [HG.out]; exact hbel
      obtain ⟨bb, o, rfl, hc, hb⟩ := isI_get (isI_below HI.out hb1) hlt
      obtain ⟨bb', o', rfl, hc', hb'⟩ := isI_get (isI_below HI'.out hb1) (show k < n' by omega)
      have HS : Hid ((joinf f a b).take (k + 1) = (joinf f a b).take k ++ [pickf f (at' a k) (at' b k)]) := joinf_snoc f a b (by rw [HL.out]; exact hlt)
      have HP2 := Lib.hid (fun w' => HP.out (at' a k) (at' b k) w')
      generalize pickf f (at' a k) (at' b k) = z at *
      generalize at' a k = x at *
      generalize at' b k = y at *
      have h1' : (k : Int) < (n : Int) := by omega
      have h2' : (k : Int) < (n' : Int) := by omega
      clear hown hbel hb1 hk hb hb'
      go_wp2_with fail
      refine (HP2.out _).mono ?_
      rintro e w' ⟨rfl, rfl⟩
      go_wp2_with (at_builtin; refine wpList_append_own _ rfl _ _ 23 rfl B 3 i0 (.int .i64 0) 1 8 Try.underlying23 hi hz0 hz1 hz2 rfl (by decide) _ _ _ rfl (HOWN2.out.alloc _) ⟨w'.heap.size, 0, none⟩ 1 1 [.int .i64 z] rfl rfl ?c1 ?c2 ?c3 ?c4 ?c5 ?_)
      case c1 => exact cell_one_new _ _ _
      case c2 => simp [Value.oneCell']
      case c3 => unfold maxLen; omega
      case c4 => omega
      case c5 => have := HBW.out; simp; omega
      intro v' w2 hown2 hgrow _
      have hbe : Below B w w2 := (HBEL.out.alloc HBW.out _).grown hgrow (by have := HBW.out; simp; omega) (fun q hq => (HOWN2.out.lt q hq).1)
      have HB2 := Lib.hid hbe
      have HO2 := Lib.hid hown2
      clear hown2 hgrow hbe
      go_wp2_with fail
      go_roundg (gk - 1)
      case measure => have := HK.out; omega
      case rel =>
        refine ⟨k + 1, by have := HK.out; omega, by go_num, ?_, HB2.out⟩
        have h := HO2.out
        rw [HS.out]
        unfold iv at h ⊢
        rw [List.map_append]
        simpa using h
    · obtain rfl : k = n := by omega
      have ho := hown
      rw [List.take_of_length_le (by have := HJL.out; omega)] at ho
      obtain ⟨A2, c2, rfl, hI⟩ := isI_of_own ho HBND.out
      have HI2 := Lib.hid hI
      clear ho hI hown hbel
      go_wp2_with fail
      go_ret
      exact ⟨_, rfl, ⟨A2, k, c2, rfl, HI2.out⟩, HBEL.out⟩
end Go.Proofs.Ytlcdjabfkfmpdaa.bk
