/- Alike, Encode, Decode: the program's. -/
import Derived.Test.YtbnemcggiopdmaaQh

import Derived.Test.YtbnemcggiopdmaaEnc

namespace Go.Proofs.Ytbnemcggiopdmaa.vq

open Go.Proofs.Ytbnemcggiopdmaa
theorem getN_bd (l : List UInt8) : ∀ (g : Nat) (acc : List Int) (u : Int), (∀ x ∈ acc, -9223372036854775808 ≤ x ∧ x ≤ 9223372036854775807) → ∀ x ∈ (wp.getN wp.getI l g acc u).1, -9223372036854775808 ≤ x ∧ x ≤ 9223372036854775807
  | 0, acc, u, h => by rw [wp.getN]; exact h
  | g + 1, acc, u, h => by
    rw [wp.getN]
    split
    · intro x hx; cases hx
    · refine getN_bd l g _ _ fun x hx => ?_
      rw [List.mem_append, List.mem_singleton] at hx
      rcases hx with hx | rfl
      · exact h x hx
      · have := wp.getI_facts (l.drop u.toNat)
        exact ⟨this.1, this.2.1⟩
theorem getL_bd (l : List UInt8) : ∀ x ∈ (wp.getL wp.getI 1 l).1, -9223372036854775808 ≤ x ∧ x ≤ 9223372036854775807 := by
  unfold wp.getL
  split
  · intro x hx; cases hx
  · exact getN_bd l _ _ _ (by intro x hx; cases hx)
theorem encIs_length (l : List Int) (h : ∀ x ∈ l, -9223372036854775808 ≤ x ∧ x ≤ 9223372036854775807) (hl : l.length ≤ 1099511627776) : (wp.encIs l).length ≤ 10 + 10 * l.length := by
  have h1 : ∀ l : List Int, (∀ x ∈ l, -9223372036854775808 ≤ x ∧ x ≤ 9223372036854775807) → (l.flatMap wp.encI).length ≤ 10 * l.length := by
    intro l
    induction l with
    | nil => simp
    | cons x l ih =>
      intro h
      have := wp.encI_length (h x (by simp)).1 (h x (by simp)).2
      have := ih fun y hy => h y (by simp [hy])
      simp only [List.flatMap_cons, List.length_append, List.length_cons]
      omega
  have := h1 l h
  have := wp.encI_length (n := (l.length : Int)) (by omega) (by omega)
  unfold wp.encIs
  rw [List.length_append]
  omega
/-- Decode -/
def dec (l : List UInt8) : List Int × Int :=
  if (wp.getL wp.getI 1 l).2.2 ≠ 0 then ([], (wp.getL wp.getI 1 l).2.2) else if (wp.getL wp.getI 1 l).2.1 < (l.length : Int) then ([], 11) else if valid (wp.getL wp.getI 1 l).1 then ((wp.getL wp.getI 1 l).1, 0) else ([], 40)
theorem dec_eq (l : List UInt8) : dec l =
  if (wp.getL wp.getI 1 l).2.2 ≠ 0 then ([], (wp.getL wp.getI 1 l).2.2) else if (wp.getL wp.getI 1 l).2.1 < (l.length : Int) then ([], 11) else if valid (wp.getL wp.getI 1 l).1 then ((wp.getL wp.getI 1 l).1, 0) else ([], 40) := rfl
end Go.Proofs.Ytbnemcggiopdmaa.vq

namespace Go.Proofs.Ytbnemcggiopdmaa.vk

open Go.ChangeShapes Go.WideShapes Go.ChangeAt Go.RowKit

set_option linter.unusedVariables false
set_option maxRecDepth 100000 in
theorem alike_calls (A A' : Option Addr) (n n' c c' : Nat) (a b : List Int) (w : World) (h : wo.IsI w A n c a) (h' : wo.IsI w A' n' c' b) :
    Calls Try.prog 14 #[.slice A n c, .slice A' n' c'] w fun e w' => e = .returned (.bool (vq.alike a b)) ∧ Below w.heap.size w w' := by
  have hl := h.1
  have hl' := h'.1
  unfold vq.alike
  rw [hl, hl']
  by_cases hn : n = n'
  · subst hn
    have HA := Lib.hid (valid_calls A n c a w h)
    have HB := Lib.hid (fun w' (hb : Below w.heap.size w w') => valid_calls A' n c' b w' (isI_below h' hb))
    cases hva : vq.valid a
    · rw [hva] at HA
      clear h h' hl hl' hva
      go_enter Try.func14, Try.ntmps14
      go_wp2_with fail
      refine HA.out.mono ?_
      rintro e w' ⟨rfl, hb⟩
      have HBE := Lib.hid hb
      clear hb
      go_wp2_with fail
      go_ret
      exact ⟨by simp, HBE.out⟩
    · rw [hva] at HA
      clear h h' hl hl' hva
      go_enter Try.func14, Try.ntmps14
      go_wp2_with fail
      refine HA.out.mono ?_
      rintro e w1 ⟨rfl, hb⟩
      have HBE := Lib.hid hb
      clear hb
      go_wp2_with fail
      refine (HB.out w1 HBE.out).mono ?_
      rintro e w2 ⟨rfl, hb2⟩
      have HBE2 := Lib.hid (Below.andThen HBE.out hb2)
      clear hb2
      go_wp2_with fail
      go_ret
      exact ⟨by simp, HBE2.out⟩
  · clear h h' hl hl'
    go_enter Try.func14, Try.ntmps14
    go_wp2_with fail
    go_ret
    exact ⟨by simp [hn], Below.refl _ _⟩
theorem isB_of_out {l : List UInt8} {w w' : World} {e : Ending} (h : wi.OutB l w e w') : ∃ A c, e = .returned (.slice A l.length c) ∧ wo.IsB w' A l.length c l ∧ Below w.heap.size w w' := by
  obtain ⟨v, rfl, hown, hb⟩ := h
  obtain ⟨A, c, rfl, h1, h2, hR⟩ := wp.RC.of_own hown
  exact ⟨A, c, rfl, ⟨rfl, h1, by unfold maxLen at h2; omega, hR.rb⟩, hb⟩
set_option maxRecDepth 100000 in
theorem encode_calls (A : Option Addr) (n c : Nat) (l : List Int) (w : World) (h : wo.IsI w A n c l) (hn : n ≤ 1099511627776) :
    Calls Try.prog 34 #[.slice A n c] w fun e w' => ∃ A' c', e = .returned (.slice A' (wp.encIs l).length c') ∧ wo.IsB w' A' (wp.encIs l).length c' (wp.encIs l) ∧ Below w.heap.size w w' := by
  have hlen := vq.encIs_length l h.2.2.2.2 (by have := h.1; omega)
  have H := Lib.hid ((wi.ints_out A n c l w h.1 h.2.1 h.2.2.1 h.2.2.2.1 h.2.2.2.2 (by have := h.1; omega)).mono fun e w' hh => isB_of_out hh)
  clear h hlen
  generalize wp.encIs l = E at *
  go_enter Try.func34, Try.ntmps34
  go_wp2_with fail
  refine H.out.mono ?_
  rintro e w' ⟨A', c', rfl, hI, hb⟩
  have HI := Lib.hid hI
  have HB := Lib.hid hb
  clear hI hb
  go_wp2_with fail
  go_ret
  exact ⟨A', c', rfl, HI.out, HB.out⟩
theorem isI_nil (w : World) : wo.IsI w none 0 0 [] := ⟨rfl, Nat.le_refl _, by omega, fun h => absurd h (by simp), fun x hx => by cases hx⟩
set_option maxRecDepth 100000 in
theorem decode_calls (A : Option Addr) (n c : Nat) (l : List UInt8) (w : World) (h : wo.IsB w A n c l) (hn : n ≤ 1099511627776) :
    Calls Try.prog 32 #[.slice A n c] w fun e w' => ∃ A' n' c', e = .returned (.tuple #[.slice A' n' c', .int .i64 (vq.dec l).2]) ∧ wo.IsI w' A' n' c' (vq.dec l).1 ∧ Below w.heap.size w w' := by
  obtain ⟨hln, hnc, hc, hR⟩ := h
  have H := Lib.hid (wi.getInts_any A n c l w hnc hc hln hR hn)
  have HBD := Lib.hid (vq.getL_bd l)
  have hE := vq.dec_eq l
  rw [hln] at hE
  have HE := Lib.hid hE
  clear hE hR hln
  generalize vq.dec l = D at *
  generalize wp.getL wp.getI 1 l = R at *
  obtain ⟨r1, r2, r3⟩ := R
  dsimp only at *
  by_cases h3 : r3 = 0
  · by_cases h2 : r2 < (n : Int)
    · go_enter Try.func32, Try.ntmps32
      go_wp2_with fail
      refine H.out.mono ?_
      rintro e w' ⟨v, rfl, hown, hb⟩
      have HB := Lib.hid hb
      clear hb hown
      go_wp2_with fail
      go_ret2
      have := HE.out
      rw [if_neg (by simpa using h3), if_pos h2] at this
      rw [this]
      exact ⟨none, 0, 0, rfl, isI_nil _, HB.out⟩
    · go_enter Try.func32, Try.ntmps32
      go_wp2_with fail
      refine H.out.mono ?_
      rintro e w' ⟨v, rfl, hown, hb⟩
      obtain ⟨A1, c1, rfl, hI⟩ := isI_of_own hown HBD.out
      have HI := Lib.hid hI
      have HB := Lib.hid hb
      have HV := Lib.hid (valid_calls A1 r1.length c1 r1 w' hI)
      clear hb hown hI
      have hE := HE.out
      rw [if_neg (by simpa using h3), if_neg (by omega)] at hE
      cases hv : vq.valid r1
      · rw [hv] at HV hE
        rw [if_neg (by simp)] at hE
        have HE2 := Lib.hid hE
        clear hE hv
        go_wp2_with fail
        refine HV.out.mono ?_
        rintro e w2 ⟨rfl, hb2⟩
        have HB2 := Lib.hid (Below.andThen HB.out hb2)
        clear hb2
        go_wp2_with fail
        go_ret2
        rw [HE2.out]
        exact ⟨none, 0, 0, rfl, isI_nil _, HB2.out⟩
      · rw [hv] at HV hE
        rw [if_pos rfl] at hE
        have HE2 := Lib.hid hE
        clear hE hv
        go_wp2_with fail
        refine HV.out.mono ?_
        rintro e w2 ⟨rfl, hb2⟩
        have HI2 := Lib.hid (isI_below HI.out hb2)
        have HB2 := Lib.hid (Below.andThen HB.out hb2)
        clear hb2
        go_wp2_with fail
        go_ret2
        rw [HE2.out]
        exact ⟨A1, _, c1, rfl, HI2.out, HB2.out⟩
  · go_enter Try.func32, Try.ntmps32
    go_wp2_with fail
    refine H.out.mono ?_
    rintro e w' ⟨v, rfl, hown, hb⟩
    have HB := Lib.hid hb
    clear hb hown
    go_wp2_with fail
    go_ret2
    have := HE.out
    rw [if_pos h3] at this
    rw [this]
    exact ⟨none, 0, 0, rfl, isI_nil _, HB.out⟩
end Go.Proofs.Ytbnemcggiopdmaa.vk
