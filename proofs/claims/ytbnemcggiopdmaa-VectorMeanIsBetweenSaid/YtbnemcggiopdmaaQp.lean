/- VectorsAreOrdered: its walk. -/
import Derived.Test.YtbnemcggiopdmaaQo

namespace Go.Proofs.Ytbnemcggiopdmaa.vk
theorem int_wf {a : Int} (h : (Lit.int .i64 a).wf = true) : -9223372036854775808 ≤ a ∧ a ≤ 9223372036854775807 := by simpa [Lit.wf, IntKind.min, IntKind.max, IntKind.signed, IntKind.bits] using h
theorem take_beq {a b : List Int} {k : Nat} {x y : Int} (hx : a[k]? = some x) (hy : b[k]? = some y) : (a.take (k + 1) == b.take (k + 1)) = (a.take k == b.take k && x == y) := by
  rw [vq.take_snoc hx, vq.take_snoc hy, Bool.eq_iff_iff]
  simp only [beq_iff_eq, Bool.and_eq_true]
  constructor
  · intro h
    have := List.append_inj' h rfl
    exact ⟨this.1, by simpa using this.2⟩
  · rintro ⟨h, rfl⟩; rw [h]
end Go.Proofs.Ytbnemcggiopdmaa.vk

namespace Go.Proofs.Ytbnemcggiopdmaa.vectorsAreOrdered

open Go.ChangeShapes Go.WideShapes Go.ChangeAt Go.RowKit

open Go.Proofs.Ytbnemcggiopdmaa.vk

set_option linter.unusedVariables false
set_option maxRecDepth 100000 in
set_option maxHeartbeats 4000000 in
theorem walk (w : World) {A1 A2 A3 : Option Addr} {n1 n2 n3 c1 c2 c3 : Nat} {a b c : List Int} (h1 : wo.IsI w A1 n1 c1 a) (h2 : wo.IsI w A2 n2 c2 b) (h3 : wo.IsI w A3 n3 c3 c) :
    Calls Try.prog 10 #[.slice A1 n1 c1, .slice A2 n2 c2, .slice A3 n3 c3] w fun e w' => e = .returned (.bool true) ∧ Below w.heap.size w w' := by
  have HS := Lib.hid (fun w' => sanity_calls w')
  by_cases hbig : 40 < n1 ∨ 40 < n2 ∨ 40 < n3
  · have : 40 < n1 ∨ (40 < n2 ∧ ¬ 40 < n1) ∨ (40 < n3 ∧ ¬ 40 < n1 ∧ ¬ 40 < n2) := by omega
    clear h1 h2 h3 hbig
    rcases this with h | ⟨h, h'⟩ | ⟨h, h', h''⟩
    all_goals
      go_enter Try.func10, Try.ntmps10
      go_wp2_with fail
      refine (HS.out _).mono ?_
      rintro e w' ⟨rfl, hb⟩
      have HB := Lib.hid hb
      clear hb
      go_wp2_with fail
      go_ret
      exact ⟨rfl, HB.out⟩
  have q1 : n1 ≤ 40 := by omega
  have q2 : n2 ≤ 40 := by omega
  have q3 : n3 ≤ 40 := by omega
  have hl1 := h1.1
  have hl2 := h2.1
  have hm1 := h1.2.2.1
  have hm2 := h2.2.2.1
  have hnc1 := h1.2.1
  have hnc2 := h2.2.1
  clear hbig
  have H1 := Lib.hid h1
  have H2 := Lib.hid h2
  have H3 := Lib.hid h3
  have HL1 := Lib.hid hl1
  have HL2 := Lib.hid hl2
  clear h1 h2 h3 hl1 hl2
  go_enter Try.func10, Try.ntmps10
  go_wp2_with fail
  refine (compare_calls A1 A2 n1 n2 c1 c2 a b w H1.out H2.out).mono ?_
  rintro e w1 ⟨rfl, hb1⟩
  have HB1 := Lib.hid hb1
  clear hb1
  go_wp2_with fail
  refine (compare_calls A2 A3 n2 n3 c2 c3 b c w1 (isI_below H2.out HB1.out) (isI_below H3.out HB1.out)).mono ?_
  rintro e w2 ⟨rfl, hb2⟩
  have HB2 := Lib.hid (Below.andThen HB1.out hb2)
  clear hb2
  go_wp2_with fail
  refine (compare_calls A1 A3 n1 n3 c1 c3 a c w2 (isI_below H1.out HB2.out) (isI_below H3.out HB2.out)).mono ?_
  rintro e w3 ⟨rfl, hb3⟩
  have HB3 := Lib.hid (Below.andThen HB2.out hb3)
  clear hb3
  have J1 := Lib.hid (isI_below H1.out HB3.out)
  have J2 := Lib.hid (isI_below H2.out HB3.out)
  go_wp2_with fail
  go_loopg [10, 42] n1 (fun g v x wr => ∃ (k q : Nat) (e : Bool), k + g = n1 ∧ x = .int .i64 (k : Int) ∧ v = .bool e ∧ e = (decide (n1 = n2) && (a.take k == b.take k)) ∧ wr = w3.drewN q)
  case atStart => exact ⟨0, 0, decide (n1 = n2), by omega, rfl, by first | rfl | (congr 1; rw [Bool.eq_iff_iff]; simp <;> omega), by simp, rfl⟩
  case round =>
    obtain ⟨k, q, e, hk, rfl, rfl, he, rfl⟩ := hrel
    have HK := Lib.hid hk
    have HE := Lib.hid he
    have hkn : k ≤ n1 := by omega
    clear hk he
    by_cases hlt : k < n1
    · cases e
      · go_wp2_with fail
        go_quiet (fail)
        go_wp2_with fail
        go_roundg (gk - 1)
        case measure => have := HK.out; omega
        case rel =>
          refine ⟨k + 1, _, false, by have := HK.out; omega, by go_num, rfl, ?_, rfl⟩
          have := HE.out
          by_cases hn : n1 = n2
          · obtain ⟨_, _, x, _, _, hx, -, -⟩ := isI_at H1.out hlt
            obtain ⟨_, _, y, _, _, hy, -, -⟩ := isI_at H2.out (k := k) (by omega)
            rw [take_beq hx hy]
            revert this
            cases (a.take k == b.take k) <;> simp [hn]
          · simp [hn]
      · have hn : n1 = n2 := by have := HE.out; simp at this; omega
        obtain ⟨b1, o1, x, rfl, hc1, hx, -, -⟩ := isI_at J1.out hlt
        obtain ⟨b2, o2, y, rfl, hc2, hy, -, -⟩ := isI_at J2.out (k := k) (by omega)
        have hlt2 : k < n2 := by omega
        have HT := Lib.hid (take_beq hx hy)
        have HN := Lib.hid hn
        clear hx hy hn
        by_cases hxy : x = y
        · subst hxy
          go_wp2_with fail
          go_quiet (fail)
          go_wp2_with fail
          go_roundg (gk - 1)
          case measure => have := HK.out; omega
          case rel =>
            refine ⟨k + 1, _, true, by have := HK.out; omega, by go_num, by simp, ?_, rfl⟩
            have := HE.out
            rw [HT.out]
            simpa using this
        · go_wp2_with fail
          go_quiet (fail)
          go_wp2_with fail
          go_roundg (gk - 1)
          case measure => have := HK.out; omega
          case rel =>
            refine ⟨k + 1, _, false, by have := HK.out; omega, by go_num, by simp [hxy], ?_, rfl⟩
            rw [HT.out]
            simp [hxy]
    · have hkn2 : k = n1 := by omega
      have heq : e = true ↔ vq.cmp a b = 0 := by
        rw [HE.out, hkn2, vq.cmp_zero, Bool.and_eq_true, decide_eq_true_iff, beq_iff_eq]
        have e1 : a.take n1 = a := List.take_of_length_le (by have := HL1.out; omega)
        rw [e1]
        constructor
        · rintro ⟨h, h'⟩; rw [h', List.take_of_length_le (by have := HL2.out; omega)]
        · rintro rfl
          have := HL1.out; have := HL2.out
          exact ⟨by omega, by rw [List.take_of_length_le (by omega)]⟩
      have htr := vq.cmp_trans a b c
      have hr := vq.cmp_range a b
      have HCB := Lib.hid (fun w' (hb : Below w3.heap.size w3 w') => compare_calls A2 A1 n2 n1 c2 c1 b a w' (isI_below J2.out hb) (isI_below J1.out hb))
      rw [vq.cmp_neg a b] at HCB
      generalize vq.cmp a b = x at *
      generalize vq.cmp b c = y at *
      generalize vq.cmp a c = z at *
      have hx1 : -1 ≤ x := by omega
      have hx2 : x ≤ 1 := by omega
      have HEQ := Lib.hid heq
      have hway : 0 < x ∨ (x ≤ 0 ∧ 0 < y) ∨ (x ≤ 0 ∧ y ≤ 0 ∧ z ≤ 0) := by
        rcases (by omega : 0 < x ∨ x ≤ 0) with h | h
        · exact .inl h
        · rcases (by omega : 0 < y ∨ y ≤ 0) with h' | h'
          · exact .inr (.inl ⟨h, h'⟩)
          · exact .inr (.inr ⟨h, h', htr h h'⟩)
      clear heq htr hr hkn2 HE HK J1 J2 H1 H2 H3
      have HW := Lib.hid hway
      clear hway
      go_wp2_with fail
      refine (HS.out _).mono ?_
      rintro e' w5 ⟨rfl, hb5⟩
      have HB5 := Lib.hid hb5
      clear hb5
      go_wp2_with fail
      refine (HCB.out w5 ((below_drewN (Below.refl _ _) q).trans HB5.out)).mono ?_
      rintro e' w6 ⟨rfl, hb6⟩
      have HB6 := Lib.hid (Below.andThen HB3.out (((below_drewN (Below.refl _ _) q).trans HB5.out).trans (hb6.mono HB5.out.size)))
      clear hb6 HCB HS
      have hbe : (x == 0) = e := by rw [Bool.eq_iff_iff, HEQ.out, beq_iff_eq]
      rcases HW.out with hx | ⟨hx, hy⟩ | ⟨hx, hy, hz⟩
      all_goals
        go_wp2_with fail
        go_ret
        exact ⟨rfl, HB6.out⟩
end Go.Proofs.Ytbnemcggiopdmaa.vectorsAreOrdered
