import Derived.Test.YtgkhgbjfpmhbgaaSan
import Derived.Test.YtgkhgbjfpmhbgaaPl3
import Derived.Lib.MinMax
import Derived.Deep.RegionHeld3
namespace Go.Proofs.Ytgkhgbjfpmhbgaa.wp
open Go.RowKit

theorem uv_len_mono : ∀ (k a b : Nat), a ≤ k → b ≤ a → (Lib.uvarint b).length ≤ (Lib.uvarint a).length := by
  intro k
  induction k with
  | zero => intro a b ha hb; have h1 : a = 0 := by omega
            have h2 : b = 0 := by omega
            rw [h1, h2]; exact Nat.le_refl _
  | succ k ih =>
    intro a b ha hb
    rcases Nat.lt_or_ge b 128 with h | h
    · rw [Lib.uvarint_small h]; exact Lib.uvarint_pos a
    · rw [Lib.uvarint_big h, Lib.uvarint_big (show 128 ≤ a by omega)]
      have := ih (a / 128) (b / 128) (by omega) (by omega)
      simpa using this

/-- how far from -1/2 -/
def far (n : Int) : Int := max n (-1 - n)
theorem len_far (n : Int) : (encI n).length = (Lib.uvarint (2 * (far n).toNat)).length := by
  unfold encI far
  have key : ∀ a : Nat, (Lib.uvarint (2 * a + 1)).length = (Lib.uvarint (2 * a)).length := by
    intro a
    have e : ∀ x : Nat, x % 2 = 0 → ((Lib.uvarint (x + 1)).length = (Lib.uvarint x).length) := by
      intro x
      induction x using Nat.strongRecOn with
      | _ x ih =>
        intro hx
        rcases Nat.lt_or_ge x 128 with h | h
        · rw [Lib.uvarint_small h, Lib.uvarint_small (by omega)]; rfl
        · rw [Lib.uvarint_big h, Lib.uvarint_big (by omega)]
          have : (x + 1) / 128 = x / 128 := by omega
          rw [this]; rfl
    exact e (2 * a) (by omega)
  rcases Int.lt_or_le n 0 with h | h
  · have e1 : max n (-1 - n) = -1 - n := by omega
    have e2 : Lib.zigzag n = 2 * (-1 - n).toNat + 1 := by unfold Lib.zigzag; rw [if_neg (by omega)]; omega
    rw [e1, e2, key]
  · have e1 : max n (-1 - n) = n := by omega
    have e2 : Lib.zigzag n = 2 * n.toNat := by unfold Lib.zigzag; rw [if_pos h]; omega
    rw [e1, e2]
theorem far_nonneg (n : Int) : 0 ≤ far n := by unfold far; omega
theorem far_flip (n : Int) : far (-1 - n) = far n := by unfold far; omega
theorem len_le {m n : Int} (h : far m ≤ far n) : (encI m).length ≤ (encI n).length := by
  have h1 := far_nonneg m
  rw [len_far, len_far]
  exact uv_len_mono _ _ _ (Nat.le_refl _) (by omega)
theorem len_one (n : Int) : (encI n).length = 1 ↔ far n < 64 := by
  have h1 := far_nonneg n
  rw [len_far]
  constructor
  · intro h
    rcases Int.lt_or_le (far n) 64 with h' | h'
    · exact h'
    · rw [Lib.uvarint_big (by omega)] at h
      have := Lib.uvarint_pos (2 * (far n).toNat / 128)
      simp at h
      rw [h] at this
      simp at this
  · intro h
    rw [Lib.uvarint_small (by omega)]
    rfl

/-- neither of two texts is a beginning of the other one -/
theorem prefix_free {m n : Int} (hm0 : -9223372036854775808 ≤ m) (hm1 : m ≤ 9223372036854775807) (hn0 : -9223372036854775808 ≤ n) (hn1 : n ≤ 9223372036854775807) (k : Nat) (hk : k = min (encI m).length (encI n).length) :
    ((encI m).take k = (encI n).take k) ↔ m = n := by
  constructor
  · intro h
    rcases Nat.le_total (encI m).length (encI n).length with hl | hl
    · have e1 : (encI m).take k = encI m := List.take_of_length_le (by omega)
      have e2 : encI n = encI m ++ (encI n).drop k := by rw [← e1, h, List.take_append_drop]
      have h1 := getI_encI hm0 hm1 ((encI n).drop k)
      rw [← e2] at h1
      have h2 := getI_encI hn0 hn1 []
      rw [List.append_nil, h1] at h2
      exact (Prod.mk.inj h2).1
    · have e1 : (encI n).take k = encI n := List.take_of_length_le (by omega)
      have e2 : encI m = encI n ++ (encI m).drop k := by rw [← e1, ← h, List.take_append_drop]
      have h1 := getI_encI hn0 hn1 ((encI m).drop k)
      rw [← e2] at h1
      have h2 := getI_encI hm0 hm1 []
      rw [List.append_nil, h1] at h2
      exact (Prod.mk.inj h2).1.symm
  · intro h; rw [h]
end Go.Proofs.Ytgkhgbjfpmhbgaa.wp
namespace Go.Proofs.Ytgkhgbjfpmhbgaa.wireLengths
open Go.ChangeShapes Go.WideShapes Go.ChangeAt Go.RowKit
set_option linter.unusedVariables false

theorem RB_take {w : World} {A : Option Addr} {l : List UInt8} (h : wp.RB w A l) (k : Nat) : wp.RB w A (l.take k) := fun hl => by
  obtain ⟨b, o, hA, hb, hc⟩ := h (by rw [List.length_take] at hl; omega)
  refine ⟨b, o, hA, hb, fun j u hu => hc j u ?_⟩
  rw [List.getElem?_take] at hu
  split at hu
  · exact hu
  · cases hu

theorem _root_.Go.Proofs.Ytgkhgbjfpmhbgaa.wp.RB.below' {w w' : World} {A : Option Addr} {l : List UInt8} (h : wp.RB w A l) (hb : Below w.heap.size w w') : wp.RB w' A l := wk.RB.below h hb

/-- the text of what is cut out of a row, in whatever later world -/
theorem conv_take {w : World} {A : Option Addr} {l : List UInt8} (h : wp.RB w A l) (k c : Nat) (hk : k ≤ l.length) :
    (convert 28 9 (.slice A k c)).run Try.prog w = .ok (.string ⟨(l.take k).toArray⟩) w :=
  wk.conv_str (P := Try.prog) w 28 5 9 Try.underlying28 Try.underlying5 Try.underlying9 A k c (l.take k) (by rw [List.length_take]; omega) (RB_take h k)

set_option maxRecDepth 100000 in
set_option maxHeartbeats 1000000 in
theorem walk (w : World) {m n : Int} (w0 : (Lit.int .i64 m).wf = true) (w1 : (Lit.int .i64 n).wf = true) :
    Calls Try.prog 5 #[.int .i64 m, .int .i64 n] w fun e w' => e = .returned (.bool true) ∧ Below w.heap.size w w' := by
  have hm : -9223372036854775808 ≤ m ∧ m ≤ 9223372036854775807 := by simpa [Lit.wf, IntKind.min, IntKind.max, IntKind.signed, IntKind.bits] using w0
  have hn : -9223372036854775808 ≤ n ∧ n ≤ 9223372036854775807 := by simpa [Lit.wf, IntKind.min, IntKind.max, IntKind.signed, IntKind.bits] using w1
  have EM := Lib.hid (fun w => wi.int_out m w hm.1 hm.2)
  have EN := Lib.hid (fun w => wi.int_out n w hn.1 hn.2)
  have EF := Lib.hid (fun w => wi.int_out (-1 - m) w (by omega) (by omega))
  have p1 := wp.encI_length hm.1 hm.2
  have p2 := wp.encI_pos m
  have p3 := wp.encI_pos n
  have q1 : wp.far m ≤ wp.far n → (wp.encI m).length ≤ (wp.encI n).length := wp.len_le
  have q2 : wp.far n ≤ wp.far m → (wp.encI n).length ≤ (wp.encI m).length := wp.len_le
  have q3 := wp.len_one m
  have q4 : (wp.encI (-1 - m)).length = (wp.encI m).length := by rw [wp.len_far, wp.len_far, wp.far_flip]
  have PF := Lib.hid (wp.prefix_free hm.1 hm.2 hn.1 hn.2)
  have hmx : max m (-1 - m) = wp.far m := rfl
  have hnx : max n (-1 - n) = wp.far n := rfl
  have Q4 := Lib.hid q4
  have f1 := wp.far_nonneg m
  have f2 : wp.far m ≤ 9223372036854775807 := by unfold wp.far; omega
  have f3 : wp.far n ≤ 9223372036854775807 := by unfold wp.far; omega
  clear q4 w0 w1
  generalize wp.far m = i at *
  generalize wp.far n = k at *
  generalize wp.encI m = Em at *
  generalize wp.encI n = En at *
  generalize wp.encI (-1 - m) = Ef at *
  obtain ⟨ka, hka⟩ : ∃ ka, ka = Em.length := ⟨_, rfl⟩
  obtain ⟨kb, hkb⟩ : ∃ kb, kb = En.length := ⟨_, rfl⟩
  rw [← hka] at p1 p2 q1 q2 q3
  rw [← hkb] at p3 q1 q2
  have HKA := Lib.hid hka
  have HKB := Lib.hid hkb
  obtain ⟨kl, hkl⟩ : ∃ kl : Nat, kl = min ka kb := ⟨_, rfl⟩
  have hmn : min (ka : Int) (kb : Int) = (kl : Int) := by omega
  have hk1 : kl ≤ ka := by omega
  have hk2 : kl ≤ kb := by omega
  have hk3 : 1 ≤ kl := by omega
  have HKL : Hid ((Em.take kl = En.take kl) ↔ m = n) := PF.out kl (by omega)
  have hpruneA : ¬ (i ≤ k ∧ kb < ka) := by rintro ⟨h1, h2⟩; have := q1 h1; omega
  have hpruneB : ¬ (k ≤ i ∧ ka < kb) := by rintro ⟨h1, h2⟩; have := q2 h1; omega
  have hq3 : ((ka : Int) == 1) = decide (i < 64) := by
    rw [Bool.eq_iff_iff, beq_iff_eq, decide_eq_true_iff]
    constructor
    · intro h; exact q3.1 (by omega)
    · intro h; have := q3.2 h; omega
  clear hka hkb hkl PF q1 q2 q3
  go_enter Try.func5, Try.ntmps5
  go_wp2_with fail
  refine (EM.out w).mono ?_
  rintro e w1 ⟨v1, rfl, hown1, hb1⟩
  obtain ⟨A1, c1, rfl, hc1, hc1', hR1⟩ := wp.RC.of_own hown1
  rw [← HKA.out] at hc1 ⊢
  go_wp2_with fail
  refine (EN.out w1).mono ?_
  rintro e w2 ⟨v2, rfl, hown2, hb2⟩
  obtain ⟨A2, c2, rfl, hc2, hc2', hR2⟩ := wp.RC.of_own hown2
  rw [← HKB.out] at hc2 ⊢
  have HR1 := Lib.hid (hR1.rb.below' hb2)
  have HR2 := Lib.hid hR2.rb
  have B2 := hb1.trans (hb2.mono hb1.size)
  clear hown1 hown2 hR1 hR2 hb1 hb2
  have z1 : ((ka : Int) == 0) = false := by rw [beq_eq_false_iff_ne]; omega
  have z2 : ((kb : Int) == 0) = false := by rw [beq_eq_false_iff_ne]; omega
  have z3 : decide ((10 : Int) < (ka : Int)) = false := by simp; omega
  have hcs : (i ≤ k ∧ k ≤ i ∧ decide (kb < ka) = false ∧ decide (ka < kb) = false) ∨ (i ≤ k ∧ ¬ k ≤ i ∧ decide (kb < ka) = false ∧ True) ∨ (¬ i ≤ k ∧ k ≤ i ∧ True ∧ decide (ka < kb) = false) := by
    by_cases h1 : i ≤ k <;> by_cases h2 : k ≤ i
    · exact .inl ⟨h1, h2, by simp; omega, by simp; omega⟩
    · exact .inr (.inl ⟨h1, h2, by simp; omega, trivial⟩)
    · exact .inr (.inr ⟨h1, h2, trivial, by simp; omega⟩)
    · omega
  clear hpruneA hpruneB
  rcases hcs with ⟨h1, h2, h3, h4⟩ | ⟨h1, h2, h3, h4⟩ | ⟨h1, h2, h3, h4⟩
  all_goals
    go_wp2_with fail
    have hwr : IntKind.i64.wrap (-1 - m) = -1 - m := IntWalk.i64_in _ (by omega)
    have hq4 : Ef.length = ka := Q4.out.trans HKA.out.symm
    clear z1 z2 z3 h1 h2 h3 h4 hq3 f1 f2 f3 hmx hnx hmn
    have hkl0 : (0 : Int) ≤ (kl : Int) := by omega
    have hkl1 : (kl : Int) ≤ (c1 : Int) := by omega
    have hkl2 : (kl : Int) ≤ (c2 : Int) := by omega
    have cA0 := conv_take (HR1.out.below' ((Below.refl _ w2).drew)) kl c1 (by rw [← HKA.out]; exact hk1)
    have cB0 := conv_take (HR2.out.below' ((Below.refl _ w2).drew)) kl c2 (by rw [← HKB.out]; exact hk2)
    go_region_held3 (fun w' => (convert 28 9 (.slice A1 kl c1)).run Try.prog w' = .ok (.string ⟨(Em.take kl).toArray⟩) w' ∧ (convert 28 9 (.slice A2 kl c2)).run Try.prog w' = .ok (.string ⟨(En.take kl).toArray⟩) w') (first | exact ⟨cA4, cB4⟩ | exact ⟨cA3, cB3⟩ | exact ⟨cA0, cB0⟩) (first | (go_at_call 10; refine (wi.sanity_true _).mono ?_; rintro e w3 ⟨rfl, hb3⟩; have B3 : Below w2.heap.size w2 w3 := (Below.refl _ w2).drew.trans hb3; have cA3 := conv_take (HR1.out.below' B3) kl c1 (by rw [← HKA.out]; exact hk1); have cB3 := conv_take (HR2.out.below' B3) kl c2 (by rw [← HKB.out]; exact hk2)) | (go_at_call 12; refine (EF.out _).mono ?_; rintro e w4 ⟨v4, rfl, hown4, hb4⟩; obtain ⟨A4, c4, rfl, hc4, hc4', hR4⟩ := wp.RC.of_own hown4; have B4 := B3.trans (hb4.mono B3.size); have cA4 := conv_take (HR1.out.below' B4) kl c1 (by rw [← HKA.out]; exact hk1); have cB4 := conv_take (HR2.out.below' B4) kl c2 (by rw [← HKB.out]; exact hk2); clear hown4 hR4))
    all_goals
      go_wp2_with fail
      go_ret
      exact ⟨wp.ret_bool (by rw [beq_iff_eq, Bool.eq_iff_iff, beq_iff_eq, beq_iff_eq]; exact HKL.out), B2.trans (B4.mono B2.size)⟩
end Go.Proofs.Ytgkhgbjfpmhbgaa.wireLengths
