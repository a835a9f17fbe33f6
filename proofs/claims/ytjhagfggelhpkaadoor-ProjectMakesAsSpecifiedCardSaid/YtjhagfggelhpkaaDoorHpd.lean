/- The padded message: no program here. -/
import Derived.Test.YtjhagfggelhpkaaDoorG7

namespace Go.Proofs.YtjhagfggelhpkaaDoor.hs

set_option linter.unusedVariables false
def gap (n : Nat) : Nat := (119 - n % 64) % 64
def pad (m : List UInt8) : List UInt8 := m ++ (128 :: (zeros (gap m.length) ++ len8 m.length))
theorem zeros_length (n : Nat) : (zeros n).length = n := by simp [zeros]
theorem zeros_add (a b : Nat) : zeros (a + b) = zeros a ++ zeros b := by unfold zeros; exact (List.replicate_append_replicate ..).symm
theorem pad_length (m : List UInt8) : (pad m).length = m.length + 9 + gap m.length := by
  unfold pad
  simp only [List.length_append, List.length_cons, zeros_length, len8_length]
  omega
theorem gap_mod (n : Nat) : (n + 9 + gap n) % 64 = 0 := by unfold gap; omega
theorem feed_pad (m : List UInt8) : feed (H0, []) (pad m) = (fin (feed (H0, []) m) m.length, []) := by
  unfold pad
  rw [feed_append]
  have hr := feed_length (s := (H0, [])) (by decide) m
  have e0 : (([] : List UInt8)).length = 0 := rfl
  simp only [List.length_nil, Nat.zero_add] at hr
  generalize feed (H0, []) m = st at *
  obtain ⟨v, buf⟩ := st
  simp only at hr
  unfold fin gap
  simp only
  rw [hr]
  by_cases h : m.length % 64 < 56
  · rw [if_pos h, show (119 - m.length % 64) % 64 = 55 - m.length % 64 by omega]
    rw [feed_eq (by simp only [List.length_append, List.length_cons, zeros_length, len8_length]; omega) (by simp)]
    simp only [List.append_assoc, List.cons_append]
  · rw [if_neg h, show (119 - m.length % 64) % 64 = (63 - m.length % 64) + 56 by omega, zeros_add]
    rw [show (128 :: (zeros (63 - m.length % 64) ++ zeros 56 ++ len8 m.length) : List UInt8) = (128 :: zeros (63 - m.length % 64)) ++ (zeros 56 ++ len8 m.length) by simp only [List.append_assoc, List.cons_append]]
    rw [feed_append, feed_eq (s := (v, buf)) (by simp only [List.length_cons, zeros_length]; omega) (by simp)]
    rw [feed_eq (by simp only [List.length_append, zeros_length, len8_length, List.length_nil]) (by simp only [List.length_append, zeros_length, len8_length]; decide)]
    rfl
/-- one block more -/
theorem feed_block {M : List UInt8} {j : Nat} {s : S8} (h : feed (H0, []) (M.take (64 * j)) = (s, [])) (hl : 64 * (j + 1) ≤ M.length) :
    feed (H0, []) (M.take (64 * (j + 1))) = (comp s ((M.drop (64 * j)).take 64), []) := by
  have e : M.take (64 * (j + 1)) = M.take (64 * j) ++ (M.drop (64 * j)).take 64 := by rw [Nat.mul_add, Nat.mul_one, List.take_add]
  rw [e, feed_append, h, feed_eq (by simp only [List.length_nil, List.length_take, List.length_drop]; omega) (by simp only [List.length_take, List.length_drop]; omega)]
  rfl
theorem block_length {M : List UInt8} {j : Nat} (hl : 64 * (j + 1) ≤ M.length) : ((M.drop (64 * j)).take 64).length = 64 := by
  rw [List.length_take, List.length_drop]; omega
end Go.Proofs.YtjhagfggelhpkaaDoor.hs
