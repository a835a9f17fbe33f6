/- Plain facts on streams of SHA-256: no program here. -/
import Derived.Test.YtlmbacacjcbdjaaDoorHs

namespace Go.Proofs.YtlmbacacjcbdjaaDoor.hs

theorem feed_nil (s : S8 × List UInt8) : feed s [] = s := rfl
theorem feed_cons (s : S8 × List UInt8) (c : UInt8) (l : List UInt8) : feed s (c :: l) = feed (push s c) l := rfl
theorem feed_lt {s : S8 × List UInt8} {l : List UInt8} (h : s.2.length + l.length < 64) : feed s l = (s.1, s.2 ++ l) := by
  induction l generalizing s with
  | nil => rw [feed_nil, List.append_nil]
  | cons c l ih =>
    have hp : push s c = (s.1, s.2 ++ [c]) := by
      unfold push
      rw [if_neg (by simp at h; omega)]
    rw [feed_cons, hp, ih (by simp at h ⊢; omega)]
    simp
theorem feed_eq {s : S8 × List UInt8} {l : List UInt8} (h : s.2.length + l.length = 64) (hl : 0 < l.length) : feed s l = (comp s.1 (s.2 ++ l), []) := by
  obtain ⟨l', c, rfl⟩ : ∃ l' c, l = l' ++ [c] := ⟨l.dropLast, l.getLast (List.ne_nil_of_length_pos hl), (List.dropLast_concat_getLast _).symm⟩
  rw [feed_append, feed_lt (s := s) (l := l') (by simp at h; omega)]
  show push (s.1, s.2 ++ l') c = _
  unfold push
  rw [if_pos (by simp at h ⊢; omega)]
  simp
theorem feed_length {s : S8 × List UInt8} (h : s.2.length < 64) (l : List UInt8) : (feed s l).2.length = (s.2.length + l.length) % 64 := by
  induction l generalizing s with
  | nil => rw [feed_nil, List.length_nil, Nat.add_zero, Nat.mod_eq_of_lt h]
  | cons c l ih =>
    rw [feed_cons]
    unfold push
    by_cases h1 : s.2.length = 63
    · rw [if_pos h1, ih (by simp), h1, List.length_cons]
      simp only [List.length_nil, Nat.zero_add]
      omega
    · rw [if_neg h1, ih (by simp; omega)]
      simp only [List.length_append, List.length_cons, List.length_nil]
      congr 1
      omega
/-- the block as it lies: zeros behind what it holds -/
def blk (l : List UInt8) : List UInt8 := l ++ List.replicate (64 - l.length) 0
theorem blk_length {l : List UInt8} (h : l.length ≤ 64) : (blk l).length = 64 := by simp [blk]; omega
theorem blk_full {l : List UInt8} (h : l.length = 64) : blk l = l := by simp [blk, h]
theorem blk_split {l : List UInt8} (n : Nat) (h : l.length + n ≤ 64) : blk l = l ++ (List.replicate n 0 ++ List.replicate (64 - l.length - n) 0) := by
  unfold blk
  rw [List.replicate_append_replicate]
  congr 2
  omega
theorem blk_join {l r : List UInt8} : l ++ (r ++ List.replicate (64 - l.length - r.length) 0) = blk (l ++ r) := by
  unfold blk
  have e : 64 - (l.length + r.length) = 64 - l.length - r.length := by omega
  rw [List.length_append, List.append_assoc, e]
/-- the value behind the padding, block by block -/
theorem zeros_eq (n : Nat) : zeros n = List.replicate n 0 := rfl
end Go.Proofs.YtlmbacacjcbdjaaDoor.hs
