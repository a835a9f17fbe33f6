/- Plain facts on the check, bit by bit and word by word: no program here. -/
import Derived.Test.YtjhagfggelhpkaaDoorG6

namespace Go.Proofs.YtjhagfggelhpkaaDoor.hp

theorem Tn_zero : ∀ n, Tn n 0 = 0
  | 0 => rfl
  | n + 1 => by show T (Tn n 0) = 0; rw [Tn_zero n]; rfl
theorem T_pow : ∀ i, i < 39 → T (2 ^ i) = 2 ^ (i + 1) := by decide +kernel
theorem Tn_pow (i : Nat) : ∀ k, i + k ≤ 39 → Tn k (2 ^ i) = 2 ^ (i + k)
  | 0, _ => rfl
  | k + 1, h => by
    show T (Tn k (2 ^ i)) = _
    rw [Tn_pow i k (by omega), T_pow (i + k) (by omega)]
    rfl
/-- the specification's step -/
theorem sstep_eq {r b : Nat} (hb : b < 2) : sstep r b = (r * 2) % 1099511627776 ^^^ (if r / 549755813888 % 2 ^^^ b = 1 then POLY else 0) := by
  unfold sstep T
  have e1 : 2 * (r ^^^ b * 549755813888) % 1099511627776 = (r * 2) % 1099511627776 := by
    have h1 := xor_shl r (b * 549755813888) 1
    have h2 := xor_mod (r * 2) (b * 549755813888 * 2) 40
    rw [Nat.pow_one] at h1
    rw [Nat.mul_comm 2, h1]
    rw [show (1099511627776 : Nat) = 2 ^ 40 from rfl, h2]
    have : b * 549755813888 * 2 % 2 ^ 40 = 0 := by omega
    rw [this, Nat.xor_zero]
  have e2 : (r ^^^ b * 549755813888).testBit 39 = decide (r / 549755813888 % 2 ^^^ b = 1) := by
    rw [Nat.testBit_xor, Nat.testBit_eq_decide_div_mod_eq, Nat.testBit_eq_decide_div_mod_eq]
    have h3 : b * 549755813888 / 2 ^ 39 % 2 = b := by omega
    rw [h3, show (549755813888 : Nat) = 2 ^ 39 from rfl]
    have h4 : r / 2 ^ 39 % 2 < 2 := Nat.mod_lt _ (by decide)
    generalize r / 2 ^ 39 % 2 = x at *
    have hx : x = 0 ∨ x = 1 := by omega
    have hb' : b = 0 ∨ b = 1 := by omega
    rcases hx with rfl | rfl <;> rcases hb' with rfl | rfl <;> decide
  rw [e1, e2]
  by_cases h : r / 549755813888 % 2 ^^^ b = 1
  · rw [if_pos h]; simp [h]
  · rw [if_neg h]; simp [h]
/-- the bits of a byte so far, at the register's head -/
theorem head_step : ∀ c, c < 256 → ∀ k, k < 8 → (c / 2 ^ (8 - k)) * 2 ^ (40 - k) ^^^ (c / 2 ^ (7 - k) % 2) * 2 ^ (39 - k) = (c / 2 ^ (7 - k)) * 2 ^ (39 - k) := by decide +kernel
/-- the register behind k bits of a byte -/
def bitK (r c k : Nat) : Nat := Tn k (r ^^^ (c / 2 ^ (8 - k)) * 2 ^ (40 - k))
theorem bitK_zero {r c : Nat} (hc : c < 256) : bitK r c 0 = r := by
  unfold bitK
  rw [show c / 2 ^ (8 - 0) = 0 from Nat.div_eq_of_lt hc, Nat.zero_mul, Nat.xor_zero]
  rfl
theorem bitK_step {r c k : Nat} (hc : c < 256) (hk : k < 8) : sstep (bitK r c k) (c / 2 ^ (7 - k) % 2) = bitK r c (k + 1) := by
  have h1 : ∀ b, b < 2 → b * 549755813888 = Tn k (b * 2 ^ (39 - k)) := by
    intro b hb
    have : b = 0 ∨ b = 1 := by omega
    rcases this with rfl | rfl
    · rw [Nat.zero_mul, Nat.zero_mul, Tn_zero]
    · rw [Nat.one_mul, Nat.one_mul, Tn_pow (39 - k) k (by omega), show 39 - k + k = 39 by omega]
  show T (Tn k _ ^^^ _) = T (Tn k _)
  rw [h1 _ (Nat.mod_lt _ (by decide)), ← Tn_lin k, Nat.xor_assoc, head_step c hc k hk, show 8 - (k + 1) = 7 - k by omega, show 40 - (k + 1) = 39 - k by omega]
theorem bitK_full (r c : Nat) : bitK r c 8 = Tn 8 (r ^^^ c * 4294967296) := by
  unfold bitK
  rw [Nat.sub_self, Nat.pow_zero, Nat.div_one]
theorem bitK_lt {r c k : Nat} (hr : r < 1099511627776) (hc : c < 256) (hk : k ≤ 8) : bitK r c k < 1099511627776 := by
  refine Tn_lt k (Nat.xor_lt_two_pow (n := 40) hr ?_)
  have : ∀ c, c < 256 → ∀ k, k ≤ 8 → (c / 2 ^ (8 - k)) * 2 ^ (40 - k) < 2 ^ 40 := by decide +kernel
  exact this c hc k hk

/-- the five bytes of a word -/
def fiveAt (n : Int) (j : Nat) : UInt8 := UInt8.ofNat (n / 2 ^ (32 - 8 * j) % 256).toNat
def five (n : Int) : List UInt8 := [fiveAt n 0, fiveAt n 1, fiveAt n 2, fiveAt n 3, fiveAt n 4]
theorem five_at (n : Int) {j : Nat} (h : j < 5) : (five n)[j]? = some (fiveAt n j) := by
  have : j = 0 ∨ j = 1 ∨ j = 2 ∨ j = 3 ∨ j = 4 := by omega
  rcases this with rfl | rfl | rfl | rfl | rfl <;> rfl
theorem five_drop (n : Int) {j : Nat} (h : j < 5) : (five n).drop j = fiveAt n j :: (five n).drop (j + 1) := by
  have : j = 0 ∨ j = 1 ∨ j = 2 ∨ j = 3 ∨ j = 4 := by omega
  rcases this with rfl | rfl | rfl | rfl | rfl <;> rfl
theorem five_length (n : Int) : (five n).length = 5 := rfl
theorem flat_five (l : List Int) : (l.flatMap five).length = 5 * l.length := by
  induction l with
  | nil => rfl
  | cons y r ih => rw [List.flatMap_cons, List.length_append, ih, five_length, List.length_cons]; omega
theorem fiveAt_val (n : Int) (j : Nat) : ((fiveAt n j).toNat : Int) = n / 2 ^ (32 - 8 * j) % 256 := by
  unfold fiveAt
  have h0 : 0 ≤ n / 2 ^ (32 - 8 * j) % 256 := Int.emod_nonneg _ (by decide)
  have h1 : n / 2 ^ (32 - 8 * j) % 256 < 256 := Int.emod_lt_of_pos _ (by decide)
  generalize n / 2 ^ (32 - 8 * j) % 256 = x at *
  rw [UInt8.toNat_ofNat']
  omega
end Go.Proofs.YtjhagfggelhpkaaDoor.hp
