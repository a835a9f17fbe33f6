/- Unsigned words as natural numbers: what 'bits' gives; no program here. -/
import Derived.Test.YtlmbacacjcbdjaaDoorPlain

import Derived.Test.YtlmbacacjcbdjaaDoorHp

import Derived.Laws.BitsLemmas

import Derived.Laws.Bits64

import Derived.Laws.Bits64b

namespace Go.Proofs.YtlmbacacjcbdjaaDoor.hb

theorem bits_xor_nat (k : IntKind) (j : Nat) (hj : j ≤ k.bits) (hk : ∀ n : Int, 0 ≤ n → n < 2 ^ j → k.wrap n = n) (a b : Nat) (ha : a < 2 ^ j) (hb : b < 2 ^ j) :
    bits .xor k a b = ((a ^^^ b : Nat) : Int) := by
  have hp : 2 ^ j ≤ 2 ^ k.bits := Nat.pow_le_pow_right (by decide) hj
  have ha' : a % 2 ^ k.bits = a := Nat.mod_eq_of_lt (Nat.lt_of_lt_of_le ha hp)
  have hb' : b % 2 ^ k.bits = b := Nat.mod_eq_of_lt (Nat.lt_of_lt_of_le hb hp)
  have cast : ∀ n : Nat, n < 2 ^ j → ((n : Nat) : Int) < 2 ^ j := fun n h => by exact_mod_cast h
  simp only [bits, BitVec.ofInt_natCast, BitVec.toNat_xor, BitVec.toNat_ofNat, ha', hb']
  exact hk _ (Int.natCast_nonneg _) (cast _ (Nat.xor_lt_two_pow ha hb))

theorem w64 (n : Int) (h0 : 0 ≤ n) (h1 : n < 2 ^ 64) : IntKind.u64.wrap n = n := by
  simp [IntKind.wrap, IntKind.bits, IntKind.signed]; omega
theorem w32 (n : Int) (h0 : 0 ≤ n) (h1 : n < 2 ^ 32) : IntKind.u32.wrap n = n := by
  rw [IntKind.wrap_u32]; omega
theorem w8 (n : Int) (h0 : 0 ≤ n) (h1 : n < 2 ^ 8) : IntKind.u8.wrap n = n := by
  rw [IntKind.wrap_u8]; omega

/-- a word that is a number -/
structure U (j : Nat) (x : Int) (a : Nat) : Prop where
  eq : x = (a : Int)
  lt : a < 2 ^ j
theorem U.nat {j a : Nat} (h : a < 2 ^ j) : U j (a : Int) a := ⟨rfl, h⟩
theorem U.mul {j : Nat} {x : Int} {a : Nat} (h : U j x a) (c : Nat) (hc : a * c < 2 ^ j) : U j (x * (c : Int)) (a * c) := ⟨by rw [h.eq]; simp, hc⟩
theorem U.div {j : Nat} {x : Int} {a : Nat} (h : U j x a) (c : Nat) : U j (x / (c : Int)) (a / c) := ⟨by rw [h.eq]; simp, Nat.lt_of_le_of_lt (Nat.div_le_self _ _) h.lt⟩
theorem U.xor64 {x y : Int} {a b : Nat} (h : U 64 x a) (g : U 64 y b) : U 64 (bits .xor .u64 x y) (a ^^^ b) :=
  ⟨by rw [h.eq, g.eq]; exact bits_xor_nat .u64 64 (by decide) w64 a b h.lt g.lt, Nat.xor_lt_two_pow h.lt g.lt⟩
theorem U.and64 {x y : Int} {a b : Nat} (h : U 64 x a) (g : U 64 y b) : U 64 (bits .and .u64 x y) (a &&& b) :=
  ⟨by rw [h.eq, g.eq]; exact (bits_nat .u64 64 (by decide) w64 a b h.lt g.lt).1, Nat.and_lt_two_pow _ g.lt⟩
theorem U.or64 {x y : Int} {a b : Nat} (h : U 64 x a) (g : U 64 y b) : U 64 (bits .or .u64 x y) (a ||| b) :=
  ⟨by rw [h.eq, g.eq]; exact (bits_nat .u64 64 (by decide) w64 a b h.lt g.lt).2, Nat.or_lt_two_pow h.lt g.lt⟩
theorem U.xor32 {x y : Int} {a b : Nat} (h : U 32 x a) (g : U 32 y b) : U 32 (bits .xor .u32 x y) (a ^^^ b) :=
  ⟨by rw [h.eq, g.eq]; exact bits_xor_nat .u32 32 (by decide) w32 a b h.lt g.lt, Nat.xor_lt_two_pow h.lt g.lt⟩
theorem U.and32 {x y : Int} {a b : Nat} (h : U 32 x a) (g : U 32 y b) : U 32 (bits .and .u32 x y) (a &&& b) :=
  ⟨by rw [h.eq, g.eq]; exact (bits_nat .u32 32 (by decide) w32 a b h.lt g.lt).1, Nat.and_lt_two_pow _ g.lt⟩
theorem U.or32 {x y : Int} {a b : Nat} (h : U 32 x a) (g : U 32 y b) : U 32 (bits .or .u32 x y) (a ||| b) :=
  ⟨by rw [h.eq, g.eq]; exact (bits_nat .u32 32 (by decide) w32 a b h.lt g.lt).2, Nat.or_lt_two_pow h.lt g.lt⟩
theorem U.mask40 {x : Int} {a : Nat} (h : U 64 x a) : U 64 (bits .and .u64 x 1099511627775) (a % 1099511627776) := by
  have := h.and64 (U.nat (j := 64) (a := 1099511627775) (by decide))
  rw [show (1099511627775 : Nat) = 2 ^ 40 - 1 from rfl, Nat.and_two_pow_sub_one_eq_mod] at this
  exact this
theorem bit0_i64 (n : Nat) (h : n < 9223372036854775808) : bits .and .i64 (n : Int) 1 = ((n % 2 : Nat) : Int) := by
  have := bits_mask .i64 63 (by decide) (fun n h0 h1 => by rw [IntKind.wrap_i64]; omega) 1 (by decide) (n : Int) (by omega) (by omega)
  simpa using this
theorem bit0_u64 (n : Nat) (h : n < 18446744073709551616) : bits .and .u64 (n : Int) 1 = ((n % 2 : Nat) : Int) := by
  have := bits_mask .u64 64 (by decide) w64 1 (by decide) (n : Int) (by omega) (by omega)
  simpa using this
theorem U.wrap32 {x : Int} {a : Nat} (h : x = (a : Int)) : U 32 (IntKind.u32.wrap x) (a % 4294967296) := ⟨by rw [h, IntKind.wrap_u32]; omega, Nat.mod_lt _ (by decide)⟩
theorem U.add32 {x y : Int} {a b : Nat} (h : U 32 x a) (g : U 32 y b) : U 32 (IntKind.u32.wrap (x + y)) ((a + b) % 4294967296) := ⟨by rw [h.eq, g.eq, IntKind.wrap_u32]; omega, Nat.mod_lt _ (by decide)⟩
theorem xor_swap (r : Nat) : bits .xor .u64 ((r : Nat) : Int) 1099511627775 = bits .xor .u64 ((r : Nat) : Int) 1099511627775 := rfl
end Go.Proofs.YtlmbacacjcbdjaaDoor.hb
