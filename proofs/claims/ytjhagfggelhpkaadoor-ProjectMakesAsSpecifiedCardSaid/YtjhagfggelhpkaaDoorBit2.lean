
import Derived.Test.YtjhagfggelhpkaaDoorG7

namespace Go.Proofs.YtjhagfggelhpkaaDoor.hb

open Go.RowKit
theorem and40 (n : Int) : bits .and .i64 n 1099511627775 = ((hi.low n : Nat) : Int) := by
  have e : (BitVec.ofInt 64 1099511627775).toNat = 2 ^ 40 - 1 := by decide
  have h : (BitVec.ofInt IntKind.i64.bits n &&& BitVec.ofInt IntKind.i64.bits 1099511627775).toNat = hi.low n := by
    rw [BitVec.toNat_and, show IntKind.i64.bits = 64 from rfl, e, Nat.and_two_pow_sub_one_eq_mod, BitVec.toNat_ofInt]
    unfold hi.low
    omega
  show IntKind.i64.wrap _ = _
  have h2 := hi.low_lt n
  rw [h, IntKind.wrap_i64]
  omega
theorem xor40 {a b : Nat} (ha : a < 1099511627776) (hb : b < 1099511627776) : bits .xor .i64 (a : Int) (b : Int) = ((a ^^^ b : Nat) : Int) :=
  bits_xor_nat .i64 40 (by decide) (fun n h0 h1 => by rw [IntKind.wrap_i64]; omega) a b ha hb
theorem low_nat {a : Nat} (h : a < 1099511627776) : hi.low (a : Int) = a := by unfold hi.low; omega
end Go.Proofs.YtjhagfggelhpkaaDoor.hb
