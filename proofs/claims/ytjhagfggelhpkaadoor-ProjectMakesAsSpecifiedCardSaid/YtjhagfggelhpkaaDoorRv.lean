
import Derived.Test.YtjhagfggelhpkaaDoorSn

import Derived.Test.YtjhagfggelhpkaaDoorG2

import Derived.StillTailTactics

namespace Go.Proofs.YtjhagfggelhpkaaDoor.hi

open Go.ChangeShapes Go.WideShapes Go.ChangeAt Go.RowKit

set_option linter.unusedVariables false

set_option maxRecDepth 100000 in
theorem rrotr_calls (x n : Nat) (w : World) (hx : x < 4294967296) (hn0 : 0 < n) (hn : n < 32) :
    Calls Tryd.prog 100 #[.int .u32 (x : Int), .int .i64 (n : Int)] w fun e w' => e = .returned (.int .u32 (hs.rot x n : Nat)) ∧ w' = w.drew := by
  obtain ⟨s, hsd⟩ : ∃ s, s = 32 - n := ⟨_, rfl⟩
  have hsi : (32 : Int) - (n : Int) = (s : Int) := by omega
  have hsw : IntKind.i64.wrap ((32 : Int) - (n : Int)) = (s : Int) := by rw [hsi, IntKind.wrap_i64]; omega
  have hs0 : (0 : Int) ≤ (s : Int) := by omega
  have hs1 : s < 32 := by omega
  have HE : Hid (hs.rot x n = x * 2 ^ s % 4294967296 ||| x / 2 ^ n) := by show _ = _; rw [hsd]; rfl
  clear hsd
  go_enter Tryd.func100, Tryd.ntmps100
  go_wp2_with fail
  go_region
  go_wp2_with fail
  go_ret
  refine ⟨ret_u32 ?_, rfl⟩
  have e1 : ((x : Int) * 2 ^ s % 4294967296) = ((x * 2 ^ s % 4294967296 : Nat) : Int) := by rw [Int.natCast_emod, Int.natCast_mul, Int.natCast_pow]; rfl
  have e2 : (x : Int) / 2 ^ n = ((x / 2 ^ n : Nat) : Int) := by rw [Int.natCast_ediv, Int.natCast_pow]; rfl
  have u1 : hb.U 32 ((x : Int) * 2 ^ s % 4294967296) (x * 2 ^ s % 4294967296) := ⟨e1, Nat.mod_lt _ (by decide)⟩
  have u2 : hb.U 32 ((x : Int) / 2 ^ n) (x / 2 ^ n) := ⟨e2, Nat.lt_of_le_of_lt (Nat.div_le_self _ _) hx⟩
  rw [HE.out, Nat.or_comm]
  exact (u2.or32 u1).eq
end Go.Proofs.YtjhagfggelhpkaaDoor.hi
