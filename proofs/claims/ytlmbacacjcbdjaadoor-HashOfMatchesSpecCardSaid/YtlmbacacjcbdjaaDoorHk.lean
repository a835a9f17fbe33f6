
import Derived.Test.YtlmbacacjcbdjaaDoorHj

import Derived.Test.YtlmbacacjcbdjaaDoorHs

namespace Go.Proofs.YtlmbacacjcbdjaaDoor.hi

open Go.ChangeShapes Go.WideShapes Go.ChangeAt Go.RowKit

set_option linter.unusedVariables false
theorem ret_u32 {a b : Int} (h : a = b) : Ending.returned (.int .u32 a) = .returned (.int .u32 b) := by rw [h]

set_option maxRecDepth 100000 in
theorem rotl_calls (x n m : Nat) (y : Int) (w : World) (hx : x < 4294967296) (hy : -31 ≤ y ∧ y ≤ 31) (hm : 0 < m) (hm1 : m < 32) (hnm : n = 32 - m) (hk : bits .and .u64 (IntKind.u64.wrap y) 31 = (m : Int)) :
    Calls Tryd.prog 109 #[.int .u32 (x : Int), .int .i64 y] w fun e w' => e = .returned (.int .u32 (hs.rot x n : Nat)) ∧ w = w' := by
  go_enter Tryd.func109, Tryd.ntmps109
  go_wp2_with fail
  go_ret
  refine ⟨ret_u32 ?_, rfl⟩
  have e1 : ((x : Int) * 2 ^ m % 4294967296) = ((x * 2 ^ m % 4294967296 : Nat) : Int) := by rw [Int.natCast_emod, Int.natCast_mul, Int.natCast_pow]; rfl
  have e2 : (x : Int) / 2 ^ (32 - m) = ((x / 2 ^ (32 - m) : Nat) : Int) := by rw [Int.natCast_ediv, Int.natCast_pow]; rfl
  have u1 : hb.U 32 ((x : Int) * 2 ^ m % 4294967296) (x * 2 ^ m % 4294967296) := ⟨e1, Nat.mod_lt _ (by decide)⟩
  have u2 : hb.U 32 ((x : Int) / 2 ^ (32 - m)) (x / 2 ^ (32 - m)) := ⟨e2, Nat.lt_of_le_of_lt (Nat.div_le_self _ _) hx⟩
  rw [(u1.or32 u2).eq, hnm]
  unfold hs.rot
  rw [show 32 - (32 - m) = m by omega]

theorem turn_fact : ∀ n : Nat, n < 32 → 0 < n → bits .and .u64 (IntKind.u64.wrap (-(n : Int))) 31 = ((32 - n : Nat) : Int) := by decide +kernel
theorem rotr_calls (x n : Nat) (w : World) (hx : x < 4294967296) (hn0 : 0 < n) (hn : n < 32) :
    Calls Tryd.prog 107 #[.int .u32 (x : Int), .int .i64 (n : Int)] w fun e w' => e = .returned (.int .u32 (hs.rot x n : Nat)) ∧ w = w' := by
  have H := Lib.hid (rotl_calls x n (32 - n) (-(n : Int)) w hx (by omega) (by omega) (by omega) (by omega) (turn_fact n hn hn0))
  go_enter Tryd.func107, Tryd.ntmps107
  go_wp2_with fail
  refine H.out.mono ?_
  rintro e w1 ⟨rfl, rfl⟩
  go_wp2_with fail
  go_ret
  exact ⟨rfl, rfl⟩
theorem rot_lt {x : Nat} (n : Nat) (hx : x < 4294967296) : hs.rot x n < 4294967296 := by
  unfold hs.rot
  exact Nat.or_lt_two_pow (n := 32) (Nat.mod_lt _ (by decide)) (Nat.lt_of_le_of_lt (Nat.div_le_self _ _) hx)
def u32s (l : List Nat) : List Value := l.map fun n : Nat => Value.int .u32 (n : Int)
theorem u32s_at {l : List Nat} {j x : Nat} (h : l[j]? = some x) : (u32s l)[j]? = some (.int .u32 (x : Int)) := by simp [u32s, h]
theorem u32s_length (l : List Nat) : (u32s l).length = l.length := by simp [u32s]
/-- a row of 64 words that is filled so far -/
def padW (l : List Nat) : List Nat := l ++ List.replicate (64 - l.length) 0
theorem padW_length {l : List Nat} (h : l.length ≤ 64) : (padW l).length = 64 := by simp [padW]; omega
theorem padW_set {l : List Nat} (h : l.length < 64) (x : Nat) : (u32s (padW l)).toArray.setIfInBounds l.length (.int .u32 (x : Int)) = (u32s (padW (l ++ [x]))).toArray := by
  apply Array.toList_inj.1
  have e : 64 - l.length = (64 - (l.length + 1)) + 1 := by omega
  simp [u32s, padW, e, List.replicate_succ, List.set_append_right]
theorem padW_at {l : List Nat} {j : Nat} (h : j < l.length) : (padW l)[j]? = some l[j] := by
  unfold padW
  rw [List.getElem?_append_left h, List.getElem?_eq_getElem h]
end Go.Proofs.YtlmbacacjcbdjaaDoor.hi
