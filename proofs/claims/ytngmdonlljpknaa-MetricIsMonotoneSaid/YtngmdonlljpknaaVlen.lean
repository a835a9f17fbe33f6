/- Lengths in bits. -/
import Derived.Test.YtngmdonlljpknaaKit8

import Derived.Test.YtngmdonlljpknaaVa

import Derived.Test.YtngmdonlljpknaaQb

import Derived.Lib.BitFns

import Derived.Lib.Walk

import Derived.Lib.Strings

import Derived.Lib.Slices

import Derived.Lib.Small

namespace Go.Proofs.Ytngmdonlljpknaa.mk

open Go.ChangeShapes Go.WideShapes Go.ChangeAt Go.RowKit

set_option linter.unusedVariables false
theorem tab_all : ∀ j : Fin 256, ((Lib.len8tab.data[j.val]?).map UInt8.toNat) = some (Lib.bitLen j.val) := by decide +kernel
theorem tab_at (n : Nat) (h : n < Lib.len8tab.size) (hn : n < 256) : ((Lib.len8tab[n]'h).toNat : Int) = Lib.bitLen n := by
  have h2 := tab_all ⟨n, hn⟩
  rw [Array.getElem?_eq_getElem (show n < Lib.len8tab.data.size from h), Option.map_some, Option.some.injEq] at h2
  exact congrArg _ h2
theorem wrap_small (k b : Nat) (hk : k ≤ 64) (hb : b ≤ 8) : wrap64 (k + wrap64 (b : Int)) = ((k + b : Nat) : Int) := by
  unfold wrap64
  omega
theorem len_fin (k : Nat) (x b v : Int) (hx : x.toNat < 2 ^ 64) (hk : k ≤ 64) (hb : b.toNat = x.toNat / 2 ^ k) (hge : 2 ^ k ≤ x.toNat) (h8 : b.toNat < 256) (hv : v = Lib.bitLen b.toNat) :
    wrap64 (k + wrap64 v) = (Lib.bitLen x.toNat : Int) := by
  rw [hv, Lib.bitLen_shift k x.toNat hge hx, ← hb]
  exact wrap_small k _ hk (Lib.bitLen_le8 ⟨b.toNat, h8⟩)
set_option maxRecDepth 100000 in
set_option maxHeartbeats 4000000 in
theorem len64_calls (x : Int) (w : World) (h0 : 0 ≤ x) (h1 : x ≤ 18446744073709551615) :
    Calls Try.prog 42 #[.int .u64 x] w fun e w' => e = .returned (.int .i64 (Lib.bitLen x.toNat)) ∧ w' = w := by
  go_enter Try.func42, Try.ntmps42
  have hsz : Lib.len8tab.size = 256 := by kernel_rfl
  go_wp2
  all_goals first
    | (exfalso; omega)
    | (go_ret; refine ⟨congrArg Ending.returned (congrArg (Value.int IntKind.i64) ?_), rfl⟩)
  · exact len_fin 56 x _ _ (by omega) (by omega) (by omega) (by omega) (by omega) (tab_at _ _ (by omega))
  · exact len_fin 48 x _ _ (by omega) (by omega) (by omega) (by omega) (by omega) (tab_at _ _ (by omega))
  · exact len_fin 40 x _ _ (by omega) (by omega) (by omega) (by omega) (by omega) (tab_at _ _ (by omega))
  · exact len_fin 32 x _ _ (by omega) (by omega) (by omega) (by omega) (by omega) (tab_at _ _ (by omega))
  · exact len_fin 24 x _ _ (by omega) (by omega) (by omega) (by omega) (by omega) (tab_at _ _ (by omega))
  · exact len_fin 16 x _ _ (by omega) (by omega) (by omega) (by omega) (by omega) (tab_at _ _ (by omega))
  · exact len_fin 8 x _ _ (by omega) (by omega) (by omega) (by omega) (by omega) (tab_at _ _ (by omega))
  · rw [tab_at _ _ (by omega)]
    have l := Lib.bitLen_le8 ⟨x.toNat, by omega⟩
    simp only at l
    unfold wrap64
    omega
theorem bitLen_log {n : Nat} (h : 0 < n) (hn : n < 2 ^ 64) : Lib.bitLen n = n.log2 + 1 := by
  have h1 := Nat.log2_self_le (n := n) (by omega)
  have h2 := Nat.lt_log2_self (n := n)
  have hl : n.log2 < 64 := (Nat.log2_lt (by omega)).2 hn
  have s := Lib.bitLen_shift n.log2 n h1 hn
  have e : n / 2 ^ n.log2 = 1 := by
    have hp := Nat.two_pow_pos n.log2
    refine Nat.div_eq_of_lt_le (by omega) ?_
    rw [Nat.pow_succ] at h2; omega
  rw [s, e]
  rfl
set_option maxRecDepth 100000 in
set_option maxHeartbeats 4000000 in
theorem len_calls (x : Int) (w : World) (h0 : 0 ≤ x) (h1 : x ≤ 18446744073709551615) :
    Calls Try.prog 32 #[.int .u64 x] w fun e w' => e = .returned (.int .i64 (Lib.bitLen x.toNat)) ∧ w' = w := by
  go_enter Try.func32, Try.ntmps32
  go_wp2_with (go_at_call 42; refine (len64_calls _ _ (by omega) (by omega)).mono ?_; rintro e w' ⟨rfl, rfl⟩)
  go_ret
  exact ⟨rfl, rfl⟩
theorem shl_one (k : Nat) (hk : k < 63) (P : Program) (w : World) : (Op.shift BinOp.shl IntKind.i64 1 IntKind.i64 (k : Int)).run P w = .ok (.int .i64 ((2 ^ k : Nat) : Int)) w := by
  have h1 : ¬ (k : Int) < 0 := by omega
  have hm : min (k : Int).toNat (IntKind.i64).bits = k := by show min _ 64 = k; omega
  have hp : (2 : Nat) ^ k ≤ 2 ^ 62 := Nat.pow_le_pow_right (by omega) (by omega)
  have he : IntKind.i64.wrap (1 * 2 ^ k) = ((2 ^ k : Nat) : Int) := by
    rw [IntKind.wrap_i64, Int.one_mul]
    have e : (2 : Int) ^ k = ((2 ^ k : Nat) : Int) := by push_cast; rfl
    rw [e]
    generalize (2 ^ k : Nat) = y at *
    omega
  simp only [Op.shift, if_neg h1, hm, he, Sem.run_pure]
end Go.Proofs.Ytngmdonlljpknaa.mk
