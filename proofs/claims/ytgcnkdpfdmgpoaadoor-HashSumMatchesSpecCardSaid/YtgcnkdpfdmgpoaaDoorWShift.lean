
import Derived.Test.YtgcnkdpfdmgpoaaDoorSn

import Derived.Test.YtgcnkdpfdmgpoaaDoorBit2

import Derived.Test.YtgcnkdpfdmgpoaaDoorWJoin

namespace Go.Proofs.YtgcnkdpfdmgpoaaDoor.hashShifts

open Go.ChangeShapes Go.WideShapes Go.ChangeAt Go.RowKit

set_option linter.unusedVariables false

theorem joinV_nat (a b : Int) (n : Nat) : hi.joinV a b n = hp.Tn (8 * n) (hi.low a) ^^^ hi.low b := by
  unfold hi.joinV
  rw [if_neg (by omega)]
  rfl

set_option maxRecDepth 100000 in
set_option maxHeartbeats 1000000 in
theorem walk (w : World) (hT : hi.TabK w) {a b n m : Int} (w0 : (Lit.int .i64 a).wf = true) (w1 : (Lit.int .i64 b).wf = true) (w2 : (Lit.int .i64 n).wf = true) (w3 : (Lit.int .i64 m).wf = true) :
    Calls Tryd.prog 8 #[.int .i64 a, .int .i64 b, .int .i64 n, .int .i64 m] w fun e w' => e = .returned (.bool true) ∧ Below w.heap.size w w' := by
  have ha := hashJoinMatchesSpec.int_wf w0
  have hbb := hashJoinMatchesSpec.int_wf w1
  have HS := Lib.hid (hi.sanity_true w hT)
  have e1 := hb.and40 n
  have e2 := hb.and40 m
  have e3 := hb.and40 b
  have hn := hi.low_lt n
  have hm := hi.low_lt m
  have hlb := hi.low_lt b
  have hla := hi.low_lt a
  generalize hi.low n = n' at *
  generalize hi.low m = m' at *
  clear w0 w1 w2 w3 hT
  have hsum : ((n' : Nat) : Int) + (m' : Int) = ((n' + m' : Nat) : Int) := by omega
  -- the values
  have hJ0 : hi.joinV a 0 ((n' : Nat) : Int) < 1099511627776 := hi.joinV_lt _ _ _
  have v1 : hi.joinV a 0 ((n' + m' : Nat) : Int) = hp.Tn (8 * (n' + m')) (hi.low a) := by rw [joinV_nat]; show _ ^^^ 0 = _; rw [Nat.xor_zero]
  have v2 : hi.joinV ((hi.joinV a 0 ((n' : Nat) : Int) : Nat) : Int) 0 ((m' : Nat) : Int) = hp.Tn (8 * (n' + m')) (hi.low a) := by
    rw [joinV_nat _ _ m', hb.low_nat hJ0, joinV_nat]
    show hp.Tn (8 * m') (hp.Tn (8 * n') (hi.low a) ^^^ 0) ^^^ 0 = _
    rw [Nat.xor_zero, Nat.xor_zero, ← hp.Tn_add]
    congr 1
    omega
  have v3 : hi.joinV a b ((n' + m' : Nat) : Int) = hp.Tn (8 * (n' + m')) (hi.low a) ^^^ hi.low b := joinV_nat _ _ _
  have v4 : hi.joinV 0 b ((n' : Nat) : Int) = hi.low b := by
    rw [joinV_nat]
    show hp.Tn (8 * n') 0 ^^^ _ = _
    rw [hp.Tn_zero, Nat.zero_xor]
  have hT1 : hp.Tn (8 * (n' + m')) (hi.low a) < 1099511627776 := hp.Tn_lt _ hla
  have e4 := hb.xor40 hT1 hlb
  have HJ1 := Lib.hid (fun w' => hi.join_calls a 0 ((n' + m' : Nat) : Int) w' ha (by decide) (by omega))
  have HJ2 := Lib.hid (fun w' => hi.join_calls a 0 ((n' : Nat) : Int) w' ha (by decide) (by omega))
  have HJ3 := Lib.hid (fun w' => hi.join_calls ((hi.joinV a 0 ((n' : Nat) : Int) : Nat) : Int) 0 ((m' : Nat) : Int) w' (by omega) (by decide) (by omega))
  have HJ4 := Lib.hid (fun w' => hi.join_calls a b ((n' + m' : Nat) : Int) w' ha hbb (by omega))
  have HJ5 := Lib.hid (fun w' => hi.join_calls 0 b ((n' : Nat) : Int) w' (by decide) hbb (by omega))
  rw [v1] at HJ1
  rw [v2] at HJ3
  rw [v3] at HJ4
  rw [v4] at HJ5
  rw [← hsum] at HJ1 HJ4
  generalize hi.joinV a 0 ((n' : Nat) : Int) = j0 at *
  generalize hi.low b = lb at *
  generalize hp.Tn (8 * (n' + m')) (hi.low a) = t at *
  generalize t ^^^ lb = x at *
  clear v1 v2 v3 v4 hsum hJ0 hla hT1 hlb
  have E4 := Lib.hid e4
  clear e4
  go_enter Tryd.func8, Tryd.ntmps8
  go_wp2_with fail
  refine HS.out.mono ?_
  rintro e w1 ⟨rfl, hb⟩
  go_wp2_with fail
  refine (HJ1.out w1).mono ?_
  rintro e w2 ⟨rfl, rfl⟩
  go_wp2_with fail
  refine (HJ2.out w1).mono ?_
  rintro e w2 ⟨rfl, rfl⟩
  go_wp2_with fail
  refine (HJ3.out w1).mono ?_
  rintro e w2 ⟨rfl, rfl⟩
  go_wp2_with fail
  refine (HJ4.out w1).mono ?_
  rintro e w2 ⟨rfl, rfl⟩
  have e4 := E4.out
  go_wp2_with fail
  refine (HJ5.out w1).mono ?_
  rintro e w2 ⟨rfl, rfl⟩
  go_wp2_with fail
  go_ret
  exact ⟨rfl, hb⟩
end Go.Proofs.YtgcnkdpfdmgpoaaDoor.hashShifts
