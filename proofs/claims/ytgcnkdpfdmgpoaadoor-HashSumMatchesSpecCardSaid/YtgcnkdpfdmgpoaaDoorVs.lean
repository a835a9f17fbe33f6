
import Derived.Test.YtgcnkdpfdmgpoaaDoorSn

namespace Go.Proofs.YtgcnkdpfdmgpoaaDoor.vs

open Go.ChangeShapes Go.WideShapes Go.ChangeAt Go.RowKit

set_option linter.unusedVariables false
/-- a message so far: its cells -/
def cs (m : List UInt8) : List Value := hi.stC (hs.feed (hs.H0, []) m).1 (hs.blk (hs.feed (hs.H0, []) m).2) (m.length : Int)
theorem str (m : List UInt8) : hi.Str (hs.feed (hs.H0, []) m) m.length := by
  have := hi.str_begin.feed m
  rw [Nat.zero_add] at this
  exact this
theorem cs_length (m : List UInt8) : (cs m).length = 73 := hi.stC_length (hs.blk_length (by have := (str m).lt; omega))
theorem cs_size (m : List UInt8) : (Tryd.prog.info? 53).map (·.size) = some (cs m).length := by rw [cs_length]; exact hi.size73
theorem cs_sizeA (m : List UInt8) : (Tryd.prog.info? 53).map (·.size) = some (cs m).toArray.size := by rw [List.size_toArray]; exact cs_size m
theorem cs_ones (m : List UInt8) : wk.Ones (cs m) := hi.stC_ones _ _ _
theorem begins (w : World) : Calls Tryd.prog 31 #[] w fun e w' => e = .returned (.agg (cs []).toArray) ∧ Below w.heap.size w w' := hi.begin_calls w
theorem adds (m : List UInt8) (x : ByteArray) (w : World) (hT : hi.TabK w) (h : m.length + x.size ≤ 1000000) :
    Calls Tryd.prog 32 #[.agg (cs m).toArray, .string x] w fun e w' => e = .returned (.agg (cs (m ++ x.data.toList)).toArray) ∧ Below w.heap.size w w' := by
  have := hi.add_calls (hs.feed (hs.H0, []) m) m.length x w (str m) (by omega) hT
  have hz : (m ++ x.data.toList).length = m.length + x.size := by
    rw [List.length_append]
    have : x.data.toList.length = x.size := by rw [Array.length_toList]; rfl
    omega
  rw [← hs.feed_append, ← hz] at this
  exact this
theorem fins (m : List UInt8) (w : World) (hT : hi.TabK w) (h : m.length ≤ 1000000) :
    Calls Tryd.prog 33 #[.agg (cs m).toArray] w fun e w' => e = .returned (.agg (wp.bc (hs.sha m)).toArray) ∧ Below w.heap.size w w' := hi.sum_calls (hs.feed (hs.H0, []) m) m.length w (str m) (by omega) hT
theorem wholes (A : Option Addr) (n c : Nat) (l : List UInt8) (w : World) (hT : hi.TabK w) (hn : l.length = n) (hnc : n ≤ c) (hc : c ≤ 9223372036854775807) (hl : wp.RB w A l) (h : n ≤ 1000000) :
    Calls Tryd.prog 29 #[.slice A n c] w fun e w' => e = .returned (.agg (wp.bc (hs.sha l)).toArray) ∧ Below w.heap.size w w' := hi.hsum_calls A n c l w hn hnc hc (by omega) hl hT
theorem eqs (m : List UInt8) (w : World) : (binOp .eql 47 (.agg (wp.bc (hs.sha m)).toArray) (.agg (wp.bc (hs.sha m)).toArray)).run Tryd.prog w = .ok (.bool true) w :=
  hi.run_eq_arr_same 47 5 32 Tryd.underlying47 Tryd.underlying5 hi.size_u8 (hs.sha m) rfl w
end Go.Proofs.YtgcnkdpfdmgpoaaDoor.vs
