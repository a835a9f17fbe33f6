
import Derived.Test.YtbnemcggiopdmaaGet

import Derived.Test.YtbnemcggiopdmaaKit

namespace Go.Proofs.Ytbnemcggiopdmaa.wi

open Go.ChangeShapes Go.WideShapes Go.ChangeAt Go.RowKit

theorem size5 : (Try.prog.info? 5).map (·.size) = some 1 := by kernel_rfl

set_option maxRecDepth 100000 in
set_option maxHeartbeats 1000000 in
theorem getCount_any (A : Option Addr) (n c least : Nat) (l : List UInt8) (w : World) (hn : n ≤ c) (hc : c ≤ 9223372036854775807) (hln : l.length = n) (hl : wp.RB w A l) (h1 : 1 ≤ least) (h2 : least ≤ 1000) :
    Calls Try.prog 69 #[.slice A n c, .int .i64 (least : Int)] w fun e w' => e = .returned (.tuple #[.int .i64 (wp.getC l least).1, .int .i64 (wp.getC l least).2.1, .int .i64 (wp.getC l least).2.2]) ∧ w = w' := by
  have HG := Lib.hid (getInt_any A n c l w hn hc hln hl)
  have hf := wp.getI_facts l
  have HE : Hid (wp.getC l least = if (wp.getI l).2.2 ≠ 0 then (0, 0, (wp.getI l).2.2) else if (wp.getI l).1 < 0 then (0, 0, 11) else if ((n : Int) - (wp.getI l).2.1) / (least : Int) < (wp.getI l).1 then (0, 0, 10) else ((wp.getI l).1, (wp.getI l).2.1, 0)) := by
    show _ = _
    unfold wp.getC
    rw [hln]
  obtain ⟨f1, f2, f3, f4, f5, f6, f7, f8, -⟩ := hf
  rw [hln] at f4
  clear hl hln
  generalize wp.getI l = r at *
  obtain ⟨r1, r2, r3⟩ := r
  simp only at *
  have HR : Hid (wp.getC l least = if r3 ≠ 0 then (0, 0, r3) else if r1 < 0 then (0, 0, 11) else if ((n : Int) - r2) / (least : Int) < r1 then (0, 0, 10) else (r1, r2, 0)) := HE.out
  clear HE
  have hdiv : 0 ≤ ((n : Int) - r2) / (least : Int) := Int.ediv_nonneg (by omega) (by omega)
  by_cases h3 : 0 < r3
  · have hb : (r3 != 0) = true := by rw [bne_iff_ne]; omega
    go_enter Try.func69, Try.ntmps69
    go_wp2_with fail
    refine HG.out.mono ?_
    rintro e w' ⟨rfl, rfl⟩
    go_wp2_with fail
    go_ret3
    exact ⟨by rw [HR.out, if_pos (by omega)]; rfl, rfl⟩
  · have hb : (r3 != 0) = false := by rw [bne_eq_false_iff_eq]; omega
    by_cases h4 : r1 < 0
    · go_enter Try.func69, Try.ntmps69
      go_wp2_with fail
      refine HG.out.mono ?_
      rintro e w' ⟨rfl, rfl⟩
      go_wp2_with fail
      go_ret3
      exact ⟨by rw [HR.out, if_neg (by omega), if_pos (by omega)]; rfl, rfl⟩
    · by_cases h5 : ((n : Int) - r2) / (least : Int) < r1
      · go_enter Try.func69, Try.ntmps69
        go_wp2_with fail
        refine HG.out.mono ?_
        rintro e w' ⟨rfl, rfl⟩
        go_wp2_with fail
        go_ret3
        exact ⟨by rw [HR.out, if_neg (by omega), if_neg (by omega), if_pos h5]; rfl, rfl⟩
      · go_enter Try.func69, Try.ntmps69
        go_wp2_with fail
        refine HG.out.mono ?_
        rintro e w' ⟨rfl, rfl⟩
        go_wp2_with fail
        go_ret3
        exact ⟨by rw [HR.out, if_neg (by omega), if_neg (by omega), if_neg (Int.not_lt.2 h5)]; rfl, rfl⟩

end Go.Proofs.Ytbnemcggiopdmaa.wi
