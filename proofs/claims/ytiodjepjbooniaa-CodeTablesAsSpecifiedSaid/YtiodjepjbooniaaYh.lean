/- CodeTablesAsSpecified: its walk. -/
import Derived.Test.YtiodjepjbooniaaU7

import Derived.Test.YtiodjepjbooniaaYg

namespace Go.Proofs.Ytiodjepjbooniaa.codeTablesAsSpecified

open Go.ChangeShapes Go.WideShapes Go.ChangeAt Go.RowKit

open Go.Proofs.Ytiodjepjbooniaa.cq Go.Proofs.Ytiodjepjbooniaa.vk Go.Proofs.Ytiodjepjbooniaa.bk Go.Proofs.Ytiodjepjbooniaa.wk Go.Proofs.Ytiodjepjbooniaa.uk

set_option linter.unusedVariables false
set_option maxRecDepth 100000 in
set_option maxHeartbeats 3000000 in
theorem walk (w : World) {v : Value} {b : Bk} {m : Int} {A A2 : Option Addr} {n c n2 c2 : Nat} {q cl : List Int} {x y : Int} (w0 : IsBk w v b) (w1 : (Lit.int .i64 m).wf = true) (w2 : wo.IsI w A n c q) (w3 : wo.IsI w A2 n2 c2 cl) (w4 : (Lit.int .i64 x).wf = true) (w5 : (Lit.int .i64 y).wf = true) :
    Calls Try.prog 4 #[v, .int .i64 m, .slice A n c, .slice A2 n2 c2, .int .i64 x, .int .i64 y] w fun e w' => e = .returned (.bool true) ∧ Below w.heap.size w w' := by
  clear w4 w5
  obtain ⟨A0, n0, c0, AW, nW, cW, rfl, hi, hW, hd⟩ := w0
  have hnc0 := hi.2.1
  have hnm0 := hi.2.2.1
  have hncW := hW.2.1
  have hnmW := hW.2.2.1
  have hnc1 := w2.2.1
  have hnm1 := w2.2.2.1
  have hnc2 := w3.2.1
  have hnm2 := w3.2.2.1
  have HX : Hid (IsBk (w.alloc (.cells #[.int .i64 b.d, .slice A0 n0 c0, .slice AW nW cW] 25)) (.agg #[.int .i64 b.d, .slice A0 n0 c0, .slice AW nW cW]) b) := IsBk.below ⟨_, _, _, _, _, _, rfl, hi, hW, hd⟩ (below_new _ _)
  have HT := Lib.hid (Three.new w (.int .i64 b.d) (.slice A0 n0 c0) (.slice AW nW cW))
  have HV := Lib.hid (V1.mk (isI_below w2 (below_new _ (.cells #[.int .i64 b.d, .slice A0 n0 c0, .slice AW nW cW] 25))))
  have HC := Lib.hid (V1.mk (isI_below w3 (below_new _ (.cells #[.int .i64 b.d, .slice A0 n0 c0, .slice AW nW cW] 25))))
  have HB := Lib.hid (below_new w (.cells #[.int .i64 b.d, .slice A0 n0 c0, .slice AW nW cW] 25))
  have HNQ := Lib.hid w2.1
  have HNC := Lib.hid w3.1
  clear hi hW hd w1 w2 w3
  go_enter Try.func4, Try.ntmps4
  have hc0HT := HT.out.c0
  have hc1HT := HT.out.c1
  have hc2HT := HT.out.c2
  go_wp2_with fail
  clear hc0HT hc1HT hc2HT
  refine (right_calls _ b m _ _ _ _ _ _ q cl _ HX.out HV.out.is HC.out.is).mono ?_
  rintro e w1 ⟨⟨r, rfl, hr⟩, hb⟩
  replace HX := Lib.hid (HX.out.below hb)
  replace HT := Lib.hid (HT.out.below hb)
  replace HV := Lib.hid (HV.out.below hb)
  replace HC := Lib.hid (HC.out.below hb)
  replace HB := Lib.hid (Below.andThen HB.out hb)
  clear hb
  have hc0HT := HT.out.c0
  have hc1HT := HT.out.c1
  have hc2HT := HT.out.c2
  cases r
  · clear hr
    go_wp2_with fail
    clear hc0HT hc1HT hc2HT
    refine (sanity_calls _).mono ?_
    rintro e w' ⟨rfl, hb⟩
    have HBZ := Lib.hid (Below.andThen HB.out hb)
    clear hb
    go_wp2_with fail
    go_ret
    exact ⟨rfl, HBZ.out⟩
  have HRG := Lib.hid (hr rfl)
  clear hr
  by_cases h1 : x < 0
  ·
    go_wp2_with fail
    clear hc0HT hc1HT hc2HT
    refine (sanity_calls _).mono ?_
    rintro e w' ⟨rfl, hb⟩
    have HBZ := Lib.hid (Below.andThen HB.out hb)
    clear hb
    go_wp2_with fail
    go_ret
    exact ⟨rfl, HBZ.out⟩
  by_cases h2 : x > 134217728
  ·
    go_wp2_with fail
    clear hc0HT hc1HT hc2HT
    refine (sanity_calls _).mono ?_
    rintro e w' ⟨rfl, hb⟩
    have HBZ := Lib.hid (Below.andThen HB.out hb)
    clear hb
    go_wp2_with fail
    go_ret
    exact ⟨rfl, HBZ.out⟩
  by_cases h3 : y < 0
  ·
    go_wp2_with fail
    clear hc0HT hc1HT hc2HT
    refine (sanity_calls _).mono ?_
    rintro e w' ⟨rfl, hb⟩
    have HBZ := Lib.hid (Below.andThen HB.out hb)
    clear hb
    go_wp2_with fail
    go_ret
    exact ⟨rfl, HBZ.out⟩
  by_cases h4 : y > 134217728
  ·
    go_wp2_with fail
    clear hc0HT hc1HT hc2HT
    refine (sanity_calls _).mono ?_
    rintro e w' ⟨rfl, hb⟩
    have HBZ := Lib.hid (Below.andThen HB.out hb)
    clear hb
    go_wp2_with fail
    go_ret
    exact ⟨rfl, HBZ.out⟩
  have HND : Hid ((n : Int) = b.d) := by show _ = _; rw [← HNQ.out]; exact HRG.out.d
  have HND2 : Hid ((n2 : Int) = b.d) := by show _ = _; rw [← HNC.out]; exact HRG.out.d2
  have hcok := enc_cok (m := m) HRG.out.rt q
  have HOK := Lib.hid (tbl_hok (m := m) HRG.out.rt HRG.out.v2 HRG.out.d2 hcok)
  clear hcok
  go_wp2_with fail
  clear hc0HT hc1HT hc2HT
  refine (rtable_calls _ b m _ _ _ cl _ HX.out HRG.out.rt HRG.out.m1 HRG.out.m3 HC.out.is HRG.out.v2 HND2.out).mono ?_
  rintro e w2 ⟨A5, n5, c5, rfl, hu, hb⟩
  replace HX := Lib.hid (HX.out.below hb)
  replace HT := Lib.hid (HT.out.below hb)
  replace HV := Lib.hid (HV.out.below hb)
  replace HC := Lib.hid (HC.out.below hb)
  replace HB := Lib.hid (Below.andThen HB.out hb)
  have hnm5 := hu.2.2.1
  have hnc5 := hu.2.1
  have HN5 := Lib.hid hu.1
  have HTB := Lib.hid (V2.mk hu)
  clear hu
  clear hb
  have hc0HT := HT.out.c0
  have hc1HT := HT.out.c1
  have hc2HT := HT.out.c2
  go_wp2_with fail
  clear hc0HT hc1HT hc2HT
  refine (rencode_calls _ b m _ _ _ q _ HX.out HRG.out.rt HRG.out.m1 HRG.out.m3 HV.out.is HRG.out.v1 HND.out).mono ?_
  rintro e w3 ⟨u6, rfl, hu, hb⟩
  replace HX := Lib.hid (HX.out.below hb)
  replace HT := Lib.hid (HT.out.below hb)
  replace HV := Lib.hid (HV.out.below hb)
  replace HC := Lib.hid (HC.out.below hb)
  replace HTB := Lib.hid (HTB.out.below hb)
  replace HB := Lib.hid (Below.andThen HB.out hb)
  obtain ⟨A6, n6, c6, rfl, hu⟩ := hu
  obtain rfl : n6 = n5 := by rw [← HN5.out, ← hu.1, enc_len HRG.out.rt, tbl_len HRG.out.rt]
  have hnm6 := hu.2.2.1
  have hnc6 := hu.2.1
  have H61 : Hid (n6 ≤ 1000) := by
    have h1 := HN5.out
    rw [tbl_len HRG.out.rt, HRG.out.rt.wl] at h1
    have h2 := HRG.out.rt.div.n8
    show _ ≤ _
    omega
  have HEN := Lib.hid (V1.mk hu)
  clear hu
  clear hb
  have hc0HT := HT.out.c0
  have hc1HT := HT.out.c1
  have hc2HT := HT.out.c2
  go_wp2_with fail
  clear hc0HT hc1HT hc2HT
  refine (bounds_calls m x y _ HRG.out.m1 HRG.out.m3 (by omega) (by omega) (by omega) (by omega)).mono ?_
  rintro e w4 ⟨rfl, hb⟩
  replace HX := Lib.hid (HX.out.below hb)
  replace HT := Lib.hid (HT.out.below hb)
  replace HV := Lib.hid (HV.out.below hb)
  replace HC := Lib.hid (HC.out.below hb)
  replace HTB := Lib.hid (HTB.out.below hb)
  replace HEN := Lib.hid (HEN.out.below hb)
  replace HB := Lib.hid (Below.andThen HB.out hb)
  clear hb
  have hc0HT := HT.out.c0
  have hc1HT := HT.out.c1
  have hc2HT := HT.out.c2
  go_wp2_with fail
  clear hc0HT hc1HT hc2HT
  refine (rbounds_calls m x y _ HRG.out.m1 HRG.out.m3 (by omega) (by omega) (by omega) (by omega)).mono ?_
  rintro e w5 ⟨rfl, hb⟩
  replace HX := Lib.hid (HX.out.below hb)
  replace HT := Lib.hid (HT.out.below hb)
  replace HV := Lib.hid (HV.out.below hb)
  replace HC := Lib.hid (HC.out.below hb)
  replace HTB := Lib.hid (HTB.out.below hb)
  replace HEN := Lib.hid (HEN.out.below hb)
  replace HB := Lib.hid (Below.andThen HB.out hb)
  generalize me.low m x y = lo at *
  generalize me.high m x y = hi at *
  have HTI := Lib.hid (Two.new w5 (.int .i64 lo) (.int .i64 hi) 44)
  clear hb
  have hc0HT := HT.out.c0
  have hc1HT := HT.out.c1
  have hc2HT := HT.out.c2
  clear hc0HT hc1HT hc2HT
  replace HX := Lib.hid (HX.out.below (below_new _ (.cells #[.int .i64 lo, .int .i64 hi] 44)))
  replace HT := Lib.hid (HT.out.below (below_new _ (.cells #[.int .i64 lo, .int .i64 hi] 44)))
  replace HV := Lib.hid (HV.out.below (below_new _ (.cells #[.int .i64 lo, .int .i64 hi] 44)))
  replace HC := Lib.hid (HC.out.below (below_new _ (.cells #[.int .i64 lo, .int .i64 hi] 44)))
  replace HTB := Lib.hid (HTB.out.below (below_new _ (.cells #[.int .i64 lo, .int .i64 hi] 44)))
  replace HEN := Lib.hid (HEN.out.below (below_new _ (.cells #[.int .i64 lo, .int .i64 hi] 44)))
  replace HB := Lib.hid (Below.andThen HB.out (below_new _ (.cells #[.int .i64 lo, .int .i64 hi] 44)))
  have hc0HT := HT.out.c0
  have hc1HT := HT.out.c1
  have hc2HT := HT.out.c2
  go_wp2_with fail
  clear hc0HT hc1HT hc2HT
  refine (sanity_calls _).mono ?_
  rintro e w6 ⟨rfl, hb⟩
  replace HX := Lib.hid (HX.out.below hb)
  replace HT := Lib.hid (HT.out.below hb)
  replace HV := Lib.hid (HV.out.below hb)
  replace HC := Lib.hid (HC.out.below hb)
  replace HTB := Lib.hid (HTB.out.below hb)
  replace HEN := Lib.hid (HEN.out.below hb)
  replace HTI := Lib.hid (HTI.out.below hb)
  replace HB := Lib.hid (Below.andThen HB.out hb)
  clear hb
  have hc0HT := HT.out.c0
  have hc1HT := HT.out.c1
  have hc2HT := HT.out.c2
  go_wp2_with fail
  clear hc0HT hc1HT hc2HT
  refine (table_calls _ b m _ _ _ cl _ HX.out HRG.out.rt HRG.out.m1 HRG.out.m3 HC.out.is HRG.out.v2 HND2.out).mono ?_
  rintro e w7 ⟨A7, n7, c7, rfl, hu, hb⟩
  replace HX := Lib.hid (HX.out.below hb)
  replace HT := Lib.hid (HT.out.below hb)
  replace HV := Lib.hid (HV.out.below hb)
  replace HC := Lib.hid (HC.out.below hb)
  replace HTB := Lib.hid (HTB.out.below hb)
  replace HEN := Lib.hid (HEN.out.below hb)
  replace HTI := Lib.hid (HTI.out.below hb)
  replace HB := Lib.hid (Below.andThen HB.out hb)
  have hu := hu.now
  have hnm7 := hu.2.2.1
  have hnc7 := hu.2.1
  have HTB2 := Lib.hid (V2.mk hu)
  clear hu
  clear hb
  have hc0HT := HT.out.c0
  have hc1HT := HT.out.c1
  have hc2HT := HT.out.c2
  go_wp2_with fail
  clear hc0HT hc1HT hc2HT
  refine (sameRows_calls _ _ _ _ _ _ (tbl m b cl) (tbl m b cl) _ HTB2.out.is HTB.out.is).mono ?_
  rintro e w8 ⟨rfl, q8, hq⟩
  have hb := below_of_drew hq
  clear hq
  replace HX := Lib.hid (HX.out.below hb)
  replace HT := Lib.hid (HT.out.below hb)
  replace HV := Lib.hid (HV.out.below hb)
  replace HC := Lib.hid (HC.out.below hb)
  replace HTB := Lib.hid (HTB.out.below hb)
  replace HEN := Lib.hid (HEN.out.below hb)
  replace HTI := Lib.hid (HTI.out.below hb)
  replace HTB2 := Lib.hid (HTB2.out.below hb)
  replace HB := Lib.hid (Below.andThen HB.out hb)
  rw [show decide (tbl m b cl = tbl m b cl) = true by simp]
  clear hb
  have hc0HT := HT.out.c0
  have hc1HT := HT.out.c1
  have hc2HT := HT.out.c2
  go_wp2_with fail
  clear hc0HT hc1HT hc2HT
  refine (sum_calls m _ _ _ _ _ (tbl m b cl) (enc m b q) _ HRG.out.m1 HRG.out.m3 HTB.out.is HEN.out.is H61.out HOK.out).mono ?_
  rintro e w9 ⟨rfl, hb⟩
  replace HX := Lib.hid (HX.out.below hb)
  replace HT := Lib.hid (HT.out.below hb)
  replace HV := Lib.hid (HV.out.below hb)
  replace HC := Lib.hid (HC.out.below hb)
  replace HTB := Lib.hid (HTB.out.below hb)
  replace HEN := Lib.hid (HEN.out.below hb)
  replace HTI := Lib.hid (HTI.out.below hb)
  replace HTB2 := Lib.hid (HTB2.out.below hb)
  replace HB := Lib.hid (Below.andThen HB.out hb)
  obtain ⟨s, hs⟩ : ∃ z, sumc m (tbl m b cl) (enc m b q) = z := ⟨_, rfl⟩
  rw [hs]
  have HS := Lib.hid hs
  clear hs
  clear hb
  have hc0HT := HT.out.c0
  have hc1HT := HT.out.c1
  have hc2HT := HT.out.c2
  go_wp2_with fail
  clear hc0HT hc1HT hc2HT
  refine (rsum_calls m _ _ _ _ _ (tbl m b cl) (enc m b q) _ HRG.out.m1 HRG.out.m3 HTB.out.is HEN.out.is H61.out HOK.out).mono ?_
  rintro e w10 ⟨rfl, q10, hq⟩
  have hb := below_of_drew hq
  clear hq
  replace HX := Lib.hid (HX.out.below hb)
  replace HT := Lib.hid (HT.out.below hb)
  replace HV := Lib.hid (HV.out.below hb)
  replace HC := Lib.hid (HC.out.below hb)
  replace HTB := Lib.hid (HTB.out.below hb)
  replace HEN := Lib.hid (HEN.out.below hb)
  replace HTI := Lib.hid (HTI.out.below hb)
  replace HTB2 := Lib.hid (HTB2.out.below hb)
  replace HB := Lib.hid (Below.andThen HB.out hb)
  rw [HS.out]
  clear hb
  have hc0HT := HT.out.c0
  have hc1HT := HT.out.c1
  have hc2HT := HT.out.c2
  have hi0 := HTI.out.c0
  have hi1 := HTI.out.c1
  go_wp2_with fail
  go_ret
  exact ⟨rfl, HB.out⟩
end Go.Proofs.Ytiodjepjbooniaa.codeTablesAsSpecified
