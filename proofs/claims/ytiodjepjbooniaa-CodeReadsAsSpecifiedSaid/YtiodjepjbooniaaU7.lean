/- CodeTablesAddUp: its walk. -/
import Derived.Test.YtiodjepjbooniaaG12

namespace Go.Proofs.Ytiodjepjbooniaa.uk

open Go.ChangeShapes Go.WideShapes Go.ChangeAt Go.RowKit

open Go.Proofs.Ytiodjepjbooniaa.cq Go.Proofs.Ytiodjepjbooniaa.vk Go.Proofs.Ytiodjepjbooniaa.bk Go.Proofs.Ytiodjepjbooniaa.wk
theorem fewv {v : List Int} (h : vq.Vec v) : vk.Few v := fun y hy => by have := h.lo y hy; have := h.hi y hy; omega
theorem tbl_hok {m : Int} {b : Bk} {q cl : List Int} (hR : Rt b) (hq : vq.Vec q) (hd : (q.length : Int) = b.d) (hc : cok b cl = true) :
    ∀ (k : Nat) (r : List Int) (i : Int), (tbl m b q)[k]? = some r → cl[k]? = some i → 0 ≤ i ∧ i < (r.length : Int) ∧ ∀ x ∈ r, 0 ≤ x ∧ x ≤ 134217728 := by
  intro k r i hr hi
  have hk : k < b.W.length := by rw [← tbl_len hR (m := m) q]; exact (List.getElem?_eq_some_iff.1 hr).1
  have hl := List.getElem?_eq_getElem hk
  have hy := List.getElem?_eq_getElem (show k < b.cuts.length by rw [← hR.wl]; exact hk)
  rw [tbl_at hl hy] at hr
  injection hr with hr
  have h1 := (cok_iff.1 hc).2 k _ i hl hi
  have hDA := hR.div.at hy
  have hok := hR.ok _ _ _ hl hy
  rw [← hr]
  refine ⟨h1.1, by rw [trow_len]; exact h1.2, fun x hx => ?_⟩
  simp only [trow, List.mem_map] at hx
  obtain ⟨w, hw, rfl⟩ := hx
  have hww := hok.2 w hw
  have hpl := pt_len (v := q) (p := (b.cuts[k]'(by rw [← hR.wl]; exact hk), endAt b.cuts b.d k)) hDA.1 (Int.le_of_lt hDA.2.1) (by show endAt b.cuts b.d k ≤ _; omega)
  refine ⟨key_nonneg _ _ _, key_max hww.2 (vec_part hq hDA.1 hDA.2.1 (by show endAt b.cuts b.d k ≤ _; omega)) ?_⟩
  have := hww.1
  dsimp only at hpl
  omega
end Go.Proofs.Ytiodjepjbooniaa.uk

namespace Go.Proofs.Ytiodjepjbooniaa.codeTablesAddUp

open Go.ChangeShapes Go.WideShapes Go.ChangeAt Go.RowKit

open Go.Proofs.Ytiodjepjbooniaa.cq Go.Proofs.Ytiodjepjbooniaa.vk Go.Proofs.Ytiodjepjbooniaa.bk Go.Proofs.Ytiodjepjbooniaa.wk Go.Proofs.Ytiodjepjbooniaa.uk

set_option linter.unusedVariables false
set_option maxRecDepth 100000 in
set_option maxHeartbeats 4000000 in
theorem walk (w : World) {v : Value} {b : Bk} {m : Int} {A A2 : Option Addr} {n c n2 c2 : Nat} {q cl : List Int} (w0 : IsBk w v b) (w1 : (Lit.int .i64 m).wf = true) (w2 : wo.IsI w A n c q) (w3 : wo.IsI w A2 n2 c2 cl) :
    Calls Try.prog 7 #[v, .int .i64 m, .slice A n c, .slice A2 n2 c2] w fun e w' => e = .returned (.bool true) ∧ Below w.heap.size w w' := by
  obtain ⟨A0, n0, c0, AW, nW, cW, rfl, hi, hW, hd⟩ := w0
  have hnc0 := hi.2.1
  have hnm0 := hi.2.2.1
  have hncW := hW.2.1
  have hnmW := hW.2.2.1
  have hnc1 := w2.2.1
  have hnm1 := w2.2.2.1
  have hnc2 := w3.2.1
  have hnm2 := w3.2.2.1
  have HX : Hid (IsBk (w.alloc (.cells #[.int .i64 b.d, .slice A0 n0 c0, .slice AW nW cW] 25)) (.agg #[.int .i64 b.d, .slice A0 n0 c0, .slice AW nW cW]) b) := IsBk.below ⟨_, _, _, _, _, _, rfl, hi, hW, hd⟩ (below_new _ _)
  have HT := Lib.hid (Three.new w (.int .i64 b.d) (.slice A0 n0 c0) (.slice AW nW cW))
  have HV := Lib.hid (V1.mk (isI_below w2 (below_new _ (.cells #[.int .i64 b.d, .slice A0 n0 c0, .slice AW nW cW] 25))))
  have HC := Lib.hid (V1.mk (isI_below w3 (below_new _ (.cells #[.int .i64 b.d, .slice A0 n0 c0, .slice AW nW cW] 25))))
  have HB := Lib.hid (below_new w (.cells #[.int .i64 b.d, .slice A0 n0 c0, .slice AW nW cW] 25))
  have HNQ := Lib.hid w2.1
  have HNC := Lib.hid w3.1
  clear hi hW hd w1 w2 w3
  go_enter Try.func7, Try.ntmps7
  have hc0HT := HT.out.c0
  have hc1HT := HT.out.c1
  have hc2HT := HT.out.c2
  go_wp2_with fail
  clear hc0HT hc1HT hc2HT
  refine (right_calls _ b m _ _ _ _ _ _ q q _ HX.out HV.out.is HV.out.is).mono ?_
  rintro e w1 ⟨⟨r, rfl, hr⟩, hb⟩
  replace HX := Lib.hid (HX.out.below hb)
  replace HT := Lib.hid (HT.out.below hb)
  replace HV := Lib.hid (HV.out.below hb)
  replace HC := Lib.hid (HC.out.below hb)
  replace HB := Lib.hid (Below.andThen HB.out hb)
  clear hb
  have hc0HT := HT.out.c0
  have hc1HT := HT.out.c1
  have hc2HT := HT.out.c2
  cases r
  · clear hr
    go_wp2_with fail
    clear hc0HT hc1HT hc2HT
    refine (sanity_calls _).mono ?_
    rintro e w' ⟨rfl, hb⟩
    have HBZ := Lib.hid (Below.andThen HB.out hb)
    clear hb
    go_wp2_with fail
    go_ret
    exact ⟨rfl, HBZ.out⟩
  have HRG := Lib.hid (hr rfl)
  clear hr
  by_cases h20 : n2 > 20
  ·
    go_wp2_with fail
    clear hc0HT hc1HT hc2HT
    refine (sanity_calls _).mono ?_
    rintro e w' ⟨rfl, hb⟩
    have HBZ := Lib.hid (Below.andThen HB.out hb)
    clear hb
    go_wp2_with fail
    go_ret
    exact ⟨rfl, HBZ.out⟩
  go_wp2_with fail
  clear hc0HT hc1HT hc2HT
  refine (decode_calls _ b _ _ _ cl _ HX.out HRG.out.rt HC.out.is).mono ?_
  rintro e w2 ⟨u3, rfl, hu, hb⟩
  replace HX := Lib.hid (HX.out.below hb)
  replace HT := Lib.hid (HT.out.below hb)
  replace HV := Lib.hid (HV.out.below hb)
  replace HC := Lib.hid (HC.out.below hb)
  replace HB := Lib.hid (Below.andThen HB.out hb)
  obtain ⟨A3, n3, c3, rfl, hu⟩ := hu
  have hnm3 := hu.2.2.1
  have hnc3 := hu.2.1
  have HN3 := Lib.hid hu.1
  have HD := Lib.hid (V1.mk hu)
  clear hu
  unfold okD
  clear hb
  have hc0HT := HT.out.c0
  have hc1HT := HT.out.c1
  have hc2HT := HT.out.c2
  cases hck : cok b cl
  ·
    rw [if_neg (by simp)]
    obtain rfl : n3 = 0 := by rw [← HN3.out]; unfold dec; rw [hck]; rfl
    clear hck
    go_wp2_with fail
    clear hc0HT hc1HT hc2HT
    refine (sanity_calls _).mono ?_
    rintro e w3 ⟨rfl, hb⟩
    replace HX := Lib.hid (HX.out.below hb)
    replace HT := Lib.hid (HT.out.below hb)
    replace HV := Lib.hid (HV.out.below hb)
    replace HC := Lib.hid (HC.out.below hb)
    replace HD := Lib.hid (HD.out.below hb)
    replace HB := Lib.hid (Below.andThen HB.out hb)
    clear hb
    have hc0HT := HT.out.c0
    have hc1HT := HT.out.c1
    have hc2HT := HT.out.c2
    go_wp2_with fail
    go_ret
    exact ⟨rfl, HB.out⟩
  rw [if_pos rfl]
  have HCK := Lib.hid hck
  have hd3 : ((n3 : Int) == b.d) = true := by rw [← HN3.out]; simpa using dec_len HRG.out.rt hck
  clear hck
  go_wp2_with fail
  clear hc0HT hc1HT hc2HT
  refine (sanity_calls _).mono ?_
  rintro e w4 ⟨rfl, hb⟩
  replace HX := Lib.hid (HX.out.below hb)
  replace HT := Lib.hid (HT.out.below hb)
  replace HV := Lib.hid (HV.out.below hb)
  replace HC := Lib.hid (HC.out.below hb)
  replace HD := Lib.hid (HD.out.below hb)
  replace HB := Lib.hid (Below.andThen HB.out hb)
  clear hb
  have hc0HT := HT.out.c0
  have hc1HT := HT.out.c1
  have hc2HT := HT.out.c2
  go_wp2_with fail
  clear hc0HT hc1HT hc2HT
  refine (table_calls _ b m _ _ _ q _ HX.out HRG.out.rt HRG.out.m1 HRG.out.m3 HV.out.is HRG.out.v1 (by rw [← HNQ.out]; exact HRG.out.d)).mono ?_
  rintro e w5 ⟨A5, n5, c5, rfl, hu, hb⟩
  replace HX := Lib.hid (HX.out.below hb)
  replace HT := Lib.hid (HT.out.below hb)
  replace HV := Lib.hid (HV.out.below hb)
  replace HC := Lib.hid (HC.out.below hb)
  replace HD := Lib.hid (HD.out.below hb)
  replace HB := Lib.hid (Below.andThen HB.out hb)
  have hu := hu.now
  have hnm5 := hu.2.2.1
  have hnc5 := hu.2.1
  have HN5 := Lib.hid hu.1
  have HTB := Lib.hid (V2.mk hu)
  have H51 : Hid (n5 ≤ 1000) := by
    have h1 := HN5.out
    rw [tbl_len HRG.out.rt, HRG.out.rt.wl] at h1
    have h2 := HRG.out.rt.div.n8
    show _ ≤ _
    omega
  obtain rfl : n2 = n5 := by rw [← HN5.out, ← HNC.out, tbl_len HRG.out.rt]; exact (cok_iff.1 HCK.out).1
  have HOK := Lib.hid (tbl_hok (m := m) HRG.out.rt HRG.out.v1 HRG.out.d HCK.out)
  have HSK := Lib.hid (sum_key HRG.out.m1 HRG.out.m3 HRG.out.rt HRG.out.d HCK.out)
  clear hu
  clear hb
  have hc0HT := HT.out.c0
  have hc1HT := HT.out.c1
  have hc2HT := HT.out.c2
  go_wp2_with fail
  clear hc0HT hc1HT hc2HT
  refine (sum_calls m _ _ _ _ _ (tbl m b q) cl _ HRG.out.m1 HRG.out.m3 HTB.out.is HC.out.is H51.out HOK.out).mono ?_
  rintro e w6 ⟨rfl, hb⟩
  replace HX := Lib.hid (HX.out.below hb)
  replace HT := Lib.hid (HT.out.below hb)
  replace HV := Lib.hid (HV.out.below hb)
  replace HC := Lib.hid (HC.out.below hb)
  replace HD := Lib.hid (HD.out.below hb)
  replace HTB := Lib.hid (HTB.out.below hb)
  replace HB := Lib.hid (Below.andThen HB.out hb)
  rw [HSK.out]
  clear HSK HOK H51
  clear hb
  have hc0HT := HT.out.c0
  have hc1HT := HT.out.c1
  have hc2HT := HT.out.c2
  obtain rfl : n = n3 := by
    have h1 := HRG.out.d
    have h2 := dec_len HRG.out.rt HCK.out
    rw [HNQ.out] at h1
    rw [HN3.out] at h2
    omega
  have HVD := Lib.hid (dec_vec HRG.out.rt HCK.out)
  go_wp2_with fail
  clear hc0HT hc1HT hc2HT
  refine (rkey_calls m _ _ _ _ _ q (dec b cl) _ HRG.out.m1 HRG.out.m3 HV.out.is HD.out.is (fewv HRG.out.v1) (fewv HVD.out) (vq.sub_bound HRG.out.v1 HVD.out) (by rw [← HNQ.out]; exact HRG.out.v1.le)).mono ?_
  rintro e w7 ⟨rfl, hb⟩
  replace HX := Lib.hid (HX.out.below hb)
  replace HT := Lib.hid (HT.out.below hb)
  replace HV := Lib.hid (HV.out.below hb)
  replace HC := Lib.hid (HC.out.below hb)
  replace HD := Lib.hid (HD.out.below hb)
  replace HTB := Lib.hid (HTB.out.below hb)
  replace HB := Lib.hid (Below.andThen HB.out hb)
  clear hb
  have hc0HT := HT.out.c0
  have hc1HT := HT.out.c1
  have hc2HT := HT.out.c2
  generalize vq.key m q (dec b cl) = z at *
  go_wp2_with fail
  go_ret
  exact ⟨rfl, HB.out⟩
end Go.Proofs.Ytiodjepjbooniaa.codeTablesAddUp
