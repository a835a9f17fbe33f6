/- Lines: the reference. -/
import Derived.Test.YtjhagfggelhpkaaDoorJm

import Derived.Test.YtjhagfggelhpkaaDoorRof

import Derived.Test.YtjhagfggelhpkaaDoorREnc

namespace Go.Proofs.YtjhagfggelhpkaaDoor.jk

open Go.ChangeShapes Go.WideShapes Go.ChangeAt Go.RowKit

open Go.Proofs.YtjhagfggelhpkaaDoor.jq Go.Proofs.YtjhagfggelhpkaaDoor.vk Go.Proofs.YtjhagfggelhpkaaDoor.wk

set_option linter.unusedVariables false
def Tab2 (w : World) : Prop := hi.TabK w ∧ hi.TabC w
theorem tab2_below {w w' : World} (h : Tab2 w) (hb : Below w.heap.size w w') : Tab2 w' := ⟨h.1.below h.1.1 hb, h.2.below h.2.1 hb⟩
set_option maxRecDepth 100000 in
set_option maxHeartbeats 4000000 in
theorem half_calls (seed k h : Int) (w : World) (hsd : -9223372036854775808 ≤ seed ∧ seed ≤ 9223372036854775807) (hk : -9223372036854775808 ≤ k ∧ k ≤ 9223372036854775807) (hh : -9223372036854775808 ≤ h ∧ h ≤ 9223372036854775807) (hT : Tab2 w) :
    Calls Tryd.prog 61 #[.int .i64 seed, .int .i64 k, .int .i64 h] w fun e w' => e = .returned (.agg (wp.bc (bytesD seed k h)).toArray) ∧ Below w.heap.size w w' := by
  have HEL := Lib.hid (enc3_len seed k h hsd hk hh)
  have HT := Lib.hid hT
  clear hT
  go_enter Tryd.func61, Tryd.ntmps61
  go_upto_region 1 with fail
  change Code.wp _ _ _ _ (w.alloc (.cells hi.z16 65))
  have hr1 : (w.alloc (.cells hi.z16 65)).heap[w.heap.size]? = some (.cells hi.z16 65 (0, 0)) := heap_alloc_new _ _
  have HB := Lib.hid (below_new w (.cells hi.z16 65))
  generalize w.alloc (.cells hi.z16 65) = w1 at *
  generalize hg0 : w.heap.size = g0 at *
  have HG0 := Lib.hid hg0
  have HR1 := Lib.hid hr1
  have hsz1 : g0 < w1.heap.size := (Array.getElem?_eq_some_iff.1 hr1).1
  clear hg0 hr1
  have hbn := below_new w1 (.cells #[.int .i64 seed, .int .i64 k, .int .i64 h] 3)
  have HBN := Lib.hid hbn
  have hINT := (wi.refInts_out (some ⟨w1.heap.size, 0, none⟩) 3 3 [seed, k, h] (w1.alloc (.cells #[.int .i64 seed, .int .i64 k, .int .i64 h] 3)) rfl (by omega) (by omega) (wi.RC_new rfl _ _ rfl) (fun x hx => by simp at hx; rcases hx with rfl | rfl | rfl <;> assumption) (by have := HEL.out; omega)).mono fun e w' hh => isB_of_out hh
  have HINT := Lib.hid hINT
  clear hINT hbn
  go_wp2_with fail
  refine HINT.out.mono ?_
  rintro e w3 ⟨A3, c3, rfl, hI3, hb3⟩
  have hcv := conv_b hI3
  have hlen := hI3.2.1
  have hm3 := hI3.2.2.1
  have HEQ : Hid (hashOfMatchesSpec.flat ([⟨(wp.encIs [seed, k, h]).toArray⟩] : List ByteArray) = wp.encB (wp.encIs [seed, k, h])) := by show _ = _; simp [hashOfMatchesSpec.flat]
  have HDD : Hid ((hs.sha (hi.tagB 7 :: wp.encB (wp.encIs [seed, k, h]))).take 16 = bytesD seed k h) := rfl
  have HB3 := Lib.hid (Below.andThen HBN.out hb3)
  have HELB := Lib.hid (encB_len (wp.encIs [seed, k, h]) (by have := HEL.out; omega))
  have hBw : Below g0 w w3 := HB.out.trans (HB3.out.mono (by omega))
  have HBW := Lib.hid hBw
  have HBN3 := Lib.hid (below_new w3 (.cells #[.string ⟨(wp.encIs [seed, k, h]).toArray⟩] 9))
  have hs3 : g0 ≤ w3.heap.size := by have := HB3.out.size; omega
  have HTT : Hid (hi.TabC (w3.alloc (.cells #[.string ⟨(wp.encIs [seed, k, h]).toArray⟩] 9))) := HT.out.2.below (B := g0) (by have := HT.out.2.1; have := HG0.out; omega) (hBw.trans (HBN3.out.mono hs3))
  have hOF := hashOfMatchesSpec.rof_calls 7 (some ⟨w3.heap.size, 0, none⟩) 1 1 [⟨(wp.encIs [seed, k, h]).toArray⟩] (w3.alloc (.cells #[.string ⟨(wp.encIs [seed, k, h]).toArray⟩] 9)) rfl (by omega) (by omega) (wi.RC_new rfl _ _ rfl) (by omega) (by rw [HEQ.out]; have := HELB.out; omega) HTT.out
  rw [HEQ.out, HDD.out] at hOF
  have HOF := Lib.hid hOF
  have HDL := Lib.hid (bytesD_len seed k h)
  clear hOF hI3 hb3 HINT HEL HBN HELB HEQ HDD HTT hBw
  generalize hDq : bytesD seed k h = D at *
  have HDQ := Lib.hid hDq
  clear hDq
  generalize (wp.encIs [seed, k, h]) = E at *
  go_wp2_with fail
  refine HOF.out.mono ?_
  rintro e w4 ⟨rfl, hb4⟩
  have HB4 := Lib.hid (Below.andThen HBN3.out hb4)
  have HR4 := Lib.hid (wk.row_below (wk.row_below HR1.out HB3.out) HB4.out)
  have HBZ := Lib.hid (HBW.out.trans (HB4.out.mono hs3))
  clear hb4 HOF hcv hlen hm3 HB3 HBN3 HR1 HBW HB HB4
  go_wp2_with (refine wk.store_row rfl 65 (.tmp 6) (.tmp 14) rfl g0 (wp.bc D) rfl rfl 65 _ HR4.out (by rw [wp.bc_length, HDL.out]; kernel_rfl) (by rw [wp.bc_length, HDL.out]; rfl) (fun u hu => wp.bc_one u hu) ?_)
  exact bodyPost_ret (v := .agg (wp.bc D).toArray) (results_cell_row (fn := Tryd.f61) rfl _ _ g0 65 (wp.bc D).toArray (0, 0) _ rfl (setRow_heap _ _ _ _ _ _ HR4.out) Tryd.underlying65 rfl (by simp only [List.size_toArray, wp.bc_length, HDL.out]; kernel_rfl)) rfl ⟨by rw [HDQ.out], by first | exact below_setRow' HBZ.out (Nat.le_refl _) _ | (rw [HG0.out]; exact below_setRow' HBZ.out (Nat.le_refl _) _)⟩
theorem isLine_raw {seed k : Int} {d : Nat} : isLine ((rawD seed k).take d) = ((rawD seed k).take d).any nz := by
  unfold isLine
  have h : ((rawD seed k).take d).all okS = true := by
    rw [List.all_eq_true]
    intro x hx
    have := rawD_bd x (List.mem_of_mem_take hx)
    exact okS_iff.2 (by omega)
  rw [h, Bool.true_and]
theorem row_of_agg {D : List UInt8} {j : Nat} {b : UInt8} {w : World} {g : Nat} (hr : w.heap[g]? = some (.cells (wp.bc D).toArray 65 (0, 0))) (hb : D[j]? = some b) : w.cell? ⟨g, j, none⟩ = some (.int .u8 (b.toNat : Int)) := by
  rw [cell_of_row _ _ _ _ _ _ hr]
  simp [wp.bc, hb]
set_option maxRecDepth 100000 in
set_option maxHeartbeats 8000000 in
theorem refline_calls (seed : Int) (k d : Nat) (w : World) (hsd : -9223372036854775808 ≤ seed ∧ seed ≤ 9223372036854775807) (hk : k ≤ 1000) (h1 : 1 ≤ d) (hd : d ≤ 32) (hT : Tab2 w) :
    Calls Tryd.prog 41 #[.int .i64 seed, .int .i64 (k : Int), .int .i64 (d : Int)] w fun e w' => ∃ g c, e = .returned (.slice (some ⟨g, 0, none⟩) d c) ∧ d ≤ c ∧ c ≤ 9223372036854775807 ∧ LineAt w' g d (drawnL seed (k : Int) d) ∧ Below w.heap.size w w' := by
  obtain ⟨i0, hi9, hz0, hz1, hz2⟩ := info_parts wi.infoI
  have HT := Lib.hid hT
  clear hT
  generalize hG : w.heap.size = B at *
  have HG := Lib.hid hG
  clear hG
  go_enter Tryd.func41, Tryd.ntmps41
  go_wp2_with fail
  go_loopg [7, 8, 9] d (fun g v z x wr => ∃ (i : Nat) (v0 : Value) (zb : Bool), i + g = d ∧ v0 = v ∧ z = .bool zb ∧ x = .int .i64 (i : Int) ∧ zb = !((rawD seed (k : Int)).take i).any nz ∧ wr.ownsRow B 3 1 v0 i (iv ((rawD seed (k : Int)).take i)) ∧ Below B w wr)
  case atStart => exact ⟨0, _, true, by omega, rfl, rfl, rfl, by simp, World.ownsRow_nil _ _ _ _, Below.refl _ _⟩
  case round =>
    obtain ⟨i, v0, zb, hk0, rfl, rfl, rfl, hzb, hown, hbel⟩ := hrel
    have HK := Lib.hid hk0
    have HZB := Lib.hid hzb
    have HOWN2 := Lib.hid hown
    have HBEL := Lib.hid hbel
    have hin : i ≤ d := by omega
    clear hk0 hown hbel hzb
    by_cases hlt : i < d
    · have hlt0 : (i : Int) < (d : Int) := by omega
      have htd : (i : Int).tdiv 16 = ((i / 16 : Nat) : Int) := by rw [Int.tdiv_eq_ediv_of_nonneg (by omega)]; omega
      have htm : (i : Int).tmod 16 = ((i % 16 : Nat) : Int) := by rw [Int.tmod_eq_emod_of_nonneg (by omega)]; omega
      have hBw : B ≤ wr.heap.size := by have := HBEL.out.size; have := HG.out; omega
      have hTw : Tab2 wr := ⟨HT.out.1.below (B := B) (by have := HT.out.1.1; have := HG.out; omega) HBEL.out, HT.out.2.below (B := B) (by have := HT.out.2.1; have := HG.out; omega) HBEL.out⟩
      have HH := Lib.hid (half_calls seed (k : Int) ((i / 16 : Nat) : Int) wr hsd (by omega) (by omega) hTw)
      have hDL := bytesD_len seed (k : Int) ((i / 16 : Nat) : Int)
      obtain ⟨b, hb⟩ : ∃ b, (bytesD seed (k : Int) ((i / 16 : Nat) : Int))[i % 16]? = some b := ⟨_, List.getElem?_eq_getElem (by rw [hDL]; omega)⟩
      have hraw := raw_at (seed := seed) (k := (k : Int)) (h := i / 16) (by omega) hb
      rw [show 16 * (i / 16) + i % 16 = i by omega] at hraw
      have HS2 : Hid ((rawD seed (k : Int)).take (i + 1) = (rawD seed (k : Int)).take i ++ [dg b]) := jq.take_snoc hraw
      have HBB := Lib.hid hb
      have HDL := Lib.hid hDL
      have hz255 : (b.toNat : Int) ≤ 255 := by have := UInt8.toNat_lt b; omega
      have htm3 : (b.toNat : Int).tmod 3 = (b.toNat : Int) % 3 := Int.tmod_eq_emod_of_nonneg (by omega)
      have hdg : (b.toNat : Int) % 3 - 1 = dg b := rfl
      have hz0' : 0 ≤ (b.toNat : Int) := by omega
      have hr0 : 0 ≤ (b.toNat : Int) % 3 := by omega
      have hr3 : (b.toNat : Int) % 3 < 3 := by omega
      have hdb := dg_bd b
      have him : ((i % 16 : Nat) : Int) < 16 := by omega
      have him0 : (0 : Int) ≤ ((i % 16 : Nat) : Int) := by omega
      clear hraw hDL hb hTw
      generalize bytesD seed (k : Int) ((i / 16 : Nat) : Int) = D at *
      go_wp2_with fail
      refine HH.out.mono ?_
      rintro e w4 ⟨rfl, hb4⟩
      have HOWN4 := Lib.hid (keptB HOWN2.out hb4)
      have HBEL4 := Lib.hid (HBEL.out.trans (hb4.mono hBw))
      have hB4 : B ≤ w4.heap.size := by have := hb4.size; omega
      clear hb4 HH HOWN2 HBEL
      go_upto_region 7 with (refine wk.store_new rfl 65 (.tmp 10) (.tmp 21) rfl 65 _ (wp.bc D) rfl rfl (by rw [wp.bc_length, HDL.out]; kernel_rfl) (by rw [wp.bc_length, HDL.out]; rfl) (fun u hu => wp.bc_one u hu) ?_)
      have hr5 : (w4.alloc (.cells (wp.bc D).toArray 65)).heap[w4.heap.size]? = some (.cells (wp.bc D).toArray 65 (0, 0)) := heap_alloc_new _ _
      have HBN := Lib.hid (below_new w4 (.cells (wp.bc D).toArray 65))
      have hcell := row_of_agg hr5 HBB.out
      generalize w4.alloc (.cells (wp.bc D).toArray 65) = w5 at *
      have HOWN5 := Lib.hid (keptB HOWN4.out HBN.out)
      have HBEL5 := Lib.hid (HBEL4.out.trans (HBN.out.mono hB4))
      have hB5 : B ≤ w5.heap.size := by have := HBN.out.size; omega
      generalize w4.heap.size = g5 at *
      clear hr5 HBN HOWN4 HBEL4 HBB HDL hB4
      have HMX : Hid (i + 1 ≤ maxLen) := by show _ ≤ _; unfold maxLen; omega
      have HM8 : Hid ((i + 1) * 8 ≤ 140737488355328) := by show _ ≤ _; omega
      have HB5A : ∀ o, Hid (B ≤ (w5.alloc o).heap.size) := fun o => by show _ ≤ _; simp; omega
      have HON : ∀ x : Int, Hid (∀ u ∈ [Value.int .i64 x], u.oneCell' = true) := fun x => by intro u hu; simp at hu; subst hu; rfl
      generalize hzz : dg b = z at *
      generalize hj : i % 16 = j at *
      generalize (b.toNat : Int) % 3 = r at *
      generalize (b.toNat : Int) = y at *
      by_cases hz9 : z = 0
      · subst hz9
        have HZ0 : Hid ((0 : Int) = 0) := rfl
        cases zb
        ·
          go_wp2_with (at_builtin; refine wpList_append_own _ rfl _ _ 24 rfl B 3 i0 (.int .i64 0) 1 8 Tryd.underlying24 hi9 hz0 hz1 hz2 rfl (by decide) _ _ _ rfl (HOWN5.out.alloc _) ⟨w5.heap.size, 0, none⟩ 1 1 [.int .i64 0] rfl rfl (cell_one_new _ _ _) (HON _).out HMX.out HM8.out (HB5A _).out ?_)
          intro v' w6 hown2 hgrow _
          have hbe : Below B w w6 := (HBEL5.out.alloc hB5 _).grown hgrow (by simp; omega) (fun q hq => (HOWN5.out.lt q hq).1)
          have HB6 := Lib.hid hbe
          have HO6 := Lib.hid hown2
          clear hown2 hgrow hbe
          go_wp2_with fail
          go_roundg (gk - 1)
          case measure => have := HK.out; omega
          case rel =>
            refine ⟨i + 1, _, false, by have := HK.out; omega, rfl, by first | rfl | (simp; done) | (simp; exact HZ0.out) | simp [HZ0.out], by go_num, ?_, ?_, HB6.out⟩
            · rw [HS2.out, List.any_append, Bool.not_or, ← HZB.out]
              have hz := HZ0.out
              simp [nz, hz]
            · have hO := HO6.out
              rw [HS2.out]
              unfold iv at hO ⊢
              rw [List.map_append]
              simpa using hO
        ·
          go_wp2_with (at_builtin; refine wpList_append_own _ rfl _ _ 24 rfl B 3 i0 (.int .i64 0) 1 8 Tryd.underlying24 hi9 hz0 hz1 hz2 rfl (by decide) _ _ _ rfl (HOWN5.out.alloc _) ⟨w5.heap.size, 0, none⟩ 1 1 [.int .i64 0] rfl rfl (cell_one_new _ _ _) (HON _).out HMX.out HM8.out (HB5A _).out ?_)
          intro v' w6 hown2 hgrow _
          have hbe : Below B w w6 := (HBEL5.out.alloc hB5 _).grown hgrow (by simp; omega) (fun q hq => (HOWN5.out.lt q hq).1)
          have HB6 := Lib.hid hbe
          have HO6 := Lib.hid hown2
          clear hown2 hgrow hbe
          go_wp2_with fail
          go_roundg (gk - 1)
          case measure => have := HK.out; omega
          case rel =>
            refine ⟨i + 1, _, true, by have := HK.out; omega, rfl, by first | rfl | (simp; done) | (simp; exact HZ0.out) | simp [HZ0.out], by go_num, ?_, ?_, HB6.out⟩
            · rw [HS2.out, List.any_append, Bool.not_or, ← HZB.out]
              have hz := HZ0.out
              simp [nz, hz]
            · have hO := HO6.out
              rw [HS2.out]
              unfold iv at hO ⊢
              rw [List.map_append]
              simpa using hO
      · have HZ0 := Lib.hid hz9
        cases zb
        ·
          go_wp2_with (at_builtin; refine wpList_append_own _ rfl _ _ 24 rfl B 3 i0 (.int .i64 0) 1 8 Tryd.underlying24 hi9 hz0 hz1 hz2 rfl (by decide) _ _ _ rfl (HOWN5.out.alloc _) ⟨w5.heap.size, 0, none⟩ 1 1 [.int .i64 z] rfl rfl (cell_one_new _ _ _) (HON _).out HMX.out HM8.out (HB5A _).out ?_)
          intro v' w6 hown2 hgrow _
          have hbe : Below B w w6 := (HBEL5.out.alloc hB5 _).grown hgrow (by simp; omega) (fun q hq => (HOWN5.out.lt q hq).1)
          have HB6 := Lib.hid hbe
          have HO6 := Lib.hid hown2
          clear hown2 hgrow hbe
          go_wp2_with fail
          go_roundg (gk - 1)
          case measure => have := HK.out; omega
          case rel =>
            refine ⟨i + 1, _, false, by have := HK.out; omega, rfl, by first | rfl | (simp; done) | (simp; exact HZ0.out) | simp [HZ0.out], by go_num, ?_, ?_, HB6.out⟩
            · rw [HS2.out, List.any_append, Bool.not_or, ← HZB.out]
              have hz := HZ0.out
              simp [nz, hz]
            · have hO := HO6.out
              rw [HS2.out]
              unfold iv at hO ⊢
              rw [List.map_append]
              simpa using hO
        ·
          go_wp2_with (at_builtin; refine wpList_append_own _ rfl _ _ 24 rfl B 3 i0 (.int .i64 0) 1 8 Tryd.underlying24 hi9 hz0 hz1 hz2 rfl (by decide) _ _ _ rfl (HOWN5.out.alloc _) ⟨w5.heap.size, 0, none⟩ 1 1 [.int .i64 z] rfl rfl (cell_one_new _ _ _) (HON _).out HMX.out HM8.out (HB5A _).out ?_)
          intro v' w6 hown2 hgrow _
          have hbe : Below B w w6 := (HBEL5.out.alloc hB5 _).grown hgrow (by simp; omega) (fun q hq => (HOWN5.out.lt q hq).1)
          have HB6 := Lib.hid hbe
          have HO6 := Lib.hid hown2
          clear hown2 hgrow hbe
          go_wp2_with fail
          go_roundg (gk - 1)
          case measure => have := HK.out; omega
          case rel =>
            refine ⟨i + 1, _, false, by have := HK.out; omega, rfl, by first | rfl | (simp; done) | (simp; exact HZ0.out) | simp [HZ0.out], by go_num, ?_, ?_, HB6.out⟩
            · rw [HS2.out, List.any_append, Bool.not_or, ← HZB.out]
              have hz := HZ0.out
              simp [nz, hz]
            · have hO := HO6.out
              rw [HS2.out]
              unfold iv at hO ⊢
              rw [List.map_append]
              simpa using hO
    · obtain rfl : i = d := by omega
      have ho := HOWN2.out
      obtain ⟨g, cap, cur, rfl, hBg, hrow, hcap, hcap2, htk, hsz⟩ := own_row ho (by omega)
      have hcap' : cap ≤ 9223372036854775807 := by unfold maxLen at hcap2; omega
      have hLA : LineAt wr g i ((rawD seed (k : Int)).take i) := ⟨by rw [List.length_take, rawD_len]; omega, cur, hrow, htk⟩
      have HLA := Lib.hid hLA
      have hcell : ∃ u, wr.cell? ⟨g, 0, none⟩ = some u := by
        rw [cell_of_row _ _ _ _ _ _ hrow]
        exact ⟨_, Array.getElem?_eq_getElem (by omega)⟩
      obtain ⟨u0, hc0⟩ := hcell
      have hf0 : wr.frozen? ⟨g, 0, none⟩ = false := frozen_of_row _ _ _ _ _ hrow
      have HROW := Lib.hid hrow
      have HTK := Lib.hid htk
      have HDE : Hid (drawnL seed (k : Int) i = fixl ((rawD seed (k : Int)).take i)) := rfl
      have HIL := Lib.hid (isLine_raw (seed := seed) (k := (k : Int)) (d := i))
      have hd0 : (0 : Int) < (i : Int) := by omega
      have hd0' : 0 < i := by omega
      clear ho hrow htk hLA HOWN2 hsz
      generalize (rawD seed (k : Int)).take i = L at *
      cases zb
      · have hli : isLine L = true := by rw [HIL.out]; have h2 := HZB.out; revert h2; cases L.any nz <;> decide
        go_wp2_with fail
        go_ret
        refine ⟨g, cap, rfl, hcap, hcap', ?_, by first | exact HBEL.out | (rw [HG.out]; exact HBEL.out)⟩
        rw [HDE.out]
        unfold fixl
        rw [hli]
        exact HLA.out
      · have hli : isLine L = false := by rw [HIL.out]; have h2 := HZB.out; revert h2; cases L.any nz <;> decide
        have HLI := Lib.hid hli
        clear hli
        go_wp2_with fail
        go_ret
        refine ⟨g, cap, rfl, hcap, hcap', ?_, ?_⟩
        · rw [HDE.out]
          unfold fixl
          rw [HLI.out]
          refine ⟨by simp [HLA.out.1], _, heap_setCell_same _ _ _ _ _ _ HROW.out, ?_⟩
          simp only [Bool.false_eq_true, if_false, Array.toList_setIfInBounds]
          rw [List.take_set, HTK.out]
          simp [iv, List.map_set]
        · first | exact HBEL.out.setCell (p := ⟨g, _, none⟩) hBg _ | (rw [HG.out]; exact HBEL.out.setCell (p := ⟨g, _, none⟩) hBg _)
end Go.Proofs.YtjhagfggelhpkaaDoor.jk
