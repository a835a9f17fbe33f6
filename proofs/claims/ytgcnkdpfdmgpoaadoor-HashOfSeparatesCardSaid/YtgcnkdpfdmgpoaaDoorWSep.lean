
import Derived.Test.YtgcnkdpfdmgpoaaDoorPj

import Derived.Test.YtgcnkdpfdmgpoaaDoorVs

import Derived.Test.YtgcnkdpfdmgpoaaDoorOpen

import Derived.Test.YtgcnkdpfdmgpoaaDoorKit8

import Derived.Deep.DeepCutAuto

import Derived.Deep.CutBlock

import Derived.StillTailTactics

namespace Go.Proofs.YtgcnkdpfdmgpoaaDoor.hashOfSeparates

open Go.ChangeShapes Go.WideShapes Go.ChangeAt Go.RowKit

set_option linter.unusedVariables false

def trow (w : World) (g : Nat) (t0 t1 : Int) : Prop := w.heap[g]? = some (.cells #[.int .u8 t0, .int .u8 t1] 62 (0, 0))
theorem trow.below {w w' : World} {g : Nat} {t0 t1 : Int} (h : trow w g t0 t1) (hb : Below w.heap.size w w') : trow w' g t0 t1 := wk.row_below h hb
theorem eq16 {w : World} {D1 D2 : List UInt8} (h1 : D1.length = 16) (h2 : D2.length = 16) : (Op.equalIn 10000 58 (.agg (wp.bc D1).toArray) (.agg (wp.bc D2).toArray)).run Tryd.prog w = .ok (D1 == D2) w :=
  wk.run_eq_arr w 9998 58 5 16 Tryd.underlying58 Tryd.underlying5 hi.size_u8 D1 D2 h1 h2
set_option maxRecDepth 100000 in
set_option maxHeartbeats 4000000 in
theorem walk (w : World) (hT : hi.TabK w) {t0 t1 : Int} (wt0 : (Lit.int .u8 t0).wf = true) (wt1 : (Lit.int .u8 t1).wf = true) {A : Option Addr} {n c : Nat} {l : List ByteArray} (w0 : wo.IsS w A n c l) {A' : Option Addr} {n' c' : Nat} {m : List ByteArray} (w1 : wo.IsS w A' n' c' m) :
    Calls Tryd.prog 14 #[.agg #[.int .u8 t0, .int .u8 t1], .slice A n c, .slice A' n' c'] w fun e w' => e = .returned (.bool true) ∧ Below w.heap.size w w' := by
  obtain ⟨hl, hnc, hc, hr, hsz⟩ := w0
  obtain ⟨hl', hnc', hc', hr', hsz'⟩ := w1
  have ht0 : 0 ≤ t0 ∧ t0 ≤ 255 := by simpa [Lit.wf, IntKind.min, IntKind.max, IntKind.signed, IntKind.bits] using wt0
  have ht1 : 0 ≤ t1 ∧ t1 ≤ 255 := by simpa [Lit.wf, IntKind.min, IntKind.max, IntKind.signed, IntKind.bits] using wt1
  have hszz : ∀ s ∈ l, s.size ≤ 9223372036854775807 := fun s hs => by have := hsz s hs; unfold maxLen at this; omega
  have hszz' : ∀ s ∈ m, s.size ≤ 9223372036854775807 := fun s hs => by have := hsz' s hs; unfold maxLen at this; omega
  have HT := Lib.hid hT
  have HR := Lib.hid hr
  have HR' := Lib.hid hr'
  have HL := Lib.hid hl
  have HL' := Lib.hid hl'
  have T0 := Lib.hid ht0
  have T1 := Lib.hid ht1
  have HSZ := Lib.hid hszz
  have HSZ' := Lib.hid hszz'
  clear hT hr hr' hl hl' hsz hsz' wt0 wt1 ht0 ht1 hszz hszz'
  go_enter Tryd.func14, Tryd.ntmps14
  go_upto_region 1 with fail
  have q1 : trow (w.alloc (.cells #[.int .u8 t0, .int .u8 t1] 62)) w.heap.size t0 t1 := heap_alloc_new _ _
  have hB1 : Below w.heap.size w (w.alloc (.cells #[.int .u8 t0, .int .u8 t1] 62)) := (Below.refl _ _).alloc (Nat.le_refl _) _
  have hG : w.heap.size < (w.alloc (.cells #[.int .u8 t0, .int .u8 t1] 62)).heap.size := wk.row_lt q1
  have HT := Lib.hid (HT.out.below HT.out.1 hB1)
  have HR := Lib.hid (wp.RC.below HR.out hB1)
  have HR' := Lib.hid (wp.RC.below HR'.out hB1)
  generalize w.alloc (.cells #[.int .u8 t0, .int .u8 t1] 62) = W at *
  have Q1 := Lib.hid q1
  have HB1 := Lib.hid hB1
  have HG := Lib.hid hG
  generalize hGE : w.heap.size = G at *
  have HGE := Lib.hid hGE
  clear q1 hB1 hG hGE
  have HS := Lib.hid (hi.sanity_true W HT.out)
  have HFC : Hid (∀ w', Below W.heap.size W w' → Calls Tryd.prog 18 #[.slice A n c] w' fun e w2 => e = .returned (.bool (hi.fewB l)) ∧ w' = w2) := fun w' hb => hi.few_calls A n c l w' HL.out hnc hc (wp.RC.below HR.out hb) HSZ.out
  have HFD : Hid (∀ w', Below W.heap.size W w' → Calls Tryd.prog 18 #[.slice A' n' c'] w' fun e w2 => e = .returned (.bool (hi.fewB m)) ∧ w' = w2) := fun w' hb => hi.few_calls A' n' c' m w' HL'.out hnc' hc' (wp.RC.below HR'.out hb) HSZ'.out
  cases hf : hi.fewB l
  · rw [hf] at HFC
    clear hf
    go_wp2_with fail
    refine HS.out.mono ?_
    rintro e w1 ⟨rfl, hb⟩
    have HB2 := Lib.hid (HB1.out.trans (hb.mono (Nat.le_of_lt HG.out)))
    go_wp2_with fail
    refine (HFC.out w1 hb).mono ?_
    rintro e w' ⟨rfl, rfl⟩
    go_wp2_with fail
    go_ret
    exact ⟨rfl, by rw [HGE.out]; exact HB2.out⟩
  rw [hf] at HFC
  cases hf' : hi.fewB m
  · rw [hf'] at HFD
    clear hf hf'
    go_wp2_with fail
    refine HS.out.mono ?_
    rintro e w1 ⟨rfl, hb⟩
    have HB2 := Lib.hid (HB1.out.trans (hb.mono (Nat.le_of_lt HG.out)))
    go_wp2_with fail
    refine (HFC.out w1 hb).mono ?_
    rintro e w' ⟨rfl, rfl⟩
    go_wp2_with fail
    refine (HFD.out w1 hb).mono ?_
    rintro e w' ⟨rfl, rfl⟩
    go_wp2_with fail
    go_ret
    exact ⟨rfl, by rw [HGE.out]; exact HB2.out⟩
  rw [hf'] at HFD
  have HF := Lib.hid hf
  have HF' := Lib.hid hf'
  have h12 := (hj.few_all hf).2
  have h12' := (hj.few_all hf').2
  rw [HL.out] at h12
  rw [HL'.out] at h12'
  clear hf hf'
  go_wp2_with fail
  refine HS.out.mono ?_
  rintro e w1 ⟨rfl, hb⟩
  have HB2 := Lib.hid hb
  go_wp2_with fail
  refine (HFC.out w1 hb).mono ?_
  rintro e w' ⟨rfl, rfl⟩
  go_wp2_with fail
  refine (HFD.out w1 hb).mono ?_
  rintro e w' ⟨rfl, rfl⟩
  clear hb HFC HFD HS
  go_upto_region 4 with fail
  have q1 := Q1.out.below HB2.out
  have c0 : w1.cell? ⟨G, 0, none⟩ = some (.int .u8 t0) := by rw [cell_of_row _ _ _ _ _ _ q1]; rfl
  have c1 : w1.cell? ⟨G, 1, none⟩ = some (.int .u8 t1) := by rw [cell_of_row _ _ _ _ _ _ q1]; rfl
  clear q1
  go_cut [8] from 28 to 40 (fun x wx => x = .bool (decide (t0 = t1) && decide (n = n')) ∧ wx = w1)
  case first =>
    by_cases hte : t0 = t1
    · go_wp2_with fail
      go_meet
      case rel => 
        refine ⟨?_, rfl⟩
        rw [decide_eq_true hte, Bool.true_and]
        congr 1
        rw [Bool.eq_iff_iff, beq_iff_eq, decide_eq_true_iff]
        omega
    · go_wp2_with fail
      go_meet
      case rel =>
        exact ⟨by rw [decide_eq_false hte]; rfl, rfl⟩
  case rest =>
    obtain ⟨rfl, rfl⟩ := hcut
    clear c0 c1
    obtain ⟨s0, hs0⟩ : ∃ s0, s0 = (decide (t0 = t1) && decide (n = n')) := ⟨_, rfl⟩
    rw [← hs0]
    have S0 := Lib.hid hs0
    have hsame0 := hj.same_zero s0 l m
    clear hs0
    have HBE := Lib.hid HB2.out
    clear HB2
    go_upto_block 0 with fail
    go_cut [8, 9] from 40 to 58 (fun x y wx => x = .bool (s0 && decide (l = m)) ∧ ∃ z, z = wx ∧ Below W.heap.size W z)
    case first =>
      go_wp2_with fail
      go_loopg [8, 9] n (fun gg x y wr => ∃ (k : Nat), k + gg = n ∧ y = .int .i64 (k : Int) ∧ x = .bool (hj.same s0 l m k) ∧ Below W.heap.size W wr)
      case atStart => exact ⟨0, by omega, rfl, by rw [hsame0], HBE.out⟩
      case round =>
        obtain ⟨k, hk, rfl, rfl, hbel⟩ := hrel
        have HK := Lib.hid hk
        have HBEL := Lib.hid hbel
        have hkn : k ≤ n := by omega
        clear hk hbel hsame0 HBE
        cases hs : hj.same s0 l m k
        · have hno : (s0 && decide (l = m)) = false := by
            unfold hj.same at hs
            rw [Bool.and_eq_false_iff] at hs ⊢
            refine hs.imp id fun h => ?_
            rw [decide_eq_false_iff_not] at h ⊢
            rintro rfl
            exact h rfl
          have HNO := Lib.hid hno
          clear hs hno
          by_cases hlt : k < n
          · go_wp2_with fail
            go_meet
            case rel => exact ⟨by rw [HNO.out], _, rfl, HBEL.out⟩
          · go_wp2_with fail
            go_meet
            case rel => exact ⟨by rw [HNO.out], _, rfl, HBEL.out⟩
        · have HSM := Lib.hid hs
          have h0 : s0 = true := by unfold hj.same at hs; rw [Bool.and_eq_true] at hs; exact hs.1
          have hnn : Hid (n = n') := by show _ = _; rw [S0.out, Bool.and_eq_true, decide_eq_true_iff, decide_eq_true_iff] at h0; exact h0.2
          clear hs
          by_cases hlt : k < n
          · have hkl : k < l.length := by have := HL.out; omega
            have hkm : k < m.length := by have := HL'.out; have := hnn.out; omega
            have hlk : l[k]? = some l[k] := List.getElem?_eq_getElem hkl
            have hmk : m[k]? = some m[k] := List.getElem?_eq_getElem hkm
            have HN := Lib.hid (hj.same_succ hlk hmk HSM.out)
            obtain ⟨b, o, rfl, hbw, hcell⟩ := HR.out (by simp; omega)
            obtain ⟨b', o', rfl, hbw', hcell'⟩ := HR'.out (by simp; omega)
            have hck : wr.cell? ⟨b, o + k, none⟩ = some (.string l[k]) := by
              rw [HBEL.out.cell (p := ⟨b, o + k, none⟩) hbw]
              exact hcell k _ (by simp [hlk])
            have hck' : wr.cell? ⟨b', o' + k, none⟩ = some (.string m[k]) := by
              rw [HBEL.out.cell (p := ⟨b', o' + k, none⟩) hbw']
              exact hcell' k _ (by simp [hmk])
            have hib : (k : Int) < (n : Int) := by omega
            have hib' : (k : Int) < (n' : Int) := by have := hnn.out; omega
            clear hcell hcell' hlk hmk h0
            generalize l[k] = x at *
            generalize m[k] = y at *
            go_wp2_with fail
            go_region
            go_wp2_with fail
            go_roundg (gk - 1)
            case measure => have := HK.out; omega
            case rel =>
              refine ⟨k + 1, by have := HK.out; omega, by go_num, ?_, HBEL.out.drew⟩
              rw [HN.out]
              congr 1
              rw [Bool.eq_iff_iff, beq_iff_eq, decide_eq_true_iff, ByteArray.toList_eq, ByteArray.toList_eq]
              exact ⟨bytes_inj, fun h => by rw [h]⟩
          · obtain rfl : k = n := by omega
            go_wp2_with fail
            go_meet
            case rel =>
              refine ⟨?_, _, rfl, HBEL.out⟩
              have h := HSM.out
              unfold hj.same at h
              rw [← h, List.take_of_length_le (by rw [HL.out]; omega), List.take_of_length_le (by rw [HL'.out]; have := hnn.out; omega)]
    case rest =>
      obtain ⟨rfl, w3, rfl, hb3⟩ := hcut
      have HB3 := Lib.hid hb3
      clear hb3 hsame0 HBE
      have ht0 := T0.out
      have ht1 := T1.out
      have q1 := Q1.out.below HB3.out
      have c0 : w3.cell? ⟨G, 0, none⟩ = some (.int .u8 t0) := by rw [cell_of_row _ _ _ _ _ _ q1]; rfl
      have hfl := hj.flat_le (hj.few_all HF.out).1
      have hfm := hj.flat_le (hj.few_all HF'.out).1
      have HFL := Lib.hid hfl
      have HFM := Lib.hid hfm
      obtain ⟨M1, hM1⟩ : ∃ M1, M1 = hi.tagB t0 :: l.flatMap (fun s => wp.encB s.data.toList) := ⟨_, rfl⟩
      obtain ⟨M2, hM2⟩ : ∃ M2, M2 = hi.tagB t1 :: m.flatMap (fun s => wp.encB s.data.toList) := ⟨_, rfl⟩
      have HI1 := Lib.hid (hi.input_calls t0 A n c l w3 HL.out hnc hc (wp.RC.below HR.out HB3.out) (by omega) (by show 1 + (hj.flat l).length ≤ _; have := HL.out; omega))
      have HI2 := Lib.hid (fun w' (hb : Below W.heap.size W w') => hi.input_calls t1 A' n' c' m w' HL'.out hnc' hc' (wp.RC.below HR'.out hb) (by omega) (by show 1 + (hj.flat m).length ≤ _; have := HL'.out; omega))
      rw [← hM1] at HI1
      rw [← hM2] at HI2
      have hL1 : M1.length = (hj.flat l).length + 1 := by rw [hM1]; rfl
      have hL2 : M2.length = (hj.flat m).length + 1 := by rw [hM2]; rfl
      have HM1 := Lib.hid hM1
      have HM2 := Lib.hid hM2
      have hs1 : M1.length ≤ 5000 := by have := HFL.out; have := HL.out; omega
      have hs2 : M2.length ≤ 5000 := by have := HFM.out; have := HL'.out; omega
      clear hfl hfm q1 hM1 hM2 hL1 hL2
      go_wp2_with fail
      refine HI1.out.mono ?_
      rintro e w4 ⟨v4, rfl, hown, hb4⟩
      obtain ⟨A4, c4, rfl, hc41, hc42, hR4⟩ := wp.RC.of_own hown
      have HB4 := Lib.hid (HB3.out.trans (hb4.mono HB3.out.size))
      have HR4 := Lib.hid hR4.rb
      clear hown hb4 hR4 c0 HI1
      have q1 := Q1.out.below HB4.out
      have c1 : w4.cell? ⟨G, 1, none⟩ = some (.int .u8 t1) := by rw [cell_of_row _ _ _ _ _ _ q1]; rfl
      clear q1
      go_wp2_with fail
      refine (HI2.out w4 HB4.out).mono ?_
      rintro e w5 ⟨v5, rfl, hown, hb5⟩
      obtain ⟨A5, c5, rfl, hc51, hc52, hR5⟩ := wp.RC.of_own hown
      have HR4 := Lib.hid (wk.RB.below HR4.out hb5)
      have HB5 := Lib.hid (HB4.out.trans (hb5.mono HB4.out.size))
      have HR5 := Lib.hid hR5.rb
      clear hown hb5 hR5 c1 HI2
      cases hsm : (s0 && decide (l = m))
      · have hne : M1 ≠ M2 := by
          rw [HM1.out, HM2.out]
          intro h
          obtain ⟨e1, e2⟩ := hj.input_inj T0.out T1.out HF.out HF'.out h
          subst e2
          have e3 : n = n' := HL.out.symm.trans HL'.out
          rw [S0.out, decide_eq_true e1, decide_eq_true e3, decide_eq_true rfl] at hsm
          exact absurd hsm (by decide)
        have HNE := Lib.hid hne
        clear hsm hne
        have HBB := Lib.hid HB5.out
        have HTK : Hid (∀ w', Below W.heap.size W w' → hi.TabK w') := fun w' h => HT.out.below HT.out.1 h
        have HT5 := Lib.hid (HTK.out _ HBB.out)
        have hft : 1 + (hj.flat l).length ≤ 140737488355318 := by have := HFL.out; have := HL.out; omega
        have hft' : 1 + (hj.flat m).length ≤ 140737488355318 := by have := HFM.out; have := HL'.out; omega
        have hO1 := fun w' hb => hi.of_calls t0 A n c l w' HL.out hnc hc (wp.RC.below HR.out hb) (by omega) hft (HTK.out w' hb)
        have hO2 := fun w' hb => hi.of_calls t1 A' n' c' m w' HL'.out hnc' hc' (wp.RC.below HR'.out hb) (by omega) hft' (HTK.out w' hb)
        rw [← HM1.out] at hO1
        rw [← HM2.out] at hO2
        have hc43 : c4 ≤ 9223372036854775807 := by unfold maxLen at hc42; omega
        have hc53 : c5 ≤ 9223372036854775807 := by unfold maxLen at hc52; omega
        have hS1 := fun w' hb (hr : wp.RB w' A4 M1) => hi.hsum_calls A4 M1.length c4 M1 w' rfl hc41 hc43 (by omega) hr (HTK.out w' hb)
        have hS2 := fun w' hb (hr : wp.RB w' A5 M2) => hi.hsum_calls A5 M2.length c5 M2 w' rfl hc51 hc53 (by omega) hr (HTK.out w' hb)
        have hE1 : (hs.sha M1).length = 32 := rfl
        have hE2 : (hs.sha M2).length = 32 := rfl
        generalize hs.sha M1 = S1 at *
        generalize hs.sha M2 = S2 at *
        have HS1 := Lib.hid hE1
        have HS2 := Lib.hid hE2
        have hd1 : (S1.take 16).length = 16 := by rw [List.length_take, hE1]; rfl
        have hd2 : (S2.take 16).length = 16 := by rw [List.length_take, hE2]; rfl
        obtain ⟨D1, hD1⟩ : ∃ D, D = S1.take 16 := ⟨_, rfl⟩
        obtain ⟨D2, hD2⟩ : ∃ D, D = S2.take 16 := ⟨_, rfl⟩
        rw [← hD1] at hO1 hd1
        rw [← hD2] at hO2 hd2
        have HO1 := Lib.hid hO1
        have HO2 := Lib.hid hO2
        have HSU1 := Lib.hid hS1
        have HSU2 := Lib.hid hS2
        have HD1 := Lib.hid hd1
        have HD2 := Lib.hid hd2
        have DE1 := Lib.hid hD1
        have DE2 := Lib.hid hD2
        clear hO1 hO2 hS1 hS2 hE1 hE2 hd1 hd2 hD1 hD2 hft hft' HT5
        have q1 := Q1.out.below HBB.out
        have c0 : w5.cell? ⟨G, 0, none⟩ = some (.int .u8 t0) := by rw [cell_of_row _ _ _ _ _ _ q1]; rfl
        clear q1
        have HX := Lib.hid (HO1.out w5 HBB.out)
        go_wp2_with fail
        refine HX.out.mono ?_
        rintro e w6 ⟨rfl, hb⟩
        have HBB := Lib.hid (HBB.out.trans (hb.mono HBB.out.size))
        have HR4 := Lib.hid (wk.RB.below HR4.out hb)
        have HR5 := Lib.hid (wk.RB.below HR5.out hb)
        clear hb HX
        clear c0
        have hz := hi.size_to hi.info55x (by rw [wp.bc_length]; exact HD1.out : (wp.bc D1).length = _)
        have hz' : (#[.int .u8 0, .int .u8 0, .int .u8 0, .int .u8 0, .int .u8 0, .int .u8 0, .int .u8 0, .int .u8 0, .int .u8 0, .int .u8 0, .int .u8 0, .int .u8 0, .int .u8 0, .int .u8 0, .int .u8 0, .int .u8 0] : Array Value).size = (wp.bc D1).length := by rw [wp.bc_length, HD1.out]; rfl
        have ho := wk.ones_bc D1
        go_upto_region 14 with (refine wk.store_new rfl 58 (.tmp 12) (.tmp 81) rfl 58 _ (wp.bc D1) rfl rfl hz hz' ho ?_)
        have q : (w6.alloc (.cells (wp.bc D1).toArray 58)).heap[w6.heap.size]? = some (.cells (wp.bc D1).toArray 58 (0, 0)) := heap_alloc_new _ _
        have hbn : Below w6.heap.size w6 (w6.alloc (.cells (wp.bc D1).toArray 58)) := (Below.refl _ _).alloc (Nat.le_refl _) _
        have HBB := Lib.hid (HBB.out.trans (hbn.mono HBB.out.size))
        have HR4 := Lib.hid (wk.RB.below HR4.out hbn)
        have HR5 := Lib.hid (wk.RB.below HR5.out hbn)
        generalize w6.alloc (.cells (wp.bc D1).toArray 58) = w7 at *
        generalize w6.heap.size = G1 at *
        have NG1 := Lib.hid q
        clear q hbn hz hz' ho
        have q1 := Q1.out.below HBB.out
        have c1 : w7.cell? ⟨G, 1, none⟩ = some (.int .u8 t1) := by rw [cell_of_row _ _ _ _ _ _ q1]; rfl
        clear q1
        have HX := Lib.hid (HO2.out w7 HBB.out)
        go_wp2_with fail
        refine HX.out.mono ?_
        rintro e w8 ⟨rfl, hb⟩
        have NG1 := Lib.hid (wk.row_below NG1.out hb)
        have HBB := Lib.hid (HBB.out.trans (hb.mono HBB.out.size))
        have HR4 := Lib.hid (wk.RB.below HR4.out hb)
        have HR5 := Lib.hid (wk.RB.below HR5.out hb)
        clear hb HX
        clear c1
        have hz := hi.size_to hi.info55x (by rw [wp.bc_length]; exact HD2.out : (wp.bc D2).length = _)
        have hz' : (#[.int .u8 0, .int .u8 0, .int .u8 0, .int .u8 0, .int .u8 0, .int .u8 0, .int .u8 0, .int .u8 0, .int .u8 0, .int .u8 0, .int .u8 0, .int .u8 0, .int .u8 0, .int .u8 0, .int .u8 0, .int .u8 0] : Array Value).size = (wp.bc D2).length := by rw [wp.bc_length, HD2.out]; rfl
        have ho := wk.ones_bc D2
        go_upto_region 15 with (refine wk.store_new rfl 58 (.tmp 13) (.tmp 86) rfl 58 _ (wp.bc D2) rfl rfl hz hz' ho ?_)
        have q : (w8.alloc (.cells (wp.bc D2).toArray 58)).heap[w8.heap.size]? = some (.cells (wp.bc D2).toArray 58 (0, 0)) := heap_alloc_new _ _
        have hbn : Below w8.heap.size w8 (w8.alloc (.cells (wp.bc D2).toArray 58)) := (Below.refl _ _).alloc (Nat.le_refl _) _
        have NG1 := Lib.hid (wk.row_below NG1.out hbn)
        have HBB := Lib.hid (HBB.out.trans (hbn.mono HBB.out.size))
        have HR4 := Lib.hid (wk.RB.below HR4.out hbn)
        have HR5 := Lib.hid (wk.RB.below HR5.out hbn)
        generalize w8.alloc (.cells (wp.bc D2).toArray 58) = w9 at *
        generalize w8.heap.size = G2 at *
        have NG2 := Lib.hid q
        clear q hbn hz hz' ho
        have HX := Lib.hid (HSU1.out w9 HBB.out HR4.out)
        go_wp2_with fail
        refine HX.out.mono ?_
        rintro e w10 ⟨rfl, hb⟩
        have NG1 := Lib.hid (wk.row_below NG1.out hb)
        have NG2 := Lib.hid (wk.row_below NG2.out hb)
        have HBB := Lib.hid (HBB.out.trans (hb.mono HBB.out.size))
        have HR4 := Lib.hid (wk.RB.below HR4.out hb)
        have HR5 := Lib.hid (wk.RB.below HR5.out hb)
        clear hb HX
        have hz := hi.size_to hi.size32 (by rw [wp.bc_length]; exact HS1.out : (wp.bc S1).length = _)
        have hz' : (#[.int .u8 0, .int .u8 0, .int .u8 0, .int .u8 0, .int .u8 0, .int .u8 0, .int .u8 0, .int .u8 0, .int .u8 0, .int .u8 0, .int .u8 0, .int .u8 0, .int .u8 0, .int .u8 0, .int .u8 0, .int .u8 0, .int .u8 0, .int .u8 0, .int .u8 0, .int .u8 0, .int .u8 0, .int .u8 0, .int .u8 0, .int .u8 0, .int .u8 0, .int .u8 0, .int .u8 0, .int .u8 0, .int .u8 0, .int .u8 0, .int .u8 0, .int .u8 0] : Array Value).size = (wp.bc S1).length := by rw [wp.bc_length, HS1.out]; rfl
        have ho := wk.ones_bc S1
        go_upto_region 16 with (refine wk.store_new rfl 47 (.tmp 14) (.tmp 88) rfl 47 _ (wp.bc S1) rfl rfl hz hz' ho ?_)
        have q : (w10.alloc (.cells (wp.bc S1).toArray 47)).heap[w10.heap.size]? = some (.cells (wp.bc S1).toArray 47 (0, 0)) := heap_alloc_new _ _
        have hbn : Below w10.heap.size w10 (w10.alloc (.cells (wp.bc S1).toArray 47)) := (Below.refl _ _).alloc (Nat.le_refl _) _
        have NG1 := Lib.hid (wk.row_below NG1.out hbn)
        have NG2 := Lib.hid (wk.row_below NG2.out hbn)
        have HBB := Lib.hid (HBB.out.trans (hbn.mono HBB.out.size))
        have HR4 := Lib.hid (wk.RB.below HR4.out hbn)
        have HR5 := Lib.hid (wk.RB.below HR5.out hbn)
        generalize w10.alloc (.cells (wp.bc S1).toArray 47) = w11 at *
        generalize w10.heap.size = G3 at *
        have NG3 := Lib.hid q
        clear q hbn hz hz' ho
        have HX := Lib.hid (HSU2.out w11 HBB.out HR5.out)
        go_wp2_with fail
        refine HX.out.mono ?_
        rintro e w12 ⟨rfl, hb⟩
        have NG1 := Lib.hid (wk.row_below NG1.out hb)
        have NG2 := Lib.hid (wk.row_below NG2.out hb)
        have NG3 := Lib.hid (wk.row_below NG3.out hb)
        have HBB := Lib.hid (HBB.out.trans (hb.mono HBB.out.size))
        have HR4 := Lib.hid (wk.RB.below HR4.out hb)
        have HR5 := Lib.hid (wk.RB.below HR5.out hb)
        clear hb HX
        have hz := hi.size_to hi.size32 (by rw [wp.bc_length]; exact HS2.out : (wp.bc S2).length = _)
        have hz' : (#[.int .u8 0, .int .u8 0, .int .u8 0, .int .u8 0, .int .u8 0, .int .u8 0, .int .u8 0, .int .u8 0, .int .u8 0, .int .u8 0, .int .u8 0, .int .u8 0, .int .u8 0, .int .u8 0, .int .u8 0, .int .u8 0, .int .u8 0, .int .u8 0, .int .u8 0, .int .u8 0, .int .u8 0, .int .u8 0, .int .u8 0, .int .u8 0, .int .u8 0, .int .u8 0, .int .u8 0, .int .u8 0, .int .u8 0, .int .u8 0, .int .u8 0, .int .u8 0] : Array Value).size = (wp.bc S2).length := by rw [wp.bc_length, HS2.out]; rfl
        have ho := wk.ones_bc S2
        go_upto_region 17 with (refine wk.store_new rfl 47 (.tmp 15) (.tmp 90) rfl 47 _ (wp.bc S2) rfl rfl hz hz' ho ?_)
        have q : (w12.alloc (.cells (wp.bc S2).toArray 47)).heap[w12.heap.size]? = some (.cells (wp.bc S2).toArray 47 (0, 0)) := heap_alloc_new _ _
        have hbn : Below w12.heap.size w12 (w12.alloc (.cells (wp.bc S2).toArray 47)) := (Below.refl _ _).alloc (Nat.le_refl _) _
        have NG1 := Lib.hid (wk.row_below NG1.out hbn)
        have NG2 := Lib.hid (wk.row_below NG2.out hbn)
        have NG3 := Lib.hid (wk.row_below NG3.out hbn)
        have HBB := Lib.hid (HBB.out.trans (hbn.mono HBB.out.size))
        have HR4 := Lib.hid (wk.RB.below HR4.out hbn)
        have HR5 := Lib.hid (wk.RB.below HR5.out hbn)
        generalize w12.alloc (.cells (wp.bc S2).toArray 47) = w13 at *
        generalize w12.heap.size = G4 at *
        have NG4 := Lib.hid q
        clear q hbn hz hz' ho
        obtain ⟨P1, hP1⟩ : ∃ P : ByteArray, (⟨M1.toArray⟩ : ByteArray) = P := ⟨_, rfl⟩
        obtain ⟨P2, hP2⟩ : ∃ P : ByteArray, (⟨M2.toArray⟩ : ByteArray) = P := ⟨_, rfl⟩
        have hpq : (P1.toList == P2.toList) = false := by
          rw [ByteArray.toList_eq, ByteArray.toList_eq, ← hP1, ← hP2]
          exact beq_false_of_ne (by simpa using HNE.out)
        have HPQ := Lib.hid hpq
        have HP1 := Lib.hid hP1
        have HP2 := Lib.hid hP2
        clear hpq hP1 hP2 HO1 HO2 HSU1 HSU2
        go_wp2_with fail
        go_loopg [16, 17] 16 (fun gg x y wr => ∃ (k : Nat), k + gg = 16 ∧ y = .int .i64 (k : Int) ∧ x = .bool (decide (S1.take k = S2.take k)) ∧ Below w13.heap.size w13 wr)
        case atStart => exact ⟨0, by omega, rfl, by simp, Below.refl _ _⟩
        case round =>
          obtain ⟨k, hk, rfl, rfl, hbel⟩ := hrel
          have HK := Lib.hid hk
          have HBEL := Lib.hid hbel
          have hkn : k ≤ 16 := by omega
          clear hk hbel
          by_cases hlt : k < 16
          · have hk1 : k < S1.length := by have := HS1.out; omega
            have hk2 : k < S2.length := by have := HS2.out; omega
            have e1 : S1[k]? = some S1[k] := List.getElem?_eq_getElem hk1
            have e2 : S2[k]? = some S2[k] := List.getElem?_eq_getElem hk2
            have p3 := wk.row_below NG3.out HBEL.out
            have p4 := wk.row_below NG4.out HBEL.out
            have d3 : wr.cell? ⟨G3, k, none⟩ = some (.int .u8 (S1[k].toNat : Int)) := by rw [cell_of_row _ _ _ _ _ _ p3, List.getElem?_toArray]; simp [wp.bc, e1]
            have d4 : wr.cell? ⟨G4, k, none⟩ = some (.int .u8 (S2[k].toNat : Int)) := by rw [cell_of_row _ _ _ _ _ _ p4, List.getElem?_toArray]; simp [wp.bc, e2]
            have hT1 : Hid (S1.take (k + 1) = S1.take k ++ [S1[k]]) := by show _ = _; rw [List.take_add_one, e1]; rfl
            have hT2 : Hid (S2.take (k + 1) = S2.take k ++ [S2[k]]) := by show _ = _; rw [List.take_add_one, e2]; rfl
            clear p3 p4 e1 e2
            generalize S1[k] = x at *
            generalize S2[k] = y at *
            by_cases hcl : S1.take k = S2.take k
            · have HCL := Lib.hid hcl
              rw [decide_eq_true hcl]
              clear hcl
              go_wp2_with fail
              go_region
              go_wp2_with fail
              go_roundg (gk - 1)
              case measure => have := HK.out; omega
              case rel =>
                refine ⟨k + 1, by have := HK.out; omega, by go_num, ?_, HBEL.out.drew⟩
                rw [hT1.out, hT2.out, HCL.out]
                congr 1
                rw [Bool.eq_iff_iff, beq_iff_eq, decide_eq_true_iff]
                exact ⟨fun h => by rw [UInt8.toNat_inj.1 (Int.ofNat.inj h)], fun h => by rw [List.singleton_inj.1 (List.append_cancel_left h)]⟩
            · have HF2 : Hid (decide (S1.take (k + 1) = S2.take (k + 1)) = false) := by
                show _ = _
                rw [decide_eq_false_iff_not, hT1.out, hT2.out]
                intro h
                exact hcl (List.append_inj' h (by simp)).1
              rw [decide_eq_false hcl]
              clear hcl
              go_wp2_with fail
              go_region
              go_wp2_with fail
              go_roundg (gk - 1)
              case measure => have := HK.out; omega
              case rel =>
                refine ⟨k + 1, by have := HK.out; omega, by go_num, ?_, HBEL.out.drew⟩
                rw [HF2.out]
          · obtain rfl : k = 16 := by omega
            rw [← DE1.out, ← DE2.out]
            have hbW := HBB.out.trans (HBEL.out.mono HBB.out.size)
            have HR4 := wk.RB.below HR4.out HBEL.out
            have HR5 := wk.RB.below HR5.out HBEL.out
            have k1 := wk.conv_str (P := Tryd.prog) wr 22 5 9 Tryd.underlying22 Tryd.underlying5 Tryd.underlying9 A4 M1.length c4 M1 rfl HR4
            have k2 := wk.conv_str (P := Tryd.prog) wr 22 5 9 Tryd.underlying22 Tryd.underlying5 Tryd.underlying9 A5 M2.length c5 M2 rfl HR5
            rw [HP1.out] at k1
            rw [HP2.out] at k2
            have hpq := HPQ.out
            have q1 := wk.row_below NG1.out HBEL.out
            have q2 := wk.row_below NG2.out HBEL.out
            have s1 : (Tryd.prog.info? 58).map (·.size) = some (wp.bc D1).toArray.size := by rw [List.size_toArray, wp.bc_length, HD1.out]; exact hi.info55x
            have s2 : (Tryd.prog.info? 58).map (·.size) = some (wp.bc D2).toArray.size := by rw [List.size_toArray, wp.bc_length, HD2.out]; exact hi.info55x
            have heq := eq16 (w := wr) HD1.out HD2.out
            have hbq : (D1 == D2) = decide (D1 = D2) := by rw [Bool.eq_iff_iff, beq_iff_eq, decide_eq_true_iff]
            rw [hbq] at heq
            generalize decide (D1 = D2) = bb at *
            clear hbq HR4 HR5
            go_wp2_with (first | refine wk.load_due (by rfl) 58 (.tmp 12) rfl G1 rfl 58 (wp.bc D1).toArray (0, 0) _ q1 Tryd.underlying58 rfl s1 ?_ | refine wk.load_due (by rfl) 58 (.tmp 13) rfl G2 rfl 58 (wp.bc D2).toArray (0, 0) _ q2 Tryd.underlying58 rfl s2 ?_)
            go_ret
            exact ⟨rfl, by rw [HGE.out]; exact HB1.out.trans (hbW.mono (Nat.le_of_lt HG.out))⟩
      · rw [Bool.and_eq_true, decide_eq_true_iff] at hsm
        obtain ⟨hs1, hs2⟩ := hsm
        rw [S0.out, Bool.and_eq_true, decide_eq_true_iff] at hs1
        obtain ⟨e1, _⟩ := hs1
        subst e1 hs2
        have hMM : M1 = M2 := HM1.out.trans HM2.out.symm
        subst hMM
        have k1 := wk.conv_str (P := Tryd.prog) w5 22 5 9 Tryd.underlying22 Tryd.underlying5 Tryd.underlying9 A4 M1.length c4 M1 rfl HR4.out
        have k2 := wk.conv_str (P := Tryd.prog) w5 22 5 9 Tryd.underlying22 Tryd.underlying5 Tryd.underlying9 A5 M1.length c5 M1 rfl HR5.out
        go_wp2_with fail
        go_ret
        exact ⟨rfl, by rw [HGE.out]; exact HB1.out.trans (HB5.out.mono (Nat.le_of_lt HG.out))⟩
end Go.Proofs.YtgcnkdpfdmgpoaaDoor.hashOfSeparates
