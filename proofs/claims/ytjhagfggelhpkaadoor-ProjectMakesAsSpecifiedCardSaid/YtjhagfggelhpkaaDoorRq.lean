
import Derived.Test.YtjhagfggelhpkaaDoorRp

import Derived.Test.YtjhagfggelhpkaaDoorG2

namespace Go.Proofs.YtjhagfggelhpkaaDoor.hi

open Go.ChangeShapes Go.WideShapes Go.ChangeAt Go.RowKit

set_option linter.unusedVariables false
/-- the reference's table -/
def TabC (w : World) : Prop := 1 < w.heap.size ∧ ∀ j, j < 64 → w.cell? ⟨1, j, none⟩ = some (.int .u32 ((hs.KK.getD j 0 : Nat) : Int))
theorem TabC.below {w w' : World} {B : Nat} (h : TabC w) (hB : 1 < B) (hb : Below B w w') : TabC w' :=
  ⟨Nat.lt_of_lt_of_le h.1 hb.size, fun j hj => (hb.cell (p := ⟨1, j, none⟩) hB).trans (h.2 j hj)⟩
def srow (w : World) (g : Nat) (s : hs.S8) : Prop := w.heap[g]? = some (.cells (u32s (l8 s)).toArray 79 (0, 0))
theorem cell_of_block {w w' : World} {p : Addr} (h : w'.heap[p.block]? = w.heap[p.block]?) : w'.cell? p = w.cell? p := by
  unfold World.cell?; rw [h]
set_option maxRecDepth 100000 in
set_option maxHeartbeats 4000000 in
theorem rsum_calls (A : Option Addr) (n c : Nat) (l : List UInt8) (w : World) (hn : l.length = n) (hnc : n ≤ c) (hc : c ≤ 9223372036854775807) (hl : wp.RB w A l) (hsm : n ≤ 100000) (hT : TabC w) :
    Calls Tryd.prog 94 #[.slice A n c] w fun e w' => e = .returned (.agg (wp.bc (hs.sha l)).toArray) ∧ Below w.heap.size w w' := by
  have HN := Lib.hid hn
  have HL := Lib.hid hl
  have HT := Lib.hid hT
  clear hn hl hT
  go_enter Tryd.func94, Tryd.ntmps94
  go_upto_region 2 with (refine wk.store_new rfl 79 (.tmp 3) (.tmp 14) rfl 79 _ (u32s (l8 hs.H0)) rfl rfl (size8_list rfl) rfl (ones_u32s _) ?_)
  obtain ⟨zz, hzz⟩ : ∃ zz : Array Value, zz = (wp.bc (List.replicate 32 0)).toArray := ⟨_, rfl⟩
  have q0 : ((w.alloc (.cells (wp.bc (List.replicate 32 0)).toArray 86)).alloc (.cells (u32s (l8 hs.H0)).toArray 79)).heap[w.heap.size]? = some (.cells zz 86 (0, 0)) := by rw [hzz]; exact heap_alloc2_old _ _ _
  have q1 : srow ((w.alloc (.cells (wp.bc (List.replicate 32 0)).toArray 86)).alloc (.cells (u32s (l8 hs.H0)).toArray 79)) (w.heap.size + 1) hs.H0 := heap_alloc2_new _ _ _
  have hb1 : Below w.heap.size w ((w.alloc (.cells (wp.bc (List.replicate 32 0)).toArray 86)).alloc (.cells (u32s (l8 hs.H0)).toArray 79)) := ((Below.refl _ _).alloc (Nat.le_refl _) _).alloc (by simp) _
  have hs1 : ((w.alloc (.cells (wp.bc (List.replicate 32 0)).toArray 86)).alloc (.cells (u32s (l8 hs.H0)).toArray 79)).heap.size = w.heap.size + 2 := by simp
  change Code.wp _ _ _ _ ((w.alloc (.cells (wp.bc (List.replicate 32 0)).toArray 86)).alloc (.cells (u32s (l8 hs.H0)).toArray 79))
  have HL := Lib.hid (wk.RB.below HL.out hb1)
  have HBT := Lib.hid HT.out.1
  have HT := Lib.hid (HT.out.below HT.out.1 hb1)
  generalize (w.alloc (.cells (wp.bc (List.replicate 32 0)).toArray 86)).alloc (.cells (u32s (l8 hs.H0)).toArray 79) = w1 at *
  generalize hB : w.heap.size = B at *
  have HB := Lib.hid hB
  have HZZ : Hid (zz.size = 32) := by show _ = _; rw [hzz]; rfl
  have HPD := Lib.hid (padded_calls A n c l w1 HN.out hnc hc HL.out (by omega))
  have Q0 := Lib.hid q0
  have Q1 := Lib.hid q1
  have HB1 := Lib.hid hb1
  have HS1 := Lib.hid hs1
  clear hB hzz q0 q1 hb1 hs1
  go_wp2_with fail
  refine HPD.out.mono ?_
  rintro e w2 ⟨v, rfl, hown, hb2⟩
  obtain ⟨q, hq⟩ : ∃ q, (hs.pad l).length = 64 * q := ⟨(hs.pad l).length / 64, by have := hs.gap_mod n; rw [hs.pad_length, HN.out]; omega⟩
  have hq0 : 0 < q := by rw [hs.pad_length] at hq; omega
  have hqs : 64 * q ≤ 200000 := by rw [← hq, hs.pad_length, HN.out]; unfold hs.gap; omega
  have HFD := Lib.hid (hs.feed_pad l)
  have HSH : Hid (hs.out (hs.fin (hs.feed (hs.H0, []) l) l.length) = hs.sha l) := rfl
  obtain ⟨M, hM⟩ : ∃ M, M = hs.pad l := ⟨_, rfl⟩
  rw [← hM] at hown hq HFD
  have HMQ := Lib.hid hq
  generalize hs.fin (hs.feed (hs.H0, []) l) l.length = sfin at *
  obtain ⟨gm, cap, cur, rfl, hgm, hh, hr1, hr2, hr3, hr4⟩ : ∃ gm cap cur, v = .slice (some ⟨gm, 0, none⟩) M.length cap ∧ w1.heap.size ≤ gm ∧ w2.heap[gm]? = some (.cells cur 5 (0, 0)) ∧ M.length ≤ cap ∧ cap ≤ maxLen ∧ True ∧ True := by
    rcases hown.2 with ⟨_, hn0⟩ | ⟨g', cap', cur, hv, hg, hh, hr1, hr2, hr3, hr4⟩
    · omega
    · exact ⟨g', cap', cur, hv, hg, hh, hr1, hr2, trivial, trivial⟩
  obtain ⟨A2, c2, hv2, _, _, hR2⟩ := wp.RC.of_own hown
  injection hv2 with e1 e2 e3
  subst e1
  obtain ⟨b2, o2, hbo, hblt, hcl⟩ := hR2.rb (by omega)
  obtain ⟨rfl, rfl⟩ : b2 = gm ∧ o2 = 0 := by simp at hbo; omega
  have HCL := Lib.hid hcl
  have HB2 := Lib.hid (HB1.out.trans (hb2.mono (by have := HS1.out; omega)))
  have R0 := Lib.hid (wk.row_below Q0.out hb2)
  have R1 := Lib.hid (wk.row_below Q1.out hb2)
  have HT := Lib.hid (HT.out.below HT.out.1 hb2)
  have hgB : B + 2 ≤ b2 := by have := HS1.out; omega
  have HCAP : Hid (M.length ≤ cap ∧ cap ≤ maxLen) := ⟨hr1, hr2⟩
  have hsz2 : B + 2 ≤ w2.heap.size := by have := hb2.size; have := HS1.out; omega
  have HMM := Lib.hid hM
  clear hown hR2 hcl hbo hh hr1 hr2 hr3 hr4 hb2 hgm e2 e3 HPD HL Q0 Q1 hM hq
  generalize hLM : M.length = LM at *
  have HLM := Lib.hid hLM
  clear hLM
  go_wp2_with fail
  go_loopg [5] q (fun gg x wr => ∃ (j a : Nat) (s : hs.S8), j + gg = q ∧ a = 64 * j ∧ x = .int .i64 (a : Int) ∧ hs.feed (hs.H0, []) (M.take a) = (s, []) ∧ Ok8 s ∧ srow wr (B + 1) s ∧ Below B w wr ∧ w2.heap.size ≤ wr.heap.size ∧ ∀ k, k < w2.heap.size → k ≠ B + 1 → wr.heap[k]? = w2.heap[k]?)
  case atStart => exact ⟨0, 0, hs.H0, by omega, rfl, rfl, by rw [List.take_zero]; rfl, ok_H0, R1.out, HB2.out, Nat.le_refl _, fun _ _ _ => rfl⟩
  case round =>
    obtain ⟨j, a, s, hj, ha, rfl, hfd, hok, hrow, hbel, hsz, hoth⟩ := hrel
    have HJ := Lib.hid hj
    have HA := Lib.hid ha
    have HF := Lib.hid hfd
    have HOK := Lib.hid hok
    have HROW := Lib.hid hrow
    have HBEL := Lib.hid hbel
    have HSZ := Lib.hid hsz
    have HOTH := Lib.hid hoth
    have hjq : j ≤ q := by omega
    clear hj ha hfd hok hrow hbel hsz hoth
    by_cases hlt : j < q
    · have i1 : (a : Int) < (LM : Int) := by have := HA.out; have := HMQ.out; omega
      have i2 : a + 64 ≤ LM := by have := HA.out; have := HMQ.out; omega
      have i3 : (a : Int) + 64 ≤ (cap : Int) := by have := HCAP.out.1; omega
      have i4 : (a : Int) ≤ (a : Int) + 64 := by omega
      have ib : a ≤ 200000 := by have := HMQ.out; omega
      obtain ⟨blk, hblk⟩ : ∃ blk, blk = (M.drop a).take 64 := ⟨_, rfl⟩
      have hbl : blk.length = 64 := by rw [hblk, List.length_take, List.length_drop, HLM.out]; omega
      have hrb : wp.RB wr (some ⟨b2, a, none⟩) blk := fun _ => ⟨b2, a, rfl, by have := HSZ.out; omega, fun i u hu => by
        rw [cell_of_block (w := w2) (p := ⟨b2, a + i, none⟩) (HOTH.out b2 hblt (by omega))]
        have := HCL.out (a + i) u (by
          rw [hblk, List.getElem?_take] at hu
          split at hu
          · rwa [List.getElem?_drop] at hu
          · cases hu)
        rwa [Nat.zero_add] at this⟩
      have HBK := Lib.hid hblk
      have HWD := Lib.hid (rsched_calls (some ⟨b2, a, none⟩) (cap - a) blk wr hbl (by have := HCAP.out.1; omega) (by have := HCAP.out.2; unfold maxLen at this; omega) hrb)
      clear hblk hrb hbl
      have e64 : a + 64 - a = 64 := by omega
      go_wp2_with fail
      rw [e64]
      refine HWD.out.mono ?_
      rintro e w3 ⟨rfl, hb3⟩
      clear i1 i2 i3 i4 e64 HWD
      have hsl : (u32s (hs.sched blk)).length = 64 := by rw [u32s_length]; exact sched_length blk
      have HZ : (Tryd.prog.info? 100).map (·.size) = some (u32s (hs.sched blk)).length := by rw [hsl]; exact size64w
      have HO : wk.Ones (u32s (hs.sched blk)) := wk.ones_nats _ _
      have HKL : Hid ((hs.sched blk).length = 64) := sched_length blk
      have HWL : Hid (∀ j, (hs.sched blk).getD j 0 < 4294967296) := sched_lt blk
      have HCO : Hid (hs.plus s (hs.rounds s hs.KK (hs.sched blk)) = hs.comp s blk) := rfl
      generalize hs.sched blk = ws at *
      have k1 := wk.row_below HROW.out hb3
      have k2 := HBEL.out.trans (hb3.mono (by have := HSZ.out; omega))
      have k3 : w2.heap.size ≤ w3.heap.size := Nat.le_trans HSZ.out hb3.size
      have k4 : ∀ k, k < w2.heap.size → k ≠ B + 1 → w3.heap[k]? = w2.heap[k]? := fun k h1 h2 => (hb3.block k (by have := HSZ.out; omega)).trans (HOTH.out k h1 h2)
      go_upto_region 7 with (refine wk.store_new rfl 100 (.tmp 6) (.tmp 28) rfl 100 _ (u32s ws) rfl rfl HZ ?ho HO ?_)
      case ho => rw [hsl]; rfl
      have m6 : (w3.alloc (.cells (u32s ws).toArray 100)).heap[w3.heap.size]? = some (.cells (u32s ws).toArray 100 (0, 0)) := heap_alloc_new _ _
      have hbn : Below w3.heap.size w3 (w3.alloc (.cells (u32s ws).toArray 100)) := (Below.refl _ _).alloc (Nat.le_refl _) _
      have m3 := wk.row_below k1 hbn
      have m2 := k2.alloc (by omega) (.cells (u32s ws).toArray 100)
      have m4 : ∀ k, k < w2.heap.size → k ≠ B + 1 → (w3.alloc (.cells (u32s ws).toArray 100)).heap[k]? = w2.heap[k]? := fun k h1 h2 => (hbn.block k (by omega)).trans (k4 k h1 h2)
      have m5 : w3.heap.size < (w3.alloc (.cells (u32s ws).toArray 100)).heap.size := wk.row_lt m6
      generalize w3.alloc (.cells (u32s ws).toArray 100) = w4 at *
      generalize w3.heap.size = g6 at *
      clear k1 k2 k4 hbn HZ HO hsl hb3 HROW HBEL HSZ HOTH
      have n1 := size8_arr (u32s_l8_length s)
      have n2 := size8_list (u32s_l8_length s)
      have n3 := size8_same (u32s_l8_length s)
      have n4 := ones_u32s (l8 s)
      have m3' : w4.heap[B + 1]? = some (.cells (u32s (l8 s)).toArray 79 (0, 0)) := m3
      go_upto_region 8 with (first | refine wpList_load_row rfl 79 (.tmp 3) rfl (B + 1) rfl 79 (u32s (l8 s)).toArray (0, 0) _ m3' Tryd.underlying79 rfl n1 ?_ | refine wk.store_new rfl 79 (.tmp 7) (.tmp 29) rfl 79 _ (u32s (l8 s)) rfl rfl n2 n3 n4 ?_)
      have o7 : srow (w4.alloc (.cells (u32s (l8 s)).toArray 79)) w4.heap.size s := heap_alloc_new _ _
      have hbn : Below w4.heap.size w4 (w4.alloc (.cells (u32s (l8 s)).toArray 79)) := (Below.refl _ _).alloc (Nat.le_refl _) _
      have o3 : srow (w4.alloc (.cells (u32s (l8 s)).toArray 79)) (B + 1) s := wk.row_below m3' hbn
      have o6 := wk.row_below m6 hbn
      have o2 := m2.alloc (by omega) (.cells (u32s (l8 s)).toArray 79)
      have o4 : ∀ k, k < w2.heap.size → k ≠ B + 1 → (w4.alloc (.cells (u32s (l8 s)).toArray 79)).heap[k]? = w2.heap[k]? := fun k h1 h2 => (hbn.block k (by omega)).trans (m4 k h1 h2)
      have o5 : w4.heap.size < (w4.alloc (.cells (u32s (l8 s)).toArray 79)).heap.size := wk.row_lt o7
      generalize w4.alloc (.cells (u32s (l8 s)).toArray 79) = w5 at *
      generalize w4.heap.size = g7 at *
      have O7 := Lib.hid o7
      have O3 := Lib.hid o3
      have O6 := Lib.hid o6
      have O2 := Lib.hid o2
      have O4 := Lib.hid o4
      have oT := HT.out.2
      have OT : Hid (∀ j, j < 64 → w5.cell? ⟨1, j, none⟩ = some (.int .u32 ((hs.KK.getD j 0 : Nat) : Int))) := fun j hj => by
        rw [cell_of_block (w := w2) (p := ⟨1, j, none⟩) (o4 1 HT.out.1 (by have := HBT.out; omega))]; exact oT j hj
      clear o7 o3 o6 o2 o4 oT hbn n1 n2 n3 n4 m3 m3' m6 m2 m4
      go_wp2_with fail
      go_loopg [8] 64 (fun mm x wr => ∃ (t : Nat) (s' : hs.S8), t + mm = 64 ∧ x = .int .i64 (t : Int) ∧ Ok8 s' ∧ hs.rounds s' (hs.KK.drop t) (ws.drop t) = hs.rounds s hs.KK ws ∧ srow wr g7 s' ∧ (∀ k, k < w5.heap.size → k ≠ g7 → wr.heap[k]? = w5.heap[k]?) ∧ Below B w wr ∧ w5.heap.size ≤ wr.heap.size)
      case atStart => exact ⟨0, s, rfl, rfl, HOK.out, by rw [List.drop_zero, List.drop_zero], O7.out, fun _ _ _ => rfl, O2.out, Nat.le_refl _⟩
      case round =>
        obtain ⟨t, s', ht, rfl, hok, hrd, hrow, hoth, hbel, hsz⟩ := hrel
        have HTT := Lib.hid ht
        have HRD := Lib.hid hrd
        have HOK' := Lib.hid hok
        have HROW := Lib.hid hrow
        have HOTH := Lib.hid hoth
        have HBEL := Lib.hid hbel
        have HSZ := Lib.hid hsz
        clear hrd
        by_cases hlt2 : t < 64
        · have HST := Lib.hid (rounds_step (s := s') hlt2 HKL.out)
          have HOK2 := Lib.hid (ok_round hok (hs.KK.getD t 0) (ws.getD t 0))
          have ck : wr.cell? ⟨1, t, none⟩ = some (.int .u32 ((hs.KK.getD t 0 : Nat) : Int)) := by
            rw [cell_of_block (w := w5) (p := ⟨1, t, none⟩) (hoth 1 (by omega) (by omega))]; exact OT.out t hlt2
          have cw : wr.cell? ⟨g6, t, none⟩ = some (.int .u32 ((ws.getD t 0 : Nat) : Int)) := by
            rw [cell_of_block (w := w5) (p := ⟨g6, t, none⟩) (hoth g6 (by omega) (by omega)), cell_of_row _ _ _ _ _ _ O6.out]
            have h1 : ws[t]? = some (ws.getD t 0) := by
              rw [List.getD_eq_getElem?_getD, List.getElem?_eq_getElem (by rw [HKL.out]; exact hlt2)]; rfl
            simpa using u32s_at h1
          have lk := KK_lt t
          have lw := HWL.out t
          generalize hs.KK.getD t 0 = kk at *
          generalize ws.getD t 0 = ww at *
          obtain ⟨a1, b1, c1, d1, e1, f1, g1, h1⟩ := s'
          obtain ⟨la, lb, lc, ld, le, lf, lg, lh⟩ := hok
          dsimp only at la lb lc ld le lf lg lh
          have cf : ∀ j (x : Nat), (l8 ⟨a1, b1, c1, d1, e1, f1, g1, h1⟩)[j]? = some x → wr.cell? ⟨g7, j, none⟩ = some (.int .u32 (x : Int)) := fun j x hx => by
            rw [cell_of_row _ _ _ _ _ _ hrow]; simpa using u32s_at hx
          have r0 := cf 0 a1 rfl
          have r1 := cf 1 b1 rfl
          have r2 := cf 2 c1 rfl
          have r3 := cf 3 d1 rfl
          have r4 := cf 4 e1 rfl
          have r5 := cf 5 f1 rfl
          have r6 := cf 6 g1 rfl
          have r7 := cf 7 h1 rfl
          have ik : (t : Int) < 64 := by omega
          have R6 := fun w => rrotq e1 6 le (by decide) (by decide) w
          have R11 := fun w => rrotq e1 11 le (by decide) (by decide) w
          have R25 := fun w => rrotq e1 25 le (by decide) (by decide) w
          have R2 := fun w => rrotq a1 2 la (by decide) (by decide) w
          have R13 := fun w => rrotq a1 13 la (by decide) (by decide) w
          have R22 := fun w => rrotq a1 22 la (by decide) (by decide) w
          clear cf hrow hoth hbel hsz ht
          go_wp2_with fail
          go_cut [9] from 34 to 69 (fun x wx => x = .int .u32 ((hs.tx ⟨a1, b1, c1, d1, e1, f1, g1, h1⟩ kk ww : Nat) : Int) ∧ ∃ n, wx = wr.drewN n)
          case first =>
            go_quiet (first | (go_at_call_of 100 (Value.int IntKind.i64 6); exact Calls.quiet_of (R6 _)) | (go_at_call_of 100 (Value.int IntKind.i64 11); exact Calls.quiet_of (R11 _)) | (go_at_call_of 100 (Value.int IntKind.i64 25); exact Calls.quiet_of (R25 _)))
            simp only [Exit.then]
            refine (‹∀ (a' : Act) (w' : World), Met _ a' w' → _› _ _ ?_)
            go_meet
            case rel =>
              refine ⟨congrArg (Value.int .u32) ?_, _, rfl⟩
              have eN : bits .xor .u32 (e1 : Int) 4294967295 = ((hs.nt e1 : Nat) : Int) := ((hb.U.nat (j := 32) (a := e1) le).xor32 (hb.U.nat (j := 32) (a := 4294967295) (by decide))).eq
              have eB := (((hb.U.nat (j := 32) (rot_lt 6 le)).xor32 (hb.U.nat (j := 32) (rot_lt 11 le))).xor32 (hb.U.nat (j := 32) (rot_lt 25 le))).eq
              have eC := (((hb.U.nat (j := 32) (a := e1) le).and32 (hb.U.nat (j := 32) (a := f1) lf)).xor32 ((hb.U.nat (j := 32) (a := hs.nt e1) (Nat.xor_lt_two_pow (n := 32) le (by decide))).and32 (hb.U.nat (j := 32) (a := g1) lg))).eq
              rw [eN, eB, eC]
              show _ = ((hs.ad (hs.ad (hs.ad (hs.ad h1 (hs.b1 e1)) (hs.ch e1 f1 g1)) kk) ww : Nat) : Int)
              have j1 : hs.b1 e1 = hs.rot e1 6 ^^^ hs.rot e1 11 ^^^ hs.rot e1 25 := rfl
              have j2 : hs.ch e1 f1 g1 = (e1 &&& f1) ^^^ (hs.nt e1 &&& g1) := rfl
              rw [← j1, ← j2]
              generalize hs.b1 e1 = z1
              generalize hs.ch e1 f1 g1 = z2
              unfold hs.ad
              omega
          case rest =>
            obtain ⟨rfl, n1, rfl⟩ := hcut
            have HROW : Hid (srow (wr.drewN n1) g7 ⟨a1, b1, c1, d1, e1, f1, g1, h1⟩) := HROW.out
            have HOTH : Hid (∀ k, k < w5.heap.size → k ≠ g7 → (wr.drewN n1).heap[k]? = w5.heap[k]?) := HOTH.out
            have HBEL : Hid (Below B w (wr.drewN n1)) := wk.below_drewN HBEL.out n1
            have HSZ : Hid (w5.heap.size ≤ (wr.drewN n1).heap.size) := HSZ.out
            have s0 : (wr.drewN n1).cell? ⟨g7, 0, none⟩ = some (.int .u32 (a1 : Int)) := r0
            have s1 : (wr.drewN n1).cell? ⟨g7, 1, none⟩ = some (.int .u32 (b1 : Int)) := r1
            have s2 : (wr.drewN n1).cell? ⟨g7, 2, none⟩ = some (.int .u32 (c1 : Int)) := r2
            have s3 : (wr.drewN n1).cell? ⟨g7, 3, none⟩ = some (.int .u32 (d1 : Int)) := r3
            have s4 : (wr.drewN n1).cell? ⟨g7, 4, none⟩ = some (.int .u32 (e1 : Int)) := r4
            have s5 : (wr.drewN n1).cell? ⟨g7, 5, none⟩ = some (.int .u32 (f1 : Int)) := r5
            have s6 : (wr.drewN n1).cell? ⟨g7, 6, none⟩ = some (.int .u32 (g1 : Int)) := r6
            generalize wr.drewN n1 = wv at *
            have ltx : hs.tx ⟨a1, b1, c1, d1, e1, f1, g1, h1⟩ kk ww < 4294967296 := ad_lt _ _
            generalize htx : hs.tx ⟨a1, b1, c1, d1, e1, f1, g1, h1⟩ kk ww = tx at *
            have HTX := Lib.hid htx
            clear htx r0 r1 r2 r3 r4 r5 r6 r7 ck cw R6 R11 R25
            go_wp2_with fail
            go_cut [10] from 69 to 98 (fun x wx => x = .int .u32 ((hs.ty ⟨a1, b1, c1, d1, e1, f1, g1, h1⟩ : Nat) : Int) ∧ ∃ n, wx = wv.drewN n)
            case first =>
              go_quiet (first | (go_at_call_of 100 (Value.int IntKind.i64 2); exact Calls.quiet_of (R2 _)) | (go_at_call_of 100 (Value.int IntKind.i64 13); exact Calls.quiet_of (R13 _)) | (go_at_call_of 100 (Value.int IntKind.i64 22); exact Calls.quiet_of (R22 _)))
              simp only [Exit.then]
              refine (‹∀ (a' : Act) (w' : World), Met _ a' w' → _› _ _ ?_)
              go_meet
              case rel =>
                refine ⟨congrArg (Value.int .u32) ?_, _, rfl⟩
                have eB := (((hb.U.nat (j := 32) (rot_lt 2 la)).xor32 (hb.U.nat (j := 32) (rot_lt 13 la))).xor32 (hb.U.nat (j := 32) (rot_lt 22 la))).eq
                have ua : hb.U 32 (a1 : Int) a1 := hb.U.nat la
                have ub : hb.U 32 (b1 : Int) b1 := hb.U.nat lb
                have uc : hb.U 32 (c1 : Int) c1 := hb.U.nat lc
                have eC := (((ua.and32 ub).xor32 (ua.and32 uc)).xor32 (ub.and32 uc)).eq
                rw [eB, eC]
                have j1 : hs.b0 a1 = hs.rot a1 2 ^^^ hs.rot a1 13 ^^^ hs.rot a1 22 := rfl
                have j2 : hs.maj a1 b1 c1 = (a1 &&& b1) ^^^ (a1 &&& c1) ^^^ (b1 &&& c1) := rfl
                rw [← j1, ← j2]
                show _ = ((hs.ad (hs.b0 a1) (hs.maj a1 b1 c1) : Nat) : Int)
                generalize hs.b0 a1 = z1
                generalize hs.maj a1 b1 c1 = z2
                unfold hs.ad
                omega
            case rest =>
              obtain ⟨rfl, n2, rfl⟩ := hcut
              have HROW : Hid (srow (wv.drewN n2) g7 ⟨a1, b1, c1, d1, e1, f1, g1, h1⟩) := HROW.out
              have HOTH : Hid (∀ k, k < w5.heap.size → k ≠ g7 → (wv.drewN n2).heap[k]? = w5.heap[k]?) := HOTH.out
              have HBEL : Hid (Below B w (wv.drewN n2)) := wk.below_drewN HBEL.out n2
              have HSZ : Hid (w5.heap.size ≤ (wv.drewN n2).heap.size) := HSZ.out
              have r0 : (wv.drewN n2).cell? ⟨g7, 0, none⟩ = some (.int .u32 (a1 : Int)) := s0
              have r1 : (wv.drewN n2).cell? ⟨g7, 1, none⟩ = some (.int .u32 (b1 : Int)) := s1
              have r2 : (wv.drewN n2).cell? ⟨g7, 2, none⟩ = some (.int .u32 (c1 : Int)) := s2
              have r3 : (wv.drewN n2).cell? ⟨g7, 3, none⟩ = some (.int .u32 (d1 : Int)) := s3
              have r4 : (wv.drewN n2).cell? ⟨g7, 4, none⟩ = some (.int .u32 (e1 : Int)) := s4
              have r5 : (wv.drewN n2).cell? ⟨g7, 5, none⟩ = some (.int .u32 (f1 : Int)) := s5
              have r6 : (wv.drewN n2).cell? ⟨g7, 6, none⟩ = some (.int .u32 (g1 : Int)) := s6
              generalize wv.drewN n2 = wz at *
              have lty : hs.ty ⟨a1, b1, c1, d1, e1, f1, g1, h1⟩ < 4294967296 := ad_lt _ _
              generalize hty : hs.ty ⟨a1, b1, c1, d1, e1, f1, g1, h1⟩ = ty at *
              have HTY := Lib.hid hty
              clear hty s0 s1 s2 s3 s4 s5 s6 R2 R13 R22
              obtain ⟨A1, hA1⟩ : ∃ A1, A1 = hs.ad tx ty := ⟨_, rfl⟩
              obtain ⟨E1, hE1⟩ : ∃ E1, E1 = hs.ad d1 tx := ⟨_, rfl⟩
              have hwA : IntKind.u32.wrap ((tx : Int) + (ty : Int)) = (A1 : Int) := by rw [IntKind.wrap_u32, hA1]; unfold hs.ad; omega
              have hwE : IntKind.u32.wrap ((d1 : Int) + (tx : Int)) = (E1 : Int) := by rw [IntKind.wrap_u32, hE1]; unfold hs.ad; omega
              have HCS : Hid (u32s [A1, a1, b1, c1, E1, e1, f1, g1] = u32s (l8 (hs.round ⟨a1, b1, c1, d1, e1, f1, g1, h1⟩ kk ww))) := by
                show _ = _
                rw [hA1, hE1, ← HTX.out, ← HTY.out]
                rfl
              have hrw := HROW.out
              unfold srow at hrw
              have y2 := size8_list (cs := u32s [A1, a1, b1, c1, E1, e1, f1, g1]) rfl
              have y3 : (u32s (l8 ⟨a1, b1, c1, d1, e1, f1, g1, h1⟩)).toArray.size = (u32s [A1, a1, b1, c1, E1, e1, f1, g1]).length := rfl
              have y4 := ones_u32s [A1, a1, b1, c1, E1, e1, f1, g1]
              clear hA1 hE1
              go_wp2_with (refine wk.store_row rfl 79 (.tmp 7) (.tmp 117) rfl g7 (u32s [A1, a1, b1, c1, E1, e1, f1, g1]) rfl rfl 79 _ hrw y2 y3 y4 ?_)
              go_roundg (gk - 1)
              case measure => have := HTT.out; omega
              case rel =>
                refine ⟨t + 1, _, by have := HTT.out; omega, by go_num, HOK2.out, by rw [← HST.out, HRD.out], ?_, fun k h1 h2 => (setRow_other _ _ _ _ h2).trans (HOTH.out k h1 h2), wk.below_setRow HBEL.out (by omega) _, by simpa [World.setRow] using HSZ.out⟩
                unfold srow
                rw [← HCS.out]
                exact setRow_heap _ _ _ _ _ _ hrw
        · obtain rfl : t = 64 := by omega
          have hfin : s' = hs.rounds s hs.KK ws := by
            rw [← HRD.out, List.drop_eq_nil_of_le (show hs.KK.length ≤ 64 from Nat.le_refl _)]
            rfl
          have HFIN := Lib.hid hfin
          have z3 : wr.heap[B + 1]? = some (.cells (u32s (mixed s s' 0)).toArray 79 (0, 0)) := (HOTH.out (B + 1) (by omega) (by omega)).trans O3.out
          have z4 : ∀ k, k < w2.heap.size → k ≠ B + 1 → wr.heap[k]? = w2.heap[k]? := fun k h1 h2 => (HOTH.out k (by omega) (by omega)).trans (O4.out k h1 h2)
          have z5 : w2.heap.size ≤ wr.heap.size := by have := HSZ.out; omega
          have Z3 := Lib.hid z3
          have Z4 := Lib.hid z4
          have Z5 := Lib.hid z5
          clear hfin z3 z4 z5 hrow hoth hbel hsz ht HRD
          go_wp2_with fail
          go_loopg [11] 8 (fun mm x wq => ∃ k : Nat, k + mm = 8 ∧ x = .int .i64 (k : Int) ∧ wq.heap[B + 1]? = some (.cells (u32s (mixed s s' k)).toArray 79 (0, 0)) ∧ srow wq g7 s' ∧ (∀ k', k' < w2.heap.size → k' ≠ B + 1 → wq.heap[k']? = w2.heap[k']?) ∧ Below B w wq ∧ w2.heap.size ≤ wq.heap.size)
          case atStart => exact ⟨0, rfl, rfl, Z3.out, HROW.out, Z4.out, HBEL.out, Z5.out⟩
          case round =>
            obtain ⟨k, hk, rfl, h0, h7, hot, hbq, hsq⟩ := hrel
            have L0 := Lib.hid h0
            have L7 := Lib.hid h7
            have LO := Lib.hid hot
            have LB := Lib.hid hbq
            have LS := Lib.hid hsq
            have LK := Lib.hid hk
            by_cases hlt3 : k < 8
            · obtain ⟨x, y, z, hx, hy, hz, hset⟩ := mixed_step s s' hlt3
              have cx : wr.cell? ⟨B + 1, k, none⟩ = some (.int .u32 (x : Int)) := by
                rw [cell_of_row _ _ _ _ _ _ h0]; simpa using u32s_at hx
              have cy : wr.cell? ⟨g7, k, none⟩ = some (.int .u32 (y : Int)) := by
                rw [cell_of_row _ _ _ _ _ _ h7]; simpa using u32s_at hy
              have hfr : wr.frozen? ⟨B + 1, k, none⟩ = false := frozen_of_row _ _ _ _ _ h0
              have HSET := Lib.hid hset
              have hz' : IntKind.u32.wrap ((x : Int) + (y : Int)) = (z : Int) := by rw [IntKind.wrap_u32, hz]; unfold hs.ad; omega
              have ik : (k : Int) < 8 := by omega
              clear h0 h7 hot hbq hsq hk hset hx hy hz hok
              go_wp2_with fail
              go_still_tail 9, (by kernel_rfl)
              change wpList _ _ _ _ _ wr.drew
              go_wp2_with fail
              go_roundg (gk - 1)
              case measure => have := LK.out; omega
              case rel =>
                refine ⟨k + 1, by have := LK.out; omega, by go_num, (heap_setCell_same _ _ _ _ _ _ L0.out).trans ?_, (heap_setCell_other _ _ _ _ (by show g7 ≠ B + 1; omega)).trans L7.out, fun k' h1 h2 => (heap_setCell_other _ _ _ _ (by show k' ≠ B + 1; exact h2)).trans (LO.out k' h1 h2), (Below.drew LB.out).setCell (p := ⟨B + 1, _, none⟩) (by show B ≤ B + 1; omega) _, by simpa using LS.out⟩
                rw [← HSET.out]
                first | done | (simp only [← IntKind.wrap_u32, hz'])
            · obtain rfl : k = 8 := by omega
              have h8 : mixed s s' 8 = l8 (hs.comp s blk) := by
                rw [← HCO.out, ← HFIN.out]
                simp [mixed, l8, hs.plus]
              rw [h8] at h0
              have L0 := Lib.hid h0
              have hfb := hs.feed_block (M := M) (j := j) (s := s) (by rw [← HA.out]; exact HF.out) (by rw [HLM.out, HMQ.out]; omega)
              rw [← HA.out, ← HBK.out, show 64 * (j + 1) = a + 64 by have := HA.out; omega] at hfb
              have HFB := Lib.hid hfb
              clear h0 h7 hot hbq hsq hk h8 hfb hok
              go_wp2_with fail
              go_roundg (q - j - 1)
              case measure => have := HJ.out; omega
              case rel =>
                exact ⟨j + 1, a + 64, hs.comp s blk, by have := HJ.out; omega, by have := HA.out; omega, by go_num, HFB.out, ok_plus _ _, L0.out, LB.out, LS.out, LO.out⟩
    · obtain rfl : j = q := by omega
      have hfin : s = sfin := by
        have h := HF.out
        rw [List.take_of_length_le (by rw [HLM.out, HMQ.out, HA.out]; exact Nat.le_refl _), HFD.out] at h
        exact (congrArg Prod.fst h).symm
      subst hfin
      have i1 : ¬ (a : Int) < (LM : Int) := by have := HA.out; have := HMQ.out; omega
      have z0 : wr.heap[B]? = some (.cells zz 86 (0, 0)) := (HOTH.out B (by omega) (by omega)).trans R0.out
      have Z0 := Lib.hid z0
      clear z0 HCL HF HFD HMM HOTH R0 R1 HT
      go_upto_region 18 with fail
      obtain ⟨G, hG⟩ : ∃ G, G = wr.heap.size := ⟨_, rfl⟩
      have HG := Lib.hid hG
      have hGB : B + 2 ≤ G := by have := HSZ.out; omega
      go_wp2_with fail
      rw [← hG]
      clear hG
      go_loopg [13] 32 (fun mm x wq => ∃ k : Nat, k + mm = 32 ∧ x = .int .i64 (k : Int) ∧ srow wq (B + 1) s ∧ wq.heap[B]? = some (.cells zz 86 (0, 0)) ∧ wq.heap[G]? = some (.cells (wp.bc (hs.part (hs.out s) 32 k)).toArray 86 (0, 0)) ∧ Below B w wq)
      case atStart =>
        refine ⟨0, rfl, rfl, ?_, ?_, ?_, HBEL.out.alloc (by have := HSZ.out; omega) _⟩
        · unfold srow; rw [heap_alloc_old _ _ (by rw [← HG.out]; omega)]; exact HROW.out
        · rw [heap_alloc_old _ _ (by rw [← HG.out]; omega)]; exact Z0.out
        · rw [HG.out, hs.part_zero]; exact heap_alloc_new wr (.cells z32 86)
      case round =>
        obtain ⟨k, hk, rfl, q0, q1, q2, qb⟩ := hrel
        have HK := Lib.hid hk
        have S0 := Lib.hid q0
        have S1 := Lib.hid q1
        have S2 := Lib.hid q2
        have SB := Lib.hid qb
        by_cases hlt : k < 32
        · obtain ⟨q', hq⟩ : ∃ q, q = k / 4 := ⟨_, rfl⟩
          obtain ⟨m, hm⟩ : ∃ m, m = k % 4 := ⟨_, rfl⟩
          obtain ⟨sh, hsh⟩ : ∃ s, s = 24 - m * 8 := ⟨_, rfl⟩
          have hqi : (k : Int) / 4 = (q' : Int) := by omega
          have hq8 : q' < 8 := by omega
          have hmi : (k : Int) % 4 = (m : Int) := by omega
          have hm4 : m ≤ 3 := by omega
          have hsi : (24 : Int) - 8 * (m : Int) = (sh : Int) := by omega
          have hq8i : (q' : Int) < 8 := by omega
          obtain ⟨x, hx⟩ : ∃ x, (l8 s)[q']? = some x := ⟨_, List.getElem?_eq_getElem (by show q' < 8; exact hq8)⟩
          have cx : wr.cell? ⟨B + 1, q', none⟩ = some (.int .u32 (x : Int)) := by
            rw [cell_of_row _ _ _ _ _ _ q0]; simpa using u32s_at hx
          have hlen := hs.part_length (l := hs.out s) (k := k) (hs.out_length s) (by omega)
          obtain ⟨z, hz⟩ : ∃ z, (wp.bc (hs.part (hs.out s) 32 k))[k]? = some z := ⟨_, List.getElem?_eq_getElem (by rw [wp.bc_length, hlen]; exact hlt)⟩
          have cz : wr.cell? ⟨G, k, none⟩ = some z := by rw [cell_of_row _ _ _ _ _ _ q2, List.getElem?_toArray]; exact hz
          have fz := frozen_of_row _ _ k _ _ q2
          have hox := hs.out_at s hlt
          rw [← hq, ← hm, ← hsh, show hs.l8' s = l8 s from rfl, List.getD_eq_getElem?_getD, hx] at hox
          have HPS := Lib.hid (hs.part_step (hs.out_length s) hox)
          have hxl : x < 4294967296 := l8_lt HOK.out hx
          have HVX : Hid ((x : Int) / 2 ^ sh % 256 = ((UInt8.ofNat (x / 2 ^ sh)).toNat : Int)) := by
            show _ = _
            rw [UInt8.toNat_ofNat', show (256 : Int) = ((256 : Nat) : Int) from rfl, show ((2 : Int) ^ sh) = ((2 ^ sh : Nat) : Int) by simp, ← Int.natCast_ediv, ← Int.natCast_emod]
          clear q0 q1 q2 qb hz hx hlen hq hm hsh hk hox
          go_wp2_with fail
          go_roundg (gk - 1)
          case measure => have := HK.out; omega
          case rel =>
            refine ⟨k + 1, by have := HK.out; omega, by go_num, (heap_setCell_other _ _ _ _ (by show B + 1 ≠ G; omega)).trans S0.out, (heap_setCell_other _ _ _ _ (by show B ≠ G; omega)).trans S1.out, ?_, SB.out.setCell (p := ⟨G, k, none⟩) (by show B ≤ G; omega) _⟩
            rw [HVX.out, ← HPS.out]
            exact bc_row_set S2.out k _
        · obtain rfl : k = 32 := by omega
          have hpf := hs.part_full (hs.out_length s)
          rw [hpf] at q2
          clear S2
          have hlo : (wp.bc (hs.out s)).length = 32 := by rw [wp.bc_length]; exact hs.out_length s
          have hz1 := size_toA size32 hlo
          have hz2 := size_to size32 hlo
          have hz3 : zz.size = (wp.bc (hs.out s)).length := by rw [hlo]; exact HZZ.out
          have ho := wk.ones_bc (hs.out s)
          generalize hcs : wp.bc (hs.out s) = cs at *
          have HCS := Lib.hid hcs
          clear hcs hpf hlo q0 hk qb
          go_wp2_with (first | refine wpList_load_row rfl 86 (.tmp 12) rfl G rfl 86 cs.toArray (0, 0) _ q2 Tryd.underlying86 rfl hz1 ?_ | refine wk.store_row rfl 86 (.tmp 2) (.tmp 147) rfl B cs rfl rfl 86 zz q1 hz2 hz3 ho ?_)
          refine bodyPost_ret (v := .agg cs.toArray) (results_cell_row (fn := Tryd.f94) rfl _ _ B 86 cs.toArray (0, 0) _ rfl (setRow_heap _ _ _ _ _ _ q1) Tryd.underlying86 rfl hz1) rfl ⟨?_, ?_⟩
          · rw [← HCS.out, ← HSH.out]
          · rw [HB.out]; exact wk.below_setRow SB.out (Nat.le_refl _) _
end Go.Proofs.YtjhagfggelhpkaaDoor.hi
