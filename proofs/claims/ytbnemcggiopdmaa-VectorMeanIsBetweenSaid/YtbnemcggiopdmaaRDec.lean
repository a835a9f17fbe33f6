
import Derived.Test.YtbnemcggiopdmaaRGet

import Derived.Test.YtbnemcggiopdmaaDecD

namespace Go.Proofs.Ytbnemcggiopdmaa.wi

open Go.ChangeShapes Go.WideShapes Go.ChangeAt Go.RowKit

set_option linter.unusedVariables false

set_option maxRecDepth 100000 in
set_option maxHeartbeats 1000000 in
theorem refLength_any (A : Option Addr) (n c least : Nat) (l : List UInt8) (w : World) (hn : n ≤ c) (hc : c ≤ 9223372036854775807) (hln : l.length = n) (hl : wp.RB w A l) (h1 : 1 ≤ least) (h2 : least ≤ 1000) :
    Calls Try.prog 64 #[.slice A n c, .int .i64 (least : Int)] w fun e w' => e = .returned (.tuple #[.int .i64 (wp.getC l least).1, .int .i64 (wp.getC l least).2.1, .int .i64 (wp.getC l least).2.2]) ∧ w = w' := by
  have HG := Lib.hid (refGetInt_any A n c l w hn hc hln hl)
  have hf := wp.getI_facts l
  have HE : Hid (wp.getC l least = if (wp.getI l).2.2 ≠ 0 then (0, 0, (wp.getI l).2.2) else if (wp.getI l).1 < 0 then (0, 0, 11) else if ((n : Int) - (wp.getI l).2.1) / (least : Int) < (wp.getI l).1 then (0, 0, 10) else ((wp.getI l).1, (wp.getI l).2.1, 0)) := by
    show _ = _
    unfold wp.getC
    rw [hln]
  obtain ⟨f1, f2, f3, f4, f5, f6, f7, f8, -⟩ := hf
  rw [hln] at f4
  clear hl hln
  generalize wp.getI l = r at *
  obtain ⟨r1, r2, r3⟩ := r
  simp only at *
  have HR : Hid (wp.getC l least = if r3 ≠ 0 then (0, 0, r3) else if r1 < 0 then (0, 0, 11) else if ((n : Int) - r2) / (least : Int) < r1 then (0, 0, 10) else (r1, r2, 0)) := HE.out
  clear HE
  have hdiv : 0 ≤ ((n : Int) - r2) / (least : Int) := Int.ediv_nonneg (by omega) (by omega)
  by_cases h3 : 0 < r3
  · have hb : (r3 != 0) = true := by rw [bne_iff_ne]; omega
    go_enter Try.func64, Try.ntmps64
    go_wp2_with fail
    refine HG.out.mono ?_
    rintro e w' ⟨rfl, rfl⟩
    go_wp2_with fail
    go_ret3
    exact ⟨by rw [HR.out, if_pos (by omega)]; rfl, rfl⟩
  · have hb : (r3 != 0) = false := by rw [bne_eq_false_iff_eq]; omega
    by_cases h4 : r1 < 0
    · go_enter Try.func64, Try.ntmps64
      go_wp2_with fail
      refine HG.out.mono ?_
      rintro e w' ⟨rfl, rfl⟩
      go_wp2_with fail
      go_ret3
      exact ⟨by rw [HR.out, if_neg (by omega), if_pos (by omega)]; rfl, rfl⟩
    · by_cases h5 : ((n : Int) - r2) / (least : Int) < r1
      · go_enter Try.func64, Try.ntmps64
        go_wp2_with fail
        refine HG.out.mono ?_
        rintro e w' ⟨rfl, rfl⟩
        go_wp2_with fail
        go_ret3
        exact ⟨by rw [HR.out, if_neg (by omega), if_neg (by omega), if_pos h5]; rfl, rfl⟩
      · go_enter Try.func64, Try.ntmps64
        go_wp2_with fail
        refine HG.out.mono ?_
        rintro e w' ⟨rfl, rfl⟩
        go_wp2_with fail
        go_ret3
        exact ⟨by rw [HR.out, if_neg (by omega), if_neg (by omega), if_neg (Int.not_lt.2 h5)]; rfl, rfl⟩


set_option maxRecDepth 100000 in
set_option maxHeartbeats 1000000 in
theorem refGetInts_any (A : Option Addr) (n c : Nat) (l : List UInt8) (w : World) (hn : n ≤ c) (hc : c ≤ 9223372036854775807) (hln : l.length = n) (hl : wp.RB w A l) (h40 : n ≤ 1099511627776) :
    Calls Try.prog 54 #[.slice A n c] w fun e w' => ∃ v, e = .returned (.tuple #[v, .int .i64 (wp.getL wp.getI 1 l).2.1, .int .i64 (wp.getL wp.getI 1 l).2.2]) ∧ w'.ownsRow w.heap.size 3 1 v (wp.getL wp.getI 1 l).1.length ((wp.getL wp.getI 1 l).1.map (Value.int .i64)) ∧ Below w.heap.size w w' := by
  obtain ⟨i0, hi, hz0, hz1, hz2⟩ := info_parts infoI
  have HG := Lib.hid (refLength_any A n c 1 l w hn hc hln hl (by decide) (by decide))
  have hf := wp.getC_facts l 1 (by decide)
  have hE : wp.getL wp.getI 1 l = if (wp.getC l 1).2.2 ≠ 0 then ([], 0, (wp.getC l 1).2.2) else wp.getN wp.getI l (wp.getC l 1).1.toNat [] (wp.getC l 1).2.1 := rfl
  obtain ⟨f1, f2, f3, f4, f5, f6, f7, -⟩ := hf
  rw [hln] at f2 f4
  have HL := Lib.hid hl
  have HLN := Lib.hid hln
  clear hl hln
  have HE := Lib.hid hE
  clear hE
  generalize wp.getC l 1 = r at *
  obtain ⟨r1, r2, r3⟩ := r
  dsimp only at *
  generalize wp.getL wp.getI 1 l = RES at *
  obtain ⟨cnt, rfl⟩ := Int.eq_ofNat_of_zero_le f1
  rw [Int.toNat_natCast] at HE
  by_cases h3 : 0 < r3
  · have hb : (r3 != 0) = true := by rw [bne_iff_ne]; omega
    go_enter Try.func54, Try.ntmps54
    go_wp2_with fail
    refine HG.out.mono ?_
    rintro e w' ⟨rfl, rfl⟩
    go_wp2_with fail
    go_ret3
    exact ⟨_, by rw [HE.out, if_pos (by omega)]; rfl, by rw [HE.out, if_pos (by omega)]; exact World.ownsRow_nil _ _ _ _, Below.refl _ _⟩
  · have hb : (r3 != 0) = false := by rw [bne_eq_false_iff_eq]; omega
    have HE' : Hid (RES = wp.getN wp.getI l cnt [] r2) := by show _ = _; rw [HE.out, if_neg (by omega)]
    clear HE f5 f6 f7 f1
    go_enter Try.func54, Try.ntmps54
    go_wp2_with fail
    refine HG.out.mono ?_
    rintro e w' ⟨rfl, rfl⟩
    clear HG
    go_wp2_with fail
    generalize hB : w.heap.size = B at *
    have HB := Lib.hid hB
    clear hB
    go_loopg [6, 8, 9] cnt (fun g u v x wr => ∃ (k : Nat) (used : Int) (acc : List Int), k + g = cnt ∧ x = .int .i64 (k : Int) ∧ u = .int .i64 used ∧ 0 ≤ used ∧ used ≤ n ∧ acc.length = k ∧ wp.getN wp.getI l g acc used = RES ∧ wr.ownsRow B 3 1 v k (acc.map (Value.int .i64)) ∧ Below B w wr)
    case atStart => exact ⟨0, r2, [], by omega, rfl, rfl, by omega, by omega, rfl, HE'.out.symm, World.ownsRow_nil _ _ _ _, Below.refl _ _⟩
    case round =>
      obtain ⟨k, used, acc, hk, rfl, rfl, hu0, hun, hacc, hres, hown, hbel⟩ := hrel
      have HK := Lib.hid hk
      have HACC := Lib.hid hacc
      have hkc : k ≤ cnt := by omega
      have HBW : Hid (B ≤ wr.heap.size) := by have := hbel.size; have := HB.out; show _ ≤ _; omega
      clear hk hacc
      by_cases hlt : k < cnt
      · obtain ⟨g, rfl⟩ : ∃ g, gk = g + 1 := ⟨gk - 1, by have := HK.out; omega⟩
        have hrb : wp.RB wr A l := wk.RB.below HL.out (by rw [HB.out]; exact hbel)
        obtain ⟨A2, m, c2, hcut, hm2, hc2, hlen2, hrb2⟩ := wk.cut_l (P := Try.prog) wr 38 5 Try.underlying38 size5 A n c l HLN.out hn hrb used hu0 hun
        have HC := Lib.hid (refGetInt_any A2 m c2 (l.drop used.toNat) wr hm2 (by omega) hlen2 hrb2)
        have hfo := wp.getI_facts (l.drop used.toNat)
        have hlen3 : ((l.drop used.toNat).length : Int) = n - used := by rw [List.length_drop, HLN.out]; omega
        rw [hlen3] at hfo
        rw [wp.getN] at hres
        have HRES := Lib.hid hres
        clear hres hrb hlen2 hrb2 hlen3
        generalize wp.getI (l.drop used.toNat) = s at *
        obtain ⟨s1, s2, s3⟩ := s
        dsimp only at *
        obtain ⟨g1, g2, g3, g4, g5, g6, g7, g8, -⟩ := hfo
        have hkm : k + 1 ≤ 1099511627776 := by omega
        clear f2 f4
        by_cases h4 : 0 < s3
        · have hb4 : (s3 != 0) = true := by rw [bne_iff_ne]; omega
          go_wp2_with fail
          refine HC.out.mono ?_
          rintro e w' ⟨rfl, rfl⟩
          go_wp2_with fail
          go_ret3
          have hr := HRES.out
          rw [if_pos (by omega)] at hr
          exact ⟨_, by rw [← hr]; rfl, by rw [← hr]; exact World.ownsRow_nil _ _ _ _, by rw [HB.out]; exact hbel⟩
        · have hb4 : (s3 != 0) = false := by rw [bne_eq_false_iff_eq]; omega
          go_wp2_with fail
          refine HC.out.mono ?_
          rintro e w' ⟨rfl, rfl⟩
          go_wp2_with (at_builtin; refine wpList_append_own _ rfl _ _ 22 rfl B 3 i0 (.int .i64 0) 1 8 Try.underlying22 hi hz0 hz1 hz2 rfl (by decide) _ _ _ rfl (hown.alloc _) ⟨wr.heap.size, 0, none⟩ 1 1 [.int .i64 s1] rfl rfl ?c1 ?c2 ?c3 ?c4 ?c5 ?_)
          case c1 => exact cell_one_new _ _ _
          case c2 => simp [Value.oneCell']
          case c3 => unfold maxLen; omega
          case c4 => omega
          case c5 => have := HBW.out; simp; omega
          intro v' w2 hown2 hgrow _
          go_wp2_with fail
          go_roundg g
          case measure => omega
          case rel =>
            refine ⟨k + 1, used + s2, acc ++ [s1], by have := HK.out; omega, by go_num, rfl, by omega, by omega, by simp [HACC.out], ?_, by simpa using hown2, (hbel.alloc HBW.out _).grown hgrow (by have := HBW.out; simp; omega) (fun q hq => (hown.lt q hq).1)⟩
            have hr := HRES.out
            rw [if_neg (by omega)] at hr
            exact hr
      · have hg : gk = 0 := by have := HK.out; omega
        subst hg
        rw [wp.getN] at hres
        have HRES := Lib.hid hres
        clear hres
        go_wp2_with fail
        go_ret3
        exact ⟨_, by rw [← HRES.out]; rfl, by rw [← HRES.out, HACC.out, HB.out]; exact hown, by rw [HB.out]; exact hbel⟩

end Go.Proofs.Ytbnemcggiopdmaa.wi
