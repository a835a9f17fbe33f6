
import Derived.Test.YtbnemcggiopdmaaDec

namespace Go.Proofs.Ytbnemcggiopdmaa.wi

open Go.ChangeShapes Go.WideShapes Go.ChangeAt Go.RowKit

theorem infoI : (Try.prog.info? 3).map (fun i => (i.zero, i.size, i.bytes)) = some (some (.int .i64 0), 1, 8) := by kernel_rfl
theorem infoS : (Try.prog.info? 9).map (fun i => (i.zero, i.size, i.bytes)) = some (some (.string ByteArray.empty), 1, 16) := by kernel_rfl

set_option maxRecDepth 100000 in
set_option maxHeartbeats 1000000 in
theorem getList_I (A : Option Addr) (n c : Nat) (l : List UInt8) (w : World) (hn : n ≤ c) (hc : c ≤ 9223372036854775807) (hln : l.length = n) (hl : wp.RB w A l) (h40 : n ≤ 1099511627776) :
    Calls Try.prog 62 #[.slice A n c, .int .i64 1, .func (.func 63) #[] #[]] w fun e w' => ∃ v, e = .returned (.tuple #[v, .int .i64 (wp.getL wp.getI 1 l).2.1, .int .i64 (wp.getL wp.getI 1 l).2.2]) ∧ w'.ownsRow w.heap.size 3 1 v (wp.getL wp.getI 1 l).1.length ((wp.getL wp.getI 1 l).1.map (Value.int .i64)) ∧ Below w.heap.size w w' := by
  obtain ⟨i0, hi, hz0, hz1, hz2⟩ := info_parts infoI
  have HG := Lib.hid (getCount_any A n c 1 l w hn hc hln hl (by decide) (by decide))
  have hf := wp.getC_facts l 1 (by decide)
  have hE : wp.getL wp.getI 1 l = if (wp.getC l 1).2.2 ≠ 0 then ([], 0, (wp.getC l 1).2.2) else wp.getN wp.getI l (wp.getC l 1).1.toNat [] (wp.getC l 1).2.1 := rfl
  obtain ⟨f1, f2, f3, f4, f5, f6, f7, -⟩ := hf
  rw [hln] at f2 f4
  have HL := Lib.hid hl
  have HLN := Lib.hid hln
  clear hl hln
  have HE := Lib.hid hE
  clear hE
  generalize wp.getC l 1 = r at *
  obtain ⟨r1, r2, r3⟩ := r
  dsimp only at *
  generalize wp.getL wp.getI 1 l = RES at *
  obtain ⟨cnt, rfl⟩ := Int.eq_ofNat_of_zero_le f1
  rw [Int.toNat_natCast] at HE
  by_cases h3 : 0 < r3
  · have hb : (r3 != 0) = true := by rw [bne_iff_ne]; omega
    go_enter Try.func62, Try.ntmps62
    go_wp2_with fail
    refine HG.out.mono ?_
    rintro e w' ⟨rfl, rfl⟩
    go_wp2_with fail
    go_ret3
    exact ⟨_, by rw [HE.out, if_pos (by omega)]; rfl, by rw [HE.out, if_pos (by omega)]; exact World.ownsRow_nil _ _ _ _, Below.refl _ _⟩
  · have hb : (r3 != 0) = false := by rw [bne_eq_false_iff_eq]; omega
    have HE' : Hid (RES = wp.getN wp.getI l cnt [] r2) := by show _ = _; rw [HE.out, if_neg (by omega)]
    clear HE f5 f6 f7 f1
    go_enter Try.func62, Try.ntmps62
    go_wp2_with fail
    refine HG.out.mono ?_
    rintro e w' ⟨rfl, rfl⟩
    clear HG
    go_wp2_with (at_make; refine wpList_make_own _ rfl _ _ 22 rfl w.heap.size 3 i0 (.int .i64 0) 1 Try.underlying22 hi hz0 hz1 _ _ _ cnt rfl rfl rfl ?b2 ?b3 ?b4 ?_)
    case b2 => rw [hz2]; omega
    case b3 => unfold maxLen; omega
    case b4 => exact Nat.le_refl _
    intro w1 hown1 hgr1
    have hbel1 : Below w.heap.size w w1 := (Below.refl _ _).grown hgr1 (Nat.le_refl _) (fun k hk => by cases hk)
    go_wp2_with fail
    generalize hB : w.heap.size = B at *
    have HB := Lib.hid hB
    clear hB
    go_loopg [10, 12, 29] cnt (fun g u v x wr => ∃ (k : Nat) (used : Int) (acc : List Int), k + g = cnt ∧ x = .int .i64 (k : Int) ∧ u = .int .i64 used ∧ 0 ≤ used ∧ used ≤ n ∧ acc.length = k ∧ wp.getN wp.getI l g acc used = RES ∧ wr.ownsRow B 3 1 v k (acc.map (Value.int .i64)) ∧ Below B w wr)
    case atStart => exact ⟨0, r2, [], by omega, rfl, rfl, by omega, by omega, rfl, HE'.out.symm, hown1, hbel1⟩
    case round =>
      obtain ⟨k, used, acc, hk, rfl, rfl, hu0, hun, hacc, hres, hown, hbel⟩ := hrel
      have HK := Lib.hid hk
      have HACC := Lib.hid hacc
      have hkc : k ≤ cnt := by omega
      have HBW : Hid (B ≤ wr.heap.size) := by have := hbel.size; have := HB.out; show _ ≤ _; omega
      clear hk hown1 hbel1 hacc
      by_cases hlt : k < cnt
      · obtain ⟨g, rfl⟩ : ∃ g, gk = g + 1 := ⟨gk - 1, by have := HK.out; omega⟩
        have hrb : wp.RB wr A l := wk.RB.below HL.out (by rw [HB.out]; exact hbel)
        obtain ⟨A2, m, c2, hcut, hm2, hc2, hlen2, hrb2⟩ := wk.cut_l (P := Try.prog) wr 38 5 Try.underlying38 size5 A n c l HLN.out hn hrb used hu0 hun
        have HC := Lib.hid (getInt_any A2 m c2 (l.drop used.toNat) wr hm2 (by omega) hlen2 hrb2)
        have hfo := wp.getI_facts (l.drop used.toNat)
        have hlen3 : ((l.drop used.toNat).length : Int) = n - used := by rw [List.length_drop, HLN.out]; omega
        rw [hlen3] at hfo
        rw [wp.getN] at hres
        have HRES := Lib.hid hres
        clear hres hrb hlen2 hrb2 hlen3
        generalize wp.getI (l.drop used.toNat) = s at *
        obtain ⟨s1, s2, s3⟩ := s
        dsimp only at *
        obtain ⟨g1, g2, g3, g4, g5, g6, g7, g8, -⟩ := hfo
        have hkm : k + 1 ≤ 1099511627776 := by omega
        clear f2 f4
        by_cases h4 : 0 < s3
        · have hb4 : (s3 != 0) = true := by rw [bne_iff_ne]; omega
          go_wp2_with fail
          refine HC.out.mono ?_
          rintro e w' ⟨rfl, rfl⟩
          go_wp2_with fail
          go_ret3
          have hr := HRES.out
          rw [if_pos (by omega)] at hr
          exact ⟨_, by rw [← hr]; rfl, by rw [← hr]; exact World.ownsRow_nil _ _ _ _, by rw [HB.out]; exact hbel⟩
        · have hb4 : (s3 != 0) = false := by rw [bne_eq_false_iff_eq]; omega
          go_wp2_with fail
          refine HC.out.mono ?_
          rintro e w' ⟨rfl, rfl⟩
          go_wp2_with (at_builtin; refine wpList_append_own _ rfl _ _ 22 rfl B 3 i0 (.int .i64 0) 1 8 Try.underlying22 hi hz0 hz1 hz2 rfl (by decide) _ _ _ rfl (hown.alloc _) ⟨wr.heap.size, 0, none⟩ 1 1 [.int .i64 s1] rfl rfl ?c1 ?c2 ?c3 ?c4 ?c5 ?_)
          case c1 => exact cell_one_new _ _ _
          case c2 => simp [Value.oneCell']
          case c3 => unfold maxLen; omega
          case c4 => omega
          case c5 => have := HBW.out; simp; omega
          intro v' w2 hown2 hgrow _
          go_wp2_with fail
          go_roundg g
          case measure => omega
          case rel =>
            refine ⟨k + 1, used + s2, acc ++ [s1], by have := HK.out; omega, by go_num, rfl, by omega, by omega, by simp [HACC.out], ?_, by simpa using hown2, (hbel.alloc HBW.out _).grown hgrow (by have := HBW.out; simp; omega) (fun q hq => (hown.lt q hq).1)⟩
            have hr := HRES.out
            rw [if_neg (by omega)] at hr
            exact hr
      · have hg : gk = 0 := by have := HK.out; omega
        subst hg
        rw [wp.getN] at hres
        have HRES := Lib.hid hres
        clear hres
        go_wp2_with fail
        go_ret3
        exact ⟨_, by rw [← HRES.out]; rfl, by rw [← HRES.out, HACC.out, HB.out]; exact hown, by rw [HB.out]; exact hbel⟩

theorem getInts_any (A : Option Addr) (n c : Nat) (l : List UInt8) (w : World) (hn : n ≤ c) (hc : c ≤ 9223372036854775807) (hln : l.length = n) (hl : wp.RB w A l) (h40 : n ≤ 1099511627776) :
    Calls Try.prog 53 #[.slice A n c] w fun e w' => ∃ v, e = .returned (.tuple #[v, .int .i64 (wp.getL wp.getI 1 l).2.1, .int .i64 (wp.getL wp.getI 1 l).2.2]) ∧ w'.ownsRow w.heap.size 3 1 v (wp.getL wp.getI 1 l).1.length ((wp.getL wp.getI 1 l).1.map (Value.int .i64)) ∧ Below w.heap.size w w' := by
  have H := Lib.hid (getList_I A n c l w hn hc hln hl h40)
  clear hl hln
  generalize wp.getL wp.getI 1 l = RES at *
  go_enter Try.func53, Try.ntmps53
  go_wp2_with fail
  refine H.out.mono ?_
  rintro e w1 ⟨v1, rfl, hown1, hbel1⟩
  go_wp2_with fail
  go_ret3
  exact ⟨v1, rfl, hown1, hbel1⟩

end Go.Proofs.Ytbnemcggiopdmaa.wi
