/- BoxHasWhatItShould: its walk. -/
import Derived.Test.YtlcdjabfkfmpdaaBu

import Derived.Test.YtlcdjabfkfmpdaaBz

import Derived.Test.YtlcdjabfkfmpdaaBt

import Derived.Test.YtlcdjabfkfmpdaaBh

namespace Go.Proofs.Ytlcdjabfkfmpdaa.vk

open Go.ChangeShapes Go.WideShapes Go.ChangeAt Go.RowKit
theorem IsVV.below {w w' : World} {A : Option Addr} {n c : Nat} {L : List (List Int)} (h : IsVV w A n c L) (hb : Below w.heap.size w w') : IsVV w' A n c L := isVV_below h hb
end Go.Proofs.Ytlcdjabfkfmpdaa.vk

namespace Go.Proofs.Ytlcdjabfkfmpdaa.bk

open Go.ChangeShapes Go.WideShapes Go.ChangeAt Go.RowKit
theorem IsU.below {w w' : World} {A : Option Addr} {n c : Nat} {l : List Int} (h : IsU w A n c l) (hb : Below w.heap.size w w') : IsU w' A n c l := isU_below h hb
end Go.Proofs.Ytlcdjabfkfmpdaa.bk

namespace Go.Proofs.Ytlcdjabfkfmpdaa.boxHasWhatItShould

open Go.ChangeShapes Go.WideShapes Go.ChangeAt Go.RowKit

open Go.Proofs.Ytlcdjabfkfmpdaa.bq Go.Proofs.Ytlcdjabfkfmpdaa.vk Go.Proofs.Ytlcdjabfkfmpdaa.wk Go.Proofs.Ytlcdjabfkfmpdaa.bk

set_option linter.unusedVariables false
structure HaF (w0 : World) (g5 g6 g9 : Nat) (a1 a2 b1 b2 s1 s2 : Value) (p q o : Pair) (A : Option Addr) (n c : Nat) (L : List (List Int)) (A4 : Option Addr) (n4 c4 : Nat) (pk : List Int) (u : World) : Prop where
  t5 : TwoX u g5 a1 a2
  t6 : TwoX u g6 b1 b2
  t9 : TwoX u g9 s1 s2
  x : IsX u (.agg #[a1, a2]) p
  y : IsX u (.agg #[b1, b2]) q
  o : IsX u (.agg #[s1, s2]) o
  l : IsVV u A n c L
  un : IsU u A4 n4 c4 pk
  b : Below w0.heap.size w0 u
theorem HaF.below {w0 : World} {g5 g6 g9 : Nat} {a1 a2 b1 b2 s1 s2 : Value} {p q o : Pair} {A : Option Addr} {n c : Nat} {L : List (List Int)} {A4 : Option Addr} {n4 c4 : Nat} {pk : List Int} {u u' : World} (h : HaF w0 g5 g6 g9 a1 a2 b1 b2 s1 s2 p q o A n c L A4 n4 c4 pk u) (hb : Below u.heap.size u u') : HaF w0 g5 g6 g9 a1 a2 b1 b2 s1 s2 p q o A n c L A4 n4 c4 pk u' :=
  ⟨h.t5.below hb, h.t6.below hb, h.t9.below hb, h.x.below hb, h.y.below hb, h.o.below hb, h.l.below hb, h.un.below hb, Below.andThen h.b hb⟩
set_option maxRecDepth 100000 in
set_option maxHeartbeats 16000000 in
theorem walk (w : World) {L : List (List Int)} {v u : Value} {p q : Pair} {A A4 : Option Addr} {n c n4 c4 : Nat} {pk : List Int} (w0 : IsVV w A n c L) (w1 : IsX w v p) (w2 : IsX w u q) (w3 : IsU w A4 n4 c4 pk) :
    Calls Try.prog 7 #[.slice A n c, v, u, .slice A4 n4 c4] w fun e w' => e = .returned (.bool true) ∧ Below w.heap.size w w' := by
  obtain ⟨A1, n1, c1, A2, n2, c2, rfl, hx1, hx2⟩ := w1
  obtain ⟨B1, m1, d1, B2, m2, d2, rfl, hy1, hy2⟩ := w2
  have HN1 := Lib.hid hx1.1
  have HM1 := Lib.hid hy1.1
  have HB := Lib.hid (Below.andThen (below_new w (.cells #[.slice A1 n1 c1, .slice A2 n2 c2] 25)) (below_new _ (.cells #[.slice B1 m1 d1, .slice B2 m2 d2] 25)))
  have HX : Hid (IsX ((w.alloc (.cells #[.slice A1 n1 c1, .slice A2 n2 c2] 25)).alloc (.cells #[.slice B1 m1 d1, .slice B2 m2 d2] 25)) (.agg #[.slice A1 n1 c1, .slice A2 n2 c2]) p) := IsX.below ⟨_, _, _, _, _, _, rfl, hx1, hx2⟩ HB.out
  have HY : Hid (IsX ((w.alloc (.cells #[.slice A1 n1 c1, .slice A2 n2 c2] 25)).alloc (.cells #[.slice B1 m1 d1, .slice B2 m2 d2] 25)) (.agg #[.slice B1 m1 d1, .slice B2 m2 d2]) q) := IsX.below ⟨_, _, _, _, _, _, rfl, hy1, hy2⟩ HB.out
  have HT := Lib.hid ((TwoX.new w (.slice A1 n1 c1) (.slice A2 n2 c2)).below (below_new _ (.cells #[.slice B1 m1 d1, .slice B2 m2 d2] 25)))
  have HT6 := Lib.hid (TwoX.new (w.alloc (.cells #[.slice A1 n1 c1, .slice A2 n2 c2] 25)) (.slice B1 m1 d1) (.slice B2 m2 d2))
  rw [size_new] at HT6
  have HL := Lib.hid (w0.below HB.out)
  have HU := Lib.hid (w3.below HB.out)
  have hnc := w0.2.1
  have hmc := w0.2.2.1
  clear hx1 hx2 hy1 hy2 w0 w3
  have hc0HT := HT.out.two.c0
  have hc1HT := HT.out.two.c1
  have hc0HT6 := HT6.out.two.c0
  have hc1HT6 := HT6.out.two.c1
  go_enter Try.func7, Try.ntmps7
  go_wp2_with fail
  clear hc0HT hc1HT hc0HT6 hc1HT6
  refine (short_calls A n c L _ HL.out).mono ?_
  rintro e w' ⟨rfl, rfl⟩
  have hc0HT := HT.out.two.c0
  have hc1HT := HT.out.two.c1
  have hc0HT6 := HT6.out.two.c0
  have hc1HT6 := HT6.out.two.c1
  cases hsh : shortB L
  ·
    go_wp2_with fail
    clear hc0HT hc1HT hc0HT6 hc1HT6
    refine (sanity_calls _).mono ?_
    rintro e w' ⟨rfl, hb⟩
    have HBZ := Lib.hid (Below.andThen HB.out hb)
    clear hb
    go_wp2_with fail
    go_ret
    exact ⟨rfl, HBZ.out⟩
  go_wp2_with fail
  clear hc0HT hc1HT hc0HT6 hc1HT6
  refine (few_calls _ p _ HX.out).mono ?_
  rintro e w2 ⟨rfl, hb⟩
  replace HT := Lib.hid (HT.out.below hb)
  replace HT6 := Lib.hid (HT6.out.below hb)
  replace HX := Lib.hid (HX.out.below hb)
  replace HY := Lib.hid (HY.out.below hb)
  replace HL := Lib.hid (HL.out.below hb)
  replace HU := Lib.hid (HU.out.below hb)
  replace HB := Lib.hid (Below.andThen HB.out hb)
  clear hb
  have hc0HT := HT.out.two.c0
  have hc1HT := HT.out.two.c1
  have hc0HT6 := HT6.out.two.c0
  have hc1HT6 := HT6.out.two.c1
  cases hfew : (decide (p.1.length ≤ 40) && decide (p.2.length ≤ 40))
  ·
    go_wp2_with fail
    clear hc0HT hc1HT hc0HT6 hc1HT6
    refine (sanity_calls _).mono ?_
    rintro e w' ⟨rfl, hb⟩
    have HBZ := Lib.hid (Below.andThen HB.out hb)
    clear hb
    go_wp2_with fail
    go_ret
    exact ⟨rfl, HBZ.out⟩
  go_wp2_with fail
  clear hc0HT hc1HT hc0HT6 hc1HT6
  refine (few_calls _ q _ HY.out).mono ?_
  rintro e w3 ⟨rfl, hb⟩
  replace HT := Lib.hid (HT.out.below hb)
  replace HT6 := Lib.hid (HT6.out.below hb)
  replace HX := Lib.hid (HX.out.below hb)
  replace HY := Lib.hid (HY.out.below hb)
  replace HL := Lib.hid (HL.out.below hb)
  replace HU := Lib.hid (HU.out.below hb)
  replace HB := Lib.hid (Below.andThen HB.out hb)
  clear hb
  have hc0HT := HT.out.two.c0
  have hc1HT := HT.out.two.c1
  have hc0HT6 := HT6.out.two.c0
  have hc1HT6 := HT6.out.two.c1
  cases hfew2 : (decide (q.1.length ≤ 40) && decide (q.2.length ≤ 40))
  ·
    go_wp2_with fail
    clear hc0HT hc1HT hc0HT6 hc1HT6
    refine (sanity_calls _).mono ?_
    rintro e w' ⟨rfl, hb⟩
    have HBZ := Lib.hid (Below.andThen HB.out hb)
    clear hb
    go_wp2_with fail
    go_ret
    exact ⟨rfl, HBZ.out⟩
  clear hsh hfew hfew2
  go_wp2_with fail
  clear hc0HT hc1HT hc0HT6 hc1HT6
  refine (of_calls A n c L _ HL.out).mono ?_
  rintro e w4 ⟨x, rfl, hx, hb⟩
  replace HT := Lib.hid (HT.out.below hb)
  replace HT6 := Lib.hid (HT6.out.below hb)
  replace HX := Lib.hid (HX.out.below hb)
  replace HY := Lib.hid (HY.out.below hb)
  replace HL := Lib.hid (HL.out.below hb)
  replace HU := Lib.hid (HU.out.below hb)
  replace HB := Lib.hid (Below.andThen HB.out hb)
  obtain ⟨sa1, sa2, sa3, sa4, sa5, sa6, rfl, h1, h2⟩ := hx
  have HXs : Hid (IsX _ (.agg #[.slice sa1 sa2 sa3, .slice sa4 sa5 sa6]) ((ofL L).getD ([], []))) := ⟨_, _, _, _, _, _, rfl, h1, h2⟩
  clear h1 h2
  clear hb
  have hc0HT := HT.out.two.c0
  have hc1HT := HT.out.two.c1
  have hc0HT6 := HT6.out.two.c0
  have hc1HT6 := HT6.out.two.c1
  have HTs := Lib.hid (TwoX.new w4 (.slice sa1 sa2 sa3) (.slice sa4 sa5 sa6))
  replace HXs := Lib.hid (HXs.out.below (below_new _ (.cells #[.slice sa1 sa2 sa3, .slice sa4 sa5 sa6] 25)))
  replace HT := Lib.hid (HT.out.below (below_new _ (.cells #[.slice sa1 sa2 sa3, .slice sa4 sa5 sa6] 25)))
  replace HT6 := Lib.hid (HT6.out.below (below_new _ (.cells #[.slice sa1 sa2 sa3, .slice sa4 sa5 sa6] 25)))
  replace HX := Lib.hid (HX.out.below (below_new _ (.cells #[.slice sa1 sa2 sa3, .slice sa4 sa5 sa6] 25)))
  replace HY := Lib.hid (HY.out.below (below_new _ (.cells #[.slice sa1 sa2 sa3, .slice sa4 sa5 sa6] 25)))
  replace HL := Lib.hid (HL.out.below (below_new _ (.cells #[.slice sa1 sa2 sa3, .slice sa4 sa5 sa6] 25)))
  replace HU := Lib.hid (HU.out.below (below_new _ (.cells #[.slice sa1 sa2 sa3, .slice sa4 sa5 sa6] 25)))
  replace HB := Lib.hid (Below.andThen HB.out (below_new _ (.cells #[.slice sa1 sa2 sa3, .slice sa4 sa5 sa6] 25)))
  obtain ⟨gs, hgs⟩ : ∃ gs, w4.heap.size = gs := ⟨_, rfl⟩
  rw [hgs] at HTs
  simp only [hgs]
  clear hc0HT hc1HT hc0HT6 hc1HT6
  have hc0HT := HT.out.two.c0
  have hc1HT := HT.out.two.c1
  have hc0HT6 := HT6.out.two.c0
  have hc1HT6 := HT6.out.two.c1
  have hc0HTs := HTs.out.two.c0
  have hc1HTs := HTs.out.two.c1
  cases hof : ofL L with
  | none =>
    simp only [Option.isSome_none, Bool.false_eq_true, if_false]
    clear hof
    go_wp2_with fail
    clear hc0HT hc1HT hc0HT6 hc1HT6 hc0HTs hc1HTs
    refine (valid_calls _ p _ HX.out).mono ?_
    rintro e w5 ⟨rfl, hb⟩
    replace HT := Lib.hid (HT.out.below hb)
    replace HT6 := Lib.hid (HT6.out.below hb)
    replace HX := Lib.hid (HX.out.below hb)
    replace HY := Lib.hid (HY.out.below hb)
    replace HL := Lib.hid (HL.out.below hb)
    replace HU := Lib.hid (HU.out.below hb)
    replace HTs := Lib.hid (HTs.out.below hb)
    replace HXs := Lib.hid (HXs.out.below hb)
    replace HB := Lib.hid (Below.andThen HB.out hb)
    clear hb
    have hc0HT := HT.out.two.c0
    have hc1HT := HT.out.two.c1
    have hc0HT6 := HT6.out.two.c0
    have hc1HT6 := HT6.out.two.c1
    have hc0HTs := HTs.out.two.c0
    have hc1HTs := HTs.out.two.c1
    cases hval : bvalid p
    ·
      go_wp2_with fail
      clear hc0HT hc1HT hc0HT6 hc1HT6 hc0HTs hc1HTs
      refine (sanity_calls _).mono ?_
      rintro e w' ⟨rfl, hb⟩
      have HBZ := Lib.hid (Below.andThen HB.out hb)
      clear hb
      go_wp2_with fail
      go_ret
      exact ⟨rfl, HBZ.out⟩
    go_wp2_with fail
    clear hc0HT hc1HT hc0HT6 hc1HT6 hc0HTs hc1HTs
    refine (valid_calls _ q _ HY.out).mono ?_
    rintro e w6 ⟨rfl, hb⟩
    replace HT := Lib.hid (HT.out.below hb)
    replace HT6 := Lib.hid (HT6.out.below hb)
    replace HX := Lib.hid (HX.out.below hb)
    replace HY := Lib.hid (HY.out.below hb)
    replace HL := Lib.hid (HL.out.below hb)
    replace HU := Lib.hid (HU.out.below hb)
    replace HTs := Lib.hid (HTs.out.below hb)
    replace HXs := Lib.hid (HXs.out.below hb)
    replace HB := Lib.hid (Below.andThen HB.out hb)
    clear hb
    have hc0HT := HT.out.two.c0
    have hc1HT := HT.out.two.c1
    have hc0HT6 := HT6.out.two.c0
    have hc1HT6 := HT6.out.two.c1
    have hc0HTs := HTs.out.two.c0
    have hc1HTs := HTs.out.two.c1
    cases hval2 : bvalid q
    ·
      go_wp2_with fail
      clear hc0HT hc1HT hc0HT6 hc1HT6 hc0HTs hc1HTs
      refine (sanity_calls _).mono ?_
      rintro e w' ⟨rfl, hb⟩
      have HBZ := Lib.hid (Below.andThen HB.out hb)
      clear hb
      go_wp2_with fail
      go_ret
      exact ⟨rfl, HBZ.out⟩
    by_cases hnm : n1 ≠ m1
    ·
      have hnm' : ¬ ((n1 : Int) = (m1 : Int)) := by omega
      go_wp2_with fail
      clear hc0HT hc1HT hc0HT6 hc1HT6 hc0HTs hc1HTs
      refine (sanity_calls _).mono ?_
      rintro e w' ⟨rfl, hb⟩
      have HBZ := Lib.hid (Below.andThen HB.out hb)
      clear hb
      go_wp2_with fail
      go_ret
      exact ⟨rfl, HBZ.out⟩
    obtain rfl : n1 = m1 := by omega
    clear hnm
    have hp := bvalid_iff.1 hval
    have hq := bvalid_iff.1 hval2
    have hpq : p.1.length = q.1.length := by rw [HN1.out, HM1.out]
    have hal1 : balike p q = true := balike_iff.2 ⟨hpq, hp, hq⟩
    have hal2 : balike q p = true := balike_iff.2 ⟨hpq.symm, hq, hp⟩
    obtain ⟨jn, hjn⟩ : ∃ jn, join p q = jn := ⟨_, rfl⟩
    have hjn2 : join q p = jn := by rw [← hjn]; exact (join_comm hp hq hpq).symm
    obtain ⟨mr, hmr⟩ : ∃ mr, meetR p q = mr := ⟨_, rfl⟩
    have hmr2 : meetR q p = mr := by
      rw [← hmr]
      unfold meetR
      rw [if_pos hal1, if_pos hal2, meet_comm hp hq hpq]
    have hm0 : mr.2.1 = bvalid (meet p q) ∧ mr.2.2 = 0 ∧ (bvalid (meet p q) = true → mr.1 = meet p q) := by
      rw [← hmr]
      unfold meetR
      rw [if_pos hal1]
      cases hb : bvalid (meet p q) <;> simp
    obtain ⟨is, his⟩ : ∃ is, bvalid (meet p q) = is := ⟨_, rfl⟩
    rw [his] at hm0
    have HP := Lib.hid hp
    have HQ := Lib.hid hq
    have HPQ := Lib.hid hpq
    have HA1 := Lib.hid hal1
    have HA2 := Lib.hid hal2
    have HJ := Lib.hid hjn
    have HJ2 := Lib.hid hjn2
    have HM := Lib.hid hmr
    have HM2 := Lib.hid hmr2
    have HM0 := Lib.hid hm0
    have HIS := Lib.hid his
    clear hp hq hpq hal1 hal2 hjn hjn2 hmr hmr2 hm0 his hval hval2
    go_wp2_with fail
    clear hc0HT hc1HT hc0HT6 hc1HT6 hc0HTs hc1HTs
    refine (join_calls _ _ p q _ HX.out HY.out).mono ?_
    rintro e w7 ⟨x, rfl, hx, hb⟩
    replace HT := Lib.hid (HT.out.below hb)
    replace HT6 := Lib.hid (HT6.out.below hb)
    replace HX := Lib.hid (HX.out.below hb)
    replace HY := Lib.hid (HY.out.below hb)
    replace HL := Lib.hid (HL.out.below hb)
    replace HU := Lib.hid (HU.out.below hb)
    replace HTs := Lib.hid (HTs.out.below hb)
    replace HXs := Lib.hid (HXs.out.below hb)
    replace HB := Lib.hid (Below.andThen HB.out hb)
    rw [if_pos HA1.out, HJ.out] at hx
    rw [if_pos HA1.out]
    obtain ⟨ja1, ja2, ja3, ja4, ja5, ja6, rfl, h1, h2⟩ := hx
    have HXj : Hid (IsX _ (.agg #[.slice ja1 ja2 ja3, .slice ja4 ja5 ja6]) jn) := ⟨_, _, _, _, _, _, rfl, h1, h2⟩
    clear h1 h2
    clear hb
    have hc0HT := HT.out.two.c0
    have hc1HT := HT.out.two.c1
    have hc0HT6 := HT6.out.two.c0
    have hc1HT6 := HT6.out.two.c1
    have hc0HTs := HTs.out.two.c0
    have hc1HTs := HTs.out.two.c1
    have HTj := Lib.hid (TwoX.new w7 (.slice ja1 ja2 ja3) (.slice ja4 ja5 ja6))
    replace HXj := Lib.hid (HXj.out.below (below_new _ (.cells #[.slice ja1 ja2 ja3, .slice ja4 ja5 ja6] 25)))
    replace HT := Lib.hid (HT.out.below (below_new _ (.cells #[.slice ja1 ja2 ja3, .slice ja4 ja5 ja6] 25)))
    replace HT6 := Lib.hid (HT6.out.below (below_new _ (.cells #[.slice ja1 ja2 ja3, .slice ja4 ja5 ja6] 25)))
    replace HX := Lib.hid (HX.out.below (below_new _ (.cells #[.slice ja1 ja2 ja3, .slice ja4 ja5 ja6] 25)))
    replace HY := Lib.hid (HY.out.below (below_new _ (.cells #[.slice ja1 ja2 ja3, .slice ja4 ja5 ja6] 25)))
    replace HL := Lib.hid (HL.out.below (below_new _ (.cells #[.slice ja1 ja2 ja3, .slice ja4 ja5 ja6] 25)))
    replace HU := Lib.hid (HU.out.below (below_new _ (.cells #[.slice ja1 ja2 ja3, .slice ja4 ja5 ja6] 25)))
    replace HTs := Lib.hid (HTs.out.below (below_new _ (.cells #[.slice ja1 ja2 ja3, .slice ja4 ja5 ja6] 25)))
    replace HXs := Lib.hid (HXs.out.below (below_new _ (.cells #[.slice ja1 ja2 ja3, .slice ja4 ja5 ja6] 25)))
    replace HB := Lib.hid (Below.andThen HB.out (below_new _ (.cells #[.slice ja1 ja2 ja3, .slice ja4 ja5 ja6] 25)))
    obtain ⟨gj, hgj⟩ : ∃ gj, w7.heap.size = gj := ⟨_, rfl⟩
    rw [hgj] at HTj
    simp only [hgj]
    clear hc0HT hc1HT hc0HT6 hc1HT6 hc0HTs hc1HTs
    have hc0HT := HT.out.two.c0
    have hc1HT := HT.out.two.c1
    have hc0HT6 := HT6.out.two.c0
    have hc1HT6 := HT6.out.two.c1
    have hc0HTs := HTs.out.two.c0
    have hc1HTs := HTs.out.two.c1
    have hc0HTj := HTj.out.two.c0
    have hc1HTj := HTj.out.two.c1
    go_wp2_with fail
    clear hc0HT hc1HT hc0HT6 hc1HT6 hc0HTs hc1HTs hc0HTj hc1HTj
    refine (join_calls _ _ q p _ HY.out HX.out).mono ?_
    rintro e w8 ⟨x, rfl, hx, hb⟩
    replace HT := Lib.hid (HT.out.below hb)
    replace HT6 := Lib.hid (HT6.out.below hb)
    replace HX := Lib.hid (HX.out.below hb)
    replace HY := Lib.hid (HY.out.below hb)
    replace HL := Lib.hid (HL.out.below hb)
    replace HU := Lib.hid (HU.out.below hb)
    replace HTs := Lib.hid (HTs.out.below hb)
    replace HXs := Lib.hid (HXs.out.below hb)
    replace HTj := Lib.hid (HTj.out.below hb)
    replace HXj := Lib.hid (HXj.out.below hb)
    replace HB := Lib.hid (Below.andThen HB.out hb)
    rw [if_pos HA2.out, HJ2.out] at hx
    rw [if_pos HA2.out]
    obtain ⟨ka1, ka2, ka3, ka4, ka5, ka6, rfl, h1, h2⟩ := hx
    have HXk : Hid (IsX _ (.agg #[.slice ka1 ka2 ka3, .slice ka4 ka5 ka6]) jn) := ⟨_, _, _, _, _, _, rfl, h1, h2⟩
    clear h1 h2
    clear hb
    have hc0HT := HT.out.two.c0
    have hc1HT := HT.out.two.c1
    have hc0HT6 := HT6.out.two.c0
    have hc1HT6 := HT6.out.two.c1
    have hc0HTs := HTs.out.two.c0
    have hc1HTs := HTs.out.two.c1
    have hc0HTj := HTj.out.two.c0
    have hc1HTj := HTj.out.two.c1
    have HTk := Lib.hid (TwoX.new w8 (.slice ka1 ka2 ka3) (.slice ka4 ka5 ka6))
    replace HXk := Lib.hid (HXk.out.below (below_new _ (.cells #[.slice ka1 ka2 ka3, .slice ka4 ka5 ka6] 25)))
    replace HT := Lib.hid (HT.out.below (below_new _ (.cells #[.slice ka1 ka2 ka3, .slice ka4 ka5 ka6] 25)))
    replace HT6 := Lib.hid (HT6.out.below (below_new _ (.cells #[.slice ka1 ka2 ka3, .slice ka4 ka5 ka6] 25)))
    replace HX := Lib.hid (HX.out.below (below_new _ (.cells #[.slice ka1 ka2 ka3, .slice ka4 ka5 ka6] 25)))
    replace HY := Lib.hid (HY.out.below (below_new _ (.cells #[.slice ka1 ka2 ka3, .slice ka4 ka5 ka6] 25)))
    replace HL := Lib.hid (HL.out.below (below_new _ (.cells #[.slice ka1 ka2 ka3, .slice ka4 ka5 ka6] 25)))
    replace HU := Lib.hid (HU.out.below (below_new _ (.cells #[.slice ka1 ka2 ka3, .slice ka4 ka5 ka6] 25)))
    replace HTs := Lib.hid (HTs.out.below (below_new _ (.cells #[.slice ka1 ka2 ka3, .slice ka4 ka5 ka6] 25)))
    replace HXs := Lib.hid (HXs.out.below (below_new _ (.cells #[.slice ka1 ka2 ka3, .slice ka4 ka5 ka6] 25)))
    replace HTj := Lib.hid (HTj.out.below (below_new _ (.cells #[.slice ka1 ka2 ka3, .slice ka4 ka5 ka6] 25)))
    replace HXj := Lib.hid (HXj.out.below (below_new _ (.cells #[.slice ka1 ka2 ka3, .slice ka4 ka5 ka6] 25)))
    replace HB := Lib.hid (Below.andThen HB.out (below_new _ (.cells #[.slice ka1 ka2 ka3, .slice ka4 ka5 ka6] 25)))
    obtain ⟨gk, hgk⟩ : ∃ gk, w8.heap.size = gk := ⟨_, rfl⟩
    rw [hgk] at HTk
    simp only [hgk]
    clear hc0HT hc1HT hc0HT6 hc1HT6 hc0HTs hc1HTs hc0HTj hc1HTj
    have hc0HT := HT.out.two.c0
    have hc1HT := HT.out.two.c1
    have hc0HT6 := HT6.out.two.c0
    have hc1HT6 := HT6.out.two.c1
    have hc0HTs := HTs.out.two.c0
    have hc1HTs := HTs.out.two.c1
    have hc0HTj := HTj.out.two.c0
    have hc1HTj := HTj.out.two.c1
    have hc0HTk := HTk.out.two.c0
    have hc1HTk := HTk.out.two.c1
    go_wp2_with fail
    clear hc0HT hc1HT hc0HT6 hc1HT6 hc0HTs hc1HTs hc0HTj hc1HTj hc0HTk hc1HTk
    refine (meet_calls _ _ p q _ HX.out HY.out).mono ?_
    rintro e w9 ⟨x, rfl, hx, hb⟩
    replace HT := Lib.hid (HT.out.below hb)
    replace HT6 := Lib.hid (HT6.out.below hb)
    replace HX := Lib.hid (HX.out.below hb)
    replace HY := Lib.hid (HY.out.below hb)
    replace HL := Lib.hid (HL.out.below hb)
    replace HU := Lib.hid (HU.out.below hb)
    replace HTs := Lib.hid (HTs.out.below hb)
    replace HXs := Lib.hid (HXs.out.below hb)
    replace HTj := Lib.hid (HTj.out.below hb)
    replace HXj := Lib.hid (HXj.out.below hb)
    replace HTk := Lib.hid (HTk.out.below hb)
    replace HXk := Lib.hid (HXk.out.below hb)
    replace HB := Lib.hid (Below.andThen HB.out hb)
    rw [HM.out] at hx
    rw [HM.out, HM0.out.1, HM0.out.2.1]
    obtain ⟨ma1, ma2, ma3, ma4, ma5, ma6, rfl, h1, h2⟩ := hx
    have HXm : Hid (IsX _ (.agg #[.slice ma1 ma2 ma3, .slice ma4 ma5 ma6]) mr.1) := ⟨_, _, _, _, _, _, rfl, h1, h2⟩
    clear h1 h2
    clear hb
    have hc0HT := HT.out.two.c0
    have hc1HT := HT.out.two.c1
    have hc0HT6 := HT6.out.two.c0
    have hc1HT6 := HT6.out.two.c1
    have hc0HTs := HTs.out.two.c0
    have hc1HTs := HTs.out.two.c1
    have hc0HTj := HTj.out.two.c0
    have hc1HTj := HTj.out.two.c1
    have hc0HTk := HTk.out.two.c0
    have hc1HTk := HTk.out.two.c1
    have HTm := Lib.hid (TwoX.new w9 (.slice ma1 ma2 ma3) (.slice ma4 ma5 ma6))
    replace HXm := Lib.hid (HXm.out.below (below_new _ (.cells #[.slice ma1 ma2 ma3, .slice ma4 ma5 ma6] 25)))
    replace HT := Lib.hid (HT.out.below (below_new _ (.cells #[.slice ma1 ma2 ma3, .slice ma4 ma5 ma6] 25)))
    replace HT6 := Lib.hid (HT6.out.below (below_new _ (.cells #[.slice ma1 ma2 ma3, .slice ma4 ma5 ma6] 25)))
    replace HX := Lib.hid (HX.out.below (below_new _ (.cells #[.slice ma1 ma2 ma3, .slice ma4 ma5 ma6] 25)))
    replace HY := Lib.hid (HY.out.below (below_new _ (.cells #[.slice ma1 ma2 ma3, .slice ma4 ma5 ma6] 25)))
    replace HL := Lib.hid (HL.out.below (below_new _ (.cells #[.slice ma1 ma2 ma3, .slice ma4 ma5 ma6] 25)))
    replace HU := Lib.hid (HU.out.below (below_new _ (.cells #[.slice ma1 ma2 ma3, .slice ma4 ma5 ma6] 25)))
    replace HTs := Lib.hid (HTs.out.below (below_new _ (.cells #[.slice ma1 ma2 ma3, .slice ma4 ma5 ma6] 25)))
    replace HXs := Lib.hid (HXs.out.below (below_new _ (.cells #[.slice ma1 ma2 ma3, .slice ma4 ma5 ma6] 25)))
    replace HTj := Lib.hid (HTj.out.below (below_new _ (.cells #[.slice ma1 ma2 ma3, .slice ma4 ma5 ma6] 25)))
    replace HXj := Lib.hid (HXj.out.below (below_new _ (.cells #[.slice ma1 ma2 ma3, .slice ma4 ma5 ma6] 25)))
    replace HTk := Lib.hid (HTk.out.below (below_new _ (.cells #[.slice ma1 ma2 ma3, .slice ma4 ma5 ma6] 25)))
    replace HXk := Lib.hid (HXk.out.below (below_new _ (.cells #[.slice ma1 ma2 ma3, .slice ma4 ma5 ma6] 25)))
    replace HB := Lib.hid (Below.andThen HB.out (below_new _ (.cells #[.slice ma1 ma2 ma3, .slice ma4 ma5 ma6] 25)))
    obtain ⟨gm, hgm⟩ : ∃ gm, w9.heap.size = gm := ⟨_, rfl⟩
    rw [hgm] at HTm
    simp only [hgm]
    clear hc0HT hc1HT hc0HT6 hc1HT6 hc0HTs hc1HTs hc0HTj hc1HTj hc0HTk hc1HTk
    have hc0HT := HT.out.two.c0
    have hc1HT := HT.out.two.c1
    have hc0HT6 := HT6.out.two.c0
    have hc1HT6 := HT6.out.two.c1
    have hc0HTs := HTs.out.two.c0
    have hc1HTs := HTs.out.two.c1
    have hc0HTj := HTj.out.two.c0
    have hc1HTj := HTj.out.two.c1
    have hc0HTk := HTk.out.two.c0
    have hc1HTk := HTk.out.two.c1
    have hc0HTm := HTm.out.two.c0
    have hc1HTm := HTm.out.two.c1
    go_wp2_with fail
    clear hc0HT hc1HT hc0HT6 hc1HT6 hc0HTs hc1HTs hc0HTj hc1HTj hc0HTk hc1HTk hc0HTm hc1HTm
    refine (meet_calls _ _ q p _ HY.out HX.out).mono ?_
    rintro e w10 ⟨x, rfl, hx, hb⟩
    replace HT := Lib.hid (HT.out.below hb)
    replace HT6 := Lib.hid (HT6.out.below hb)
    replace HX := Lib.hid (HX.out.below hb)
    replace HY := Lib.hid (HY.out.below hb)
    replace HL := Lib.hid (HL.out.below hb)
    replace HU := Lib.hid (HU.out.below hb)
    replace HTs := Lib.hid (HTs.out.below hb)
    replace HXs := Lib.hid (HXs.out.below hb)
    replace HTj := Lib.hid (HTj.out.below hb)
    replace HXj := Lib.hid (HXj.out.below hb)
    replace HTk := Lib.hid (HTk.out.below hb)
    replace HXk := Lib.hid (HXk.out.below hb)
    replace HTm := Lib.hid (HTm.out.below hb)
    replace HXm := Lib.hid (HXm.out.below hb)
    replace HB := Lib.hid (Below.andThen HB.out hb)
    rw [HM2.out] at hx
    rw [HM2.out, HM0.out.1, HM0.out.2.1]
    obtain ⟨oa1, oa2, oa3, oa4, oa5, oa6, rfl, h1, h2⟩ := hx
    have HXo : Hid (IsX _ (.agg #[.slice oa1 oa2 oa3, .slice oa4 oa5 oa6]) mr.1) := ⟨_, _, _, _, _, _, rfl, h1, h2⟩
    clear h1 h2
    clear hb
    have hc0HT := HT.out.two.c0
    have hc1HT := HT.out.two.c1
    have hc0HT6 := HT6.out.two.c0
    have hc1HT6 := HT6.out.two.c1
    have hc0HTs := HTs.out.two.c0
    have hc1HTs := HTs.out.two.c1
    have hc0HTj := HTj.out.two.c0
    have hc1HTj := HTj.out.two.c1
    have hc0HTk := HTk.out.two.c0
    have hc1HTk := HTk.out.two.c1
    have hc0HTm := HTm.out.two.c0
    have hc1HTm := HTm.out.two.c1
    have HTo := Lib.hid (TwoX.new w10 (.slice oa1 oa2 oa3) (.slice oa4 oa5 oa6))
    replace HXo := Lib.hid (HXo.out.below (below_new _ (.cells #[.slice oa1 oa2 oa3, .slice oa4 oa5 oa6] 25)))
    replace HT := Lib.hid (HT.out.below (below_new _ (.cells #[.slice oa1 oa2 oa3, .slice oa4 oa5 oa6] 25)))
    replace HT6 := Lib.hid (HT6.out.below (below_new _ (.cells #[.slice oa1 oa2 oa3, .slice oa4 oa5 oa6] 25)))
    replace HX := Lib.hid (HX.out.below (below_new _ (.cells #[.slice oa1 oa2 oa3, .slice oa4 oa5 oa6] 25)))
    replace HY := Lib.hid (HY.out.below (below_new _ (.cells #[.slice oa1 oa2 oa3, .slice oa4 oa5 oa6] 25)))
    replace HL := Lib.hid (HL.out.below (below_new _ (.cells #[.slice oa1 oa2 oa3, .slice oa4 oa5 oa6] 25)))
    replace HU := Lib.hid (HU.out.below (below_new _ (.cells #[.slice oa1 oa2 oa3, .slice oa4 oa5 oa6] 25)))
    replace HTs := Lib.hid (HTs.out.below (below_new _ (.cells #[.slice oa1 oa2 oa3, .slice oa4 oa5 oa6] 25)))
    replace HXs := Lib.hid (HXs.out.below (below_new _ (.cells #[.slice oa1 oa2 oa3, .slice oa4 oa5 oa6] 25)))
    replace HTj := Lib.hid (HTj.out.below (below_new _ (.cells #[.slice oa1 oa2 oa3, .slice oa4 oa5 oa6] 25)))
    replace HXj := Lib.hid (HXj.out.below (below_new _ (.cells #[.slice oa1 oa2 oa3, .slice oa4 oa5 oa6] 25)))
    replace HTk := Lib.hid (HTk.out.below (below_new _ (.cells #[.slice oa1 oa2 oa3, .slice oa4 oa5 oa6] 25)))
    replace HXk := Lib.hid (HXk.out.below (below_new _ (.cells #[.slice oa1 oa2 oa3, .slice oa4 oa5 oa6] 25)))
    replace HTm := Lib.hid (HTm.out.below (below_new _ (.cells #[.slice oa1 oa2 oa3, .slice oa4 oa5 oa6] 25)))
    replace HXm := Lib.hid (HXm.out.below (below_new _ (.cells #[.slice oa1 oa2 oa3, .slice oa4 oa5 oa6] 25)))
    replace HB := Lib.hid (Below.andThen HB.out (below_new _ (.cells #[.slice oa1 oa2 oa3, .slice oa4 oa5 oa6] 25)))
    obtain ⟨go, hgo⟩ : ∃ go, w10.heap.size = go := ⟨_, rfl⟩
    rw [hgo] at HTo
    simp only [hgo]
    clear hc0HT hc1HT hc0HT6 hc1HT6 hc0HTs hc1HTs hc0HTj hc1HTj hc0HTk hc1HTk hc0HTm hc1HTm
    have hc0HT := HT.out.two.c0
    have hc1HT := HT.out.two.c1
    have hc0HT6 := HT6.out.two.c0
    have hc1HT6 := HT6.out.two.c1
    have hc0HTs := HTs.out.two.c0
    have hc1HTs := HTs.out.two.c1
    have hc0HTj := HTj.out.two.c0
    have hc1HTj := HTj.out.two.c1
    have hc0HTk := HTk.out.two.c0
    have hc1HTk := HTk.out.two.c1
    have hc0HTm := HTm.out.two.c0
    have hc1HTm := HTm.out.two.c1
    have hc0HTo := HTo.out.two.c0
    have hc1HTo := HTo.out.two.c1
    go_wp2_with fail
    clear hc0HT hc1HT hc0HT6 hc1HT6 hc0HTs hc1HTs hc0HTj hc1HTj hc0HTk hc1HTk hc0HTm hc1HTm hc0HTo hc1HTo
    refine (sameBox_calls _ _ jn jn _ HXj.out HXk.out).mono ?_
    rintro e w11 ⟨rfl, hb⟩
    replace HT := Lib.hid (HT.out.below hb)
    replace HT6 := Lib.hid (HT6.out.below hb)
    replace HX := Lib.hid (HX.out.below hb)
    replace HY := Lib.hid (HY.out.below hb)
    replace HL := Lib.hid (HL.out.below hb)
    replace HU := Lib.hid (HU.out.below hb)
    replace HTs := Lib.hid (HTs.out.below hb)
    replace HXs := Lib.hid (HXs.out.below hb)
    replace HTj := Lib.hid (HTj.out.below hb)
    replace HXj := Lib.hid (HXj.out.below hb)
    replace HTk := Lib.hid (HTk.out.below hb)
    replace HXk := Lib.hid (HXk.out.below hb)
    replace HTm := Lib.hid (HTm.out.below hb)
    replace HXm := Lib.hid (HXm.out.below hb)
    replace HTo := Lib.hid (HTo.out.below hb)
    replace HXo := Lib.hid (HXo.out.below hb)
    replace HB := Lib.hid (Below.andThen HB.out hb)
    rw [show sameB jn jn = true by simp [sameB]]
    clear hb
    have hc0HT := HT.out.two.c0
    have hc1HT := HT.out.two.c1
    have hc0HT6 := HT6.out.two.c0
    have hc1HT6 := HT6.out.two.c1
    have hc0HTs := HTs.out.two.c0
    have hc1HTs := HTs.out.two.c1
    have hc0HTj := HTj.out.two.c0
    have hc1HTj := HTj.out.two.c1
    have hc0HTk := HTk.out.two.c0
    have hc1HTk := HTk.out.two.c1
    have hc0HTm := HTm.out.two.c0
    have hc1HTm := HTm.out.two.c1
    have hc0HTo := HTo.out.two.c0
    have hc1HTo := HTo.out.two.c1
    go_wp2_with fail
    clear hc0HT hc1HT hc0HT6 hc1HT6 hc0HTs hc1HTs hc0HTj hc1HTj hc0HTk hc1HTk hc0HTm hc1HTm hc0HTo hc1HTo
    refine (sameBox_calls _ _ mr.1 mr.1 _ HXm.out HXo.out).mono ?_
    rintro e w12 ⟨rfl, hb⟩
    replace HT := Lib.hid (HT.out.below hb)
    replace HT6 := Lib.hid (HT6.out.below hb)
    replace HX := Lib.hid (HX.out.below hb)
    replace HY := Lib.hid (HY.out.below hb)
    replace HL := Lib.hid (HL.out.below hb)
    replace HU := Lib.hid (HU.out.below hb)
    replace HTs := Lib.hid (HTs.out.below hb)
    replace HXs := Lib.hid (HXs.out.below hb)
    replace HTj := Lib.hid (HTj.out.below hb)
    replace HXj := Lib.hid (HXj.out.below hb)
    replace HTk := Lib.hid (HTk.out.below hb)
    replace HXk := Lib.hid (HXk.out.below hb)
    replace HTm := Lib.hid (HTm.out.below hb)
    replace HXm := Lib.hid (HXm.out.below hb)
    replace HTo := Lib.hid (HTo.out.below hb)
    replace HXo := Lib.hid (HXo.out.below hb)
    replace HB := Lib.hid (Below.andThen HB.out hb)
    rw [show sameB mr.1 mr.1 = true by simp [sameB]]
    clear hb
    have hc0HT := HT.out.two.c0
    have hc1HT := HT.out.two.c1
    have hc0HT6 := HT6.out.two.c0
    have hc1HT6 := HT6.out.two.c1
    have hc0HTs := HTs.out.two.c0
    have hc1HTs := HTs.out.two.c1
    have hc0HTj := HTj.out.two.c0
    have hc1HTj := HTj.out.two.c1
    have hc0HTk := HTk.out.two.c0
    have hc1HTk := HTk.out.two.c1
    have hc0HTm := HTm.out.two.c0
    have hc1HTm := HTm.out.two.c1
    have hc0HTo := HTo.out.two.c0
    have hc1HTo := HTo.out.two.c1
    have hin : has p (inner p pk) = true := has_inner HP.out
    obtain ⟨xi, hxi⟩ : ∃ xi, inner p pk = xi := ⟨_, rfl⟩
    rw [hxi] at hin
    have HXI := Lib.hid hxi
    obtain ⟨hq1, hh1⟩ : ∃ hq1, has q xi = hq1 := ⟨_, rfl⟩
    have HH1 := Lib.hid hh1
    have HH2 : Hid (is = true → has mr.1 xi = hq1) := fun e => by
      have h := has_meet HP.out HQ.out HPQ.out hin
      rw [HIS.out, e, Bool.true_and, hh1] at h
      rw [HM0.out.2.2 e]; exact h.symm
    have HH3 : Hid (is = false → hq1 = false) := fun e => by
      have h := has_meet HP.out HQ.out HPQ.out hin
      rw [HIS.out, e, Bool.false_and, hh1] at h
      exact h
    have HH4 : Hid (has jn xi = true) := by
      show _ = _
      rw [← HJ.out]; exact has_join HP.out HQ.out HPQ.out (.inl hin)
    have HH5 : Hid (is = true → inside mr.1 p = true ∧ inside mr.1 q = true) := fun e => by
      rw [HM0.out.2.2 e]; exact in_meet HP.out HQ.out HPQ.out (by rw [HIS.out]; exact e)
    have HH6 : Hid (inside p jn = true ∧ inside q jn = true) := by
      show _ ∧ _
      rw [← HJ.out]; exact in_join HP.out HQ.out HPQ.out
    clear hin hxi hh1
    cases his : is
    ·
      have hq0 := HH3.out his
      subst hq0
      subst his
      go_wp2_with fail
      clear hc0HT hc1HT hc0HT6 hc1HT6 hc0HTs hc1HTs hc0HTj hc1HTj hc0HTk hc1HTk hc0HTm hc1HTm hc0HTo hc1HTo
      refine (inner_calls _ p _ _ _ pk _ HX.out HU.out HP.out).mono ?_
      rintro e w13 ⟨x, rfl, hx, hb⟩
      replace HT := Lib.hid (HT.out.below hb)
      replace HT6 := Lib.hid (HT6.out.below hb)
      replace HX := Lib.hid (HX.out.below hb)
      replace HY := Lib.hid (HY.out.below hb)
      replace HL := Lib.hid (HL.out.below hb)
      replace HU := Lib.hid (HU.out.below hb)
      replace HTs := Lib.hid (HTs.out.below hb)
      replace HXs := Lib.hid (HXs.out.below hb)
      replace HTj := Lib.hid (HTj.out.below hb)
      replace HXj := Lib.hid (HXj.out.below hb)
      replace HTk := Lib.hid (HTk.out.below hb)
      replace HXk := Lib.hid (HXk.out.below hb)
      replace HTm := Lib.hid (HTm.out.below hb)
      replace HXm := Lib.hid (HXm.out.below hb)
      replace HTo := Lib.hid (HTo.out.below hb)
      replace HXo := Lib.hid (HXo.out.below hb)
      replace HB := Lib.hid (Below.andThen HB.out hb)
      obtain ⟨An, nn, cn, rfl, hx⟩ := hx
      rw [HXI.out] at hx
      have HI := Lib.hid (VI.mk hx)
      clear hx
      clear hb
      have hc0HT := HT.out.two.c0
      have hc1HT := HT.out.two.c1
      have hc0HT6 := HT6.out.two.c0
      have hc1HT6 := HT6.out.two.c1
      have hc0HTs := HTs.out.two.c0
      have hc1HTs := HTs.out.two.c1
      have hc0HTj := HTj.out.two.c0
      have hc1HTj := HTj.out.two.c1
      have hc0HTk := HTk.out.two.c0
      have hc1HTk := HTk.out.two.c1
      have hc0HTm := HTm.out.two.c0
      have hc1HTm := HTm.out.two.c1
      have hc0HTo := HTo.out.two.c0
      have hc1HTo := HTo.out.two.c1
      go_wp2_with fail
      clear hc0HT hc1HT hc0HT6 hc1HT6 hc0HTs hc1HTs hc0HTj hc1HTj hc0HTk hc1HTk hc0HTm hc1HTm hc0HTo hc1HTo
      refine (has_calls _ q _ _ _ xi _ HY.out HI.out.is).mono ?_
      rintro e w14 ⟨rfl, hb⟩
      replace HT := Lib.hid (HT.out.below hb)
      replace HT6 := Lib.hid (HT6.out.below hb)
      replace HX := Lib.hid (HX.out.below hb)
      replace HY := Lib.hid (HY.out.below hb)
      replace HL := Lib.hid (HL.out.below hb)
      replace HU := Lib.hid (HU.out.below hb)
      replace HTs := Lib.hid (HTs.out.below hb)
      replace HXs := Lib.hid (HXs.out.below hb)
      replace HTj := Lib.hid (HTj.out.below hb)
      replace HXj := Lib.hid (HXj.out.below hb)
      replace HTk := Lib.hid (HTk.out.below hb)
      replace HXk := Lib.hid (HXk.out.below hb)
      replace HTm := Lib.hid (HTm.out.below hb)
      replace HXm := Lib.hid (HXm.out.below hb)
      replace HTo := Lib.hid (HTo.out.below hb)
      replace HXo := Lib.hid (HXo.out.below hb)
      replace HI := Lib.hid (HI.out.below hb)
      replace HB := Lib.hid (Below.andThen HB.out hb)
      rw [HH1.out]
      clear hb
      have hc0HT := HT.out.two.c0
      have hc1HT := HT.out.two.c1
      have hc0HT6 := HT6.out.two.c0
      have hc1HT6 := HT6.out.two.c1
      have hc0HTs := HTs.out.two.c0
      have hc1HTs := HTs.out.two.c1
      have hc0HTj := HTj.out.two.c0
      have hc1HTj := HTj.out.two.c1
      have hc0HTk := HTk.out.two.c0
      have hc1HTk := HTk.out.two.c1
      have hc0HTm := HTm.out.two.c0
      have hc1HTm := HTm.out.two.c1
      have hc0HTo := HTo.out.two.c0
      have hc1HTo := HTo.out.two.c1
      go_wp2_with fail
      clear hc0HT hc1HT hc0HT6 hc1HT6 hc0HTs hc1HTs hc0HTj hc1HTj hc0HTk hc1HTk hc0HTm hc1HTm hc0HTo hc1HTo
      refine (has_calls _ jn _ _ _ xi _ HXj.out HI.out.is).mono ?_
      rintro e w15 ⟨rfl, hb⟩
      replace HT := Lib.hid (HT.out.below hb)
      replace HT6 := Lib.hid (HT6.out.below hb)
      replace HX := Lib.hid (HX.out.below hb)
      replace HY := Lib.hid (HY.out.below hb)
      replace HL := Lib.hid (HL.out.below hb)
      replace HU := Lib.hid (HU.out.below hb)
      replace HTs := Lib.hid (HTs.out.below hb)
      replace HXs := Lib.hid (HXs.out.below hb)
      replace HTj := Lib.hid (HTj.out.below hb)
      replace HXj := Lib.hid (HXj.out.below hb)
      replace HTk := Lib.hid (HTk.out.below hb)
      replace HXk := Lib.hid (HXk.out.below hb)
      replace HTm := Lib.hid (HTm.out.below hb)
      replace HXm := Lib.hid (HXm.out.below hb)
      replace HTo := Lib.hid (HTo.out.below hb)
      replace HXo := Lib.hid (HXo.out.below hb)
      replace HI := Lib.hid (HI.out.below hb)
      replace HB := Lib.hid (Below.andThen HB.out hb)
      rw [HH4.out]
      clear hb
      have hc0HT := HT.out.two.c0
      have hc1HT := HT.out.two.c1
      have hc0HT6 := HT6.out.two.c0
      have hc1HT6 := HT6.out.two.c1
      have hc0HTs := HTs.out.two.c0
      have hc1HTs := HTs.out.two.c1
      have hc0HTj := HTj.out.two.c0
      have hc1HTj := HTj.out.two.c1
      have hc0HTk := HTk.out.two.c0
      have hc1HTk := HTk.out.two.c1
      have hc0HTm := HTm.out.two.c0
      have hc1HTm := HTm.out.two.c1
      have hc0HTo := HTo.out.two.c0
      have hc1HTo := HTo.out.two.c1
      go_wp2_with fail
      clear hc0HT hc1HT hc0HT6 hc1HT6 hc0HTs hc1HTs hc0HTj hc1HTj hc0HTk hc1HTk hc0HTm hc1HTm hc0HTo hc1HTo
      refine (sanity_calls _).mono ?_
      rintro e w16 ⟨rfl, hb⟩
      replace HT := Lib.hid (HT.out.below hb)
      replace HT6 := Lib.hid (HT6.out.below hb)
      replace HX := Lib.hid (HX.out.below hb)
      replace HY := Lib.hid (HY.out.below hb)
      replace HL := Lib.hid (HL.out.below hb)
      replace HU := Lib.hid (HU.out.below hb)
      replace HTs := Lib.hid (HTs.out.below hb)
      replace HXs := Lib.hid (HXs.out.below hb)
      replace HTj := Lib.hid (HTj.out.below hb)
      replace HXj := Lib.hid (HXj.out.below hb)
      replace HTk := Lib.hid (HTk.out.below hb)
      replace HXk := Lib.hid (HXk.out.below hb)
      replace HTm := Lib.hid (HTm.out.below hb)
      replace HXm := Lib.hid (HXm.out.below hb)
      replace HTo := Lib.hid (HTo.out.below hb)
      replace HXo := Lib.hid (HXo.out.below hb)
      replace HI := Lib.hid (HI.out.below hb)
      replace HB := Lib.hid (Below.andThen HB.out hb)
      clear hb
      have hc0HT := HT.out.two.c0
      have hc1HT := HT.out.two.c1
      have hc0HT6 := HT6.out.two.c0
      have hc1HT6 := HT6.out.two.c1
      have hc0HTs := HTs.out.two.c0
      have hc1HTs := HTs.out.two.c1
      have hc0HTj := HTj.out.two.c0
      have hc1HTj := HTj.out.two.c1
      have hc0HTk := HTk.out.two.c0
      have hc1HTk := HTk.out.two.c1
      have hc0HTm := HTm.out.two.c0
      have hc1HTm := HTm.out.two.c1
      have hc0HTo := HTo.out.two.c0
      have hc1HTo := HTo.out.two.c1
      go_wp2_with fail
      clear hc0HT hc1HT hc0HT6 hc1HT6 hc0HTs hc1HTs hc0HTj hc1HTj hc0HTk hc1HTk hc0HTm hc1HTm hc0HTo hc1HTo
      refine (inside_calls _ _ p jn _ HX.out HXj.out).mono ?_
      rintro e w17 ⟨rfl, hb⟩
      replace HT := Lib.hid (HT.out.below hb)
      replace HT6 := Lib.hid (HT6.out.below hb)
      replace HX := Lib.hid (HX.out.below hb)
      replace HY := Lib.hid (HY.out.below hb)
      replace HL := Lib.hid (HL.out.below hb)
      replace HU := Lib.hid (HU.out.below hb)
      replace HTs := Lib.hid (HTs.out.below hb)
      replace HXs := Lib.hid (HXs.out.below hb)
      replace HTj := Lib.hid (HTj.out.below hb)
      replace HXj := Lib.hid (HXj.out.below hb)
      replace HTk := Lib.hid (HTk.out.below hb)
      replace HXk := Lib.hid (HXk.out.below hb)
      replace HTm := Lib.hid (HTm.out.below hb)
      replace HXm := Lib.hid (HXm.out.below hb)
      replace HTo := Lib.hid (HTo.out.below hb)
      replace HXo := Lib.hid (HXo.out.below hb)
      replace HI := Lib.hid (HI.out.below hb)
      replace HB := Lib.hid (Below.andThen HB.out hb)
      rw [HH6.out.1]
      clear hb
      have hc0HT := HT.out.two.c0
      have hc1HT := HT.out.two.c1
      have hc0HT6 := HT6.out.two.c0
      have hc1HT6 := HT6.out.two.c1
      have hc0HTs := HTs.out.two.c0
      have hc1HTs := HTs.out.two.c1
      have hc0HTj := HTj.out.two.c0
      have hc1HTj := HTj.out.two.c1
      have hc0HTk := HTk.out.two.c0
      have hc1HTk := HTk.out.two.c1
      have hc0HTm := HTm.out.two.c0
      have hc1HTm := HTm.out.two.c1
      have hc0HTo := HTo.out.two.c0
      have hc1HTo := HTo.out.two.c1
      go_wp2_with fail
      clear hc0HT hc1HT hc0HT6 hc1HT6 hc0HTs hc1HTs hc0HTj hc1HTj hc0HTk hc1HTk hc0HTm hc1HTm hc0HTo hc1HTo
      refine (inside_calls _ _ q jn _ HY.out HXj.out).mono ?_
      rintro e w18 ⟨rfl, hb⟩
      replace HT := Lib.hid (HT.out.below hb)
      replace HT6 := Lib.hid (HT6.out.below hb)
      replace HX := Lib.hid (HX.out.below hb)
      replace HY := Lib.hid (HY.out.below hb)
      replace HL := Lib.hid (HL.out.below hb)
      replace HU := Lib.hid (HU.out.below hb)
      replace HTs := Lib.hid (HTs.out.below hb)
      replace HXs := Lib.hid (HXs.out.below hb)
      replace HTj := Lib.hid (HTj.out.below hb)
      replace HXj := Lib.hid (HXj.out.below hb)
      replace HTk := Lib.hid (HTk.out.below hb)
      replace HXk := Lib.hid (HXk.out.below hb)
      replace HTm := Lib.hid (HTm.out.below hb)
      replace HXm := Lib.hid (HXm.out.below hb)
      replace HTo := Lib.hid (HTo.out.below hb)
      replace HXo := Lib.hid (HXo.out.below hb)
      replace HI := Lib.hid (HI.out.below hb)
      replace HB := Lib.hid (Below.andThen HB.out hb)
      rw [HH6.out.2]
      clear hb
      have hc0HT := HT.out.two.c0
      have hc1HT := HT.out.two.c1
      have hc0HT6 := HT6.out.two.c0
      have hc1HT6 := HT6.out.two.c1
      have hc0HTs := HTs.out.two.c0
      have hc1HTs := HTs.out.two.c1
      have hc0HTj := HTj.out.two.c0
      have hc1HTj := HTj.out.two.c1
      have hc0HTk := HTk.out.two.c0
      have hc1HTk := HTk.out.two.c1
      have hc0HTm := HTm.out.two.c0
      have hc1HTm := HTm.out.two.c1
      have hc0HTo := HTo.out.two.c0
      have hc1HTo := HTo.out.two.c1
      have HBE := HB.out
      go_wp2_with fail
      go_ret
      exact ⟨rfl, HBE⟩
    ·
      have hq0 := HH2.out his
      have hq5 := HH5.out his
      subst his
      have HQ0 := Lib.hid hq0
      have HQ5 := Lib.hid hq5
      clear hq0 hq5
      go_wp2_with fail
      clear hc0HT hc1HT hc0HT6 hc1HT6 hc0HTs hc1HTs hc0HTj hc1HTj hc0HTk hc1HTk hc0HTm hc1HTm hc0HTo hc1HTo
      refine (inner_calls _ p _ _ _ pk _ HX.out HU.out HP.out).mono ?_
      rintro e w13 ⟨x, rfl, hx, hb⟩
      replace HT := Lib.hid (HT.out.below hb)
      replace HT6 := Lib.hid (HT6.out.below hb)
      replace HX := Lib.hid (HX.out.below hb)
      replace HY := Lib.hid (HY.out.below hb)
      replace HL := Lib.hid (HL.out.below hb)
      replace HU := Lib.hid (HU.out.below hb)
      replace HTs := Lib.hid (HTs.out.below hb)
      replace HXs := Lib.hid (HXs.out.below hb)
      replace HTj := Lib.hid (HTj.out.below hb)
      replace HXj := Lib.hid (HXj.out.below hb)
      replace HTk := Lib.hid (HTk.out.below hb)
      replace HXk := Lib.hid (HXk.out.below hb)
      replace HTm := Lib.hid (HTm.out.below hb)
      replace HXm := Lib.hid (HXm.out.below hb)
      replace HTo := Lib.hid (HTo.out.below hb)
      replace HXo := Lib.hid (HXo.out.below hb)
      replace HB := Lib.hid (Below.andThen HB.out hb)
      obtain ⟨An, nn, cn, rfl, hx⟩ := hx
      rw [HXI.out] at hx
      have HI := Lib.hid (VI.mk hx)
      clear hx
      clear hb
      have hc0HT := HT.out.two.c0
      have hc1HT := HT.out.two.c1
      have hc0HT6 := HT6.out.two.c0
      have hc1HT6 := HT6.out.two.c1
      have hc0HTs := HTs.out.two.c0
      have hc1HTs := HTs.out.two.c1
      have hc0HTj := HTj.out.two.c0
      have hc1HTj := HTj.out.two.c1
      have hc0HTk := HTk.out.two.c0
      have hc1HTk := HTk.out.two.c1
      have hc0HTm := HTm.out.two.c0
      have hc1HTm := HTm.out.two.c1
      have hc0HTo := HTo.out.two.c0
      have hc1HTo := HTo.out.two.c1
      go_wp2_with fail
      clear hc0HT hc1HT hc0HT6 hc1HT6 hc0HTs hc1HTs hc0HTj hc1HTj hc0HTk hc1HTk hc0HTm hc1HTm hc0HTo hc1HTo
      refine (has_calls _ q _ _ _ xi _ HY.out HI.out.is).mono ?_
      rintro e w14 ⟨rfl, hb⟩
      replace HT := Lib.hid (HT.out.below hb)
      replace HT6 := Lib.hid (HT6.out.below hb)
      replace HX := Lib.hid (HX.out.below hb)
      replace HY := Lib.hid (HY.out.below hb)
      replace HL := Lib.hid (HL.out.below hb)
      replace HU := Lib.hid (HU.out.below hb)
      replace HTs := Lib.hid (HTs.out.below hb)
      replace HXs := Lib.hid (HXs.out.below hb)
      replace HTj := Lib.hid (HTj.out.below hb)
      replace HXj := Lib.hid (HXj.out.below hb)
      replace HTk := Lib.hid (HTk.out.below hb)
      replace HXk := Lib.hid (HXk.out.below hb)
      replace HTm := Lib.hid (HTm.out.below hb)
      replace HXm := Lib.hid (HXm.out.below hb)
      replace HTo := Lib.hid (HTo.out.below hb)
      replace HXo := Lib.hid (HXo.out.below hb)
      replace HI := Lib.hid (HI.out.below hb)
      replace HB := Lib.hid (Below.andThen HB.out hb)
      rw [HH1.out]
      clear hb
      have hc0HT := HT.out.two.c0
      have hc1HT := HT.out.two.c1
      have hc0HT6 := HT6.out.two.c0
      have hc1HT6 := HT6.out.two.c1
      have hc0HTs := HTs.out.two.c0
      have hc1HTs := HTs.out.two.c1
      have hc0HTj := HTj.out.two.c0
      have hc1HTj := HTj.out.two.c1
      have hc0HTk := HTk.out.two.c0
      have hc1HTk := HTk.out.two.c1
      have hc0HTm := HTm.out.two.c0
      have hc1HTm := HTm.out.two.c1
      have hc0HTo := HTo.out.two.c0
      have hc1HTo := HTo.out.two.c1
      go_wp2_with fail
      clear hc0HT hc1HT hc0HT6 hc1HT6 hc0HTs hc1HTs hc0HTj hc1HTj hc0HTk hc1HTk hc0HTm hc1HTm hc0HTo hc1HTo
      refine (has_calls _ mr.1 _ _ _ xi _ HXm.out HI.out.is).mono ?_
      rintro e w15 ⟨rfl, hb⟩
      replace HT := Lib.hid (HT.out.below hb)
      replace HT6 := Lib.hid (HT6.out.below hb)
      replace HX := Lib.hid (HX.out.below hb)
      replace HY := Lib.hid (HY.out.below hb)
      replace HL := Lib.hid (HL.out.below hb)
      replace HU := Lib.hid (HU.out.below hb)
      replace HTs := Lib.hid (HTs.out.below hb)
      replace HXs := Lib.hid (HXs.out.below hb)
      replace HTj := Lib.hid (HTj.out.below hb)
      replace HXj := Lib.hid (HXj.out.below hb)
      replace HTk := Lib.hid (HTk.out.below hb)
      replace HXk := Lib.hid (HXk.out.below hb)
      replace HTm := Lib.hid (HTm.out.below hb)
      replace HXm := Lib.hid (HXm.out.below hb)
      replace HTo := Lib.hid (HTo.out.below hb)
      replace HXo := Lib.hid (HXo.out.below hb)
      replace HI := Lib.hid (HI.out.below hb)
      replace HB := Lib.hid (Below.andThen HB.out hb)
      rw [HQ0.out]
      clear hb
      have hc0HT := HT.out.two.c0
      have hc1HT := HT.out.two.c1
      have hc0HT6 := HT6.out.two.c0
      have hc1HT6 := HT6.out.two.c1
      have hc0HTs := HTs.out.two.c0
      have hc1HTs := HTs.out.two.c1
      have hc0HTj := HTj.out.two.c0
      have hc1HTj := HTj.out.two.c1
      have hc0HTk := HTk.out.two.c0
      have hc1HTk := HTk.out.two.c1
      have hc0HTm := HTm.out.two.c0
      have hc1HTm := HTm.out.two.c1
      have hc0HTo := HTo.out.two.c0
      have hc1HTo := HTo.out.two.c1
      cases hq1
      all_goals
        go_wp2_with fail
        clear hc0HT hc1HT hc0HT6 hc1HT6 hc0HTs hc1HTs hc0HTj hc1HTj hc0HTk hc1HTk hc0HTm hc1HTm hc0HTo hc1HTo
        refine (has_calls _ jn _ _ _ xi _ HXj.out HI.out.is).mono ?_
        rintro e w16 ⟨rfl, hb⟩
        replace HT := Lib.hid (HT.out.below hb)
        replace HT6 := Lib.hid (HT6.out.below hb)
        replace HX := Lib.hid (HX.out.below hb)
        replace HY := Lib.hid (HY.out.below hb)
        replace HL := Lib.hid (HL.out.below hb)
        replace HU := Lib.hid (HU.out.below hb)
        replace HTs := Lib.hid (HTs.out.below hb)
        replace HXs := Lib.hid (HXs.out.below hb)
        replace HTj := Lib.hid (HTj.out.below hb)
        replace HXj := Lib.hid (HXj.out.below hb)
        replace HTk := Lib.hid (HTk.out.below hb)
        replace HXk := Lib.hid (HXk.out.below hb)
        replace HTm := Lib.hid (HTm.out.below hb)
        replace HXm := Lib.hid (HXm.out.below hb)
        replace HTo := Lib.hid (HTo.out.below hb)
        replace HXo := Lib.hid (HXo.out.below hb)
        replace HI := Lib.hid (HI.out.below hb)
        replace HB := Lib.hid (Below.andThen HB.out hb)
        rw [HH4.out]
        clear hb
        have hc0HT := HT.out.two.c0
        have hc1HT := HT.out.two.c1
        have hc0HT6 := HT6.out.two.c0
        have hc1HT6 := HT6.out.two.c1
        have hc0HTs := HTs.out.two.c0
        have hc1HTs := HTs.out.two.c1
        have hc0HTj := HTj.out.two.c0
        have hc1HTj := HTj.out.two.c1
        have hc0HTk := HTk.out.two.c0
        have hc1HTk := HTk.out.two.c1
        have hc0HTm := HTm.out.two.c0
        have hc1HTm := HTm.out.two.c1
        have hc0HTo := HTo.out.two.c0
        have hc1HTo := HTo.out.two.c1
        go_wp2_with fail
        clear hc0HT hc1HT hc0HT6 hc1HT6 hc0HTs hc1HTs hc0HTj hc1HTj hc0HTk hc1HTk hc0HTm hc1HTm hc0HTo hc1HTo
        refine (inside_calls _ _ mr.1 p _ HXm.out HX.out).mono ?_
        rintro e w17 ⟨rfl, hb⟩
        replace HT := Lib.hid (HT.out.below hb)
        replace HT6 := Lib.hid (HT6.out.below hb)
        replace HX := Lib.hid (HX.out.below hb)
        replace HY := Lib.hid (HY.out.below hb)
        replace HL := Lib.hid (HL.out.below hb)
        replace HU := Lib.hid (HU.out.below hb)
        replace HTs := Lib.hid (HTs.out.below hb)
        replace HXs := Lib.hid (HXs.out.below hb)
        replace HTj := Lib.hid (HTj.out.below hb)
        replace HXj := Lib.hid (HXj.out.below hb)
        replace HTk := Lib.hid (HTk.out.below hb)
        replace HXk := Lib.hid (HXk.out.below hb)
        replace HTm := Lib.hid (HTm.out.below hb)
        replace HXm := Lib.hid (HXm.out.below hb)
        replace HTo := Lib.hid (HTo.out.below hb)
        replace HXo := Lib.hid (HXo.out.below hb)
        replace HI := Lib.hid (HI.out.below hb)
        replace HB := Lib.hid (Below.andThen HB.out hb)
        rw [HQ5.out.1]
        clear hb
        have hc0HT := HT.out.two.c0
        have hc1HT := HT.out.two.c1
        have hc0HT6 := HT6.out.two.c0
        have hc1HT6 := HT6.out.two.c1
        have hc0HTs := HTs.out.two.c0
        have hc1HTs := HTs.out.two.c1
        have hc0HTj := HTj.out.two.c0
        have hc1HTj := HTj.out.two.c1
        have hc0HTk := HTk.out.two.c0
        have hc1HTk := HTk.out.two.c1
        have hc0HTm := HTm.out.two.c0
        have hc1HTm := HTm.out.two.c1
        have hc0HTo := HTo.out.two.c0
        have hc1HTo := HTo.out.two.c1
        go_wp2_with fail
        clear hc0HT hc1HT hc0HT6 hc1HT6 hc0HTs hc1HTs hc0HTj hc1HTj hc0HTk hc1HTk hc0HTm hc1HTm hc0HTo hc1HTo
        refine (inside_calls _ _ mr.1 q _ HXm.out HY.out).mono ?_
        rintro e w18 ⟨rfl, hb⟩
        replace HT := Lib.hid (HT.out.below hb)
        replace HT6 := Lib.hid (HT6.out.below hb)
        replace HX := Lib.hid (HX.out.below hb)
        replace HY := Lib.hid (HY.out.below hb)
        replace HL := Lib.hid (HL.out.below hb)
        replace HU := Lib.hid (HU.out.below hb)
        replace HTs := Lib.hid (HTs.out.below hb)
        replace HXs := Lib.hid (HXs.out.below hb)
        replace HTj := Lib.hid (HTj.out.below hb)
        replace HXj := Lib.hid (HXj.out.below hb)
        replace HTk := Lib.hid (HTk.out.below hb)
        replace HXk := Lib.hid (HXk.out.below hb)
        replace HTm := Lib.hid (HTm.out.below hb)
        replace HXm := Lib.hid (HXm.out.below hb)
        replace HTo := Lib.hid (HTo.out.below hb)
        replace HXo := Lib.hid (HXo.out.below hb)
        replace HI := Lib.hid (HI.out.below hb)
        replace HB := Lib.hid (Below.andThen HB.out hb)
        rw [HQ5.out.2]
        clear hb
        have hc0HT := HT.out.two.c0
        have hc1HT := HT.out.two.c1
        have hc0HT6 := HT6.out.two.c0
        have hc1HT6 := HT6.out.two.c1
        have hc0HTs := HTs.out.two.c0
        have hc1HTs := HTs.out.two.c1
        have hc0HTj := HTj.out.two.c0
        have hc1HTj := HTj.out.two.c1
        have hc0HTk := HTk.out.two.c0
        have hc1HTk := HTk.out.two.c1
        have hc0HTm := HTm.out.two.c0
        have hc1HTm := HTm.out.two.c1
        have hc0HTo := HTo.out.two.c0
        have hc1HTo := HTo.out.two.c1
        go_wp2_with fail
        clear hc0HT hc1HT hc0HT6 hc1HT6 hc0HTs hc1HTs hc0HTj hc1HTj hc0HTk hc1HTk hc0HTm hc1HTm hc0HTo hc1HTo
        refine (sanity_calls _).mono ?_
        rintro e w19 ⟨rfl, hb⟩
        replace HT := Lib.hid (HT.out.below hb)
        replace HT6 := Lib.hid (HT6.out.below hb)
        replace HX := Lib.hid (HX.out.below hb)
        replace HY := Lib.hid (HY.out.below hb)
        replace HL := Lib.hid (HL.out.below hb)
        replace HU := Lib.hid (HU.out.below hb)
        replace HTs := Lib.hid (HTs.out.below hb)
        replace HXs := Lib.hid (HXs.out.below hb)
        replace HTj := Lib.hid (HTj.out.below hb)
        replace HXj := Lib.hid (HXj.out.below hb)
        replace HTk := Lib.hid (HTk.out.below hb)
        replace HXk := Lib.hid (HXk.out.below hb)
        replace HTm := Lib.hid (HTm.out.below hb)
        replace HXm := Lib.hid (HXm.out.below hb)
        replace HTo := Lib.hid (HTo.out.below hb)
        replace HXo := Lib.hid (HXo.out.below hb)
        replace HI := Lib.hid (HI.out.below hb)
        replace HB := Lib.hid (Below.andThen HB.out hb)
        clear hb
        have hc0HT := HT.out.two.c0
        have hc1HT := HT.out.two.c1
        have hc0HT6 := HT6.out.two.c0
        have hc1HT6 := HT6.out.two.c1
        have hc0HTs := HTs.out.two.c0
        have hc1HTs := HTs.out.two.c1
        have hc0HTj := HTj.out.two.c0
        have hc1HTj := HTj.out.two.c1
        have hc0HTk := HTk.out.two.c0
        have hc1HTk := HTk.out.two.c1
        have hc0HTm := HTm.out.two.c0
        have hc1HTm := HTm.out.two.c1
        have hc0HTo := HTo.out.two.c0
        have hc1HTo := HTo.out.two.c1
        go_wp2_with fail
        clear hc0HT hc1HT hc0HT6 hc1HT6 hc0HTs hc1HTs hc0HTj hc1HTj hc0HTk hc1HTk hc0HTm hc1HTm hc0HTo hc1HTo
        refine (inside_calls _ _ p jn _ HX.out HXj.out).mono ?_
        rintro e w20 ⟨rfl, hb⟩
        replace HT := Lib.hid (HT.out.below hb)
        replace HT6 := Lib.hid (HT6.out.below hb)
        replace HX := Lib.hid (HX.out.below hb)
        replace HY := Lib.hid (HY.out.below hb)
        replace HL := Lib.hid (HL.out.below hb)
        replace HU := Lib.hid (HU.out.below hb)
        replace HTs := Lib.hid (HTs.out.below hb)
        replace HXs := Lib.hid (HXs.out.below hb)
        replace HTj := Lib.hid (HTj.out.below hb)
        replace HXj := Lib.hid (HXj.out.below hb)
        replace HTk := Lib.hid (HTk.out.below hb)
        replace HXk := Lib.hid (HXk.out.below hb)
        replace HTm := Lib.hid (HTm.out.below hb)
        replace HXm := Lib.hid (HXm.out.below hb)
        replace HTo := Lib.hid (HTo.out.below hb)
        replace HXo := Lib.hid (HXo.out.below hb)
        replace HI := Lib.hid (HI.out.below hb)
        replace HB := Lib.hid (Below.andThen HB.out hb)
        rw [HH6.out.1]
        clear hb
        have hc0HT := HT.out.two.c0
        have hc1HT := HT.out.two.c1
        have hc0HT6 := HT6.out.two.c0
        have hc1HT6 := HT6.out.two.c1
        have hc0HTs := HTs.out.two.c0
        have hc1HTs := HTs.out.two.c1
        have hc0HTj := HTj.out.two.c0
        have hc1HTj := HTj.out.two.c1
        have hc0HTk := HTk.out.two.c0
        have hc1HTk := HTk.out.two.c1
        have hc0HTm := HTm.out.two.c0
        have hc1HTm := HTm.out.two.c1
        have hc0HTo := HTo.out.two.c0
        have hc1HTo := HTo.out.two.c1
        go_wp2_with fail
        clear hc0HT hc1HT hc0HT6 hc1HT6 hc0HTs hc1HTs hc0HTj hc1HTj hc0HTk hc1HTk hc0HTm hc1HTm hc0HTo hc1HTo
        refine (inside_calls _ _ q jn _ HY.out HXj.out).mono ?_
        rintro e w21 ⟨rfl, hb⟩
        replace HT := Lib.hid (HT.out.below hb)
        replace HT6 := Lib.hid (HT6.out.below hb)
        replace HX := Lib.hid (HX.out.below hb)
        replace HY := Lib.hid (HY.out.below hb)
        replace HL := Lib.hid (HL.out.below hb)
        replace HU := Lib.hid (HU.out.below hb)
        replace HTs := Lib.hid (HTs.out.below hb)
        replace HXs := Lib.hid (HXs.out.below hb)
        replace HTj := Lib.hid (HTj.out.below hb)
        replace HXj := Lib.hid (HXj.out.below hb)
        replace HTk := Lib.hid (HTk.out.below hb)
        replace HXk := Lib.hid (HXk.out.below hb)
        replace HTm := Lib.hid (HTm.out.below hb)
        replace HXm := Lib.hid (HXm.out.below hb)
        replace HTo := Lib.hid (HTo.out.below hb)
        replace HXo := Lib.hid (HXo.out.below hb)
        replace HI := Lib.hid (HI.out.below hb)
        replace HB := Lib.hid (Below.andThen HB.out hb)
        rw [HH6.out.2]
        clear hb
        have hc0HT := HT.out.two.c0
        have hc1HT := HT.out.two.c1
        have hc0HT6 := HT6.out.two.c0
        have hc1HT6 := HT6.out.two.c1
        have hc0HTs := HTs.out.two.c0
        have hc1HTs := HTs.out.two.c1
        have hc0HTj := HTj.out.two.c0
        have hc1HTj := HTj.out.two.c1
        have hc0HTk := HTk.out.two.c0
        have hc1HTk := HTk.out.two.c1
        have hc0HTm := HTm.out.two.c0
        have hc1HTm := HTm.out.two.c1
        have hc0HTo := HTo.out.two.c0
        have hc1HTo := HTo.out.two.c1
        have HBE := HB.out
        go_wp2_with fail
        go_ret
        exact ⟨rfl, HBE⟩
  | some o =>
    rw [hof, Option.getD_some] at HXs
    simp only [Option.isSome_some, if_true]
    have hbo := boxOf hof
    have HBO := Lib.hid hbo
    have HLN : Hid (L.length = n) := HL.out.1
    obtain ⟨_, _, _, _, _, _, hxse, hxs1, hxs2⟩ := HXs.out
    simp only [Value.agg.injEq, Array.mk.injEq, List.cons.injEq, Value.slice.injEq, and_true] at hxse
    obtain ⟨⟨rfl, rfl, rfl⟩, rfl, rfl, rfl⟩ := hxse
    have HSL : Hid (o.1.length = sa2) := hxs1.1
    have HSL2 : Hid (sa5 = sa2) := by show _ = _; rw [← hxs2.1, ← hxs1.1]; exact hbo.box.len.symm
    have hsn := hxs1.2.1
    have hsm := hxs1.2.2.1
    have hsn2 := hxs2.2.1
    have hsm2 := hxs2.2.2.1
    have HF : Hid (HaF w w.heap.size (w.heap.size + 1) gs (.slice A1 n1 c1) (.slice A2 n2 c2) (.slice B1 m1 d1) (.slice B2 m2 d2) (.slice sa1 sa2 sa3) (.slice sa4 sa5 sa6) p q o A n c L A4 n4 c4 pk _) := ⟨HT.out, HT6.out, HTs.out, HX.out, HY.out, HXs.out, HL.out, HU.out, HB.out⟩
    clear hof hbo hxs1 hxs2 HT HT6 HTs HX HY HXs HL HU HB
    go_wp2_with fail
    clear hc0HT hc1HT hc0HT6 hc1HT6 hc0HTs hc1HTs
    go_loopg [11] n (fun g y wr => ∃ k : Nat, k + g = n ∧ y = .int .i64 (k : Int) ∧ HaF w w.heap.size (w.heap.size + 1) gs (.slice A1 n1 c1) (.slice A2 n2 c2) (.slice B1 m1 d1) (.slice B2 m2 d2) (.slice sa1 sa2 sa3) (.slice sa4 sa5 sa6) p q o A n c L A4 n4 c4 pk  wr)
    case atStart => exact ⟨0, by omega, rfl, HF.out⟩
    case round =>
      obtain ⟨k, hk, rfl, hF⟩ := hrel
      replace HF := Lib.hid hF
      have HK := Lib.hid hk
      have hkn : k ≤ n := by omega
      clear hk hF
      by_cases hlt : k < n
      ·
        obtain ⟨b, oo, A7, n7, c7, l7, rfl, hb7, hc7, hI7, hL7⟩ := isVV_get HF.out.l hlt
        have HAS : Hid (has o l7 = true) := HBO.out.all l7 (List.mem_of_getElem? hL7)
        have hki : (k : Int) < (n : Int) := by omega
        go_wp2_with fail
        refine wk.region_tailS 7 [.is (.agg #[.slice sa1 sa2 sa3, .slice sa4 sa5 sa6]), .is (.slice (some ⟨b, oo, none⟩) n c), .is (.int .i64 (k : Int)), .is (.pointer (some ⟨b, oo + k, none⟩)), .is (.slice A7 n7 c7), .is (.bool true), .is (.bool false)] [some 54, some 55, some 56, some 57, some 58, some 59, some 60] (by kernel_rfl) (by kernel_rfl) (by kernel_rfl) (by kernel_rfl) [] (by kernel_rfl) (by intro p hp; cases hp) (by kernel_rfl) (by kernel_rfl) ?hstep ?hdone
        case hstep =>
          intro i o ho hi hns E w4 hb4 D
          have hi2 : i = 0 ∨ i = 1 ∨ i = 2 ∨ i = 3 ∨ i = 4 ∨ i = 5 ∨ i = 6 := by omega
          clear hi
          rcases hi2 with rfl | rfl | rfl | rfl | rfl | rfl | rfl
          ·
            have ho2 := (Array.getElem?_eq_some_iff.1 ho).2
            simp only [List.getElem_toArray, List.getElem_cons_zero] at ho2
            subst ho2
            clear ho
            have e9 := D.old 9 (by kernel_rfl)
            exact wk.does_load_row rfl (by rw [e9]; rfl) (HF.out.t9.below ((Below.refl _ _).drew.trans hb4)) Try.underlying25 rfl (by kernel_rfl) rfl
          ·
            have ho2 := (Array.getElem?_eq_some_iff.1 ho).2
            simp only [List.getElem_toArray, List.getElem_cons_succ, List.getElem_cons_zero] at ho2
            subst ho2
            clear ho
            have e0 := D.old 0 (by kernel_rfl)
            exact wk.does_move rfl (by rw [e0]; rfl)
          ·
            have ho2 := (Array.getElem?_eq_some_iff.1 ho).2
            simp only [List.getElem_toArray, List.getElem_cons_succ, List.getElem_cons_zero] at ho2
            subst ho2
            clear ho
            have e11 := D.old 11 (by kernel_rfl)
            exact wk.does_move rfl (by rw [e11]; rfl)
          ·
            have ho2 := (Array.getElem?_eq_some_iff.1 ho).2
            simp only [List.getElem_toArray, List.getElem_cons_succ, List.getElem_cons_zero] at ho2
            subst ho2
            clear ho
            have e55 := D.is { on := 1, ground := .data } (by simp) rfl rfl 55 rfl
            have e56 := D.is { on := 2, ground := .data } (by simp) rfl rfl 56 rfl
            exact wk.does_run (by simp only [execOp, resolve, List.map_toArray, List.map_cons, List.map_nil]; rw [e55, e56]; go_simp) rfl
          ·
            have ho2 := (Array.getElem?_eq_some_iff.1 ho).2
            simp only [List.getElem_toArray, List.getElem_cons_succ, List.getElem_cons_zero] at ho2
            subst ho2
            clear ho
            have e57 := D.is { on := 3, ground := .data } (by simp) rfl rfl 57 rfl
            exact wk.does_load1 rfl e57 ((((Below.refl _ _).drew.trans hb4 : Below wr.heap.size wr w4).cell (p := ⟨_, _, none⟩) hb7).trans hc7) Try.underlying23 rfl rfl
          ·
            have ho2 := (Array.getElem?_eq_some_iff.1 ho).2
            simp only [List.getElem_toArray, List.getElem_cons_succ, List.getElem_cons_zero] at ho2
            subst ho2
            clear ho
            have e54 := D.is { on := 0, ground := .data } (by simp) rfl rfl 54 rfl
            have e58 := D.is { on := 4, ground := .data } (by simp) rfl rfl 58 rfl
            refine wk.does_fn (f := 33) (vs := #[.agg #[.slice sa1 sa2 sa3, .slice sa4 sa5 sa6], .slice A7 n7 c7]) rfl (D.fn _) (by simp [e54, e58]) (by go_simp) ?_
            refine (has_calls _ o _ _ _ l7 w4 (HF.out.o.below ((Below.refl _ _).drew.trans hb4)) (isI_below hI7 ((Below.refl _ _).drew.trans hb4))).mono ?_
            rintro e w7 ⟨rfl, hb7'⟩
            rw [HAS.out]
            exact ⟨_, rfl, hb7', rfl⟩
          ·
            have ho2 := (Array.getElem?_eq_some_iff.1 ho).2
            simp only [List.getElem_toArray, List.getElem_cons_succ, List.getElem_cons_zero] at ho2
            subst ho2
            clear ho
            have e59 := D.is { on := 5, ground := .data } (by simp) rfl rfl 59 rfl
            exact wk.does_run (by simp only [execOp, resolve, List.map_toArray, List.map_cons, List.map_nil]; rw [e59]; go_simp) rfl
        case hdone =>
          intro vals w4 hb4 hv
          have h6 := hv 6 (by omega)
          clear hv
          replace h6 : vals 6 = (.bool false) := h6
          simp only [List.drop_succ_cons, List.drop_zero, wpList, wk.setL, List.setIfInBounds_toArray, List.set_cons_zero, List.set_cons_succ, Nat.zero_add, Nat.reduceAdd, h6]
          generalize vals 0 = x0
          generalize vals 1 = x1
          generalize vals 2 = x2
          generalize vals 3 = x3
          generalize vals 4 = x4
          generalize vals 5 = x5
          have hb := ((Below.refl _ _).drew.trans hb4 : Below wr.heap.size wr w4)
          have HF2 := Lib.hid (HF.out.below hb)
          clear hb4 hb
          go_wp2_with fail
          go_roundg (gk - 1)
          case measure => have := HK.out; omega
          case rel => exact ⟨k + 1, by have := HK.out; omega, by go_num, HF2.out⟩
      ·
        obtain rfl : k = n := by omega
        clear hlt hkn HK
        have hc0 := HF.out.t5.two.c0
        have hc1 := HF.out.t5.two.c1
        have hc2 := HF.out.t6.two.c0
        have hc3 := HF.out.t6.two.c1
        have hc4 := HF.out.t9.two.c0
        have hc5 := HF.out.t9.two.c1
        go_wp2_with fail
        clear hc0 hc1 hc2 hc3 hc4 hc5
        go_loopg [12] sa2 (fun g y wr => ∃ i : Nat, i + g = sa2 ∧ y = .int .i64 (i : Int) ∧ HaF w w.heap.size (w.heap.size + 1) gs (.slice A1 n1 c1) (.slice A2 n2 c2) (.slice B1 m1 d1) (.slice B2 m2 d2) (.slice sa1 sa2 sa3) (.slice sa4 sa5 sa6) p q o A k c L A4 n4 c4 pk  wr)
        case atStart => exact ⟨0, by omega, rfl, HF.out⟩
        case round =>
          obtain ⟨i, hi, rfl, hF⟩ := hrel
          replace HF := Lib.hid hF
          have HK := Lib.hid hi
          have hin : i ≤ sa2 := by omega
          clear hi hF
          have hc0 := HF.out.t5.two.c0
          have hc1 := HF.out.t5.two.c1
          have hc2 := HF.out.t6.two.c0
          have hc3 := HF.out.t6.two.c1
          have hc4 := HF.out.t9.two.c0
          have hc5 := HF.out.t9.two.c1
          by_cases hlt : i < sa2
          ·
            have hii : (i : Int) < (sa2 : Int) := by omega
            go_wp2_with fail
            clear hc0 hc1 hc2 hc3 hc4 hc5
            go_loopg [13, 14, 15] k (fun g lo hi y wr => ∃ (j : Nat) (bl bh : Bool), j + g = k ∧ y = .int .i64 (j : Int) ∧ lo = .bool bl ∧ hi = .bool bh ∧ bl = (L.take j).any (fun l => at' l i == at' o.1 i) ∧ bh = (L.take j).any (fun l => at' l i == at' o.2 i) ∧ HaF w w.heap.size (w.heap.size + 1) gs (.slice A1 n1 c1) (.slice A2 n2 c2) (.slice B1 m1 d1) (.slice B2 m2 d2) (.slice sa1 sa2 sa3) (.slice sa4 sa5 sa6) p q o A k c L A4 n4 c4 pk  wr)
            case atStart => exact ⟨0, false, false, by omega, rfl, rfl, rfl, rfl, rfl, HF.out⟩
            case round =>
              obtain ⟨j, bl, bh, hj, rfl, rfl, rfl, hbl, hbh, hF⟩ := hrel
              replace HF := Lib.hid hF
              have HKJ := Lib.hid hj
              have hjn : j ≤ k := by omega
              have HBL := Lib.hid hbl
              have HBH := Lib.hid hbh
              clear hj hF hbl hbh
              by_cases hlt2 : j < k
              ·
                obtain ⟨b, oo, A7, n7, c7, l7, rfl, hb7, hc7, hI7, hL7⟩ := isVV_get HF.out.l hlt2
                have hl7 := ((has_iff HBO.out.box).1 (HBO.out.all l7 (List.mem_of_getElem? hL7))).1
                have hn7 : n7 = sa2 := by rw [← hI7.1, hl7, HSL.out]
                have hnc7 := hI7.2.1
                have hmc7 := hI7.2.2.1
                obtain ⟨b7, o7, rfl, hc8, hb8⟩ := isI_get hI7 (k := i) (by omega)
                have HT1 : Hid ((L.take (j + 1)).any (fun l => at' l i == at' o.1 i) = ((L.take j).any (fun l => at' l i == at' o.1 i) || (at' l7 i == at' o.1 i))) := by
                  show _ = _
                  rw [List.take_add_one, hL7, Option.toList_some, List.any_append]
                  simp
                have HT2 : Hid ((L.take (j + 1)).any (fun l => at' l i == at' o.2 i) = ((L.take j).any (fun l => at' l i == at' o.2 i) || (at' l7 i == at' o.2 i))) := by
                  show _ = _
                  rw [List.take_add_one, hL7, Option.toList_some, List.any_append]
                  simp
                obtain ⟨_, _, _, _, _, _, hxse, hxs1, hxs2⟩ := HF.out.o
                simp only [Value.agg.injEq, Array.mk.injEq, List.cons.injEq, Value.slice.injEq, and_true] at hxse
                obtain ⟨⟨rfl, rfl, rfl⟩, rfl, rfl, rfl⟩ := hxse
                have hs52 := HSL2.out
                obtain ⟨b9, o9, rfl, hc9, hb9⟩ := isI_get hxs1 (k := i) hlt
                obtain ⟨b10, o10, rfl, hc10, hb10⟩ := isI_get hxs2 (k := i) (by omega)
                obtain ⟨x, hx⟩ : ∃ x, at' l7 i = x := ⟨_, rfl⟩
                obtain ⟨y1, hy1⟩ : ∃ y1, at' o.1 i = y1 := ⟨_, rfl⟩
                obtain ⟨y2, hy2⟩ : ∃ y2, at' o.2 i = y2 := ⟨_, rfl⟩
                rw [hx] at hc8
                rw [hy1] at hc9
                rw [hy2] at hc10
                have HXE := Lib.hid hx
                have HY1 := Lib.hid hy1
                have HY2 := Lib.hid hy2
                have hc4 := HF.out.t9.two.c0
                have hc5 := HF.out.t9.two.c1
                have hji : (j : Int) < (k : Int) := by omega
                have hi7 : (i : Int) < (n7 : Int) := by omega
                have hi5 : (i : Int) < (sa5 : Int) := by omega
                have hi7n : i < n7 := by omega
                have hi5n : i < sa5 := by omega
                clear hxs1 hxs2 hL7 hI7 hl7 hx hy1 hy2
                cases bl <;> cases bh
                ·
                  go_wp2_with fail
                  go_quiet (fail)
                  go_wp2_with fail
                  go_quiet (fail)
                  go_wp2_with fail
                  go_roundg (gk - 1)
                  case measure => have := HKJ.out; omega
                  case rel =>
                    refine ⟨j + 1, (x == y1), (x == y2), by have := HKJ.out; omega, by go_num, by first | rfl | simp, by first | rfl | simp, ?_, ?_, ?_⟩
                    · rw [HT1.out, ← HBL.out, HXE.out, HY1.out, Bool.false_or]
                    · rw [HT2.out, ← HBH.out, HXE.out, HY2.out, Bool.false_or]
                    · first | exact HF.out.below (below_dr (Below.refl _ _) _) | exact HF.out.below (below_dr (below_dr (Below.refl _ _) _) _)
                ·
                  go_wp2_with fail
                  go_quiet (fail)
                  go_wp2_with fail
                  go_quiet (fail)
                  go_wp2_with fail
                  go_roundg (gk - 1)
                  case measure => have := HKJ.out; omega
                  case rel =>
                    refine ⟨j + 1, (x == y1), true, by have := HKJ.out; omega, by go_num, by first | rfl | simp, by first | rfl | simp, ?_, ?_, ?_⟩
                    · rw [HT1.out, ← HBL.out, HXE.out, HY1.out, Bool.false_or]
                    · rw [HT2.out, ← HBH.out, HXE.out, HY2.out, Bool.true_or]
                    · first | exact HF.out.below (below_dr (Below.refl _ _) _) | exact HF.out.below (below_dr (below_dr (Below.refl _ _) _) _)
                ·
                  go_wp2_with fail
                  go_quiet (fail)
                  go_wp2_with fail
                  go_quiet (fail)
                  go_wp2_with fail
                  go_roundg (gk - 1)
                  case measure => have := HKJ.out; omega
                  case rel =>
                    refine ⟨j + 1, true, (x == y2), by have := HKJ.out; omega, by go_num, by first | rfl | simp, by first | rfl | simp, ?_, ?_, ?_⟩
                    · rw [HT1.out, ← HBL.out, HXE.out, HY1.out, Bool.true_or]
                    · rw [HT2.out, ← HBH.out, HXE.out, HY2.out, Bool.false_or]
                    · first | exact HF.out.below (below_dr (Below.refl _ _) _) | exact HF.out.below (below_dr (below_dr (Below.refl _ _) _) _)
                ·
                  go_wp2_with fail
                  go_quiet (fail)
                  go_wp2_with fail
                  go_quiet (fail)
                  go_wp2_with fail
                  go_roundg (gk - 1)
                  case measure => have := HKJ.out; omega
                  case rel =>
                    refine ⟨j + 1, true, true, by have := HKJ.out; omega, by go_num, by first | rfl | simp, by first | rfl | simp, ?_, ?_, ?_⟩
                    · rw [HT1.out, ← HBL.out, HXE.out, HY1.out, Bool.true_or]
                    · rw [HT2.out, ← HBH.out, HXE.out, HY2.out, Bool.true_or]
                    · first | exact HF.out.below (below_dr (Below.refl _ _) _) | exact HF.out.below (below_dr (below_dr (Below.refl _ _) _) _)
              ·
                obtain rfl : j = k := by omega
                have hbl : bl = true := by
                  obtain ⟨u9, h1, h2⟩ := HBO.out.lo i (by rw [HSL.out]; exact hlt)
                  rw [HBL.out, List.take_of_length_le (Nat.le_of_eq HLN.out), List.any_eq_true]
                  exact ⟨u9, h1, by simp [h2]⟩
                have hbh : bh = true := by
                  obtain ⟨u9, h1, h2⟩ := HBO.out.hi i (by rw [HSL.out]; exact hlt)
                  rw [HBH.out, List.take_of_length_le (Nat.le_of_eq HLN.out), List.any_eq_true]
                  exact ⟨u9, h1, by simp [h2]⟩
                subst hbl hbh
                go_wp2_with fail
                go_roundg (sa2 - (i + 1))
                case measure => have := HK.out; omega
                case rel => exact ⟨i + 1, by have := HK.out; omega, by go_num, HF.out⟩
          ·
            have HT := Lib.hid HF.out.t5
            have HT6 := Lib.hid HF.out.t6
            have HX := Lib.hid HF.out.x
            have HY := Lib.hid HF.out.y
            have HU := Lib.hid HF.out.un
            have HB := Lib.hid HF.out.b
            have HT9 := Lib.hid HF.out.t9
            clear HF hc0 hc1 hc2 hc3 hc4 hc5
            have hc0HT := HT.out.two.c0
            have hc1HT := HT.out.two.c1
            have hc0HT6 := HT6.out.two.c0
            have hc1HT6 := HT6.out.two.c1
            have hc0HT9 := HT9.out.two.c0
            have hc1HT9 := HT9.out.two.c1
            have hii : ¬ (i : Int) < (sa2 : Int) := by omega
            obtain rfl : i = sa2 := by omega
            go_wp2_with fail
            clear hc0HT hc1HT hc0HT6 hc1HT6 hc0HT9 hc1HT9
            refine (valid_calls _ p _ HX.out).mono ?_
            rintro e w5 ⟨rfl, hb⟩
            replace HT := Lib.hid (HT.out.below hb)
            replace HT6 := Lib.hid (HT6.out.below hb)
            replace HX := Lib.hid (HX.out.below hb)
            replace HY := Lib.hid (HY.out.below hb)
            replace HU := Lib.hid (HU.out.below hb)
            replace HT9 := Lib.hid (HT9.out.below hb)
            replace HB := Lib.hid (Below.andThen HB.out hb)
            clear hb
            have hc0HT := HT.out.two.c0
            have hc1HT := HT.out.two.c1
            have hc0HT6 := HT6.out.two.c0
            have hc1HT6 := HT6.out.two.c1
            have hc0HT9 := HT9.out.two.c0
            have hc1HT9 := HT9.out.two.c1
            cases hval : bvalid p
            ·
              go_wp2_with fail
              clear hc0HT hc1HT hc0HT6 hc1HT6 hc0HT9 hc1HT9
              refine (sanity_calls _).mono ?_
              rintro e w' ⟨rfl, hb⟩
              have HBZ := Lib.hid (Below.andThen HB.out hb)
              clear hb
              go_wp2_with fail
              go_ret
              exact ⟨rfl, HBZ.out⟩
            go_wp2_with fail
            clear hc0HT hc1HT hc0HT6 hc1HT6 hc0HT9 hc1HT9
            refine (valid_calls _ q _ HY.out).mono ?_
            rintro e w6 ⟨rfl, hb⟩
            replace HT := Lib.hid (HT.out.below hb)
            replace HT6 := Lib.hid (HT6.out.below hb)
            replace HX := Lib.hid (HX.out.below hb)
            replace HY := Lib.hid (HY.out.below hb)
            replace HU := Lib.hid (HU.out.below hb)
            replace HT9 := Lib.hid (HT9.out.below hb)
            replace HB := Lib.hid (Below.andThen HB.out hb)
            clear hb
            have hc0HT := HT.out.two.c0
            have hc1HT := HT.out.two.c1
            have hc0HT6 := HT6.out.two.c0
            have hc1HT6 := HT6.out.two.c1
            have hc0HT9 := HT9.out.two.c0
            have hc1HT9 := HT9.out.two.c1
            cases hval2 : bvalid q
            ·
              go_wp2_with fail
              clear hc0HT hc1HT hc0HT6 hc1HT6 hc0HT9 hc1HT9
              refine (sanity_calls _).mono ?_
              rintro e w' ⟨rfl, hb⟩
              have HBZ := Lib.hid (Below.andThen HB.out hb)
              clear hb
              go_wp2_with fail
              go_ret
              exact ⟨rfl, HBZ.out⟩
            by_cases hnm : n1 ≠ m1
            ·
              have hnm' : ¬ ((n1 : Int) = (m1 : Int)) := by omega
              go_wp2_with fail
              clear hc0HT hc1HT hc0HT6 hc1HT6 hc0HT9 hc1HT9
              refine (sanity_calls _).mono ?_
              rintro e w' ⟨rfl, hb⟩
              have HBZ := Lib.hid (Below.andThen HB.out hb)
              clear hb
              go_wp2_with fail
              go_ret
              exact ⟨rfl, HBZ.out⟩
            obtain rfl : n1 = m1 := by omega
            clear hnm
            have hp := bvalid_iff.1 hval
            have hq := bvalid_iff.1 hval2
            have hpq : p.1.length = q.1.length := by rw [HN1.out, HM1.out]
            have hal1 : balike p q = true := balike_iff.2 ⟨hpq, hp, hq⟩
            have hal2 : balike q p = true := balike_iff.2 ⟨hpq.symm, hq, hp⟩
            obtain ⟨jn, hjn⟩ : ∃ jn, join p q = jn := ⟨_, rfl⟩
            have hjn2 : join q p = jn := by rw [← hjn]; exact (join_comm hp hq hpq).symm
            obtain ⟨mr, hmr⟩ : ∃ mr, meetR p q = mr := ⟨_, rfl⟩
            have hmr2 : meetR q p = mr := by
              rw [← hmr]
              unfold meetR
              rw [if_pos hal1, if_pos hal2, meet_comm hp hq hpq]
            have hm0 : mr.2.1 = bvalid (meet p q) ∧ mr.2.2 = 0 ∧ (bvalid (meet p q) = true → mr.1 = meet p q) := by
              rw [← hmr]
              unfold meetR
              rw [if_pos hal1]
              cases hb : bvalid (meet p q) <;> simp
            obtain ⟨is, his⟩ : ∃ is, bvalid (meet p q) = is := ⟨_, rfl⟩
            rw [his] at hm0
            have HP := Lib.hid hp
            have HQ := Lib.hid hq
            have HPQ := Lib.hid hpq
            have HA1 := Lib.hid hal1
            have HA2 := Lib.hid hal2
            have HJ := Lib.hid hjn
            have HJ2 := Lib.hid hjn2
            have HM := Lib.hid hmr
            have HM2 := Lib.hid hmr2
            have HM0 := Lib.hid hm0
            have HIS := Lib.hid his
            clear hp hq hpq hal1 hal2 hjn hjn2 hmr hmr2 hm0 his hval hval2
            go_wp2_with fail
            clear hc0HT hc1HT hc0HT6 hc1HT6 hc0HT9 hc1HT9
            refine (join_calls _ _ p q _ HX.out HY.out).mono ?_
            rintro e w7 ⟨x, rfl, hx, hb⟩
            replace HT := Lib.hid (HT.out.below hb)
            replace HT6 := Lib.hid (HT6.out.below hb)
            replace HX := Lib.hid (HX.out.below hb)
            replace HY := Lib.hid (HY.out.below hb)
            replace HU := Lib.hid (HU.out.below hb)
            replace HT9 := Lib.hid (HT9.out.below hb)
            replace HB := Lib.hid (Below.andThen HB.out hb)
            rw [if_pos HA1.out, HJ.out] at hx
            rw [if_pos HA1.out]
            obtain ⟨ja1, ja2, ja3, ja4, ja5, ja6, rfl, h1, h2⟩ := hx
            have HXj : Hid (IsX _ (.agg #[.slice ja1 ja2 ja3, .slice ja4 ja5 ja6]) jn) := ⟨_, _, _, _, _, _, rfl, h1, h2⟩
            clear h1 h2
            clear hb
            have hc0HT := HT.out.two.c0
            have hc1HT := HT.out.two.c1
            have hc0HT6 := HT6.out.two.c0
            have hc1HT6 := HT6.out.two.c1
            have hc0HT9 := HT9.out.two.c0
            have hc1HT9 := HT9.out.two.c1
            have HTj := Lib.hid (TwoX.new w7 (.slice ja1 ja2 ja3) (.slice ja4 ja5 ja6))
            replace HXj := Lib.hid (HXj.out.below (below_new _ (.cells #[.slice ja1 ja2 ja3, .slice ja4 ja5 ja6] 25)))
            replace HT := Lib.hid (HT.out.below (below_new _ (.cells #[.slice ja1 ja2 ja3, .slice ja4 ja5 ja6] 25)))
            replace HT6 := Lib.hid (HT6.out.below (below_new _ (.cells #[.slice ja1 ja2 ja3, .slice ja4 ja5 ja6] 25)))
            replace HX := Lib.hid (HX.out.below (below_new _ (.cells #[.slice ja1 ja2 ja3, .slice ja4 ja5 ja6] 25)))
            replace HY := Lib.hid (HY.out.below (below_new _ (.cells #[.slice ja1 ja2 ja3, .slice ja4 ja5 ja6] 25)))
            replace HU := Lib.hid (HU.out.below (below_new _ (.cells #[.slice ja1 ja2 ja3, .slice ja4 ja5 ja6] 25)))
            replace HT9 := Lib.hid (HT9.out.below (below_new _ (.cells #[.slice ja1 ja2 ja3, .slice ja4 ja5 ja6] 25)))
            replace HB := Lib.hid (Below.andThen HB.out (below_new _ (.cells #[.slice ja1 ja2 ja3, .slice ja4 ja5 ja6] 25)))
            obtain ⟨gj, hgj⟩ : ∃ gj, w7.heap.size = gj := ⟨_, rfl⟩
            rw [hgj] at HTj
            simp only [hgj]
            clear hc0HT hc1HT hc0HT6 hc1HT6 hc0HT9 hc1HT9
            have hc0HT := HT.out.two.c0
            have hc1HT := HT.out.two.c1
            have hc0HT6 := HT6.out.two.c0
            have hc1HT6 := HT6.out.two.c1
            have hc0HT9 := HT9.out.two.c0
            have hc1HT9 := HT9.out.two.c1
            have hc0HTj := HTj.out.two.c0
            have hc1HTj := HTj.out.two.c1
            go_wp2_with fail
            clear hc0HT hc1HT hc0HT6 hc1HT6 hc0HT9 hc1HT9 hc0HTj hc1HTj
            refine (join_calls _ _ q p _ HY.out HX.out).mono ?_
            rintro e w8 ⟨x, rfl, hx, hb⟩
            replace HT := Lib.hid (HT.out.below hb)
            replace HT6 := Lib.hid (HT6.out.below hb)
            replace HX := Lib.hid (HX.out.below hb)
            replace HY := Lib.hid (HY.out.below hb)
            replace HU := Lib.hid (HU.out.below hb)
            replace HT9 := Lib.hid (HT9.out.below hb)
            replace HTj := Lib.hid (HTj.out.below hb)
            replace HXj := Lib.hid (HXj.out.below hb)
            replace HB := Lib.hid (Below.andThen HB.out hb)
            rw [if_pos HA2.out, HJ2.out] at hx
            rw [if_pos HA2.out]
            obtain ⟨ka1, ka2, ka3, ka4, ka5, ka6, rfl, h1, h2⟩ := hx
            have HXk : Hid (IsX _ (.agg #[.slice ka1 ka2 ka3, .slice ka4 ka5 ka6]) jn) := ⟨_, _, _, _, _, _, rfl, h1, h2⟩
            clear h1 h2
            clear hb
            have hc0HT := HT.out.two.c0
            have hc1HT := HT.out.two.c1
            have hc0HT6 := HT6.out.two.c0
            have hc1HT6 := HT6.out.two.c1
            have hc0HT9 := HT9.out.two.c0
            have hc1HT9 := HT9.out.two.c1
            have hc0HTj := HTj.out.two.c0
            have hc1HTj := HTj.out.two.c1
            have HTk := Lib.hid (TwoX.new w8 (.slice ka1 ka2 ka3) (.slice ka4 ka5 ka6))
            replace HXk := Lib.hid (HXk.out.below (below_new _ (.cells #[.slice ka1 ka2 ka3, .slice ka4 ka5 ka6] 25)))
            replace HT := Lib.hid (HT.out.below (below_new _ (.cells #[.slice ka1 ka2 ka3, .slice ka4 ka5 ka6] 25)))
            replace HT6 := Lib.hid (HT6.out.below (below_new _ (.cells #[.slice ka1 ka2 ka3, .slice ka4 ka5 ka6] 25)))
            replace HX := Lib.hid (HX.out.below (below_new _ (.cells #[.slice ka1 ka2 ka3, .slice ka4 ka5 ka6] 25)))
            replace HY := Lib.hid (HY.out.below (below_new _ (.cells #[.slice ka1 ka2 ka3, .slice ka4 ka5 ka6] 25)))
            replace HU := Lib.hid (HU.out.below (below_new _ (.cells #[.slice ka1 ka2 ka3, .slice ka4 ka5 ka6] 25)))
            replace HT9 := Lib.hid (HT9.out.below (below_new _ (.cells #[.slice ka1 ka2 ka3, .slice ka4 ka5 ka6] 25)))
            replace HTj := Lib.hid (HTj.out.below (below_new _ (.cells #[.slice ka1 ka2 ka3, .slice ka4 ka5 ka6] 25)))
            replace HXj := Lib.hid (HXj.out.below (below_new _ (.cells #[.slice ka1 ka2 ka3, .slice ka4 ka5 ka6] 25)))
            replace HB := Lib.hid (Below.andThen HB.out (below_new _ (.cells #[.slice ka1 ka2 ka3, .slice ka4 ka5 ka6] 25)))
            obtain ⟨gk, hgk⟩ : ∃ gk, w8.heap.size = gk := ⟨_, rfl⟩
            rw [hgk] at HTk
            simp only [hgk]
            clear hc0HT hc1HT hc0HT6 hc1HT6 hc0HT9 hc1HT9 hc0HTj hc1HTj
            have hc0HT := HT.out.two.c0
            have hc1HT := HT.out.two.c1
            have hc0HT6 := HT6.out.two.c0
            have hc1HT6 := HT6.out.two.c1
            have hc0HT9 := HT9.out.two.c0
            have hc1HT9 := HT9.out.two.c1
            have hc0HTj := HTj.out.two.c0
            have hc1HTj := HTj.out.two.c1
            have hc0HTk := HTk.out.two.c0
            have hc1HTk := HTk.out.two.c1
            go_wp2_with fail
            clear hc0HT hc1HT hc0HT6 hc1HT6 hc0HT9 hc1HT9 hc0HTj hc1HTj hc0HTk hc1HTk
            refine (meet_calls _ _ p q _ HX.out HY.out).mono ?_
            rintro e w9 ⟨x, rfl, hx, hb⟩
            replace HT := Lib.hid (HT.out.below hb)
            replace HT6 := Lib.hid (HT6.out.below hb)
            replace HX := Lib.hid (HX.out.below hb)
            replace HY := Lib.hid (HY.out.below hb)
            replace HU := Lib.hid (HU.out.below hb)
            replace HT9 := Lib.hid (HT9.out.below hb)
            replace HTj := Lib.hid (HTj.out.below hb)
            replace HXj := Lib.hid (HXj.out.below hb)
            replace HTk := Lib.hid (HTk.out.below hb)
            replace HXk := Lib.hid (HXk.out.below hb)
            replace HB := Lib.hid (Below.andThen HB.out hb)
            rw [HM.out] at hx
            rw [HM.out, HM0.out.1, HM0.out.2.1]
            obtain ⟨ma1, ma2, ma3, ma4, ma5, ma6, rfl, h1, h2⟩ := hx
            have HXm : Hid (IsX _ (.agg #[.slice ma1 ma2 ma3, .slice ma4 ma5 ma6]) mr.1) := ⟨_, _, _, _, _, _, rfl, h1, h2⟩
            clear h1 h2
            clear hb
            have hc0HT := HT.out.two.c0
            have hc1HT := HT.out.two.c1
            have hc0HT6 := HT6.out.two.c0
            have hc1HT6 := HT6.out.two.c1
            have hc0HT9 := HT9.out.two.c0
            have hc1HT9 := HT9.out.two.c1
            have hc0HTj := HTj.out.two.c0
            have hc1HTj := HTj.out.two.c1
            have hc0HTk := HTk.out.two.c0
            have hc1HTk := HTk.out.two.c1
            have HTm := Lib.hid (TwoX.new w9 (.slice ma1 ma2 ma3) (.slice ma4 ma5 ma6))
            replace HXm := Lib.hid (HXm.out.below (below_new _ (.cells #[.slice ma1 ma2 ma3, .slice ma4 ma5 ma6] 25)))
            replace HT := Lib.hid (HT.out.below (below_new _ (.cells #[.slice ma1 ma2 ma3, .slice ma4 ma5 ma6] 25)))
            replace HT6 := Lib.hid (HT6.out.below (below_new _ (.cells #[.slice ma1 ma2 ma3, .slice ma4 ma5 ma6] 25)))
            replace HX := Lib.hid (HX.out.below (below_new _ (.cells #[.slice ma1 ma2 ma3, .slice ma4 ma5 ma6] 25)))
            replace HY := Lib.hid (HY.out.below (below_new _ (.cells #[.slice ma1 ma2 ma3, .slice ma4 ma5 ma6] 25)))
            replace HU := Lib.hid (HU.out.below (below_new _ (.cells #[.slice ma1 ma2 ma3, .slice ma4 ma5 ma6] 25)))
            replace HT9 := Lib.hid (HT9.out.below (below_new _ (.cells #[.slice ma1 ma2 ma3, .slice ma4 ma5 ma6] 25)))
            replace HTj := Lib.hid (HTj.out.below (below_new _ (.cells #[.slice ma1 ma2 ma3, .slice ma4 ma5 ma6] 25)))
            replace HXj := Lib.hid (HXj.out.below (below_new _ (.cells #[.slice ma1 ma2 ma3, .slice ma4 ma5 ma6] 25)))
            replace HTk := Lib.hid (HTk.out.below (below_new _ (.cells #[.slice ma1 ma2 ma3, .slice ma4 ma5 ma6] 25)))
            replace HXk := Lib.hid (HXk.out.below (below_new _ (.cells #[.slice ma1 ma2 ma3, .slice ma4 ma5 ma6] 25)))
            replace HB := Lib.hid (Below.andThen HB.out (below_new _ (.cells #[.slice ma1 ma2 ma3, .slice ma4 ma5 ma6] 25)))
            obtain ⟨gm, hgm⟩ : ∃ gm, w9.heap.size = gm := ⟨_, rfl⟩
            rw [hgm] at HTm
            simp only [hgm]
            clear hc0HT hc1HT hc0HT6 hc1HT6 hc0HT9 hc1HT9 hc0HTj hc1HTj hc0HTk hc1HTk
            have hc0HT := HT.out.two.c0
            have hc1HT := HT.out.two.c1
            have hc0HT6 := HT6.out.two.c0
            have hc1HT6 := HT6.out.two.c1
            have hc0HT9 := HT9.out.two.c0
            have hc1HT9 := HT9.out.two.c1
            have hc0HTj := HTj.out.two.c0
            have hc1HTj := HTj.out.two.c1
            have hc0HTk := HTk.out.two.c0
            have hc1HTk := HTk.out.two.c1
            have hc0HTm := HTm.out.two.c0
            have hc1HTm := HTm.out.two.c1
            go_wp2_with fail
            clear hc0HT hc1HT hc0HT6 hc1HT6 hc0HT9 hc1HT9 hc0HTj hc1HTj hc0HTk hc1HTk hc0HTm hc1HTm
            refine (meet_calls _ _ q p _ HY.out HX.out).mono ?_
            rintro e w10 ⟨x, rfl, hx, hb⟩
            replace HT := Lib.hid (HT.out.below hb)
            replace HT6 := Lib.hid (HT6.out.below hb)
            replace HX := Lib.hid (HX.out.below hb)
            replace HY := Lib.hid (HY.out.below hb)
            replace HU := Lib.hid (HU.out.below hb)
            replace HT9 := Lib.hid (HT9.out.below hb)
            replace HTj := Lib.hid (HTj.out.below hb)
            replace HXj := Lib.hid (HXj.out.below hb)
            replace HTk := Lib.hid (HTk.out.below hb)
            replace HXk := Lib.hid (HXk.out.below hb)
            replace HTm := Lib.hid (HTm.out.below hb)
            replace HXm := Lib.hid (HXm.out.below hb)
            replace HB := Lib.hid (Below.andThen HB.out hb)
            rw [HM2.out] at hx
            rw [HM2.out, HM0.out.1, HM0.out.2.1]
            obtain ⟨oa1, oa2, oa3, oa4, oa5, oa6, rfl, h1, h2⟩ := hx
            have HXo : Hid (IsX _ (.agg #[.slice oa1 oa2 oa3, .slice oa4 oa5 oa6]) mr.1) := ⟨_, _, _, _, _, _, rfl, h1, h2⟩
            clear h1 h2
            clear hb
            have hc0HT := HT.out.two.c0
            have hc1HT := HT.out.two.c1
            have hc0HT6 := HT6.out.two.c0
            have hc1HT6 := HT6.out.two.c1
            have hc0HT9 := HT9.out.two.c0
            have hc1HT9 := HT9.out.two.c1
            have hc0HTj := HTj.out.two.c0
            have hc1HTj := HTj.out.two.c1
            have hc0HTk := HTk.out.two.c0
            have hc1HTk := HTk.out.two.c1
            have hc0HTm := HTm.out.two.c0
            have hc1HTm := HTm.out.two.c1
            have HTo := Lib.hid (TwoX.new w10 (.slice oa1 oa2 oa3) (.slice oa4 oa5 oa6))
            replace HXo := Lib.hid (HXo.out.below (below_new _ (.cells #[.slice oa1 oa2 oa3, .slice oa4 oa5 oa6] 25)))
            replace HT := Lib.hid (HT.out.below (below_new _ (.cells #[.slice oa1 oa2 oa3, .slice oa4 oa5 oa6] 25)))
            replace HT6 := Lib.hid (HT6.out.below (below_new _ (.cells #[.slice oa1 oa2 oa3, .slice oa4 oa5 oa6] 25)))
            replace HX := Lib.hid (HX.out.below (below_new _ (.cells #[.slice oa1 oa2 oa3, .slice oa4 oa5 oa6] 25)))
            replace HY := Lib.hid (HY.out.below (below_new _ (.cells #[.slice oa1 oa2 oa3, .slice oa4 oa5 oa6] 25)))
            replace HU := Lib.hid (HU.out.below (below_new _ (.cells #[.slice oa1 oa2 oa3, .slice oa4 oa5 oa6] 25)))
            replace HT9 := Lib.hid (HT9.out.below (below_new _ (.cells #[.slice oa1 oa2 oa3, .slice oa4 oa5 oa6] 25)))
            replace HTj := Lib.hid (HTj.out.below (below_new _ (.cells #[.slice oa1 oa2 oa3, .slice oa4 oa5 oa6] 25)))
            replace HXj := Lib.hid (HXj.out.below (below_new _ (.cells #[.slice oa1 oa2 oa3, .slice oa4 oa5 oa6] 25)))
            replace HTk := Lib.hid (HTk.out.below (below_new _ (.cells #[.slice oa1 oa2 oa3, .slice oa4 oa5 oa6] 25)))
            replace HXk := Lib.hid (HXk.out.below (below_new _ (.cells #[.slice oa1 oa2 oa3, .slice oa4 oa5 oa6] 25)))
            replace HTm := Lib.hid (HTm.out.below (below_new _ (.cells #[.slice oa1 oa2 oa3, .slice oa4 oa5 oa6] 25)))
            replace HXm := Lib.hid (HXm.out.below (below_new _ (.cells #[.slice oa1 oa2 oa3, .slice oa4 oa5 oa6] 25)))
            replace HB := Lib.hid (Below.andThen HB.out (below_new _ (.cells #[.slice oa1 oa2 oa3, .slice oa4 oa5 oa6] 25)))
            obtain ⟨go, hgo⟩ : ∃ go, w10.heap.size = go := ⟨_, rfl⟩
            rw [hgo] at HTo
            simp only [hgo]
            clear hc0HT hc1HT hc0HT6 hc1HT6 hc0HT9 hc1HT9 hc0HTj hc1HTj hc0HTk hc1HTk hc0HTm hc1HTm
            have hc0HT := HT.out.two.c0
            have hc1HT := HT.out.two.c1
            have hc0HT6 := HT6.out.two.c0
            have hc1HT6 := HT6.out.two.c1
            have hc0HT9 := HT9.out.two.c0
            have hc1HT9 := HT9.out.two.c1
            have hc0HTj := HTj.out.two.c0
            have hc1HTj := HTj.out.two.c1
            have hc0HTk := HTk.out.two.c0
            have hc1HTk := HTk.out.two.c1
            have hc0HTm := HTm.out.two.c0
            have hc1HTm := HTm.out.two.c1
            have hc0HTo := HTo.out.two.c0
            have hc1HTo := HTo.out.two.c1
            go_wp2_with fail
            clear hc0HT hc1HT hc0HT6 hc1HT6 hc0HT9 hc1HT9 hc0HTj hc1HTj hc0HTk hc1HTk hc0HTm hc1HTm hc0HTo hc1HTo
            refine (sameBox_calls _ _ jn jn _ HXj.out HXk.out).mono ?_
            rintro e w11 ⟨rfl, hb⟩
            replace HT := Lib.hid (HT.out.below hb)
            replace HT6 := Lib.hid (HT6.out.below hb)
            replace HX := Lib.hid (HX.out.below hb)
            replace HY := Lib.hid (HY.out.below hb)
            replace HU := Lib.hid (HU.out.below hb)
            replace HT9 := Lib.hid (HT9.out.below hb)
            replace HTj := Lib.hid (HTj.out.below hb)
            replace HXj := Lib.hid (HXj.out.below hb)
            replace HTk := Lib.hid (HTk.out.below hb)
            replace HXk := Lib.hid (HXk.out.below hb)
            replace HTm := Lib.hid (HTm.out.below hb)
            replace HXm := Lib.hid (HXm.out.below hb)
            replace HTo := Lib.hid (HTo.out.below hb)
            replace HXo := Lib.hid (HXo.out.below hb)
            replace HB := Lib.hid (Below.andThen HB.out hb)
            rw [show sameB jn jn = true by simp [sameB]]
            clear hb
            have hc0HT := HT.out.two.c0
            have hc1HT := HT.out.two.c1
            have hc0HT6 := HT6.out.two.c0
            have hc1HT6 := HT6.out.two.c1
            have hc0HT9 := HT9.out.two.c0
            have hc1HT9 := HT9.out.two.c1
            have hc0HTj := HTj.out.two.c0
            have hc1HTj := HTj.out.two.c1
            have hc0HTk := HTk.out.two.c0
            have hc1HTk := HTk.out.two.c1
            have hc0HTm := HTm.out.two.c0
            have hc1HTm := HTm.out.two.c1
            have hc0HTo := HTo.out.two.c0
            have hc1HTo := HTo.out.two.c1
            go_wp2_with fail
            clear hc0HT hc1HT hc0HT6 hc1HT6 hc0HT9 hc1HT9 hc0HTj hc1HTj hc0HTk hc1HTk hc0HTm hc1HTm hc0HTo hc1HTo
            refine (sameBox_calls _ _ mr.1 mr.1 _ HXm.out HXo.out).mono ?_
            rintro e w12 ⟨rfl, hb⟩
            replace HT := Lib.hid (HT.out.below hb)
            replace HT6 := Lib.hid (HT6.out.below hb)
            replace HX := Lib.hid (HX.out.below hb)
            replace HY := Lib.hid (HY.out.below hb)
            replace HU := Lib.hid (HU.out.below hb)
            replace HT9 := Lib.hid (HT9.out.below hb)
            replace HTj := Lib.hid (HTj.out.below hb)
            replace HXj := Lib.hid (HXj.out.below hb)
            replace HTk := Lib.hid (HTk.out.below hb)
            replace HXk := Lib.hid (HXk.out.below hb)
            replace HTm := Lib.hid (HTm.out.below hb)
            replace HXm := Lib.hid (HXm.out.below hb)
            replace HTo := Lib.hid (HTo.out.below hb)
            replace HXo := Lib.hid (HXo.out.below hb)
            replace HB := Lib.hid (Below.andThen HB.out hb)
            rw [show sameB mr.1 mr.1 = true by simp [sameB]]
            clear hb
            have hc0HT := HT.out.two.c0
            have hc1HT := HT.out.two.c1
            have hc0HT6 := HT6.out.two.c0
            have hc1HT6 := HT6.out.two.c1
            have hc0HT9 := HT9.out.two.c0
            have hc1HT9 := HT9.out.two.c1
            have hc0HTj := HTj.out.two.c0
            have hc1HTj := HTj.out.two.c1
            have hc0HTk := HTk.out.two.c0
            have hc1HTk := HTk.out.two.c1
            have hc0HTm := HTm.out.two.c0
            have hc1HTm := HTm.out.two.c1
            have hc0HTo := HTo.out.two.c0
            have hc1HTo := HTo.out.two.c1
            have hin : has p (inner p pk) = true := has_inner HP.out
            obtain ⟨xi, hxi⟩ : ∃ xi, inner p pk = xi := ⟨_, rfl⟩
            rw [hxi] at hin
            have HXI := Lib.hid hxi
            obtain ⟨hq1, hh1⟩ : ∃ hq1, has q xi = hq1 := ⟨_, rfl⟩
            have HH1 := Lib.hid hh1
            have HH2 : Hid (is = true → has mr.1 xi = hq1) := fun e => by
              have h := has_meet HP.out HQ.out HPQ.out hin
              rw [HIS.out, e, Bool.true_and, hh1] at h
              rw [HM0.out.2.2 e]; exact h.symm
            have HH3 : Hid (is = false → hq1 = false) := fun e => by
              have h := has_meet HP.out HQ.out HPQ.out hin
              rw [HIS.out, e, Bool.false_and, hh1] at h
              exact h
            have HH4 : Hid (has jn xi = true) := by
              show _ = _
              rw [← HJ.out]; exact has_join HP.out HQ.out HPQ.out (.inl hin)
            have HH5 : Hid (is = true → inside mr.1 p = true ∧ inside mr.1 q = true) := fun e => by
              rw [HM0.out.2.2 e]; exact in_meet HP.out HQ.out HPQ.out (by rw [HIS.out]; exact e)
            have HH6 : Hid (inside p jn = true ∧ inside q jn = true) := by
              show _ ∧ _
              rw [← HJ.out]; exact in_join HP.out HQ.out HPQ.out
            clear hin hxi hh1
            cases his : is
            ·
              have hq0 := HH3.out his
              subst hq0
              subst his
              go_wp2_with fail
              clear hc0HT hc1HT hc0HT6 hc1HT6 hc0HT9 hc1HT9 hc0HTj hc1HTj hc0HTk hc1HTk hc0HTm hc1HTm hc0HTo hc1HTo
              refine (inner_calls _ p _ _ _ pk _ HX.out HU.out HP.out).mono ?_
              rintro e w13 ⟨x, rfl, hx, hb⟩
              replace HT := Lib.hid (HT.out.below hb)
              replace HT6 := Lib.hid (HT6.out.below hb)
              replace HX := Lib.hid (HX.out.below hb)
              replace HY := Lib.hid (HY.out.below hb)
              replace HU := Lib.hid (HU.out.below hb)
              replace HT9 := Lib.hid (HT9.out.below hb)
              replace HTj := Lib.hid (HTj.out.below hb)
              replace HXj := Lib.hid (HXj.out.below hb)
              replace HTk := Lib.hid (HTk.out.below hb)
              replace HXk := Lib.hid (HXk.out.below hb)
              replace HTm := Lib.hid (HTm.out.below hb)
              replace HXm := Lib.hid (HXm.out.below hb)
              replace HTo := Lib.hid (HTo.out.below hb)
              replace HXo := Lib.hid (HXo.out.below hb)
              replace HB := Lib.hid (Below.andThen HB.out hb)
              obtain ⟨An, nn, cn, rfl, hx⟩ := hx
              rw [HXI.out] at hx
              have HI := Lib.hid (VI.mk hx)
              clear hx
              clear hb
              have hc0HT := HT.out.two.c0
              have hc1HT := HT.out.two.c1
              have hc0HT6 := HT6.out.two.c0
              have hc1HT6 := HT6.out.two.c1
              have hc0HT9 := HT9.out.two.c0
              have hc1HT9 := HT9.out.two.c1
              have hc0HTj := HTj.out.two.c0
              have hc1HTj := HTj.out.two.c1
              have hc0HTk := HTk.out.two.c0
              have hc1HTk := HTk.out.two.c1
              have hc0HTm := HTm.out.two.c0
              have hc1HTm := HTm.out.two.c1
              have hc0HTo := HTo.out.two.c0
              have hc1HTo := HTo.out.two.c1
              go_wp2_with fail
              clear hc0HT hc1HT hc0HT6 hc1HT6 hc0HT9 hc1HT9 hc0HTj hc1HTj hc0HTk hc1HTk hc0HTm hc1HTm hc0HTo hc1HTo
              refine (has_calls _ q _ _ _ xi _ HY.out HI.out.is).mono ?_
              rintro e w14 ⟨rfl, hb⟩
              replace HT := Lib.hid (HT.out.below hb)
              replace HT6 := Lib.hid (HT6.out.below hb)
              replace HX := Lib.hid (HX.out.below hb)
              replace HY := Lib.hid (HY.out.below hb)
              replace HU := Lib.hid (HU.out.below hb)
              replace HT9 := Lib.hid (HT9.out.below hb)
              replace HTj := Lib.hid (HTj.out.below hb)
              replace HXj := Lib.hid (HXj.out.below hb)
              replace HTk := Lib.hid (HTk.out.below hb)
              replace HXk := Lib.hid (HXk.out.below hb)
              replace HTm := Lib.hid (HTm.out.below hb)
              replace HXm := Lib.hid (HXm.out.below hb)
              replace HTo := Lib.hid (HTo.out.below hb)
              replace HXo := Lib.hid (HXo.out.below hb)
              replace HI := Lib.hid (HI.out.below hb)
              replace HB := Lib.hid (Below.andThen HB.out hb)
              rw [HH1.out]
              clear hb
              have hc0HT := HT.out.two.c0
              have hc1HT := HT.out.two.c1
              have hc0HT6 := HT6.out.two.c0
              have hc1HT6 := HT6.out.two.c1
              have hc0HT9 := HT9.out.two.c0
              have hc1HT9 := HT9.out.two.c1
              have hc0HTj := HTj.out.two.c0
              have hc1HTj := HTj.out.two.c1
              have hc0HTk := HTk.out.two.c0
              have hc1HTk := HTk.out.two.c1
              have hc0HTm := HTm.out.two.c0
              have hc1HTm := HTm.out.two.c1
              have hc0HTo := HTo.out.two.c0
              have hc1HTo := HTo.out.two.c1
              go_wp2_with fail
              clear hc0HT hc1HT hc0HT6 hc1HT6 hc0HT9 hc1HT9 hc0HTj hc1HTj hc0HTk hc1HTk hc0HTm hc1HTm hc0HTo hc1HTo
              refine (has_calls _ jn _ _ _ xi _ HXj.out HI.out.is).mono ?_
              rintro e w15 ⟨rfl, hb⟩
              replace HT := Lib.hid (HT.out.below hb)
              replace HT6 := Lib.hid (HT6.out.below hb)
              replace HX := Lib.hid (HX.out.below hb)
              replace HY := Lib.hid (HY.out.below hb)
              replace HU := Lib.hid (HU.out.below hb)
              replace HT9 := Lib.hid (HT9.out.below hb)
              replace HTj := Lib.hid (HTj.out.below hb)
              replace HXj := Lib.hid (HXj.out.below hb)
              replace HTk := Lib.hid (HTk.out.below hb)
              replace HXk := Lib.hid (HXk.out.below hb)
              replace HTm := Lib.hid (HTm.out.below hb)
              replace HXm := Lib.hid (HXm.out.below hb)
              replace HTo := Lib.hid (HTo.out.below hb)
              replace HXo := Lib.hid (HXo.out.below hb)
              replace HI := Lib.hid (HI.out.below hb)
              replace HB := Lib.hid (Below.andThen HB.out hb)
              rw [HH4.out]
              clear hb
              have hc0HT := HT.out.two.c0
              have hc1HT := HT.out.two.c1
              have hc0HT6 := HT6.out.two.c0
              have hc1HT6 := HT6.out.two.c1
              have hc0HT9 := HT9.out.two.c0
              have hc1HT9 := HT9.out.two.c1
              have hc0HTj := HTj.out.two.c0
              have hc1HTj := HTj.out.two.c1
              have hc0HTk := HTk.out.two.c0
              have hc1HTk := HTk.out.two.c1
              have hc0HTm := HTm.out.two.c0
              have hc1HTm := HTm.out.two.c1
              have hc0HTo := HTo.out.two.c0
              have hc1HTo := HTo.out.two.c1
              go_wp2_with fail
              clear hc0HT hc1HT hc0HT6 hc1HT6 hc0HT9 hc1HT9 hc0HTj hc1HTj hc0HTk hc1HTk hc0HTm hc1HTm hc0HTo hc1HTo
              refine (sanity_calls _).mono ?_
              rintro e w16 ⟨rfl, hb⟩
              replace HT := Lib.hid (HT.out.below hb)
              replace HT6 := Lib.hid (HT6.out.below hb)
              replace HX := Lib.hid (HX.out.below hb)
              replace HY := Lib.hid (HY.out.below hb)
              replace HU := Lib.hid (HU.out.below hb)
              replace HT9 := Lib.hid (HT9.out.below hb)
              replace HTj := Lib.hid (HTj.out.below hb)
              replace HXj := Lib.hid (HXj.out.below hb)
              replace HTk := Lib.hid (HTk.out.below hb)
              replace HXk := Lib.hid (HXk.out.below hb)
              replace HTm := Lib.hid (HTm.out.below hb)
              replace HXm := Lib.hid (HXm.out.below hb)
              replace HTo := Lib.hid (HTo.out.below hb)
              replace HXo := Lib.hid (HXo.out.below hb)
              replace HI := Lib.hid (HI.out.below hb)
              replace HB := Lib.hid (Below.andThen HB.out hb)
              clear hb
              have hc0HT := HT.out.two.c0
              have hc1HT := HT.out.two.c1
              have hc0HT6 := HT6.out.two.c0
              have hc1HT6 := HT6.out.two.c1
              have hc0HT9 := HT9.out.two.c0
              have hc1HT9 := HT9.out.two.c1
              have hc0HTj := HTj.out.two.c0
              have hc1HTj := HTj.out.two.c1
              have hc0HTk := HTk.out.two.c0
              have hc1HTk := HTk.out.two.c1
              have hc0HTm := HTm.out.two.c0
              have hc1HTm := HTm.out.two.c1
              have hc0HTo := HTo.out.two.c0
              have hc1HTo := HTo.out.two.c1
              go_wp2_with fail
              clear hc0HT hc1HT hc0HT6 hc1HT6 hc0HT9 hc1HT9 hc0HTj hc1HTj hc0HTk hc1HTk hc0HTm hc1HTm hc0HTo hc1HTo
              refine (inside_calls _ _ p jn _ HX.out HXj.out).mono ?_
              rintro e w17 ⟨rfl, hb⟩
              replace HT := Lib.hid (HT.out.below hb)
              replace HT6 := Lib.hid (HT6.out.below hb)
              replace HX := Lib.hid (HX.out.below hb)
              replace HY := Lib.hid (HY.out.below hb)
              replace HU := Lib.hid (HU.out.below hb)
              replace HT9 := Lib.hid (HT9.out.below hb)
              replace HTj := Lib.hid (HTj.out.below hb)
              replace HXj := Lib.hid (HXj.out.below hb)
              replace HTk := Lib.hid (HTk.out.below hb)
              replace HXk := Lib.hid (HXk.out.below hb)
              replace HTm := Lib.hid (HTm.out.below hb)
              replace HXm := Lib.hid (HXm.out.below hb)
              replace HTo := Lib.hid (HTo.out.below hb)
              replace HXo := Lib.hid (HXo.out.below hb)
              replace HI := Lib.hid (HI.out.below hb)
              replace HB := Lib.hid (Below.andThen HB.out hb)
              rw [HH6.out.1]
              clear hb
              have hc0HT := HT.out.two.c0
              have hc1HT := HT.out.two.c1
              have hc0HT6 := HT6.out.two.c0
              have hc1HT6 := HT6.out.two.c1
              have hc0HT9 := HT9.out.two.c0
              have hc1HT9 := HT9.out.two.c1
              have hc0HTj := HTj.out.two.c0
              have hc1HTj := HTj.out.two.c1
              have hc0HTk := HTk.out.two.c0
              have hc1HTk := HTk.out.two.c1
              have hc0HTm := HTm.out.two.c0
              have hc1HTm := HTm.out.two.c1
              have hc0HTo := HTo.out.two.c0
              have hc1HTo := HTo.out.two.c1
              go_wp2_with fail
              clear hc0HT hc1HT hc0HT6 hc1HT6 hc0HT9 hc1HT9 hc0HTj hc1HTj hc0HTk hc1HTk hc0HTm hc1HTm hc0HTo hc1HTo
              refine (inside_calls _ _ q jn _ HY.out HXj.out).mono ?_
              rintro e w18 ⟨rfl, hb⟩
              replace HT := Lib.hid (HT.out.below hb)
              replace HT6 := Lib.hid (HT6.out.below hb)
              replace HX := Lib.hid (HX.out.below hb)
              replace HY := Lib.hid (HY.out.below hb)
              replace HU := Lib.hid (HU.out.below hb)
              replace HT9 := Lib.hid (HT9.out.below hb)
              replace HTj := Lib.hid (HTj.out.below hb)
              replace HXj := Lib.hid (HXj.out.below hb)
              replace HTk := Lib.hid (HTk.out.below hb)
              replace HXk := Lib.hid (HXk.out.below hb)
              replace HTm := Lib.hid (HTm.out.below hb)
              replace HXm := Lib.hid (HXm.out.below hb)
              replace HTo := Lib.hid (HTo.out.below hb)
              replace HXo := Lib.hid (HXo.out.below hb)
              replace HI := Lib.hid (HI.out.below hb)
              replace HB := Lib.hid (Below.andThen HB.out hb)
              rw [HH6.out.2]
              clear hb
              have hc0HT := HT.out.two.c0
              have hc1HT := HT.out.two.c1
              have hc0HT6 := HT6.out.two.c0
              have hc1HT6 := HT6.out.two.c1
              have hc0HT9 := HT9.out.two.c0
              have hc1HT9 := HT9.out.two.c1
              have hc0HTj := HTj.out.two.c0
              have hc1HTj := HTj.out.two.c1
              have hc0HTk := HTk.out.two.c0
              have hc1HTk := HTk.out.two.c1
              have hc0HTm := HTm.out.two.c0
              have hc1HTm := HTm.out.two.c1
              have hc0HTo := HTo.out.two.c0
              have hc1HTo := HTo.out.two.c1
              have HBE := HB.out
              go_wp2_with fail
              go_ret
              exact ⟨rfl, HBE⟩
            ·
              have hq0 := HH2.out his
              have hq5 := HH5.out his
              subst his
              have HQ0 := Lib.hid hq0
              have HQ5 := Lib.hid hq5
              clear hq0 hq5
              go_wp2_with fail
              clear hc0HT hc1HT hc0HT6 hc1HT6 hc0HT9 hc1HT9 hc0HTj hc1HTj hc0HTk hc1HTk hc0HTm hc1HTm hc0HTo hc1HTo
              refine (inner_calls _ p _ _ _ pk _ HX.out HU.out HP.out).mono ?_
              rintro e w13 ⟨x, rfl, hx, hb⟩
              replace HT := Lib.hid (HT.out.below hb)
              replace HT6 := Lib.hid (HT6.out.below hb)
              replace HX := Lib.hid (HX.out.below hb)
              replace HY := Lib.hid (HY.out.below hb)
              replace HU := Lib.hid (HU.out.below hb)
              replace HT9 := Lib.hid (HT9.out.below hb)
              replace HTj := Lib.hid (HTj.out.below hb)
              replace HXj := Lib.hid (HXj.out.below hb)
              replace HTk := Lib.hid (HTk.out.below hb)
              replace HXk := Lib.hid (HXk.out.below hb)
              replace HTm := Lib.hid (HTm.out.below hb)
              replace HXm := Lib.hid (HXm.out.below hb)
              replace HTo := Lib.hid (HTo.out.below hb)
              replace HXo := Lib.hid (HXo.out.below hb)
              replace HB := Lib.hid (Below.andThen HB.out hb)
              obtain ⟨An, nn, cn, rfl, hx⟩ := hx
              rw [HXI.out] at hx
              have HI := Lib.hid (VI.mk hx)
              clear hx
              clear hb
              have hc0HT := HT.out.two.c0
              have hc1HT := HT.out.two.c1
              have hc0HT6 := HT6.out.two.c0
              have hc1HT6 := HT6.out.two.c1
              have hc0HT9 := HT9.out.two.c0
              have hc1HT9 := HT9.out.two.c1
              have hc0HTj := HTj.out.two.c0
              have hc1HTj := HTj.out.two.c1
              have hc0HTk := HTk.out.two.c0
              have hc1HTk := HTk.out.two.c1
              have hc0HTm := HTm.out.two.c0
              have hc1HTm := HTm.out.two.c1
              have hc0HTo := HTo.out.two.c0
              have hc1HTo := HTo.out.two.c1
              go_wp2_with fail
              clear hc0HT hc1HT hc0HT6 hc1HT6 hc0HT9 hc1HT9 hc0HTj hc1HTj hc0HTk hc1HTk hc0HTm hc1HTm hc0HTo hc1HTo
              refine (has_calls _ q _ _ _ xi _ HY.out HI.out.is).mono ?_
              rintro e w14 ⟨rfl, hb⟩
              replace HT := Lib.hid (HT.out.below hb)
              replace HT6 := Lib.hid (HT6.out.below hb)
              replace HX := Lib.hid (HX.out.below hb)
              replace HY := Lib.hid (HY.out.below hb)
              replace HU := Lib.hid (HU.out.below hb)
              replace HT9 := Lib.hid (HT9.out.below hb)
              replace HTj := Lib.hid (HTj.out.below hb)
              replace HXj := Lib.hid (HXj.out.below hb)
              replace HTk := Lib.hid (HTk.out.below hb)
              replace HXk := Lib.hid (HXk.out.below hb)
              replace HTm := Lib.hid (HTm.out.below hb)
              replace HXm := Lib.hid (HXm.out.below hb)
              replace HTo := Lib.hid (HTo.out.below hb)
              replace HXo := Lib.hid (HXo.out.below hb)
              replace HI := Lib.hid (HI.out.below hb)
              replace HB := Lib.hid (Below.andThen HB.out hb)
              rw [HH1.out]
              clear hb
              have hc0HT := HT.out.two.c0
              have hc1HT := HT.out.two.c1
              have hc0HT6 := HT6.out.two.c0
              have hc1HT6 := HT6.out.two.c1
              have hc0HT9 := HT9.out.two.c0
              have hc1HT9 := HT9.out.two.c1
              have hc0HTj := HTj.out.two.c0
              have hc1HTj := HTj.out.two.c1
              have hc0HTk := HTk.out.two.c0
              have hc1HTk := HTk.out.two.c1
              have hc0HTm := HTm.out.two.c0
              have hc1HTm := HTm.out.two.c1
              have hc0HTo := HTo.out.two.c0
              have hc1HTo := HTo.out.two.c1
              go_wp2_with fail
              clear hc0HT hc1HT hc0HT6 hc1HT6 hc0HT9 hc1HT9 hc0HTj hc1HTj hc0HTk hc1HTk hc0HTm hc1HTm hc0HTo hc1HTo
              refine (has_calls _ mr.1 _ _ _ xi _ HXm.out HI.out.is).mono ?_
              rintro e w15 ⟨rfl, hb⟩
              replace HT := Lib.hid (HT.out.below hb)
              replace HT6 := Lib.hid (HT6.out.below hb)
              replace HX := Lib.hid (HX.out.below hb)
              replace HY := Lib.hid (HY.out.below hb)
              replace HU := Lib.hid (HU.out.below hb)
              replace HT9 := Lib.hid (HT9.out.below hb)
              replace HTj := Lib.hid (HTj.out.below hb)
              replace HXj := Lib.hid (HXj.out.below hb)
              replace HTk := Lib.hid (HTk.out.below hb)
              replace HXk := Lib.hid (HXk.out.below hb)
              replace HTm := Lib.hid (HTm.out.below hb)
              replace HXm := Lib.hid (HXm.out.below hb)
              replace HTo := Lib.hid (HTo.out.below hb)
              replace HXo := Lib.hid (HXo.out.below hb)
              replace HI := Lib.hid (HI.out.below hb)
              replace HB := Lib.hid (Below.andThen HB.out hb)
              rw [HQ0.out]
              clear hb
              have hc0HT := HT.out.two.c0
              have hc1HT := HT.out.two.c1
              have hc0HT6 := HT6.out.two.c0
              have hc1HT6 := HT6.out.two.c1
              have hc0HT9 := HT9.out.two.c0
              have hc1HT9 := HT9.out.two.c1
              have hc0HTj := HTj.out.two.c0
              have hc1HTj := HTj.out.two.c1
              have hc0HTk := HTk.out.two.c0
              have hc1HTk := HTk.out.two.c1
              have hc0HTm := HTm.out.two.c0
              have hc1HTm := HTm.out.two.c1
              have hc0HTo := HTo.out.two.c0
              have hc1HTo := HTo.out.two.c1
              cases hq1
              all_goals
                go_wp2_with fail
                clear hc0HT hc1HT hc0HT6 hc1HT6 hc0HT9 hc1HT9 hc0HTj hc1HTj hc0HTk hc1HTk hc0HTm hc1HTm hc0HTo hc1HTo
                refine (has_calls _ jn _ _ _ xi _ HXj.out HI.out.is).mono ?_
                rintro e w16 ⟨rfl, hb⟩
                replace HT := Lib.hid (HT.out.below hb)
                replace HT6 := Lib.hid (HT6.out.below hb)
                replace HX := Lib.hid (HX.out.below hb)
                replace HY := Lib.hid (HY.out.below hb)
                replace HU := Lib.hid (HU.out.below hb)
                replace HT9 := Lib.hid (HT9.out.below hb)
                replace HTj := Lib.hid (HTj.out.below hb)
                replace HXj := Lib.hid (HXj.out.below hb)
                replace HTk := Lib.hid (HTk.out.below hb)
                replace HXk := Lib.hid (HXk.out.below hb)
                replace HTm := Lib.hid (HTm.out.below hb)
                replace HXm := Lib.hid (HXm.out.below hb)
                replace HTo := Lib.hid (HTo.out.below hb)
                replace HXo := Lib.hid (HXo.out.below hb)
                replace HI := Lib.hid (HI.out.below hb)
                replace HB := Lib.hid (Below.andThen HB.out hb)
                rw [HH4.out]
                clear hb
                have hc0HT := HT.out.two.c0
                have hc1HT := HT.out.two.c1
                have hc0HT6 := HT6.out.two.c0
                have hc1HT6 := HT6.out.two.c1
                have hc0HT9 := HT9.out.two.c0
                have hc1HT9 := HT9.out.two.c1
                have hc0HTj := HTj.out.two.c0
                have hc1HTj := HTj.out.two.c1
                have hc0HTk := HTk.out.two.c0
                have hc1HTk := HTk.out.two.c1
                have hc0HTm := HTm.out.two.c0
                have hc1HTm := HTm.out.two.c1
                have hc0HTo := HTo.out.two.c0
                have hc1HTo := HTo.out.two.c1
                go_wp2_with fail
                clear hc0HT hc1HT hc0HT6 hc1HT6 hc0HT9 hc1HT9 hc0HTj hc1HTj hc0HTk hc1HTk hc0HTm hc1HTm hc0HTo hc1HTo
                refine (inside_calls _ _ mr.1 p _ HXm.out HX.out).mono ?_
                rintro e w17 ⟨rfl, hb⟩
                replace HT := Lib.hid (HT.out.below hb)
                replace HT6 := Lib.hid (HT6.out.below hb)
                replace HX := Lib.hid (HX.out.below hb)
                replace HY := Lib.hid (HY.out.below hb)
                replace HU := Lib.hid (HU.out.below hb)
                replace HT9 := Lib.hid (HT9.out.below hb)
                replace HTj := Lib.hid (HTj.out.below hb)
                replace HXj := Lib.hid (HXj.out.below hb)
                replace HTk := Lib.hid (HTk.out.below hb)
                replace HXk := Lib.hid (HXk.out.below hb)
                replace HTm := Lib.hid (HTm.out.below hb)
                replace HXm := Lib.hid (HXm.out.below hb)
                replace HTo := Lib.hid (HTo.out.below hb)
                replace HXo := Lib.hid (HXo.out.below hb)
                replace HI := Lib.hid (HI.out.below hb)
                replace HB := Lib.hid (Below.andThen HB.out hb)
                rw [HQ5.out.1]
                clear hb
                have hc0HT := HT.out.two.c0
                have hc1HT := HT.out.two.c1
                have hc0HT6 := HT6.out.two.c0
                have hc1HT6 := HT6.out.two.c1
                have hc0HT9 := HT9.out.two.c0
                have hc1HT9 := HT9.out.two.c1
                have hc0HTj := HTj.out.two.c0
                have hc1HTj := HTj.out.two.c1
                have hc0HTk := HTk.out.two.c0
                have hc1HTk := HTk.out.two.c1
                have hc0HTm := HTm.out.two.c0
                have hc1HTm := HTm.out.two.c1
                have hc0HTo := HTo.out.two.c0
                have hc1HTo := HTo.out.two.c1
                go_wp2_with fail
                clear hc0HT hc1HT hc0HT6 hc1HT6 hc0HT9 hc1HT9 hc0HTj hc1HTj hc0HTk hc1HTk hc0HTm hc1HTm hc0HTo hc1HTo
                refine (inside_calls _ _ mr.1 q _ HXm.out HY.out).mono ?_
                rintro e w18 ⟨rfl, hb⟩
                replace HT := Lib.hid (HT.out.below hb)
                replace HT6 := Lib.hid (HT6.out.below hb)
                replace HX := Lib.hid (HX.out.below hb)
                replace HY := Lib.hid (HY.out.below hb)
                replace HU := Lib.hid (HU.out.below hb)
                replace HT9 := Lib.hid (HT9.out.below hb)
                replace HTj := Lib.hid (HTj.out.below hb)
                replace HXj := Lib.hid (HXj.out.below hb)
                replace HTk := Lib.hid (HTk.out.below hb)
                replace HXk := Lib.hid (HXk.out.below hb)
                replace HTm := Lib.hid (HTm.out.below hb)
                replace HXm := Lib.hid (HXm.out.below hb)
                replace HTo := Lib.hid (HTo.out.below hb)
                replace HXo := Lib.hid (HXo.out.below hb)
                replace HI := Lib.hid (HI.out.below hb)
                replace HB := Lib.hid (Below.andThen HB.out hb)
                rw [HQ5.out.2]
                clear hb
                have hc0HT := HT.out.two.c0
                have hc1HT := HT.out.two.c1
                have hc0HT6 := HT6.out.two.c0
                have hc1HT6 := HT6.out.two.c1
                have hc0HT9 := HT9.out.two.c0
                have hc1HT9 := HT9.out.two.c1
                have hc0HTj := HTj.out.two.c0
                have hc1HTj := HTj.out.two.c1
                have hc0HTk := HTk.out.two.c0
                have hc1HTk := HTk.out.two.c1
                have hc0HTm := HTm.out.two.c0
                have hc1HTm := HTm.out.two.c1
                have hc0HTo := HTo.out.two.c0
                have hc1HTo := HTo.out.two.c1
                go_wp2_with fail
                clear hc0HT hc1HT hc0HT6 hc1HT6 hc0HT9 hc1HT9 hc0HTj hc1HTj hc0HTk hc1HTk hc0HTm hc1HTm hc0HTo hc1HTo
                refine (sanity_calls _).mono ?_
                rintro e w19 ⟨rfl, hb⟩
                replace HT := Lib.hid (HT.out.below hb)
                replace HT6 := Lib.hid (HT6.out.below hb)
                replace HX := Lib.hid (HX.out.below hb)
                replace HY := Lib.hid (HY.out.below hb)
                replace HU := Lib.hid (HU.out.below hb)
                replace HT9 := Lib.hid (HT9.out.below hb)
                replace HTj := Lib.hid (HTj.out.below hb)
                replace HXj := Lib.hid (HXj.out.below hb)
                replace HTk := Lib.hid (HTk.out.below hb)
                replace HXk := Lib.hid (HXk.out.below hb)
                replace HTm := Lib.hid (HTm.out.below hb)
                replace HXm := Lib.hid (HXm.out.below hb)
                replace HTo := Lib.hid (HTo.out.below hb)
                replace HXo := Lib.hid (HXo.out.below hb)
                replace HI := Lib.hid (HI.out.below hb)
                replace HB := Lib.hid (Below.andThen HB.out hb)
                clear hb
                have hc0HT := HT.out.two.c0
                have hc1HT := HT.out.two.c1
                have hc0HT6 := HT6.out.two.c0
                have hc1HT6 := HT6.out.two.c1
                have hc0HT9 := HT9.out.two.c0
                have hc1HT9 := HT9.out.two.c1
                have hc0HTj := HTj.out.two.c0
                have hc1HTj := HTj.out.two.c1
                have hc0HTk := HTk.out.two.c0
                have hc1HTk := HTk.out.two.c1
                have hc0HTm := HTm.out.two.c0
                have hc1HTm := HTm.out.two.c1
                have hc0HTo := HTo.out.two.c0
                have hc1HTo := HTo.out.two.c1
                go_wp2_with fail
                clear hc0HT hc1HT hc0HT6 hc1HT6 hc0HT9 hc1HT9 hc0HTj hc1HTj hc0HTk hc1HTk hc0HTm hc1HTm hc0HTo hc1HTo
                refine (inside_calls _ _ p jn _ HX.out HXj.out).mono ?_
                rintro e w20 ⟨rfl, hb⟩
                replace HT := Lib.hid (HT.out.below hb)
                replace HT6 := Lib.hid (HT6.out.below hb)
                replace HX := Lib.hid (HX.out.below hb)
                replace HY := Lib.hid (HY.out.below hb)
                replace HU := Lib.hid (HU.out.below hb)
                replace HT9 := Lib.hid (HT9.out.below hb)
                replace HTj := Lib.hid (HTj.out.below hb)
                replace HXj := Lib.hid (HXj.out.below hb)
                replace HTk := Lib.hid (HTk.out.below hb)
                replace HXk := Lib.hid (HXk.out.below hb)
                replace HTm := Lib.hid (HTm.out.below hb)
                replace HXm := Lib.hid (HXm.out.below hb)
                replace HTo := Lib.hid (HTo.out.below hb)
                replace HXo := Lib.hid (HXo.out.below hb)
                replace HI := Lib.hid (HI.out.below hb)
                replace HB := Lib.hid (Below.andThen HB.out hb)
                rw [HH6.out.1]
                clear hb
                have hc0HT := HT.out.two.c0
                have hc1HT := HT.out.two.c1
                have hc0HT6 := HT6.out.two.c0
                have hc1HT6 := HT6.out.two.c1
                have hc0HT9 := HT9.out.two.c0
                have hc1HT9 := HT9.out.two.c1
                have hc0HTj := HTj.out.two.c0
                have hc1HTj := HTj.out.two.c1
                have hc0HTk := HTk.out.two.c0
                have hc1HTk := HTk.out.two.c1
                have hc0HTm := HTm.out.two.c0
                have hc1HTm := HTm.out.two.c1
                have hc0HTo := HTo.out.two.c0
                have hc1HTo := HTo.out.two.c1
                go_wp2_with fail
                clear hc0HT hc1HT hc0HT6 hc1HT6 hc0HT9 hc1HT9 hc0HTj hc1HTj hc0HTk hc1HTk hc0HTm hc1HTm hc0HTo hc1HTo
                refine (inside_calls _ _ q jn _ HY.out HXj.out).mono ?_
                rintro e w21 ⟨rfl, hb⟩
                replace HT := Lib.hid (HT.out.below hb)
                replace HT6 := Lib.hid (HT6.out.below hb)
                replace HX := Lib.hid (HX.out.below hb)
                replace HY := Lib.hid (HY.out.below hb)
                replace HU := Lib.hid (HU.out.below hb)
                replace HT9 := Lib.hid (HT9.out.below hb)
                replace HTj := Lib.hid (HTj.out.below hb)
                replace HXj := Lib.hid (HXj.out.below hb)
                replace HTk := Lib.hid (HTk.out.below hb)
                replace HXk := Lib.hid (HXk.out.below hb)
                replace HTm := Lib.hid (HTm.out.below hb)
                replace HXm := Lib.hid (HXm.out.below hb)
                replace HTo := Lib.hid (HTo.out.below hb)
                replace HXo := Lib.hid (HXo.out.below hb)
                replace HI := Lib.hid (HI.out.below hb)
                replace HB := Lib.hid (Below.andThen HB.out hb)
                rw [HH6.out.2]
                clear hb
                have hc0HT := HT.out.two.c0
                have hc1HT := HT.out.two.c1
                have hc0HT6 := HT6.out.two.c0
                have hc1HT6 := HT6.out.two.c1
                have hc0HT9 := HT9.out.two.c0
                have hc1HT9 := HT9.out.two.c1
                have hc0HTj := HTj.out.two.c0
                have hc1HTj := HTj.out.two.c1
                have hc0HTk := HTk.out.two.c0
                have hc1HTk := HTk.out.two.c1
                have hc0HTm := HTm.out.two.c0
                have hc1HTm := HTm.out.two.c1
                have hc0HTo := HTo.out.two.c0
                have hc1HTo := HTo.out.two.c1
                have HBE := HB.out
                go_wp2_with fail
                go_ret
                exact ⟨rfl, HBE⟩
end Go.Proofs.Ytlcdjabfkfmpdaa.boxHasWhatItShould
