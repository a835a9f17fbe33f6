/- CodeTrainingCovers: its walk. -/
import Derived.Test.YtiodjepjbooniaaU7

import Derived.Test.YtiodjepjbooniaaYa

import Derived.Test.YtiodjepjbooniaaYb

namespace Go.Proofs.Ytiodjepjbooniaa.uk

open Go.ChangeShapes Go.WideShapes Go.ChangeAt Go.RowKit

open Go.Proofs.Ytiodjepjbooniaa.cq Go.Proofs.Ytiodjepjbooniaa.vk Go.Proofs.Ytiodjepjbooniaa.bk Go.Proofs.Ytiodjepjbooniaa.wk

set_option linter.unusedVariables false
structure V3 (w : World) (A : Option Addr) (n c : Nat) (l : List VV) : Prop where
  is : IsW w A n c l
theorem V3.below {w w' : World} {A : Option Addr} {n c : Nat} {l : List VV} (h : V3 w A n c l) (hb : Below w.heap.size w w') : V3 w' A n c l := ⟨isW_below h.is hb⟩
structure Pr (m p : Int) (L : VV) (b1 b2 : Bk) : Prop where
  rt1 : Rt b1
  rt2 : Rt b2
  len : b1.W.length = b2.W.length
  pre : ∀ (k : Nat) (l l' : VV), b1.W[k]? = some l → b2.W[k]? = some l' → l <+: l'
  short : ∀ (k : Nat) (l : VV), b1.W[k]? = some l → (l.length : Int) ≤ p
  less : worst m b2 L ≤ worst m b1 L
  zero : (L.length : Int) ≤ p → worst m b1 L = 0
  vs1 : ∀ v ∈ L, vq.Vec v ∧ (v.length : Int) = b1.d
  vs2 : ∀ v ∈ L, vq.Vec v ∧ (v.length : Int) = b2.d
theorem pr_of {m p p2 : Int} {cuts : List Int} {L : VV} (h1 : 1 ≤ m) (h3 : m ≤ 3) (hl : Al L) (hp : 1 ≤ p) (hpp : p ≤ p2) (hp2 : p2 ≤ 50) (hd : divided ((L.headD []).length : Int) cuts = true) : Pr m p L (trained p.toNat cuts L) (trained p2.toNat cuts L) := by
  refine ⟨trained_rt hl (by omega) (by omega) hd, trained_rt hl (by omega) (by omega) hd, trained_len _ _ _ _, trained_grow (by omega) cuts L, fun k l hk => ?_, trained_less h1 h3 hl (by omega) (by omega) (by omega) hd, fun h => trained_all h1 h3 hl (by omega) (by omega) hd, fun v hv => ⟨hl.vec v hv, by show _ = ((L.headD []).length : Int); rw [hl.len v hv]⟩, fun v hv => ⟨hl.vec v hv, by show _ = ((L.headD []).length : Int); rw [hl.len v hv]⟩⟩
  have hk1 : k < (trained p.toNat cuts L).W.length := (List.getElem?_eq_some_iff.1 hk).1
  have hk2 : k < cuts.length := by unfold trained at hk1; simpa [sp_len] using hk1
  rw [trained_at (List.getElem?_eq_getElem hk2)] at hk
  injection hk with hk
  subst hk
  have := (spread_len (n := p.toNat) (l := L.map fun v => pt v (cuts[k], endAt cuts ((L.headD []).length : Int) k)) (by omega) (by rw [List.length_map]; exact hl.pos)).2
  omega
theorem train_eq {L : VV} {cuts : List Int} {p : Int} (h1 : 1 ≤ p) (h2 : p ≤ 256) : train L cuts p = if divided ((L.headD []).length : Int) cuts then (trained p.toNat cuts L, 0) else (noBk, 80) := by
  unfold train
  rw [if_neg (by omega), if_neg (by omega)]
theorem run_pre (w' : World) (b o n c k : Nat) (hk : k ≤ n) (hc : n ≤ c) : (Instr.slice 39 (.slice (some ⟨b, o, none⟩) n c) none (some (.int .i64 (k : Int))) none).run Try.prog w' = .ok (.slice (some ⟨b, o, none⟩) k c) w' := by
  have ht : Try.prog.underlying 39 = some (.slice (Try.prog.elem 39)) := by simp [Program.elem, Try.underlying39]
  have he : Try.prog.elem 39 = 22 := by simp [Program.elem, Try.underlying39]
  rw [run_slice_h w' 39 (some ⟨b, o, none⟩) n c ht .i64 (k : Int) (by omega) (by omega), he, wk.run_sizeOf w' 22 1 infoV]
  simp only [Result.andThen, sliced, Int.toNat_natCast, Option.map_some, wk.add_at, Nat.mul_one, Nat.sub_zero, Nat.add_zero, ite_self]
theorem isVV_pre {w : World} {A : Option Addr} {n c k : Nat} {L L' : VV} (h : IsVV w A n c L') (hp : L <+: L') (hk : L.length = k) : IsVV w A k c L := by
  obtain ⟨t, rfl⟩ := hp
  have hn := h.1
  rw [List.length_append] at hn
  refine ⟨hk, by have := h.2.1; omega, h.2.2.1, fun j l hj => h.2.2.2 j l ?_⟩
  rw [List.getElem?_append_left (List.getElem?_eq_some_iff.1 hj).1]
  exact hj
end Go.Proofs.Ytiodjepjbooniaa.uk

namespace Go.Proofs.Ytiodjepjbooniaa.codeTrainingCovers

open Go.ChangeShapes Go.WideShapes Go.ChangeAt Go.RowKit

open Go.Proofs.Ytiodjepjbooniaa.cq Go.Proofs.Ytiodjepjbooniaa.vk Go.Proofs.Ytiodjepjbooniaa.bk Go.Proofs.Ytiodjepjbooniaa.wk Go.Proofs.Ytiodjepjbooniaa.uk

set_option linter.unusedVariables false
set_option maxRecDepth 100000 in
set_option maxHeartbeats 3000000 in
theorem walk (w : World) {A AQ : Option Addr} {n c nq cq : Nat} {L : List (List Int)} {cuts : List Int} {x y m : Int} (w0 : IsVV w A n c L) (w1 : wo.IsI w AQ nq cq cuts) (w2 : (Lit.int .u8 x).wf = true) (w3 : (Lit.int .u8 y).wf = true) (w4 : (Lit.int .i64 m).wf = true) :
    Calls Try.prog 9 #[.slice A n c, .slice AQ nq cq, .int .u8 x, .int .u8 y, .int .i64 m] w fun e w' => e = .returned (.bool true) ∧ Below w.heap.size w w' := by
  have hx : 0 ≤ x ∧ x ≤ 255 := by simpa [Lit.wf, IntKind.min, IntKind.max, IntKind.signed, IntKind.bits] using w2
  have hy : 0 ≤ y ∧ y ≤ 255 := by simpa [Lit.wf, IntKind.min, IntKind.max, IntKind.signed, IntKind.bits] using w3
  obtain ⟨hx0, hx1⟩ := hx
  obtain ⟨hy0, hy1⟩ := hy
  have hnm1 := w0.2.2.1
  have hnc1 := w0.2.1
  have hnm2 := w1.2.2.1
  have hnc2 := w1.2.1
  have HNL := Lib.hid w0.1
  have HNC := Lib.hid w1.1
  have HL := Lib.hid (V2.mk w0)
  have HC := Lib.hid (V1.mk w1)
  have HB := Lib.hid (Below.refl w.heap.size w)
  clear w0 w1 w2 w3 w4
  go_enter Try.func9, Try.ntmps9
  go_wp2_with fail
  refine (rall40_calls _ _ _ L _ HL.out.is).mono ?_
  rintro e w1 ⟨rfl, q1, hq⟩
  have hb := below_of_drew hq
  clear hq
  replace HL := Lib.hid (HL.out.below hb)
  replace HC := Lib.hid (HC.out.below hb)
  replace HB := Lib.hid (Below.andThen HB.out hb)
  clear hb
  cases hal : vq.allv L 40
  ·
    go_wp2_with fail
    refine (sanity_calls _).mono ?_
    rintro e w' ⟨rfl, hb⟩
    have HBZ := Lib.hid (Below.andThen HB.out hb)
    clear hb
    go_wp2_with fail
    go_ret
    exact ⟨rfl, HBZ.out⟩
  have HAL := Lib.hid (al_of hal)
  have H40 : Hid (n ≤ 40) := by
    simp only [vq.allv, Bool.and_eq_true, decide_eq_true_eq] at hal
    have := HNL.out
    show _ ≤ _
    omega
  clear hal
  by_cases h9 : nq > 9
  ·
    go_wp2_with fail
    refine (sanity_calls _).mono ?_
    rintro e w' ⟨rfl, hb⟩
    have HBZ := Lib.hid (Below.andThen HB.out hb)
    clear hb
    go_wp2_with fail
    go_ret
    exact ⟨rfl, HBZ.out⟩
  go_wp2_with fail
  refine (metric_calls m _).mono ?_
  rintro e w' ⟨rfl, rfl⟩
  by_cases hmm : 1 ≤ m ∧ m ≤ 3
  rotate_left
  · rw [decide_eq_false hmm]
    go_wp2_with fail
    refine (sanity_calls _).mono ?_
    rintro e w' ⟨rfl, hb⟩
    have HBZ := Lib.hid (Below.andThen HB.out hb)
    clear hb
    go_wp2_with fail
    go_ret
    exact ⟨rfl, HBZ.out⟩
  rw [decide_eq_true hmm]
  have HM := Lib.hid hmm
  clear hmm
  go_wp2_with fail
  obtain ⟨p, hp⟩ : ∃ p, 1 + min x y % 50 = p := ⟨_, rfl⟩
  obtain ⟨p2, hp2⟩ : ∃ p2, max p (1 + max x y % 50) = p2 := ⟨_, rfl⟩
  have hpb : 1 ≤ p ∧ p ≤ 50 := by omega
  have hp2b : p ≤ p2 ∧ p2 ≤ 50 := by omega
  rw [hp]
  have HPB := Lib.hid hpb
  have HP2B := Lib.hid hp2b
  obtain ⟨hpb0, hpb1⟩ := hpb
  clear hp2b hp
  refine (train_calls _ _ _ _ _ _ L cuts p _ HL.out.is (by have := H40.out; omega) HAL.out HC.out.is (by unfold I64; have := HPB.out; have := HP2B.out; omega)).mono ?_
  rintro e w3 ⟨u1, rfl, hu, hb⟩
  replace HL := Lib.hid (HL.out.below hb)
  replace HC := Lib.hid (HC.out.below hb)
  replace HB := Lib.hid (Below.andThen HB.out hb)
  obtain ⟨b1, hb1⟩ : ∃ b, (train L cuts p).1 = b := ⟨_, rfl⟩
  obtain ⟨e1, he1⟩ : ∃ e, (train L cuts p).2 = e := ⟨_, rfl⟩
  rw [hb1] at hu
  rw [he1]
  have HBK1 := Lib.hid hb1
  have HER1 := Lib.hid he1
  clear hb1 he1
  obtain ⟨A1, n1, c1, AX1, nX1, cX1, rfl, hi, hW, hd⟩ := hu
  have hnc1a := hi.2.1
  have hnm1a := hi.2.2.1
  have hnc1b := hW.2.1
  have hnm1b := hW.2.2.1
  have HK1 : Hid (IsBk w3 (.agg #[.int .i64 b1.d, .slice A1 n1 c1, .slice AX1 nX1 cX1]) b1) := ⟨_, _, _, _, _, _, rfl, hi, hW, hd⟩
  have HW1 : Hid (IsW w3 AX1 nX1 cX1 b1.W) := hW
  have HT1 := Lib.hid (Three.new w3 (.int .i64 b1.d) (.slice A1 n1 c1) (.slice AX1 nX1 cX1))
  clear hi hW hd
  clear hb
  replace HL := Lib.hid (HL.out.below (below_new _ (.cells #[.int .i64 b1.d, .slice A1 n1 c1, .slice AX1 nX1 cX1] 25)))
  replace HC := Lib.hid (HC.out.below (below_new _ (.cells #[.int .i64 b1.d, .slice A1 n1 c1, .slice AX1 nX1 cX1] 25)))
  replace HK1 := Lib.hid (HK1.out.below (below_new _ (.cells #[.int .i64 b1.d, .slice A1 n1 c1, .slice AX1 nX1 cX1] 25)))
  replace HW1 := Lib.hid (isW_below HW1.out (below_new _ (.cells #[.int .i64 b1.d, .slice A1 n1 c1, .slice AX1 nX1 cX1] 25)))
  replace HB := Lib.hid (Below.andThen HB.out (below_new _ (.cells #[.int .i64 b1.d, .slice A1 n1 c1, .slice AX1 nX1 cX1] 25)))
  have hc0HT1 := HT1.out.c0
  have hc1HT1 := HT1.out.c1
  have hc2HT1 := HT1.out.c2
  have HW1a := Lib.hid (V3.mk HW1.out)
  clear HW1
  go_wp2_with fail
  clear hp2
  clear hc0HT1 hc1HT1 hc2HT1
  refine (train_calls _ _ _ _ _ _ L cuts p2 _ HL.out.is (by have := H40.out; omega) HAL.out HC.out.is (by unfold I64; have := HPB.out; have := HP2B.out; omega)).mono ?_
  rintro e w4 ⟨u2, rfl, hu, hb⟩
  replace HL := Lib.hid (HL.out.below hb)
  replace HC := Lib.hid (HC.out.below hb)
  replace HK1 := Lib.hid (HK1.out.below hb)
  replace HT1 := Lib.hid (HT1.out.below hb)
  replace HW1a := Lib.hid (HW1a.out.below hb)
  replace HB := Lib.hid (Below.andThen HB.out hb)
  obtain ⟨b2, hb2⟩ : ∃ b, (train L cuts p2).1 = b := ⟨_, rfl⟩
  obtain ⟨e2, he2⟩ : ∃ e, (train L cuts p2).2 = e := ⟨_, rfl⟩
  rw [hb2] at hu
  rw [he2]
  have HBK2 := Lib.hid hb2
  have HER2 := Lib.hid he2
  clear hb2 he2
  obtain ⟨A2, n2, c2, AX2, nX2, cX2, rfl, hi, hW, hd⟩ := hu
  have hnc2a := hi.2.1
  have hnm2a := hi.2.2.1
  have hnc2b := hW.2.1
  have hnm2b := hW.2.2.1
  have HK2 : Hid (IsBk w4 (.agg #[.int .i64 b2.d, .slice A2 n2 c2, .slice AX2 nX2 cX2]) b2) := ⟨_, _, _, _, _, _, rfl, hi, hW, hd⟩
  have HW2 : Hid (IsW w4 AX2 nX2 cX2 b2.W) := hW
  have HT2 := Lib.hid (Three.new w4 (.int .i64 b2.d) (.slice A2 n2 c2) (.slice AX2 nX2 cX2))
  clear hi hW hd
  clear hb
  have hc0HT1 := HT1.out.c0
  have hc1HT1 := HT1.out.c1
  have hc2HT1 := HT1.out.c2
  clear hc0HT1 hc1HT1 hc2HT1
  replace HL := Lib.hid (HL.out.below (below_new _ (.cells #[.int .i64 b2.d, .slice A2 n2 c2, .slice AX2 nX2 cX2] 25)))
  replace HC := Lib.hid (HC.out.below (below_new _ (.cells #[.int .i64 b2.d, .slice A2 n2 c2, .slice AX2 nX2 cX2] 25)))
  replace HK1 := Lib.hid (HK1.out.below (below_new _ (.cells #[.int .i64 b2.d, .slice A2 n2 c2, .slice AX2 nX2 cX2] 25)))
  replace HT1 := Lib.hid (HT1.out.below (below_new _ (.cells #[.int .i64 b2.d, .slice A2 n2 c2, .slice AX2 nX2 cX2] 25)))
  replace HW1a := Lib.hid (HW1a.out.below (below_new _ (.cells #[.int .i64 b2.d, .slice A2 n2 c2, .slice AX2 nX2 cX2] 25)))
  replace HK2 := Lib.hid (HK2.out.below (below_new _ (.cells #[.int .i64 b2.d, .slice A2 n2 c2, .slice AX2 nX2 cX2] 25)))
  replace HW2 := Lib.hid (isW_below HW2.out (below_new _ (.cells #[.int .i64 b2.d, .slice A2 n2 c2, .slice AX2 nX2 cX2] 25)))
  replace HB := Lib.hid (Below.andThen HB.out (below_new _ (.cells #[.int .i64 b2.d, .slice A2 n2 c2, .slice AX2 nX2 cX2] 25)))
  have hc0HT1 := HT1.out.c0
  have hc1HT1 := HT1.out.c1
  have hc2HT1 := HT1.out.c2
  have hc0HT2 := HT2.out.c0
  have hc1HT2 := HT2.out.c1
  have hc2HT2 := HT2.out.c2
  have HW2a := Lib.hid (V3.mk HW2.out)
  clear HW2
  have htr1 := train_eq (L := L) (cuts := cuts) (p := p) HPB.out.1 (by have := HPB.out; omega)
  have htr2 := train_eq (L := L) (cuts := cuts) (p := p2) (by have := HPB.out; have := HP2B.out; omega) (by have := HPB.out; have := HP2B.out; omega)
  cases hdv : divided ((L.headD []).length : Int) cuts
  ·
    rw [hdv, if_neg (by simp)] at htr1 htr2
    obtain rfl : 80 = e1 := by rw [← HER1.out, htr1]
    obtain rfl : 80 = e2 := by rw [← HER2.out, htr2]
    clear htr1 htr2 hdv
    go_wp2_with fail
    clear hc0HT1 hc1HT1 hc2HT1 hc0HT2 hc1HT2 hc2HT2
    refine (sanity_calls _).mono ?_
    rintro e w5 ⟨rfl, hb⟩
    replace HL := Lib.hid (HL.out.below hb)
    replace HC := Lib.hid (HC.out.below hb)
    replace HK1 := Lib.hid (HK1.out.below hb)
    replace HT1 := Lib.hid (HT1.out.below hb)
    replace HW1a := Lib.hid (HW1a.out.below hb)
    replace HK2 := Lib.hid (HK2.out.below hb)
    replace HT2 := Lib.hid (HT2.out.below hb)
    replace HW2a := Lib.hid (HW2a.out.below hb)
    replace HB := Lib.hid (Below.andThen HB.out hb)
    clear hb
    have hc0HT1 := HT1.out.c0
    have hc1HT1 := HT1.out.c1
    have hc2HT1 := HT1.out.c2
    have hc0HT2 := HT2.out.c0
    have hc1HT2 := HT2.out.c1
    have hc2HT2 := HT2.out.c2
    go_wp2_with fail
    go_ret
    exact ⟨rfl, HB.out⟩
  have hpr := pr_of HM.out.1 HM.out.2 HAL.out HPB.out.1 HP2B.out.1 HP2B.out.2 hdv
  rw [hdv, if_pos rfl] at htr1 htr2
  obtain rfl : 0 = e1 := by rw [← HER1.out, htr1]
  obtain rfl : 0 = e2 := by rw [← HER2.out, htr2]
  have eb1 : trained p.toNat cuts L = b1 := by rw [← HBK1.out, htr1]
  have eb2 : trained p2.toNat cuts L = b2 := by rw [← HBK2.out, htr2]
  rw [eb1, eb2] at hpr
  have HPR := Lib.hid hpr
  clear htr1 htr2 hdv hpr eb1 eb2 HBK1 HBK2 HER1 HER2
  obtain rfl : nX1 = nX2 := by rw [← HW1a.out.is.1, ← HW2a.out.is.1, HPR.out.len]
  go_wp2_with fail
  clear hc0HT1 hc1HT1 hc2HT1 hc0HT2 hc1HT2 hc2HT2
  generalize (w4.alloc (.cells #[.int .i64 b2.d, .slice A2 n2 c2, .slice AX2 nX1 cX2] 25)) = wS at *
  obtain ⟨g1, hg1⟩ : ∃ g, w3.heap.size = g := ⟨_, rfl⟩
  obtain ⟨g2, hg2⟩ : ∃ g, w4.heap.size = g := ⟨_, rfl⟩
  rw [hg1] at HT1
  rw [hg2] at HT2
  simp only [hg1, hg2]
  clear hg1 hg2
  go_loopg [17] nX1 (fun g x wr => ∃ k : Nat, k + g = nX1 ∧ x = .int .i64 (k : Int) ∧ Below wS.heap.size wS wr)
  case atStart => exact ⟨0, by omega, rfl, Below.refl _ _⟩
  case round =>
    obtain ⟨k, hk, rfl, hb⟩ := hrel
    have HKK := Lib.hid hk
    have HBEL := Lib.hid hb
    have hkn : k ≤ nX1 := by omega
    clear hk
    replace HL := Lib.hid (HL.out.below hb)
    replace HC := Lib.hid (HC.out.below hb)
    replace HK1 := Lib.hid (HK1.out.below hb)
    replace HT1 := Lib.hid (HT1.out.below hb)
    replace HW1a := Lib.hid (HW1a.out.below hb)
    replace HK2 := Lib.hid (HK2.out.below hb)
    replace HT2 := Lib.hid (HT2.out.below hb)
    replace HW2a := Lib.hid (HW2a.out.below hb)
    replace HB := Lib.hid (Below.andThen HB.out hb)
    clear hb
    have hc0HT1 := HT1.out.c0
    have hc1HT1 := HT1.out.c1
    have hc2HT1 := HT1.out.c2
    have hc0HT2 := HT2.out.c0
    have hc1HT2 := HT2.out.c1
    have hc2HT2 := HT2.out.c2
    by_cases hlt : k < nX1
    ·
      obtain ⟨b7, o7, A7, n7, c7, l7, rfl, hb7, hc7, hI7, hX7⟩ := isW_get HW1a.out.is hlt
      obtain ⟨b8, o8, A8, n8, c8, l8, rfl, hb8, hc8, hI8, hX8⟩ := isW_get HW2a.out.is hlt
      have hpre := HPR.out.pre _ _ _ hX7 hX8
      have hsh := HPR.out.short _ _ hX7
      have hcut2 := List.getElem?_eq_getElem (show k < b2.cuts.length by have h1 := HW2a.out.is.1; have h2 := HPR.out.rt2.wl; omega)
      have h81 := (HPR.out.rt2.ok _ _ _ hX8 hcut2).1
      clear hcut2
      have hle := hpre.length_le
      rw [hI7.1] at hsh hle
      rw [hI8.1] at hle h81
      obtain ⟨b9, o9, -, -, -, -, rfl, -, -, -, -⟩ := isVV_get hI8 (k := 0) (by omega)
      have hI9 := isVV_pre hI8 hpre hI7.1
      have hnm7 := hI7.2.2.1
      have hnc7 := hI7.2.1
      have hnm8 := hI8.2.2.1
      have hnc8 := hI8.2.1
      have hlt0 : (k : Int) < (nX1 : Int) := by omega
      have HI7 := Lib.hid hI7
      have HI9 := Lib.hid hI9
      have HB7 := Lib.hid hb7
      have HB8 := Lib.hid hb8
      have HC7 := Lib.hid hc7
      have HC8 := Lib.hid hc8
      have hgt1 : ¬ ((n8 : Int) < (n7 : Int)) := by omega
      have hgt2 : ¬ (p < (n7 : Int)) := by omega
      clear hI7 hI8 hX7 hX8 hpre hI9 hb7 hb8 hc7 hc8 h81
      go_wp2_with fail
      clear hc0HT1 hc1HT1 hc2HT1 hc0HT2 hc1HT2 hc2HT2
      refine wk.region_tailS 44 [.is (.pointer (some ⟨g1, 2, none⟩)), .is (.slice (some ⟨b7, o7, none⟩) nX1 cX1), .is (.int .i64 (k : Int)), .is (.pointer (some ⟨b7, o7 + k, none⟩)), .is (.slice A7 n7 c7), .is (.int .i64 (n7 : Int)), .is (.pointer (some ⟨g2, 2, none⟩)), .is (.slice (some ⟨b8, o8, none⟩) nX1 cX2), .is (.int .i64 (k : Int)), .is (.pointer (some ⟨b8, o8 + k, none⟩)), .is (.slice (some ⟨b9, o9, none⟩) n8 c8), .is (.int .i64 (n8 : Int)), .is (.bool false), .is (.bool false), .is (.pointer (some ⟨g1, 2, none⟩)), .is (.slice (some ⟨b7, o7, none⟩) nX1 cX1), .is (.int .i64 (k : Int)), .is (.pointer (some ⟨b7, o7 + k, none⟩)), .is (.slice A7 n7 c7), .is (.int .i64 (n7 : Int)), .is (.int .i64 p), .is (.bool false), .is (.bool false), .is (.bool false), .is (.pointer (some ⟨g1, 2, none⟩)), .is (.slice (some ⟨b7, o7, none⟩) nX1 cX1), .is (.int .i64 (k : Int)), .is (.pointer (some ⟨b7, o7 + k, none⟩)), .is (.slice A7 n7 c7), .is (.pointer (some ⟨g2, 2, none⟩)), .is (.slice (some ⟨b8, o8, none⟩) nX1 cX2), .is (.int .i64 (k : Int)), .is (.pointer (some ⟨b8, o8 + k, none⟩)), .is (.slice (some ⟨b9, o9, none⟩) n8 c8), .is (.pointer (some ⟨g1, 2, none⟩)), .is (.slice (some ⟨b7, o7, none⟩) nX1 cX1), .is (.int .i64 (k : Int)), .is (.pointer (some ⟨b7, o7 + k, none⟩)), .is (.slice A7 n7 c7), .is (.int .i64 (n7 : Int)), .is (.slice (some ⟨b9, o9, none⟩) n7 c8), .is (.bool true), .is (.bool false), .is (.bool false)] [some 81, some 82, some 83, some 84, some 85, some 86, some 87, some 88, some 89, some 90, some 91, some 92, some 93, some 94, some 95, some 96, some 97, some 98, some 99, some 100, some 101, some 102, some 103, some 104, some 105, some 106, some 107, some 108, some 109, some 110, some 111, some 112, some 113, some 114, some 115, some 116, some 117, some 118, some 119, some 120, some 121, some 122, some 123, some 124] (by kernel_rfl) (by kernel_rfl) (by kernel_rfl) (by kernel_rfl) [] (by kernel_rfl) (by intro p hp; cases hp) (by kernel_rfl) (by kernel_rfl) ?hstep ?hdone
      case hstep =>
        intro i o ho hi hns E w4 hb4 D
        have hi2 : i = 0 ∨ i = 1 ∨ i = 2 ∨ i = 3 ∨ i = 4 ∨ i = 5 ∨ i = 6 ∨ i = 7 ∨ i = 8 ∨ i = 9 ∨ i = 10 ∨ i = 11 ∨ i = 12 ∨ i = 13 ∨ i = 14 ∨ i = 15 ∨ i = 16 ∨ i = 17 ∨ i = 18 ∨ i = 19 ∨ i = 20 ∨ i = 21 ∨ i = 22 ∨ i = 23 ∨ i = 24 ∨ i = 25 ∨ i = 26 ∨ i = 27 ∨ i = 28 ∨ i = 29 ∨ i = 30 ∨ i = 31 ∨ i = 32 ∨ i = 33 ∨ i = 34 ∨ i = 35 ∨ i = 36 ∨ i = 37 ∨ i = 38 ∨ i = 39 ∨ i = 40 ∨ i = 41 ∨ i = 42 ∨ i = 43 := by omega
        clear hi
        rcases hi2 with rfl | rfl | rfl | rfl | rfl | rfl | rfl | rfl | rfl | rfl | rfl | rfl | rfl | rfl | rfl | rfl | rfl | rfl | rfl | rfl | rfl | rfl | rfl | rfl | rfl | rfl | rfl | rfl | rfl | rfl | rfl | rfl | rfl | rfl | rfl | rfl | rfl | rfl | rfl | rfl | rfl | rfl | rfl | rfl
        ·
          have ho2 := (Array.getElem?_eq_some_iff.1 ho).2
          simp only [List.getElem_toArray, List.getElem_cons_zero] at ho2
          subst ho2
          clear ho
          have e13 := D.old 13 (by kernel_rfl)
          exact wk.does_run (by simp only [execOp]; rw [show E (.tmp 13) = .pointer (some ⟨g1, 0, none⟩) by rw [e13]; rfl]; go_simp) rfl
        ·
          have ho2 := (Array.getElem?_eq_some_iff.1 ho).2
          simp only [List.getElem_toArray, List.getElem_cons_succ, List.getElem_cons_zero] at ho2
          subst ho2
          clear ho
          have e81 := D.is { on := 0, ground := .data } (by simp) rfl rfl 81 rfl
          exact wk.does_load1 rfl e81 ((HT1.out.below ((Below.refl _ _).drew.trans hb4)).c2) Try.underlying23 rfl rfl
        ·
          have ho2 := (Array.getElem?_eq_some_iff.1 ho).2
          simp only [List.getElem_toArray, List.getElem_cons_succ, List.getElem_cons_zero] at ho2
          subst ho2
          clear ho
          have e17 := D.old 17 (by kernel_rfl)
          exact wk.does_move rfl (by rw [e17]; rfl)
        ·
          have ho2 := (Array.getElem?_eq_some_iff.1 ho).2
          simp only [List.getElem_toArray, List.getElem_cons_succ, List.getElem_cons_zero] at ho2
          subst ho2
          clear ho
          have e82 := D.is { on := 1, ground := .data } (by simp) rfl rfl 82 rfl
          have e83 := D.is { on := 2, ground := .data } (by simp) rfl rfl 83 rfl
          exact wk.does_run (by simp only [execOp]; rw [show E (.tmp 82) = _ from e82, show E (.tmp 83) = _ from e83]; go_simp) rfl
        ·
          have ho2 := (Array.getElem?_eq_some_iff.1 ho).2
          simp only [List.getElem_toArray, List.getElem_cons_succ, List.getElem_cons_zero] at ho2
          subst ho2
          clear ho
          have e84 := D.is { on := 3, ground := .data } (by simp) rfl rfl 84 rfl
          exact wk.does_load1 rfl e84 ((((Below.refl _ _).drew.trans hb4).cell (p := ⟨_, _, none⟩) HB7.out).trans HC7.out) Try.underlying39 rfl rfl
        ·
          have ho2 := (Array.getElem?_eq_some_iff.1 ho).2
          simp only [List.getElem_toArray, List.getElem_cons_succ, List.getElem_cons_zero] at ho2
          subst ho2
          clear ho
          have e85 := D.is { on := 4, ground := .data } (by simp) rfl rfl 85 rfl
          exact wk.does_run (by simp only [execOp, resolve, invoke, builtin, Sem.run_bind, Sem.run_pure, Result.andThen_ok, List.map_toArray, List.map_cons, List.map_nil]; rw [show E (.tmp 85) = _ from e85]; go_simp) rfl
        ·
          have ho2 := (Array.getElem?_eq_some_iff.1 ho).2
          simp only [List.getElem_toArray, List.getElem_cons_succ, List.getElem_cons_zero] at ho2
          subst ho2
          clear ho
          have e15 := D.old 15 (by kernel_rfl)
          exact wk.does_run (by simp only [execOp]; rw [show E (.tmp 15) = .pointer (some ⟨g2, 0, none⟩) by rw [e15]; rfl]; go_simp) rfl
        ·
          have ho2 := (Array.getElem?_eq_some_iff.1 ho).2
          simp only [List.getElem_toArray, List.getElem_cons_succ, List.getElem_cons_zero] at ho2
          subst ho2
          clear ho
          have e87 := D.is { on := 6, ground := .data } (by simp) rfl rfl 87 rfl
          exact wk.does_load1 rfl e87 ((HT2.out.below ((Below.refl _ _).drew.trans hb4)).c2) Try.underlying23 rfl rfl
        ·
          have ho2 := (Array.getElem?_eq_some_iff.1 ho).2
          simp only [List.getElem_toArray, List.getElem_cons_succ, List.getElem_cons_zero] at ho2
          subst ho2
          clear ho
          have e17 := D.old 17 (by kernel_rfl)
          exact wk.does_move rfl (by rw [e17]; rfl)
        ·
          have ho2 := (Array.getElem?_eq_some_iff.1 ho).2
          simp only [List.getElem_toArray, List.getElem_cons_succ, List.getElem_cons_zero] at ho2
          subst ho2
          clear ho
          have e88 := D.is { on := 7, ground := .data } (by simp) rfl rfl 88 rfl
          have e89 := D.is { on := 8, ground := .data } (by simp) rfl rfl 89 rfl
          exact wk.does_run (by simp only [execOp]; rw [show E (.tmp 88) = _ from e88, show E (.tmp 89) = _ from e89]; go_simp) rfl
        ·
          have ho2 := (Array.getElem?_eq_some_iff.1 ho).2
          simp only [List.getElem_toArray, List.getElem_cons_succ, List.getElem_cons_zero] at ho2
          subst ho2
          clear ho
          have e90 := D.is { on := 9, ground := .data } (by simp) rfl rfl 90 rfl
          exact wk.does_load1 rfl e90 ((((Below.refl _ _).drew.trans hb4).cell (p := ⟨_, _, none⟩) HB8.out).trans HC8.out) Try.underlying39 rfl rfl
        ·
          have ho2 := (Array.getElem?_eq_some_iff.1 ho).2
          simp only [List.getElem_toArray, List.getElem_cons_succ, List.getElem_cons_zero] at ho2
          subst ho2
          clear ho
          have e91 := D.is { on := 10, ground := .data } (by simp) rfl rfl 91 rfl
          exact wk.does_run (by simp only [execOp, resolve, invoke, builtin, Sem.run_bind, Sem.run_pure, Result.andThen_ok, List.map_toArray, List.map_cons, List.map_nil]; rw [show E (.tmp 91) = _ from e91]; go_simp) rfl
        ·
          have ho2 := (Array.getElem?_eq_some_iff.1 ho).2
          simp only [List.getElem_toArray, List.getElem_cons_succ, List.getElem_cons_zero] at ho2
          subst ho2
          clear ho
          have e86 := D.is { on := 5, ground := .data } (by simp) rfl rfl 86 rfl
          have e92 := D.is { on := 11, ground := .data } (by simp) rfl rfl 92 rfl
          exact wk.does_run (by simp only [execOp]; rw [show E (.tmp 86) = _ from e86, show E (.tmp 92) = _ from e92]; go_simp) rfl
        ·
          have ho2 := (Array.getElem?_eq_some_iff.1 ho).2
          simp only [List.getElem_toArray, List.getElem_cons_succ, List.getElem_cons_zero] at ho2
          subst ho2
          clear ho
          have e93 := D.is { on := 12, ground := .data } (by simp) rfl rfl 93 rfl
          exact wk.does_move rfl e93
        ·
          have ho2 := (Array.getElem?_eq_some_iff.1 ho).2
          simp only [List.getElem_toArray, List.getElem_cons_succ, List.getElem_cons_zero] at ho2
          subst ho2
          clear ho
          have e13 := D.old 13 (by kernel_rfl)
          exact wk.does_run (by simp only [execOp]; rw [show E (.tmp 13) = .pointer (some ⟨g1, 0, none⟩) by rw [e13]; rfl]; go_simp) rfl
        ·
          have ho2 := (Array.getElem?_eq_some_iff.1 ho).2
          simp only [List.getElem_toArray, List.getElem_cons_succ, List.getElem_cons_zero] at ho2
          subst ho2
          clear ho
          have e95 := D.is { on := 14, ground := .data } (by simp) rfl rfl 95 rfl
          exact wk.does_load1 rfl e95 ((HT1.out.below ((Below.refl _ _).drew.trans hb4)).c2) Try.underlying23 rfl rfl
        ·
          have ho2 := (Array.getElem?_eq_some_iff.1 ho).2
          simp only [List.getElem_toArray, List.getElem_cons_succ, List.getElem_cons_zero] at ho2
          subst ho2
          clear ho
          have e17 := D.old 17 (by kernel_rfl)
          exact wk.does_move rfl (by rw [e17]; rfl)
        ·
          have ho2 := (Array.getElem?_eq_some_iff.1 ho).2
          simp only [List.getElem_toArray, List.getElem_cons_succ, List.getElem_cons_zero] at ho2
          subst ho2
          clear ho
          have e96 := D.is { on := 15, ground := .data } (by simp) rfl rfl 96 rfl
          have e97 := D.is { on := 16, ground := .data } (by simp) rfl rfl 97 rfl
          exact wk.does_run (by simp only [execOp]; rw [show E (.tmp 96) = _ from e96, show E (.tmp 97) = _ from e97]; go_simp) rfl
        ·
          have ho2 := (Array.getElem?_eq_some_iff.1 ho).2
          simp only [List.getElem_toArray, List.getElem_cons_succ, List.getElem_cons_zero] at ho2
          subst ho2
          clear ho
          have e98 := D.is { on := 17, ground := .data } (by simp) rfl rfl 98 rfl
          exact wk.does_load1 rfl e98 ((((Below.refl _ _).drew.trans hb4).cell (p := ⟨_, _, none⟩) HB7.out).trans HC7.out) Try.underlying39 rfl rfl
        ·
          have ho2 := (Array.getElem?_eq_some_iff.1 ho).2
          simp only [List.getElem_toArray, List.getElem_cons_succ, List.getElem_cons_zero] at ho2
          subst ho2
          clear ho
          have e99 := D.is { on := 18, ground := .data } (by simp) rfl rfl 99 rfl
          exact wk.does_run (by simp only [execOp, resolve, invoke, builtin, Sem.run_bind, Sem.run_pure, Result.andThen_ok, List.map_toArray, List.map_cons, List.map_nil]; rw [show E (.tmp 99) = _ from e99]; go_simp) rfl
        ·
          have ho2 := (Array.getElem?_eq_some_iff.1 ho).2
          simp only [List.getElem_toArray, List.getElem_cons_succ, List.getElem_cons_zero] at ho2
          subst ho2
          clear ho
          have e12 := D.old 12 (by kernel_rfl)
          exact wk.does_move rfl (by rw [e12]; rfl)
        ·
          have ho2 := (Array.getElem?_eq_some_iff.1 ho).2
          simp only [List.getElem_toArray, List.getElem_cons_succ, List.getElem_cons_zero] at ho2
          subst ho2
          clear ho
          have e100 := D.is { on := 19, ground := .data } (by simp) rfl rfl 100 rfl
          have e101 := D.is { on := 20, ground := .data } (by simp) rfl rfl 101 rfl
          exact wk.does_run (by simp only [execOp]; rw [show E (.tmp 100) = _ from e100, show E (.tmp 101) = _ from e101]; go_simp) rfl
        ·
          have ho2 := (Array.getElem?_eq_some_iff.1 ho).2
          simp only [List.getElem_toArray, List.getElem_cons_succ, List.getElem_cons_zero] at ho2
          subst ho2
          clear ho
          have e94 := D.is { on := 13, ground := .data } (by simp) rfl rfl 94 rfl
          have e102 := D.is { on := 21, ground := .data } (by simp) rfl rfl 102 rfl
          exact wk.does_pick rfl e94 e102
        ·
          have ho2 := (Array.getElem?_eq_some_iff.1 ho).2
          simp only [List.getElem_toArray, List.getElem_cons_succ, List.getElem_cons_zero] at ho2
          subst ho2
          clear ho
          have e103 := D.is { on := 22, ground := .data } (by simp) rfl rfl 103 rfl
          exact wk.does_move rfl e103
        ·
          have ho2 := (Array.getElem?_eq_some_iff.1 ho).2
          simp only [List.getElem_toArray, List.getElem_cons_succ, List.getElem_cons_zero] at ho2
          subst ho2
          clear ho
          have e13 := D.old 13 (by kernel_rfl)
          exact wk.does_run (by simp only [execOp]; rw [show E (.tmp 13) = .pointer (some ⟨g1, 0, none⟩) by rw [e13]; rfl]; go_simp) rfl
        ·
          have ho2 := (Array.getElem?_eq_some_iff.1 ho).2
          simp only [List.getElem_toArray, List.getElem_cons_succ, List.getElem_cons_zero] at ho2
          subst ho2
          clear ho
          have e105 := D.is { on := 24, ground := .data } (by simp) rfl rfl 105 rfl
          exact wk.does_load1 rfl e105 ((HT1.out.below ((Below.refl _ _).drew.trans hb4)).c2) Try.underlying23 rfl rfl
        ·
          have ho2 := (Array.getElem?_eq_some_iff.1 ho).2
          simp only [List.getElem_toArray, List.getElem_cons_succ, List.getElem_cons_zero] at ho2
          subst ho2
          clear ho
          have e17 := D.old 17 (by kernel_rfl)
          exact wk.does_move rfl (by rw [e17]; rfl)
        ·
          have ho2 := (Array.getElem?_eq_some_iff.1 ho).2
          simp only [List.getElem_toArray, List.getElem_cons_succ, List.getElem_cons_zero] at ho2
          subst ho2
          clear ho
          have e106 := D.is { on := 25, ground := .data } (by simp) rfl rfl 106 rfl
          have e107 := D.is { on := 26, ground := .data } (by simp) rfl rfl 107 rfl
          exact wk.does_run (by simp only [execOp]; rw [show E (.tmp 106) = _ from e106, show E (.tmp 107) = _ from e107]; go_simp) rfl
        ·
          have ho2 := (Array.getElem?_eq_some_iff.1 ho).2
          simp only [List.getElem_toArray, List.getElem_cons_succ, List.getElem_cons_zero] at ho2
          subst ho2
          clear ho
          have e108 := D.is { on := 27, ground := .data } (by simp) rfl rfl 108 rfl
          exact wk.does_load1 rfl e108 ((((Below.refl _ _).drew.trans hb4).cell (p := ⟨_, _, none⟩) HB7.out).trans HC7.out) Try.underlying39 rfl rfl
        ·
          have ho2 := (Array.getElem?_eq_some_iff.1 ho).2
          simp only [List.getElem_toArray, List.getElem_cons_succ, List.getElem_cons_zero] at ho2
          subst ho2
          clear ho
          have e15 := D.old 15 (by kernel_rfl)
          exact wk.does_run (by simp only [execOp]; rw [show E (.tmp 15) = .pointer (some ⟨g2, 0, none⟩) by rw [e15]; rfl]; go_simp) rfl
        ·
          have ho2 := (Array.getElem?_eq_some_iff.1 ho).2
          simp only [List.getElem_toArray, List.getElem_cons_succ, List.getElem_cons_zero] at ho2
          subst ho2
          clear ho
          have e110 := D.is { on := 29, ground := .data } (by simp) rfl rfl 110 rfl
          exact wk.does_load1 rfl e110 ((HT2.out.below ((Below.refl _ _).drew.trans hb4)).c2) Try.underlying23 rfl rfl
        ·
          have ho2 := (Array.getElem?_eq_some_iff.1 ho).2
          simp only [List.getElem_toArray, List.getElem_cons_succ, List.getElem_cons_zero] at ho2
          subst ho2
          clear ho
          have e17 := D.old 17 (by kernel_rfl)
          exact wk.does_move rfl (by rw [e17]; rfl)
        ·
          have ho2 := (Array.getElem?_eq_some_iff.1 ho).2
          simp only [List.getElem_toArray, List.getElem_cons_succ, List.getElem_cons_zero] at ho2
          subst ho2
          clear ho
          have e111 := D.is { on := 30, ground := .data } (by simp) rfl rfl 111 rfl
          have e112 := D.is { on := 31, ground := .data } (by simp) rfl rfl 112 rfl
          exact wk.does_run (by simp only [execOp]; rw [show E (.tmp 111) = _ from e111, show E (.tmp 112) = _ from e112]; go_simp) rfl
        ·
          have ho2 := (Array.getElem?_eq_some_iff.1 ho).2
          simp only [List.getElem_toArray, List.getElem_cons_succ, List.getElem_cons_zero] at ho2
          subst ho2
          clear ho
          have e113 := D.is { on := 32, ground := .data } (by simp) rfl rfl 113 rfl
          exact wk.does_load1 rfl e113 ((((Below.refl _ _).drew.trans hb4).cell (p := ⟨_, _, none⟩) HB8.out).trans HC8.out) Try.underlying39 rfl rfl
        ·
          have ho2 := (Array.getElem?_eq_some_iff.1 ho).2
          simp only [List.getElem_toArray, List.getElem_cons_succ, List.getElem_cons_zero] at ho2
          subst ho2
          clear ho
          have e13 := D.old 13 (by kernel_rfl)
          exact wk.does_run (by simp only [execOp]; rw [show E (.tmp 13) = .pointer (some ⟨g1, 0, none⟩) by rw [e13]; rfl]; go_simp) rfl
        ·
          have ho2 := (Array.getElem?_eq_some_iff.1 ho).2
          simp only [List.getElem_toArray, List.getElem_cons_succ, List.getElem_cons_zero] at ho2
          subst ho2
          clear ho
          have e115 := D.is { on := 34, ground := .data } (by simp) rfl rfl 115 rfl
          exact wk.does_load1 rfl e115 ((HT1.out.below ((Below.refl _ _).drew.trans hb4)).c2) Try.underlying23 rfl rfl
        ·
          have ho2 := (Array.getElem?_eq_some_iff.1 ho).2
          simp only [List.getElem_toArray, List.getElem_cons_succ, List.getElem_cons_zero] at ho2
          subst ho2
          clear ho
          have e17 := D.old 17 (by kernel_rfl)
          exact wk.does_move rfl (by rw [e17]; rfl)
        ·
          have ho2 := (Array.getElem?_eq_some_iff.1 ho).2
          simp only [List.getElem_toArray, List.getElem_cons_succ, List.getElem_cons_zero] at ho2
          subst ho2
          clear ho
          have e116 := D.is { on := 35, ground := .data } (by simp) rfl rfl 116 rfl
          have e117 := D.is { on := 36, ground := .data } (by simp) rfl rfl 117 rfl
          exact wk.does_run (by simp only [execOp]; rw [show E (.tmp 116) = _ from e116, show E (.tmp 117) = _ from e117]; go_simp) rfl
        ·
          have ho2 := (Array.getElem?_eq_some_iff.1 ho).2
          simp only [List.getElem_toArray, List.getElem_cons_succ, List.getElem_cons_zero] at ho2
          subst ho2
          clear ho
          have e118 := D.is { on := 37, ground := .data } (by simp) rfl rfl 118 rfl
          exact wk.does_load1 rfl e118 ((((Below.refl _ _).drew.trans hb4).cell (p := ⟨_, _, none⟩) HB7.out).trans HC7.out) Try.underlying39 rfl rfl
        ·
          have ho2 := (Array.getElem?_eq_some_iff.1 ho).2
          simp only [List.getElem_toArray, List.getElem_cons_succ, List.getElem_cons_zero] at ho2
          subst ho2
          clear ho
          have e119 := D.is { on := 38, ground := .data } (by simp) rfl rfl 119 rfl
          exact wk.does_run (by simp only [execOp, resolve, invoke, builtin, Sem.run_bind, Sem.run_pure, Result.andThen_ok, List.map_toArray, List.map_cons, List.map_nil]; rw [show E (.tmp 119) = _ from e119]; go_simp) rfl
        ·
          have ho2 := (Array.getElem?_eq_some_iff.1 ho).2
          simp only [List.getElem_toArray, List.getElem_cons_succ, List.getElem_cons_zero] at ho2
          subst ho2
          clear ho
          have e114 := D.is { on := 33, ground := .data } (by simp) rfl rfl 114 rfl
          have e120 := D.is { on := 39, ground := .data } (by simp) rfl rfl 120 rfl
          have ht9 : Try.prog.underlying 39 = some (.slice (Try.prog.elem 39)) := by simp [Program.elem, Try.underlying39]
          exact wk.does_run (by simp only [execOp, Option.map_some, Option.map_none]; rw [show E (.tmp 114) = _ from e114, show E (.tmp 120) = _ from e120]; simp only [Sem.run_bind, Sem.run_pure, run_sliceAt_slice w4 _ _ _ _ _ ht9, run_pre w4 b9 o9 n8 c8 n7 (by omega) hnc8, Result.andThen_ok]) rfl
        ·
          have ho2 := (Array.getElem?_eq_some_iff.1 ho).2
          simp only [List.getElem_toArray, List.getElem_cons_succ, List.getElem_cons_zero] at ho2
          subst ho2
          clear ho
          have e109 := D.is { on := 28, ground := .data } (by simp) rfl rfl 109 rfl
          have e121 := D.is { on := 40, ground := .data } (by simp) rfl rfl 121 rfl
          refine wk.does_fn (f := 25) (vs := #[.slice A7 n7 c7, .slice (some ⟨b9, o9, none⟩) n7 c8]) rfl (D.fn _) (by simp [e109, e121]) (by go_simp) ?_
          refine (sameRows_calls _ _ _ _ _ _ l7 l7 w4 (isVV_below HI7.out ((Below.refl _ _).drew.trans hb4)) (isVV_below HI9.out ((Below.refl _ _).drew.trans hb4))).mono ?_
          rintro e w7 ⟨rfl, q7, hq7⟩
          exact ⟨_, rfl, below_of_drew hq7, by rw [decide_eq_true rfl]; rfl⟩
        ·
          have ho2 := (Array.getElem?_eq_some_iff.1 ho).2
          simp only [List.getElem_toArray, List.getElem_cons_succ, List.getElem_cons_zero] at ho2
          subst ho2
          clear ho
          have e122 := D.is { on := 41, ground := .data } (by simp) rfl rfl 122 rfl
          exact wk.does_un rfl (by rw [show E (.tmp 122) = _ from e122]; go_simp) rfl
        ·
          have ho2 := (Array.getElem?_eq_some_iff.1 ho).2
          simp only [List.getElem_toArray, List.getElem_cons_succ, List.getElem_cons_zero] at ho2
          subst ho2
          clear ho
          have e104 := D.is { on := 23, ground := .data } (by simp) rfl rfl 104 rfl
          have e123 := D.is { on := 42, ground := .data } (by simp) rfl rfl 123 rfl
          exact wk.does_pick rfl e104 e123
      case hdone =>
        intro vals w4 hb4 hv
        have h43 := hv 43 (by omega)
        clear hv
        replace h43 : vals 43 = (.bool false) := h43
        simp only [List.drop_succ_cons, List.drop_zero, wpList, wk.setL, List.setIfInBounds_toArray, List.set_cons_zero, List.set_cons_succ, Nat.zero_add, Nat.reduceAdd, h43]
        generalize vals 0 = x0
        generalize vals 1 = x1
        generalize vals 2 = x2
        generalize vals 3 = x3
        generalize vals 4 = x4
        generalize vals 5 = x5
        generalize vals 6 = x6
        generalize vals 7 = x7
        generalize vals 8 = x8
        generalize vals 9 = x9
        generalize vals 10 = x10
        generalize vals 11 = x11
        generalize vals 12 = x12
        generalize vals 13 = x13
        generalize vals 14 = x14
        generalize vals 15 = x15
        generalize vals 16 = x16
        generalize vals 17 = x17
        generalize vals 18 = x18
        generalize vals 19 = x19
        generalize vals 20 = x20
        generalize vals 21 = x21
        generalize vals 22 = x22
        generalize vals 23 = x23
        generalize vals 24 = x24
        generalize vals 25 = x25
        generalize vals 26 = x26
        generalize vals 27 = x27
        generalize vals 28 = x28
        generalize vals 29 = x29
        generalize vals 30 = x30
        generalize vals 31 = x31
        generalize vals 32 = x32
        generalize vals 33 = x33
        generalize vals 34 = x34
        generalize vals 35 = x35
        generalize vals 36 = x36
        generalize vals 37 = x37
        generalize vals 38 = x38
        generalize vals 39 = x39
        generalize vals 40 = x40
        generalize vals 41 = x41
        generalize vals 42 = x42
        have hb5 : Below wS.heap.size wS w4 := HBEL.out.trans (((Below.refl _ _).drew.trans hb4).mono HBEL.out.size)
        clear hb4
        have HB5 := Lib.hid hb5
        clear hb5
        go_wp2_with fail
        go_roundg (gk - 1)
        case measure => have := HKK.out; omega
        case rel => exact ⟨k + 1, by have := HKK.out; omega, by go_num, HB5.out⟩
    obtain rfl : k = nX1 := by omega
    go_wp2_with fail
    clear hc0HT1 hc1HT1 hc2HT1 hc0HT2 hc1HT2 hc2HT2
    refine (worst_calls _ b1 m _ _ _ L _ HK1.out HPR.out.rt1 HM.out.1 HM.out.2 HL.out.is HPR.out.vs1).mono ?_
    rintro e w5 ⟨rfl, hb⟩
    replace HL := Lib.hid (HL.out.below hb)
    replace HC := Lib.hid (HC.out.below hb)
    replace HK1 := Lib.hid (HK1.out.below hb)
    replace HT1 := Lib.hid (HT1.out.below hb)
    replace HW1a := Lib.hid (HW1a.out.below hb)
    replace HK2 := Lib.hid (HK2.out.below hb)
    replace HT2 := Lib.hid (HT2.out.below hb)
    replace HW2a := Lib.hid (HW2a.out.below hb)
    replace HB := Lib.hid (Below.andThen HB.out hb)
    clear hb
    have hc0HT1 := HT1.out.c0
    have hc1HT1 := HT1.out.c1
    have hc2HT1 := HT1.out.c2
    have hc0HT2 := HT2.out.c0
    have hc1HT2 := HT2.out.c1
    have hc2HT2 := HT2.out.c2
    go_wp2_with fail
    clear hc0HT1 hc1HT1 hc2HT1 hc0HT2 hc1HT2 hc2HT2
    refine (worst_calls _ b2 m _ _ _ L _ HK2.out HPR.out.rt2 HM.out.1 HM.out.2 HL.out.is HPR.out.vs2).mono ?_
    rintro e w6 ⟨rfl, hb⟩
    replace HL := Lib.hid (HL.out.below hb)
    replace HC := Lib.hid (HC.out.below hb)
    replace HK1 := Lib.hid (HK1.out.below hb)
    replace HT1 := Lib.hid (HT1.out.below hb)
    replace HW1a := Lib.hid (HW1a.out.below hb)
    replace HK2 := Lib.hid (HK2.out.below hb)
    replace HT2 := Lib.hid (HT2.out.below hb)
    replace HW2a := Lib.hid (HW2a.out.below hb)
    replace HB := Lib.hid (Below.andThen HB.out hb)
    clear hb
    have hc0HT1 := HT1.out.c0
    have hc1HT1 := HT1.out.c1
    have hc2HT1 := HT1.out.c2
    have hc0HT2 := HT2.out.c0
    have hc1HT2 := HT2.out.c1
    have hc2HT2 := HT2.out.c2
    go_wp2_with fail
    clear hc0HT1 hc1HT1 hc2HT1 hc0HT2 hc1HT2 hc2HT2
    refine (sanity_calls _).mono ?_
    rintro e w7 ⟨rfl, hb⟩
    replace HL := Lib.hid (HL.out.below hb)
    replace HC := Lib.hid (HC.out.below hb)
    replace HK1 := Lib.hid (HK1.out.below hb)
    replace HT1 := Lib.hid (HT1.out.below hb)
    replace HW1a := Lib.hid (HW1a.out.below hb)
    replace HK2 := Lib.hid (HK2.out.below hb)
    replace HT2 := Lib.hid (HT2.out.below hb)
    replace HW2a := Lib.hid (HW2a.out.below hb)
    replace HB := Lib.hid (Below.andThen HB.out hb)
    clear hb
    have hc0HT1 := HT1.out.c0
    have hc1HT1 := HT1.out.c1
    have hc2HT1 := HT1.out.c2
    have hc0HT2 := HT2.out.c0
    have hc1HT2 := HT2.out.c1
    have hc2HT2 := HT2.out.c2
    have hless := HPR.out.less
    have hzero := HPR.out.zero
    rw [HNL.out] at hzero
    generalize worst m b1 L = z1 at *
    generalize worst m b2 L = z2 at *
    by_cases hpn : p < (n : Int)
    · go_wp2_with fail
      go_ret
      exact ⟨rfl, HB.out⟩
    · have hz0 : z1 = 0 := hzero (by omega)
      subst hz0
      go_wp2_with fail
      go_ret
      exact ⟨rfl, HB.out⟩
end Go.Proofs.Ytiodjepjbooniaa.codeTrainingCovers
