/- The examples that every law computes first. -/
import Derived.Test.YtlcdjabfkfmpdaaBo

import Derived.Test.YtlcdjabfkfmpdaaBk

import Derived.Test.YtlcdjabfkfmpdaaBn

import Derived.Test.YtlcdjabfkfmpdaaBg

import Derived.Test.YtlcdjabfkfmpdaaBp

import Derived.Test.YtlcdjabfkfmpdaaBm

namespace Go.Proofs.Ytlcdjabfkfmpdaa.bk

open Go.ChangeShapes Go.WideShapes Go.ChangeAt Go.RowKit

open Go.Proofs.Ytlcdjabfkfmpdaa.bq Go.Proofs.Ytlcdjabfkfmpdaa.vk Go.Proofs.Ytlcdjabfkfmpdaa.wk

set_option linter.unusedVariables false
theorem isI_lit (w : World) (l : List Int) (h : ∀ x ∈ l, -9223372036854775808 ≤ x ∧ x ≤ 9223372036854775807) (hl : l.length ≤ 1000) : wo.IsI (w.alloc (.cells (l.map (Value.int .i64)).toArray 3)) (some ⟨w.heap.size, 0, none⟩) l.length l.length l := by
  refine ⟨rfl, Nat.le_refl _, by omega, fun _ => ⟨w.heap.size, 0, rfl, by rw [size_new]; omega, fun j u hu => ?_⟩, h⟩
  rw [cell_of_row _ _ _ _ _ _ (heap_alloc_new w _), Nat.zero_add]
  simpa using hu
theorem isI_two (w : World) (g : Nat) (hg : w.heap.size = g) (a b : Int) (h : -1000 ≤ a ∧ a ≤ 1000) (h' : -1000 ≤ b ∧ b ≤ 1000) : wo.IsI (w.alloc (.cells #[.int .i64 a, .int .i64 b] 3)) (some ⟨g, 0, none⟩) 2 2 [a, b] := by
  subst hg
  exact isI_lit w [a, b] (fun x hx => by simp at hx; omega) (by simp)
theorem isX_two (w : World) (g : Nat) (hg : w.heap.size = g) (a b c d : Int) (h1 : -1000 ≤ a ∧ a ≤ 1000) (h2 : -1000 ≤ b ∧ b ≤ 1000) (h3 : -1000 ≤ c ∧ c ≤ 1000) (h4 : -1000 ≤ d ∧ d ≤ 1000) :
    IsX ((w.alloc (.cells #[.int .i64 a, .int .i64 b] 3)).alloc (.cells #[.int .i64 c, .int .i64 d] 3)) (.agg #[.slice (some ⟨g, 0, none⟩) 2 2, .slice (some ⟨g + 1, 0, none⟩) 2 2]) ([a, b], [c, d]) :=
  ⟨_, _, _, _, _, _, rfl, isI_below (isI_two w g hg a b h1 h2) (below_new _ _), isI_two _ _ (by rw [size_new, hg]) c d h3 h4⟩
theorem isVV_two (w : World) (a b c d : Int) (h1 : -1000 ≤ a ∧ a ≤ 1000) (h2 : -1000 ≤ b ∧ b ≤ 1000) (h3 : -1000 ≤ c ∧ c ≤ 1000) (h4 : -1000 ≤ d ∧ d ≤ 1000) :
    IsVV (((w.alloc (.cells #[.int .i64 a, .int .i64 b] 3)).alloc (.cells #[.int .i64 c, .int .i64 d] 3)).alloc (.cells #[.slice (some ⟨w.heap.size, 0, none⟩) 2 2, .slice (some ⟨w.heap.size + 1, 0, none⟩) 2 2] 23)) (some ⟨w.heap.size + 1 + 1, 0, none⟩) 2 2 [[a, b], [c, d]] := by
  have i1 := isI_below (isI_two w _ rfl a b h1 h2) (below_new _ (.cells #[.int .i64 c, .int .i64 d] 3))
  have i2 := isI_two (w.alloc (.cells #[.int .i64 a, .int .i64 b] 3)) (w.heap.size + 1) (size_new _ _) c d h3 h4
  have hr := heap_alloc_new ((w.alloc (.cells #[.int .i64 a, .int .i64 b] 3)).alloc (.cells #[.int .i64 c, .int .i64 d] 3)) (.cells #[.slice (some ⟨w.heap.size, 0, none⟩) 2 2, .slice (some ⟨w.heap.size + 1, 0, none⟩) 2 2] 23)
  simp only [size_new] at hr
  refine ⟨rfl, Nat.le_refl _, by omega, fun k l hk => ?_⟩
  match k, hk with
  | 0, hk => simp at hk; subst hk; exact ⟨_, _, _, _, _, rfl, (Array.getElem?_eq_some_iff.1 hr).1, by rw [cell_of_row _ _ _ _ _ _ hr]; rfl, isI_below i1 (below_new _ _)⟩
  | 1, hk => simp at hk; subst hk; exact ⟨_, _, _, _, _, rfl, (Array.getElem?_eq_some_iff.1 hr).1, by rw [cell_of_row _ _ _ _ _ _ hr]; rfl, isI_below i2 (below_new _ _)⟩
def exB : Pair := ([0, 0], [4, 2])
def exV : List Int := [7, -1]
theorem IsVq.below {w w' : World} {A : Option Addr} {n c : Nat} {l : List Int} (h : wo.IsI w A n c l) (hb : Below w.heap.size w w') : wo.IsI w' A n c l := isI_below h hb
structure VI (w : World) (A : Option Addr) (n c : Nat) (l : List Int) : Prop where
  is : wo.IsI w A n c l
theorem VI.below {w w' : World} {A : Option Addr} {n c : Nat} {l : List Int} (h : VI w A n c l) (hb : Below w.heap.size w w') : VI w' A n c l := ⟨isI_below h.is hb⟩
theorem VI.at {u : World} {g n c k : Nat} {l : List Int} {x : Int} (h : VI u (some ⟨g, 0, none⟩) n c l) (hx : l[k]? = some x) : u.cell? ⟨g, k, none⟩ = some (.int .i64 x) := by
  obtain ⟨b, o, hA, hc⟩ := wi.RC_at h.is.2.2.2.1 (k := k) (u := .int .i64 x) (by simp [hx])
  simp only [Option.some.injEq, Addr.mk.injEq, and_true] at hA
  obtain ⟨rfl, rfl⟩ := hA
  rw [Nat.zero_add] at hc
  exact hc
structure SanF (w0 : World) (g1 gv gw : Nat) (s1 s2 : Value) (u : World) : Prop where
  t1 : TwoX u g1 s1 s2
  x : IsX u (.agg #[s1, s2]) exB
  v : VI u (some ⟨gv, 0, none⟩) 2 2 exV
  wn : VI u (some ⟨gw, 0, none⟩) 6 6 [4, 10, 3, 10, 58, 7]
  b : Below w0.heap.size w0 u
theorem SanF.below {w0 : World} {g1 gv gw : Nat} {s1 s2 : Value} {u u' : World} (h : SanF w0 g1 gv gw s1 s2 u) (hb : Below u.heap.size u u') : SanF w0 g1 gv gw s1 s2 u' :=
  ⟨h.t1.below hb, h.x.below hb, h.v.below hb, h.wn.below hb, Below.andThen h.b hb⟩
theorem exB_box : IsBox exB := bvalid_iff.1 (by decide)
theorem exB_cut : cutR exB 0 1 = (([0, 0], [1, 2]), ([2, 0], [4, 2]), 0) := by
  rw [cutR, if_pos ⟨exB_box, by decide, by decide, by decide, by decide⟩]; rfl
theorem san_n (j : Int) (h : j = 0 ∨ j = 1 ∨ j = 2) : ([4, 10, 3, 10, 58, 7] : List Int)[j.toNat]? = some (keyf (j + 1) (difs bq.gap exB (exV, exV))) := by rcases h with rfl | rfl | rfl <;> decide
theorem san_f (j : Int) (h : j = 0 ∨ j = 1 ∨ j = 2) : ([4, 10, 3, 10, 58, 7] : List Int)[(j + 3).toNat]? = some (keyf (j + 1) (difs bq.reach exB (exV, exV))) := by rcases h with rfl | rfl | rfl <;> decide
theorem san_a (j : Int) (h : j = 0 ∨ j = 1 ∨ j = 2) : asked (j + 1) exB (exV, exV) = true := by rcases h with rfl | rfl | rfl <;> decide
theorem san_m : meetR exB ([5, 0], [5, 0]) = (([], []), false, 0) := by decide
theorem san_s : splitR exB = (0, 2, 0) := by decide
theorem san_p : asked 2 exB ([7, 5], [9, 9]) = true := by decide
theorem san_k : keyf 2 (difs bq.gap exB ([7, 5], [9, 9])) = 18 := by decide
theorem san_b1 : sameB ([0, 0], [1, 2]) ([0, 0], [1, 2]) = true := by decide
theorem san_b2 : sameB ([2, 0], [4, 2]) ([2, 0], [4, 2]) = true := by decide
set_option maxRecDepth 100000 in
set_option maxHeartbeats 40000000 in
theorem sanity_calls (w : World) : Calls Try.prog 11 #[] w fun e w' => e = .returned (.bool true) ∧ Below w.heap.size w w' := by
  have HB := Lib.hid (Below.refl w.heap.size w)
  go_enter Try.func11, Try.ntmps11
  go_wp2_with fail
  refine (of_calls _ _ _ _ _ (isVV_two _ 4 0 0 2 (by decide) (by decide) (by decide) (by decide))).mono ?_
  rintro e w1 ⟨x, rfl, hx, hb⟩
  replace HB := Lib.hid (Below.andThen (Below.andThen HB.out (Below.andThen (Below.andThen (below_new _ _) (below_new _ _)) (below_new _ _))) hb)
  have h0 : (ofL [[4, 0], [0, 2]]) = some exB := by decide
  rw [h0] at hx
  obtain ⟨A1, n1, c1, A2, n2, c2, rfl, hx1, hx2⟩ := hx
  have HX : Hid (IsX w1 (.agg #[.slice A1 n1 c1, .slice A2 n2 c2]) exB) := ⟨_, _, _, _, _, _, rfl, hx1, hx2⟩
  have HE : Hid ((if (ofL [[4, 0], [0, 2]]).isSome then (0 : Int) else 1) = 0) := by show _ = _; rw [h0]; rfl
  rw [HE.out]
  clear h0 hx1 hx2
  clear hb
  go_wp2_with fail
  refine (sameBox_calls _ _ exB ([0, 0], [4, 2]) _ (HX.out.below (Below.andThen (Below.andThen (Below.andThen (below_new _ _) (below_new _ _)) (below_new _ _)) (below_new _ _))) (isX_two _ (w1.heap.size + 1 + 1) (by simp only [size_new]) 0 0 4 2 (by decide) (by decide) (by decide) (by decide))).mono ?_
  rintro e w2 ⟨rfl, hb⟩
  replace HX := Lib.hid ((HX.out.below (Below.andThen (Below.andThen (Below.andThen (below_new _ _) (below_new _ _)) (below_new _ _)) (below_new _ _))).below hb)
  replace HB := Lib.hid (Below.andThen (Below.andThen HB.out (Below.andThen (Below.andThen (Below.andThen (below_new _ _) (below_new _ _)) (below_new _ _)) (below_new _ _))) hb)
  have HT1 := Lib.hid (((TwoX.new w1 (.slice A1 n1 c1) (.slice A2 n2 c2)).below (Below.andThen (Below.andThen (below_new _ _) (below_new _ _)) (below_new _ _))).below hb)
  have HVV := Lib.hid (((VI.mk (isI_two (w1.alloc (.cells #[.slice A1 n1 c1, .slice A2 n2 c2] 25)) (w1.heap.size + 1) (size_new _ _) 7 (-1) (by decide) (by decide))).below (Below.andThen (below_new _ _) (below_new _ _))).below hb)
  rw [show sameB exB ([0, 0], [4, 2]) = true from by decide]
  clear hb
  have hc0HT1 := HT1.out.two.c0
  have hc1HT1 := HT1.out.two.c1
  go_wp2_with fail
  clear hc0HT1 hc1HT1
  refine (has_calls _ exB _ _ _ [4, 2] _ (HX.out.below (below_new _ _)) (isI_two _ (w2.heap.size) rfl 4 2 (by decide) (by decide))).mono ?_
  rintro e w3 ⟨rfl, hb⟩
  replace HX := Lib.hid ((HX.out.below (below_new _ _)).below hb)
  replace HT1 := Lib.hid ((HT1.out.below (below_new _ _)).below hb)
  replace HVV := Lib.hid ((HVV.out.below (below_new _ _)).below hb)
  replace HB := Lib.hid (Below.andThen (Below.andThen HB.out (below_new _ _)) hb)
  rw [show has exB [4, 2] = true from by decide]
  clear hb
  have hc0HT1 := HT1.out.two.c0
  have hc1HT1 := HT1.out.two.c1
  go_wp2_with fail
  clear hc0HT1 hc1HT1
  refine (has_calls _ exB _ _ _ exV _ HX.out HVV.out.is).mono ?_
  rintro e w4 ⟨rfl, hb⟩
  replace HX := Lib.hid ((HX.out.below (Below.refl _ _)).below hb)
  replace HT1 := Lib.hid ((HT1.out.below (Below.refl _ _)).below hb)
  replace HVV := Lib.hid ((HVV.out.below (Below.refl _ _)).below hb)
  replace HB := Lib.hid (Below.andThen (Below.andThen HB.out (Below.refl _ _)) hb)
  rw [show has exB exV = false from by decide]
  clear hb
  have hc0HT1 := HT1.out.two.c0
  have hc1HT1 := HT1.out.two.c1
  go_wp2_with fail
  clear hc0HT1 hc1HT1
  have HW := Lib.hid (VI.mk (isI_lit w4 [4, 10, 3, 10, 58, 7] (fun x hx => by simp at hx; omega) (by decide)))
  have HF : Hid (SanF w w1.heap.size (w1.heap.size + 1) w4.heap.size (.slice A1 n1 c1) (.slice A2 n2 c2) (w4.alloc (.cells #[.int .i64 4, .int .i64 10, .int .i64 3, .int .i64 10, .int .i64 58, .int .i64 7] 3))) :=
    ⟨HT1.out.below (below_new _ _), HX.out.below (below_new _ _), HVV.out.below (below_new _ _), HW.out, Below.andThen HB.out (below_new _ _)⟩
  clear HX HT1 HVV HB HW
  obtain ⟨gw, hgw⟩ : ∃ gw, w4.heap.size = gw := ⟨_, rfl⟩
  obtain ⟨g1, hg1⟩ : ∃ g1, w1.heap.size = g1 := ⟨_, rfl⟩
  rw [hgw, hg1] at HF
  simp only [hgw, hg1]
  clear hgw hg1
  go_loopg [5] 3 (fun g x wr => ∃ j : Int, j + g = 3 ∧ 0 ≤ j ∧ x = .int .i64 j ∧ SanF w g1 (g1 + 1) gw (.slice A1 n1 c1) (.slice A2 n2 c2) wr)
  case atStart => exact ⟨0, by omega, by omega, rfl, HF.out⟩
  case round =>
    obtain ⟨j, hj, hj0, rfl, hF⟩ := hrel
    have HF := Lib.hid hF
    have hc0 := hF.t1.two.c0
    have hc1 := hF.t1.two.c1
    clear hF
    by_cases hj3 : j = 3
    · subst hj3
      have hgk : gk = 0 := by omega
      go_wp2_with fail
      clear hc0 hc1
      refine (cut_calls _ exB 0 1 _ HF.out.x).mono ?_
      rintro e w11 ⟨x, y, rfl, hx, hy, hb⟩
      replace HF := Lib.hid ((HF.out.below (Below.refl _ _)).below hb)
      rw [exB_cut] at hx hy
      obtain ⟨a1, a2, a3, a4, a5, a6, rfl, hx1, hx2⟩ := hx
      obtain ⟨b1, b2, b3, b4, b5, b6, rfl, hy1, hy2⟩ := hy
      have HX1 : Hid (IsX w11 (.agg #[.slice a1 a2 a3, .slice a4 a5 a6]) ([0, 0], [1, 2])) := ⟨_, _, _, _, _, _, rfl, hx1, hx2⟩
      have HY1 : Hid (IsX w11 (.agg #[.slice b1 b2 b3, .slice b4 b5 b6]) ([2, 0], [4, 2])) := ⟨_, _, _, _, _, _, rfl, hy1, hy2⟩
      clear hx1 hx2 hy1 hy2
      rw [exB_cut]
      clear hb
      have hc0 := HF.out.t1.two.c0
      have hc1 := HF.out.t1.two.c1
      clear hc0 hc1
      have hc0 := (HF.out.t1.below (show Below _ w11 ((w11.alloc (.cells #[.slice a1 a2 a3, .slice a4 a5 a6] 25)).alloc (.cells #[.slice b1 b2 b3, .slice b4 b5 b6] 25)) from (Below.andThen (below_new _ _) (below_new _ _)))).two.c0
      have hc1 := (HF.out.t1.below (show Below _ w11 ((w11.alloc (.cells #[.slice a1 a2 a3, .slice a4 a5 a6] 25)).alloc (.cells #[.slice b1 b2 b3, .slice b4 b5 b6] 25)) from (Below.andThen (below_new _ _) (below_new _ _)))).two.c1
      obtain ⟨ga, hga⟩ : ∃ ga, w11.heap.size = ga := ⟨_, rfl⟩
      have hga1 : w11.heap.size + 1 = ga + 1 := by rw [hga]
      have HTA := Lib.hid ((TwoX.new w11 (.slice a1 a2 a3) (.slice a4 a5 a6)).below (below_new _ (.cells #[.slice b1 b2 b3, .slice b4 b5 b6] 25)))
      have HTB := Lib.hid (TwoX.new (w11.alloc (.cells #[.slice a1 a2 a3, .slice a4 a5 a6] 25)) (.slice b1 b2 b3) (.slice b4 b5 b6))
      rw [hga] at HTA
      rw [size_new, hga] at HTB
      simp only [hga]
      go_wp2_with fail
      clear hc0 hc1
      refine (split_calls _ exB _ (HF.out.x.below (Below.andThen (below_new _ _) (below_new _ _)))).mono ?_
      rintro e w12 ⟨rfl, hb⟩
      replace HF := Lib.hid ((HF.out.below (Below.andThen (below_new _ _) (below_new _ _))).below hb)
      replace HTA := Lib.hid (HTA.out.below hb)
      replace HTB := Lib.hid (HTB.out.below hb)
      replace HX1 := Lib.hid ((HX1.out.below (Below.andThen (below_new _ _) (below_new _ _))).below hb)
      replace HY1 := Lib.hid ((HY1.out.below (Below.andThen (below_new _ _) (below_new _ _))).below hb)
      rw [san_s]
      clear hb
      have hc0 := HF.out.t1.two.c0
      have hc1 := HF.out.t1.two.c1
      go_wp2_with fail
      clear hc0 hc1
      refine (meet_calls _ _ exB ([5, 0], [5, 0]) _ (HF.out.x.below (Below.andThen (below_new _ _) (below_new _ _))) (isX_two _ _ rfl 5 0 5 0 (by decide) (by decide) (by decide) (by decide))).mono ?_
      rintro e w13 ⟨x, rfl, hx, hb⟩
      replace HF := Lib.hid ((HF.out.below (Below.andThen (below_new _ _) (below_new _ _))).below hb)
      replace HTA := Lib.hid ((HTA.out.below (Below.andThen (below_new _ _) (below_new _ _))).below hb)
      replace HTB := Lib.hid ((HTB.out.below (Below.andThen (below_new _ _) (below_new _ _))).below hb)
      replace HX1 := Lib.hid ((HX1.out.below (Below.andThen (below_new _ _) (below_new _ _))).below hb)
      replace HY1 := Lib.hid ((HY1.out.below (Below.andThen (below_new _ _) (below_new _ _))).below hb)
      rw [san_m] at hx
      rw [san_m]
      obtain ⟨m1, m2, m3, m4, m5, m6, rfl, _, _⟩ := hx
      clear hb
      have hc0 := (HF.out.t1.below (show Below _ w13 (w13.alloc (.cells #[.slice m1 m2 m3, .slice m4 m5 m6] 25)) from (below_new _ _))).two.c0
      have hc1 := (HF.out.t1.below (show Below _ w13 (w13.alloc (.cells #[.slice m1 m2 m3, .slice m4 m5 m6] 25)) from (below_new _ _))).two.c1
      go_wp2_with fail
      clear hc0 hc1
      refine (apart_calls 2 _ _ exB ([7, 5], [9, 9]) _ (HF.out.x.below (Below.andThen (Below.andThen (below_new _ _) (below_new _ _)) (below_new _ _))) (isX_two _ (w13.heap.size + 1) (by simp only [size_new]) 7 5 9 9 (by decide) (by decide) (by decide) (by decide))).mono ?_
      rintro e w14 ⟨rfl, hb⟩
      replace HF := Lib.hid ((HF.out.below (Below.andThen (Below.andThen (below_new _ _) (below_new _ _)) (below_new _ _))).below hb)
      replace HTA := Lib.hid ((HTA.out.below (Below.andThen (Below.andThen (below_new _ _) (below_new _ _)) (below_new _ _))).below hb)
      replace HTB := Lib.hid ((HTB.out.below (Below.andThen (Below.andThen (below_new _ _) (below_new _ _)) (below_new _ _))).below hb)
      replace HX1 := Lib.hid ((HX1.out.below (Below.andThen (Below.andThen (below_new _ _) (below_new _ _)) (below_new _ _))).below hb)
      replace HY1 := Lib.hid ((HY1.out.below (Below.andThen (Below.andThen (below_new _ _) (below_new _ _)) (below_new _ _))).below hb)
      rw [if_pos san_p, if_pos san_p, san_k]
      clear hb
      have hc0HTA := HTA.out.two.c0
      have hc1HTA := HTA.out.two.c1
      have hc0HTB := HTB.out.two.c0
      have hc1HTB := HTB.out.two.c1
      go_wp2_with fail
      clear hc0HTA hc1HTA hc0HTB hc1HTB
      refine (sameBox_calls _ _ ([0, 0], [1, 2]) ([0, 0], [1, 2]) _ (HX1.out.below (Below.andThen (below_new _ _) (below_new _ _))) (isX_two _ _ rfl 0 0 1 2 (by decide) (by decide) (by decide) (by decide))).mono ?_
      rintro e w15 ⟨rfl, hb⟩
      replace HF := Lib.hid ((HF.out.below (Below.andThen (below_new _ _) (below_new _ _))).below hb)
      replace HTA := Lib.hid ((HTA.out.below (Below.andThen (below_new _ _) (below_new _ _))).below hb)
      replace HTB := Lib.hid ((HTB.out.below (Below.andThen (below_new _ _) (below_new _ _))).below hb)
      replace HX1 := Lib.hid ((HX1.out.below (Below.andThen (below_new _ _) (below_new _ _))).below hb)
      replace HY1 := Lib.hid ((HY1.out.below (Below.andThen (below_new _ _) (below_new _ _))).below hb)
      rw [san_b1]
      clear hb
      have hc0HTA := HTA.out.two.c0
      have hc1HTA := HTA.out.two.c1
      have hc0HTB := HTB.out.two.c0
      have hc1HTB := HTB.out.two.c1
      go_wp2_with fail
      clear hc0HTA hc1HTA hc0HTB hc1HTB
      refine (sameBox_calls _ _ ([2, 0], [4, 2]) ([2, 0], [4, 2]) _ (HY1.out.below (Below.andThen (below_new _ _) (below_new _ _))) (isX_two _ _ rfl 2 0 4 2 (by decide) (by decide) (by decide) (by decide))).mono ?_
      rintro e w16 ⟨rfl, hb⟩
      replace HF := Lib.hid ((HF.out.below (Below.andThen (below_new _ _) (below_new _ _))).below hb)
      replace HTA := Lib.hid ((HTA.out.below (Below.andThen (below_new _ _) (below_new _ _))).below hb)
      replace HTB := Lib.hid ((HTB.out.below (Below.andThen (below_new _ _) (below_new _ _))).below hb)
      replace HX1 := Lib.hid ((HX1.out.below (Below.andThen (below_new _ _) (below_new _ _))).below hb)
      replace HY1 := Lib.hid ((HY1.out.below (Below.andThen (below_new _ _) (below_new _ _))).below hb)
      rw [san_b2]
      clear hb
      go_wp2_with fail
      go_ret
      exact ⟨rfl, HF.out.b⟩
    · have hj012 : j = 0 ∨ j = 1 ∨ j = 2 := by omega
      have hm1 := san_a j hj012
      have hw1 := san_n j hj012
      have hw2 := san_f j hj012
      obtain ⟨kn, hkn⟩ : ∃ kn : Int, keyf (j + 1) (difs bq.gap exB (exV, exV)) = kn := ⟨_, rfl⟩
      obtain ⟨kf, hkf⟩ : ∃ kf : Int, keyf (j + 1) (difs bq.reach exB (exV, exV)) = kf := ⟨_, rfl⟩
      rw [hkn] at hw1
      rw [hkf] at hw2
      have hlt : j < 3 := by omega
      go_wp2_with fail
      clear hc0 hc1
      refine (near_calls (j + 1) _ exB _ _ _ exV _ HF.out.x HF.out.v.is).mono ?_
      rintro e u1 ⟨rfl, hb⟩
      replace HF := Lib.hid (HF.out.below hb)
      clear hb
      rw [if_pos hm1, if_pos hm1, hkn]
      have hc0 := HF.out.t1.two.c0
      have hc1 := HF.out.t1.two.c1
      go_wp2_with fail
      clear hc0 hc1
      refine (far_calls (j + 1) _ exB _ _ _ exV _ HF.out.x HF.out.v.is).mono ?_
      rintro e u2 ⟨rfl, hb⟩
      replace HF := Lib.hid (HF.out.below hb)
      clear hb
      rw [if_pos hm1, if_pos hm1, hkf]
      have hk1 := HF.out.wn.at hw1
      have hk2 := HF.out.wn.at hw2
      go_wp2_with fail
      go_roundg (gk - 1)
      case measure => omega
      case rel => exact ⟨j + 1, by omega, by omega, by go_num, HF.out⟩
end Go.Proofs.Ytlcdjabfkfmpdaa.bk
