/- Joined: Dd De Ce Df Dg Op9. -/
import Derived.Test.YtegoinkkcfbfaaaG8

import Derived.BigQuiet

import Derived.Laws.Rows

import Derived.OpenShut

import Derived.ChangeSame

import Derived.WideShapes
/- The reference's Join. -/
namespace Go.Proofs.Ytegoinkkcfbfaaa.bk

open Go.ChangeShapes Go.WideShapes Go.ChangeAt Go.RowKit

open Go.Proofs.Ytegoinkkcfbfaaa.bq Go.Proofs.Ytegoinkkcfbfaaa.vk Go.Proofs.Ytegoinkkcfbfaaa.wk

set_option linter.unusedVariables false
end Go.Proofs.Ytegoinkkcfbfaaa.bk
/- The reference's Meet. -/
namespace Go.Proofs.Ytegoinkkcfbfaaa.bk

open Go.ChangeShapes Go.WideShapes Go.ChangeAt Go.RowKit

open Go.Proofs.Ytegoinkkcfbfaaa.bq Go.Proofs.Ytegoinkkcfbfaaa.vk Go.Proofs.Ytegoinkkcfbfaaa.wk

set_option linter.unusedVariables false
theorem TwoX.belowB {w w' : World} {g B : Nat} {a b : Value} (h : TwoX w g a b) (hb : Below B w w') (hg : g < B) : TwoX w' g a b := (hb.block g hg).trans h
theorem Rows.lt {w : World} {S : Nat} {va vb : Value} {n m : Nat} {xs ys : List Value} (h : Rows w S va vb n m xs ys) : S < w.heap.size := (Array.getElem?_eq_some_iff.1 h.two).1
theorem meetR_none {p q : Pair} (h : balike p q = true) {k : Nat} (hk : k < p.1.length) (hgt : at' (meet p q).2 k < at' (meet p q).1 k) : meetR p q = (([], []), false, 0) := by
  have hv : bvalid (meet p q) = false := by
    cases hh : bvalid (meet p q)
    · rfl
    · have := (bvalid_iff.1 hh).le k (by rw [meet_length]; exact hk)
      omega
  rw [meetR, if_pos h, hv]; rfl
theorem meet_isBox {p q : Pair} (h : balike p q = true) (hle : ∀ i, i < p.1.length → at' (meet p q).1 i ≤ at' (meet p q).2 i) : IsBox (meet p q) := by
  obtain ⟨hl, hp, hq⟩ := balike_iff.1 h
  have hlen := hp.len
  refine box_of (by rw [maxs_length]; exact hp.lo.pos) (by rw [maxs_length]; exact hp.lo.le) (by rw [maxs_length, mins_length]; exact hlen) fun i hi => ?_
  rw [maxs_length] at hi
  have hm := hle i hi
  have h3 : at' (meet p q).1 i = max (at' p.1 i) (at' q.1 i) := maxs_at hi
  have h4 : at' (meet p q).2 i = min (at' p.2 i) (at' q.2 i) := mins_at (by omega)
  have h5 : at' (maxs p.1 q.1) i = max (at' p.1 i) (at' q.1 i) := maxs_at hi
  have h6 : at' (mins p.2 q.2) i = min (at' p.2 i) (at' q.2 i) := mins_at (by omega)
  rw [h5, h6]
  have := box_bd hp hi
  have := box_bd hq (i := i) (by omega)
  omega
theorem meetR_some {p q : Pair} (h : balike p q = true) (hb : IsBox (meet p q)) : meetR p q = (meet p q, true, 0) := by
  rw [meetR, if_pos h, bvalid_iff.2 hb]; rfl
end Go.Proofs.Ytegoinkkcfbfaaa.bk
/- The reference's Near, Far. -/
namespace Go.Proofs.Ytegoinkkcfbfaaa.bk

open Go.ChangeShapes Go.WideShapes Go.ChangeAt Go.RowKit

open Go.Proofs.Ytegoinkkcfbfaaa.bq Go.Proofs.Ytegoinkkcfbfaaa.vk Go.Proofs.Ytegoinkkcfbfaaa.wk

set_option linter.unusedVariables false
theorem dists_comm {a b : List Int} (h : a.length = b.length) : dists a b = dists b a := map_congr' h fun i _ => Int.max_comm _ _
def TwoN (w : World) (g : Nat) (a b : Value) : Prop := w.heap[g]? = some (.cells #[a, b] 36 (0, 0))
theorem TwoN.two {w : World} {g : Nat} {a b : Value} (h : TwoN w g a b) : Two w g a b := ⟨_, h⟩
theorem TwoN.below {w w' : World} {g : Nat} {a b : Value} (h : TwoN w g a b) (hb : Below w.heap.size w w') : TwoN w' g a b := (hb.block g (Array.getElem?_eq_some_iff.1 h).1).trans h
theorem TwoN.f0 {w : World} {g : Nat} {a b : Value} (h : TwoN w g a b) (j : Nat) : w.frozen? ⟨g, j, none⟩ = false := frozen_of_row _ _ _ _ _ h
theorem TwoN.new (w : World) (a b : Value) : TwoN (w.alloc (.cells #[a, b] 36)) w.heap.size a b := heap_alloc_new w _
theorem TwoN.set {w : World} {g : Nat} {a b : Value} (h : TwoN w g a b) (x y : Value) : TwoN ((w.setCell ⟨g, 0, none⟩ x).setCell ⟨g, 1, none⟩ y) g x y := by
  have h1 := heap_setCell_same w g 0 #[a, b] 36 x h
  have h2 := heap_setCell_same (w.setCell ⟨g, 0, none⟩ x) g 1 _ 36 y h1
  exact h2
theorem res_n1 {fn : Func} {p : Tmp} (h : fn.results = #[.cell p 36]) (tmps : Array Value) (w : World) (g : Nat) (a b : Value) (hp : tmps.getD p undef = .pointer (some ⟨g, 0, none⟩)) (hg : TwoN w g a b) :
    (results fn tmps).run Try.prog w = .ok (.agg #[a, b]) w := by
  have hp' : tmps[p]?.getD undef = .pointer (some ⟨g, 0, none⟩) := by simpa using hp
  simp [results, h, hp', asAddr, run_loadVar_row w g _ _ #[a, b] (0, 0) _ hg Try.underlying36 rfl (by kernel_rfl)]
set_option maxRecDepth 100000 in
set_option maxHeartbeats 4000000 in
theorem refnear_calls (m : Int) (v : Value) (p : Pair) (A : Option Addr) (n c : Nat) (l : List Int) (w : World) (h : IsX w v p) (h2 : wo.IsI w A n c l) :
    Calls Try.prog 12 #[.int .i64 m, v, .slice A n c] w fun e w' => e = .returned (.agg #[.int .i64 (if asked m p (l, l) then keyf m (difs bq.gap p (l, l)) else 0), .int .i64 (if asked m p (l, l) then 0 else 1)]) ∧ Below w.heap.size w w' := by
  obtain ⟨A1, n1, c1, A2, n2, c2, rfl, hi, hi'⟩ := h
  have HB := Lib.hid (Below.andThen (below_new w (.cells #[.slice A1 n1 c1, .slice A2 n2 c2] 24)) (below_new _ (.cells #[.int .i64 0, .int .i64 0] 36)))
  have HT := Lib.hid ((TwoX.new w (.slice A1 n1 c1) (.slice A2 n2 c2)).below (below_new _ (.cells #[.int .i64 0, .int .i64 0] 36)))
  have HM := Lib.hid (TwoN.new (w.alloc (.cells #[.slice A1 n1 c1, .slice A2 n2 c2] 24)) (.int .i64 0) (.int .i64 0))
  rw [size_new] at HM
  have HX : Hid (IsX _ (.agg #[.slice A1 n1 c1, .slice A2 n2 c2]) p) := IsX.below ⟨_, _, _, _, _, _, rfl, hi, hi'⟩ HB.out
  have HV := Lib.hid (VI.mk (isI_below h2 HB.out))
  have HN1 := Lib.hid hi.1
  have HNL := Lib.hid h2.1
  obtain ⟨kv, hkv⟩ : ∃ kv : Int, (if asked m p (l, l) then keyf m (difs bq.gap p (l, l)) else 0) = kv := ⟨_, rfl⟩
  obtain ⟨ke, hke⟩ : ∃ ke : Int, (if asked m p (l, l) then 0 else 1) = ke := ⟨_, rfl⟩
  rw [hkv, hke]
  have HKV := Lib.hid hkv
  have HKE := Lib.hid hke
  clear hi hi' h2 hkv hke
  have hc0HT := HT.out.two.c0
  have hc1HT := HT.out.two.c1
  go_enter Try.func12, Try.ntmps12
  go_wp2_with fail
  clear hc0HT hc1HT
  refine (refasked_calls m _ p A n c l _ HX.out HV.out.is).mono ?_
  rintro e w1 ⟨rfl, hb⟩
  replace HT := Lib.hid (HT.out.below hb)
  replace HX := Lib.hid (HX.out.below hb)
  replace HV := Lib.hid (HV.out.below hb)
  replace HM := Lib.hid (HM.out.below hb)
  replace HB := Lib.hid (Below.andThen HB.out hb)
  clear hb
  have hc0HT := HT.out.two.c0
  have hc1HT := HT.out.two.c1
  cases ha : asked m p (l, l)
  ·
    have hk : kv = 0 := by rw [← HKV.out, ha]; rfl
    have hkk : ke = 1 := by rw [← HKE.out, ha]; rfl
    subst hk hkk
    clear hc0HT hc1HT
    have hm0 := HM.out.two.c0
    have hm1 := HM.out.two.c1
    have hg0 := HM.out.f0 0
    have hg1 := HM.out.f0 1
    have HM2 := Lib.hid (HM.out.set (.int .i64 0) (.int .i64 1))
    have HB2 := Lib.hid (below_set2 HB.out (show w.heap.size ≤ w.heap.size + 1 by omega) (.int .i64 0) (.int .i64 1))
    go_wp2_with fail
    exact bodyPost_ret (v := .agg #[.int .i64 0, .int .i64 1]) (res_n1 (fn := Try.f12) rfl _ _ (w.heap.size + 1) _ _ rfl HM2.out) rfl ⟨rfl, HB2.out⟩
  obtain ⟨hm3, hlp', hp, hv⟩ := asked_iff.1 ha
  have hlp : l.length = p.1.length := hlp'.symm
  have hk : kv = keyf m (dists (nearest p l) l) := by rw [← HKV.out, ha, if_pos rfl, near_key hp hlp, dists_comm (by rw [nearest_length])]
  have hkk : ke = 0 := by rw [← HKE.out, ha]; rfl
  subst hkk
  have HK := Lib.hid hk
  have HP := Lib.hid hp
  have HVV := Lib.hid hv
  have HM3 := Lib.hid hm3
  have HLP := Lib.hid hlp
  have hn32 : n ≤ 32 := by rw [← HNL.out]; exact hv.le
  have HN32 := Lib.hid hn32
  clear hm3 hlp' hp hv hlp hk hn32 ha
  go_wp2_with fail
  clear hc0HT hc1HT
  refine (nearest_calls _ p A n c l _ HX.out HV.out.is (by rw [← HLP.out]; exact HNL.out) (by rw [← HP.out.len, ← HLP.out]; exact HNL.out) (by have := HN32.out; omega)).mono ?_
  rintro e w2 ⟨x, rfl, hx, hb⟩
  replace HT := Lib.hid (HT.out.below hb)
  replace HX := Lib.hid (HX.out.below hb)
  replace HV := Lib.hid (HV.out.below hb)
  replace HM := Lib.hid (HM.out.below hb)
  replace HB := Lib.hid (Below.andThen HB.out hb)
  obtain ⟨An, nn, cn, rfl, hx⟩ := hx
  obtain rfl : n = nn := by rw [← hx.1, nearest_length, HNL.out]
  have HNE := Lib.hid (VI.mk hx)
  clear hx
  clear hb
  have hc0HT := HT.out.two.c0
  have hc1HT := HT.out.two.c1
  go_wp2_with fail
  clear hc0HT hc1HT
  refine (rkey_calls m HM3.out An A n cn n c (nearest p l) l _ HNE.out.is HV.out.is (Nat.le_refl _) HN32.out (fun i hi => by have h1 := HP.out.len; have h2 := HLP.out; have h3 := HNL.out; have a1 := vec_at HP.out.lo (i := i) (by omega); have a2 := vec_at HP.out.hi (i := i) (by omega); have a3 := vec_at HVV.out (i := i) (by omega); have a4 := HP.out.le i (by omega); have a5 := ((has_iff HP.out).1 (has_nearest HP.out HLP.out)).2 i (by omega); omega)).mono ?_
  rintro e w' ⟨rfl, q3, rfl⟩
  have hb := below_dr (Below.refl w2.heap.size w2) q3
  replace HT := Lib.hid (HT.out.below hb)
  replace HX := Lib.hid (HX.out.below hb)
  replace HV := Lib.hid (HV.out.below hb)
  replace HM := Lib.hid (HM.out.below hb)
  replace HNE := Lib.hid (HNE.out.below hb)
  replace HB := Lib.hid (Below.andThen HB.out hb)
  rw [← HK.out]
  clear hb
  have hc0HT := HT.out.two.c0
  have hc1HT := HT.out.two.c1
  clear hc0HT hc1HT
  have hm0 := HM.out.two.c0
  have hm1 := HM.out.two.c1
  have hg0 := HM.out.f0 0
  have hg1 := HM.out.f0 1
  have HM2 := Lib.hid (HM.out.set (.int .i64 kv) (.int .i64 0))
  have HB2 := Lib.hid (below_set2 HB.out (show w.heap.size ≤ w.heap.size + 1 by omega) (.int .i64 kv) (.int .i64 0))
  go_wp2_with fail
  exact bodyPost_ret (v := .agg #[.int .i64 kv, .int .i64 0]) (res_n1 (fn := Try.f12) rfl _ _ (w.heap.size + 1) _ _ rfl HM2.out) rfl ⟨rfl, HB2.out⟩
set_option maxRecDepth 100000 in
set_option maxHeartbeats 4000000 in
theorem reffar_calls (m : Int) (v : Value) (p : Pair) (A : Option Addr) (n c : Nat) (l : List Int) (w : World) (h : IsX w v p) (h2 : wo.IsI w A n c l) :
    Calls Try.prog 13 #[.int .i64 m, v, .slice A n c] w fun e w' => e = .returned (.agg #[.int .i64 (if asked m p (l, l) then keyf m (difs bq.reach p (l, l)) else 0), .int .i64 (if asked m p (l, l) then 0 else 1)]) ∧ Below w.heap.size w w' := by
  obtain ⟨A1, n1, c1, A2, n2, c2, rfl, hi, hi'⟩ := h
  have HB := Lib.hid (Below.andThen (below_new w (.cells #[.slice A1 n1 c1, .slice A2 n2 c2] 24)) (below_new _ (.cells #[.int .i64 0, .int .i64 0] 36)))
  have HT := Lib.hid ((TwoX.new w (.slice A1 n1 c1) (.slice A2 n2 c2)).below (below_new _ (.cells #[.int .i64 0, .int .i64 0] 36)))
  have HM := Lib.hid (TwoN.new (w.alloc (.cells #[.slice A1 n1 c1, .slice A2 n2 c2] 24)) (.int .i64 0) (.int .i64 0))
  rw [size_new] at HM
  have HX : Hid (IsX _ (.agg #[.slice A1 n1 c1, .slice A2 n2 c2]) p) := IsX.below ⟨_, _, _, _, _, _, rfl, hi, hi'⟩ HB.out
  have HV := Lib.hid (VI.mk (isI_below h2 HB.out))
  have HN1 := Lib.hid hi.1
  have HNL := Lib.hid h2.1
  obtain ⟨kv, hkv⟩ : ∃ kv : Int, (if asked m p (l, l) then keyf m (difs bq.reach p (l, l)) else 0) = kv := ⟨_, rfl⟩
  obtain ⟨ke, hke⟩ : ∃ ke : Int, (if asked m p (l, l) then 0 else 1) = ke := ⟨_, rfl⟩
  rw [hkv, hke]
  have HKV := Lib.hid hkv
  have HKE := Lib.hid hke
  clear hi hi' h2 hkv hke
  have hc0HT := HT.out.two.c0
  have hc1HT := HT.out.two.c1
  go_enter Try.func13, Try.ntmps13
  go_wp2_with fail
  clear hc0HT hc1HT
  refine (refasked_calls m _ p A n c l _ HX.out HV.out.is).mono ?_
  rintro e w1 ⟨rfl, hb⟩
  replace HT := Lib.hid (HT.out.below hb)
  replace HX := Lib.hid (HX.out.below hb)
  replace HV := Lib.hid (HV.out.below hb)
  replace HM := Lib.hid (HM.out.below hb)
  replace HB := Lib.hid (Below.andThen HB.out hb)
  clear hb
  have hc0HT := HT.out.two.c0
  have hc1HT := HT.out.two.c1
  cases ha : asked m p (l, l)
  ·
    have hk : kv = 0 := by rw [← HKV.out, ha]; rfl
    have hkk : ke = 1 := by rw [← HKE.out, ha]; rfl
    subst hk hkk
    clear hc0HT hc1HT
    have hm0 := HM.out.two.c0
    have hm1 := HM.out.two.c1
    have hg0 := HM.out.f0 0
    have hg1 := HM.out.f0 1
    have HM2 := Lib.hid (HM.out.set (.int .i64 0) (.int .i64 1))
    have HB2 := Lib.hid (below_set2 HB.out (show w.heap.size ≤ w.heap.size + 1 by omega) (.int .i64 0) (.int .i64 1))
    go_wp2_with fail
    exact bodyPost_ret (v := .agg #[.int .i64 0, .int .i64 1]) (res_n1 (fn := Try.f13) rfl _ _ (w.heap.size + 1) _ _ rfl HM2.out) rfl ⟨rfl, HB2.out⟩
  obtain ⟨hm3, hlp', hp, hv⟩ := asked_iff.1 ha
  have hlp : l.length = p.1.length := hlp'.symm
  have hk : kv = keyf m (dists (farthest p l) l) := by rw [← HKV.out, ha, if_pos rfl, far_key hp hlp, dists_comm (by rw [farthest_length])]
  have hkk : ke = 0 := by rw [← HKE.out, ha]; rfl
  subst hkk
  have HK := Lib.hid hk
  have HP := Lib.hid hp
  have HVV := Lib.hid hv
  have HM3 := Lib.hid hm3
  have HLP := Lib.hid hlp
  have hn32 : n ≤ 32 := by rw [← HNL.out]; exact hv.le
  have HN32 := Lib.hid hn32
  clear hm3 hlp' hp hv hlp hk hn32 ha
  go_wp2_with fail
  clear hc0HT hc1HT
  refine (farthest_calls _ p A n c l _ HX.out HV.out.is (by rw [← HLP.out]; exact HNL.out) (by rw [← HP.out.len, ← HLP.out]; exact HNL.out) (by have := HN32.out; omega) (fun i hi => by have h1 := HP.out.len; have h2 := HLP.out; have h3 := HNL.out; have a1 := vec_at HP.out.lo (i := i) (by omega); have a2 := vec_at HP.out.hi (i := i) (by omega); have a3 := vec_at HVV.out (i := i) (by omega); omega)).mono ?_
  rintro e w2 ⟨x, rfl, hx, hb⟩
  replace HT := Lib.hid (HT.out.below hb)
  replace HX := Lib.hid (HX.out.below hb)
  replace HV := Lib.hid (HV.out.below hb)
  replace HM := Lib.hid (HM.out.below hb)
  replace HB := Lib.hid (Below.andThen HB.out hb)
  obtain ⟨An, nn, cn, rfl, hx⟩ := hx
  obtain rfl : n = nn := by rw [← hx.1, farthest_length, HNL.out]
  have HNE := Lib.hid (VI.mk hx)
  clear hx
  clear hb
  have hc0HT := HT.out.two.c0
  have hc1HT := HT.out.two.c1
  go_wp2_with fail
  clear hc0HT hc1HT
  refine (rkey_calls m HM3.out An A n cn n c (farthest p l) l _ HNE.out.is HV.out.is (Nat.le_refl _) HN32.out (fun i hi => by have h1 := HP.out.len; have h2 := HLP.out; have h3 := HNL.out; have a1 := vec_at HP.out.lo (i := i) (by omega); have a2 := vec_at HP.out.hi (i := i) (by omega); have a3 := vec_at HVV.out (i := i) (by omega); have a4 := HP.out.le i (by omega); have a5 := ((has_iff HP.out).1 (has_farthest HP.out HLP.out)).2 i (by omega); omega)).mono ?_
  rintro e w' ⟨rfl, q3, rfl⟩
  have hb := below_dr (Below.refl w2.heap.size w2) q3
  replace HT := Lib.hid (HT.out.below hb)
  replace HX := Lib.hid (HX.out.below hb)
  replace HV := Lib.hid (HV.out.below hb)
  replace HM := Lib.hid (HM.out.below hb)
  replace HNE := Lib.hid (HNE.out.below hb)
  replace HB := Lib.hid (Below.andThen HB.out hb)
  rw [← HK.out]
  clear hb
  have hc0HT := HT.out.two.c0
  have hc1HT := HT.out.two.c1
  clear hc0HT hc1HT
  have hm0 := HM.out.two.c0
  have hm1 := HM.out.two.c1
  have hg0 := HM.out.f0 0
  have hg1 := HM.out.f0 1
  have HM2 := Lib.hid (HM.out.set (.int .i64 kv) (.int .i64 0))
  have HB2 := Lib.hid (below_set2 HB.out (show w.heap.size ≤ w.heap.size + 1 by omega) (.int .i64 kv) (.int .i64 0))
  go_wp2_with fail
  exact bodyPost_ret (v := .agg #[.int .i64 kv, .int .i64 0]) (res_n1 (fn := Try.f13) rfl _ _ (w.heap.size + 1) _ _ rfl HM2.out) rfl ⟨rfl, HB2.out⟩
end Go.Proofs.Ytegoinkkcfbfaaa.bk
/- The reference's Apart. -/
namespace Go.Proofs.Ytegoinkkcfbfaaa.bk

open Go.ChangeShapes Go.WideShapes Go.ChangeAt Go.RowKit

open Go.Proofs.Ytegoinkkcfbfaaa.bq Go.Proofs.Ytegoinkkcfbfaaa.vk Go.Proofs.Ytegoinkkcfbfaaa.wk

set_option linter.unusedVariables false
theorem wrap_sm9 (x : Int) (h : -9000 ≤ x ∧ x ≤ 9000) : IntKind.i64.wrap x = x := by
  simp [IntKind.wrap, IntKind.signed, IntKind.bits]; omega
/-- two rows of one's own, apart -/
structure Two2 (w : World) (S : Nat) (va vb : Value) (n m : Nat) (xs ys : List Value) : Prop where
  le : S ≤ w.heap.size
  a : w.ownsRow S 3 1 va n xs
  b : w.ownsRow S 3 1 vb m ys
  ne : vb.ownBlock = none ∨ vb.ownBlock ≠ va.ownBlock
theorem Two2.below {w w' : World} {S : Nat} {va vb : Value} {n m : Nat} {xs ys : List Value} (h : Two2 w S va vb n m xs ys) (hb : Below w.heap.size w w') : Two2 w' S va vb n m xs ys :=
  ⟨Nat.le_trans h.le hb.size, World.ownsRow.kept h.a (grown_of hb) (by cases va.ownBlock; left; rfl; right; simp), World.ownsRow.kept h.b (grown_of hb) (by cases vb.ownBlock; left; rfl; right; simp), h.ne⟩
theorem Two2.grow0 {w w2 : World} {S n m n' : Nat} {va vb v' : Value} {xs ys zs : List Value} (h : Two2 w S va vb n m xs ys) (o : Obj) (h2 : w2.ownsRow S 3 1 v' n' zs) (hg : (w.alloc o).grownBy w2 va.ownBlock)
    (hat : v'.ownBlock = va.ownBlock ∨ v'.ownBlock = some (w.heap.size + 1)) : Two2 w2 S v' vb n' m zs ys ∧ Below S w w2 := by
  have h1 := h.below (below_new w o)
  have hle := h.le
  have hs := hg.size
  rw [size_new] at hs
  refine ⟨⟨by omega, h2, World.ownsRow.kept h1.b hg h.ne, ?_⟩, ((Below.refl S w).alloc hle o).grown hg (by rw [size_new]; omega) (fun k hk => (h1.a.lt k hk).1)⟩
  cases hv : vb.ownBlock with
  | none => exact .inl rfl
  | some b =>
    right
    rcases hat with e | e
    · rw [e, ← hv]
      rcases h.ne with h0 | h0
      · rw [h0] at hv; cases hv
      · exact h0
    · rw [e]
      intro e2
      injection e2 with e2
      have := (h1.b.lt b hv).2
      rw [size_new] at this
      omega
theorem Two2.grow1 {w w2 : World} {S n m n' : Nat} {va vb v' : Value} {xs ys zs : List Value} (h : Two2 w S va vb n m xs ys) (o : Obj) (h2 : w2.ownsRow S 3 1 v' n' zs) (hg : (w.alloc o).grownBy w2 vb.ownBlock)
    (hat : v'.ownBlock = vb.ownBlock ∨ v'.ownBlock = some (w.heap.size + 1)) : Two2 w2 S va v' n n' xs zs ∧ Below S w w2 := by
  have h1 := h.below (below_new w o)
  have hle := h.le
  have hs := hg.size
  rw [size_new] at hs
  have hne : va.ownBlock = none ∨ va.ownBlock ≠ vb.ownBlock := by
    rcases h.ne with h0 | h0
    · rw [h0]; cases va.ownBlock <;> simp
    · exact .inr fun e => h0 e.symm
  refine ⟨⟨by omega, World.ownsRow.kept h1.a hg hne, h2, ?_⟩, ((Below.refl S w).alloc hle o).grown hg (by rw [size_new]; omega) (fun k hk => (h1.b.lt k hk).1)⟩
  rcases hat with e | e
  · rw [e]; exact h.ne
  · right
    rw [e]
    intro e2
    have := (h1.a.lt _ e2.symm).2
    rw [size_new] at this
    omega
theorem TwoN.belowB {w w' : World} {g B : Nat} {a b : Value} (h : TwoN w g a b) (hb : Below B w w') (hg : g < B) : TwoN w' g a b := (hb.block g hg).trans h
theorem difs_at (f : Int → Int → Int → Int → Int) (p q : Pair) {i : Nat} (hi : i < p.1.length) : at' (difs f p q) i = f (at' p.1 i) (at' p.2 i) (at' q.1 i) (at' q.2 i) := by
  unfold difs at'
  rw [List.getD_eq_getElem?_getD, List.getElem?_map, List.getElem?_range hi]
  rfl
theorem rep_at (n i : Nat) : at' (List.replicate n (0 : Int)) i = 0 := by
  unfold at'
  rw [List.getD_eq_getElem?_getD]
  by_cases h : i < n
  · rw [List.getElem?_replicate_of_lt h]; rfl
  · rw [List.getElem?_eq_none (by simp; omega)]; rfl
theorem dists_zero {p q : Pair} : dists (difs bq.gap p q) (List.replicate p.1.length 0) = difs bq.gap p q := by
  have hl : (difs bq.gap p q).length = p.1.length := by simp [difs]
  unfold dists
  rw [hl]
  unfold difs
  refine List.map_congr_left fun i hi => ?_
  have hi' : i < p.1.length := List.mem_range.1 hi
  have h1 := difs_at bq.gap p q hi'
  unfold difs at h1
  rw [h1, rep_at]
  unfold bq.gap
  omega
set_option maxRecDepth 100000 in
set_option maxHeartbeats 8000000 in
theorem refapart_calls (m : Int) (v u : Value) (p q : Pair) (w : World) (h : IsX w v p) (h2 : IsX w u q) :
    Calls Try.prog 14 #[.int .i64 m, v, u] w fun e w' => e = .returned (.agg #[.int .i64 (if asked m p q then keyf m (difs bq.gap p q) else 0), .int .i64 (if asked m p q then 0 else 1)]) ∧ Below w.heap.size w w' := by
  obtain ⟨i0, hi0, hz0, hz1, hz2⟩ := info_parts wi.infoI
  have HA := Lib.hid (fun w' hb => refalike_calls v u p q w' (h.below hb) (h2.below hb))
  obtain ⟨A, n, c, A', n', c', rfl, hi, hi'⟩ := h
  obtain ⟨A2, n2, c2, A2', n2', c2', rfl, hi2, hi2'⟩ := h2
  have HB0 := Lib.hid (Below.andThen (Below.andThen (below_new w (.cells #[.slice A n c, .slice A' n' c'] 24)) (below_new _ (.cells #[.slice A2 n2 c2, .slice A2' n2' c2'] 24))) (below_new _ (.cells #[.int .i64 0, .int .i64 0] 36)))
  have HT1 := Lib.hid (((TwoX.new w (.slice A n c) (.slice A' n' c')).below (below_new _ (.cells #[.slice A2 n2 c2, .slice A2' n2' c2'] 24))).below (below_new _ (.cells #[.int .i64 0, .int .i64 0] 36)))
  have HT2 := Lib.hid ((TwoX.new (w.alloc (.cells #[.slice A n c, .slice A' n' c'] 24)) (.slice A2 n2 c2) (.slice A2' n2' c2')).below (below_new _ (.cells #[.int .i64 0, .int .i64 0] 36)))
  have HN2 := Lib.hid (TwoN.new ((w.alloc (.cells #[.slice A n c, .slice A' n' c'] 24)).alloc (.cells #[.slice A2 n2 c2, .slice A2' n2' c2'] 24)) (.int .i64 0) (.int .i64 0))
  rw [size_new] at HT2
  rw [size_new, size_new] at HN2
  have H1 := Lib.hid hi
  have H1' := Lib.hid hi'
  have H2 := Lib.hid hi2
  have H2' := Lib.hid hi2'
  clear hi hi' hi2 hi2'
  obtain ⟨kv, hkv⟩ : ∃ kv : Int, (if asked m p q then keyf m (difs bq.gap p q) else 0) = kv := ⟨_, rfl⟩
  obtain ⟨ke, hke⟩ : ∃ ke : Int, (if asked m p q then 0 else 1) = ke := ⟨_, rfl⟩
  rw [hkv, hke]
  have HKV := Lib.hid hkv
  have HKE := Lib.hid hke
  clear hkv hke
  have hc0 := HT1.out.two.c0
  have hc1 := HT1.out.two.c1
  have hd0 := HT2.out.two.c0
  have hd1 := HT2.out.two.c1
  go_enter Try.func14, Try.ntmps14
  go_wp2_with fail
  refine (rmetric_calls m _).mono ?_
  rintro e w' ⟨rfl, rfl⟩
  generalize hG : w.heap.size = G at *
  have HG := Lib.hid hG
  clear hG
  cases hmet : metricB m
  · have hf : asked m p q = false := by
      have : metric m = false := hmet
      rw [asked, this]; rfl
    obtain rfl : kv = 0 := by rw [← HKV.out, hf]; rfl
    obtain rfl : ke = 1 := by rw [← HKE.out, hf]; rfl
    have hm0 := HN2.out.two.c0
    have hm1 := HN2.out.two.c1
    have hg0 := HN2.out.f0 0
    have hg1 := HN2.out.f0 1
    have HM2 := Lib.hid (HN2.out.set (.int .i64 0) (.int .i64 1))
    have HB2 := Lib.hid (below_set2 HB0.out (show G ≤ G + 1 + 1 by omega) (.int .i64 0) (.int .i64 1))
    go_wp2_with fail
    exact bodyPost_ret (v := .agg #[.int .i64 0, .int .i64 1]) (res_n1 (fn := Try.f14) rfl _ _ (G + 1 + 1) _ _ rfl HM2.out) rfl ⟨rfl, by rw [HG.out]; exact HB2.out⟩
  · go_wp2_with fail
    clear hc0 hc1 hd0 hd1
    refine (HA.out _ HB0.out).mono ?_
    rintro e w1 ⟨rfl, hb⟩
    replace HT1 := Lib.hid (HT1.out.below hb)
    replace HT2 := Lib.hid (HT2.out.below hb)
    replace HN2 := Lib.hid (HN2.out.below hb)
    have HB1 := Lib.hid (HB0.out.trans (hb.mono (by have h := HB0.out.size; rw [← HG.out]; exact h)))
    clear hb
    have hc0 := HT1.out.two.c0
    have hc1 := HT1.out.two.c1
    have hd0 := HT2.out.two.c0
    have hd1 := HT2.out.two.c1
    cases hal : balike p q
    · have hf : asked m p q = false := by rw [asked, hal, Bool.and_false]
      obtain rfl : kv = 0 := by rw [← HKV.out, hf]; rfl
      obtain rfl : ke = 1 := by rw [← HKE.out, hf]; rfl
      have hm0 := HN2.out.two.c0
      have hm1 := HN2.out.two.c1
      have hg0 := HN2.out.f0 0
      have hg1 := HN2.out.f0 1
      have HM2 := Lib.hid (HN2.out.set (.int .i64 0) (.int .i64 1))
      have HB2 := Lib.hid (below_set2 HB1.out (show G ≤ G + 1 + 1 by omega) (.int .i64 0) (.int .i64 1))
      go_wp2_with fail
      exact bodyPost_ret (v := .agg #[.int .i64 0, .int .i64 1]) (res_n1 (fn := Try.f14) rfl _ _ (G + 1 + 1) _ _ rfl HM2.out) rfl ⟨rfl, by rw [HG.out]; exact HB2.out⟩
    · have hask : asked m p q = true := by
        have : metric m = true := hmet
        rw [asked, this, hal]; rfl
      have hm3 := metric_iff.1 (show metric m = true from hmet)
      have HM3 := Lib.hid hm3
      have hkv : kv = keyf m (dists (difs bq.gap p q) (List.replicate p.1.length 0)) := by rw [← HKV.out, hask, if_pos rfl, dists_zero]
      have HKW := Lib.hid hkv
      obtain rfl : ke = 0 := by rw [← HKE.out, hask]; rfl
      obtain ⟨hl, hp, hq⟩ := balike_iff.1 hal
      have HP := Lib.hid hp
      have HQ := Lib.hid hq
      have hlen := hp.len
      have hlen2 := hq.len
      have HLPQ := Lib.hid hl
      obtain rfl : n' = n := by rw [← H1.out.1, ← H1'.out.1, hlen]
      obtain rfl : n2 = n' := by rw [← H1.out.1, ← H2.out.1, hl]
      obtain rfl : n2' = n2 := by rw [← H2.out.1, ← H2'.out.1, hlen2]
      have hn32 : n2' ≤ 32 := by rw [← H1.out.1]; exact hp.lo.le
      have hGw : G + 1 + 1 < w1.heap.size := (Array.getElem?_eq_some_iff.1 HN2.out).1
      have HI1 := Lib.hid (fun w' (hb : Below w1.heap.size w1 w') => isI_below H1.out (by rw [HG.out]; exact HB1.out.trans (hb.mono (by omega))))
      have HI1' := Lib.hid (fun w' (hb : Below w1.heap.size w1 w') => isI_below H1'.out (by rw [HG.out]; exact HB1.out.trans (hb.mono (by omega))))
      have HI2 := Lib.hid (fun w' (hb : Below w1.heap.size w1 w') => isI_below H2.out (by rw [HG.out]; exact HB1.out.trans (hb.mono (by omega))))
      have HI2' := Lib.hid (fun w' (hb : Below w1.heap.size w1 w') => isI_below H2'.out (by rw [HG.out]; exact HB1.out.trans (hb.mono (by omega))))
      have HN : Hid (p.1.length = n2') := H1.out.1
      have hm1 := H1.out.2.2.1
      have hm1' := H1'.out.2.2.1
      have hm2 := H2.out.2.2.1
      have hm2' := H2'.out.2.2.1
      have hnc1 := H1.out.2.1
      have hnc1' := H1'.out.2.1
      have hnc2 := H2.out.2.1
      have hnc2' := H2'.out.2.1
      obtain ⟨ds, hds⟩ : ∃ ds, difs bq.gap p q = ds := ⟨_, rfl⟩
      have HDS := Lib.hid hds
      have HDL : Hid (ds.length = n2') := by show _ = _; rw [← hds]; unfold difs; rw [List.length_map, List.length_range, HN.out]
      have HB00 := Lib.hid (Below.refl w1.heap.size w1)
      clear hal hl hp hq hlen hlen2 hask hm3 hkv hmet hds
      go_wp2_with fail
      clear hc0 hc1 hd0 hd1
      generalize hS : w1.heap.size = S at *
      have HS := Lib.hid hS
      go_loopg [7, 8, 9] n2' (fun g va vb x wr => ∃ (k : Nat), k + g = n2' ∧ x = .int .i64 (k : Int) ∧ Two2 wr S va vb k k (iv (ds.take k)) (iv (List.replicate k 0)) ∧ TwoN wr (G + 1 + 1) (.int .i64 0) (.int .i64 0) ∧ TwoX wr G (.slice A n2' c) (.slice A' n2' c') ∧ TwoX wr (G + 1) (.slice A2 n2' c2) (.slice A2' n2' c2') ∧ Below S w1 wr ∧ Below G w wr)
      case atStart => exact ⟨0, by omega, rfl, ⟨by omega, World.ownsRow_nil _ _ _ _, World.ownsRow_nil _ _ _ _, .inl rfl⟩, HN2.out, HT1.out, HT2.out, HB00.out, HB1.out⟩
      case round =>
        clear HT1 HT2 HN2
        rename_i va vb _ _
        obtain ⟨k, hk, rfl, hrw, hN2, hT1, hT2, hbS, hbG⟩ := hrel
        have HK := Lib.hid hk
        have HRW := Lib.hid hrw
        have HN2 := Lib.hid hN2
        have HT1 := Lib.hid hT1
        have HT2 := Lib.hid hT2
        have HBS := Lib.hid hbS
        have HBG := Lib.hid hbG
        have hkn : k ≤ n2' := by omega
        have he0 := hT1.two.c0
        have he1 := hT1.two.c1
        clear hk hrw hN2 hT1 hT2 hbG
        by_cases hlt : k < n2'
        · have hlt0 : (k : Int) < (n2' : Int) := by omega
          have hlt0' : k < p.1.length := by rw [HN.out]; exact hlt
          obtain ⟨bxl, oxl, rfl, hx1, hy1⟩ := isI_get (HI1.out wr hbS) hlt
          obtain ⟨bxh, oxh, rfl, hx2, hy2⟩ := isI_get (HI1'.out wr hbS) hlt
          obtain ⟨byl, oyl, rfl, hx3, hy3⟩ := isI_get (HI2.out wr hbS) hlt
          obtain ⟨byh, oyh, rfl, hx4, hy4⟩ := isI_get (HI2'.out wr hbS) hlt
          have hbp := box_bd HP.out hlt0'
          have hbq := box_bd HQ.out (i := k) (by rw [← HLPQ.out]; exact hlt0')
          have hg := difs_at bq.gap p q hlt0'
          rw [HDS.out] at hg
          have HS1 : Hid (ds.take (k + 1) = ds.take k ++ [at' ds k]) := vq.take_snoc (of_at (by rw [HDL.out]; exact hlt))
          have HS2 : Hid (List.replicate (k + 1) (0 : Int) = List.replicate k 0 ++ [0]) := List.replicate_succ'
          have HCxl := Lib.hid (fun w' (hb : Below wr.heap.size wr w') => (hb.cell (p := ⟨bxl, oxl + k, none⟩) hy1).trans hx1)
          have HCxh := Lib.hid (fun w' (hb : Below wr.heap.size wr w') => (hb.cell (p := ⟨bxh, oxh + k, none⟩) hy2).trans hx2)
          have HCyl := Lib.hid (fun w' (hb : Below wr.heap.size wr w') => (hb.cell (p := ⟨byl, oyl + k, none⟩) hy3).trans hx3)
          have HCyh := Lib.hid (fun w' (hb : Below wr.heap.size wr w') => (hb.cell (p := ⟨byh, oyh + k, none⟩) hy4).trans hx4)
          clear hx1 hx2 hx3 hx4 hy1 hy2 hy3 hy4 hbS
          generalize at' p.1 k = xl at *
          generalize at' p.2 k = xh at *
          generalize at' q.1 k = yl at *
          generalize at' q.2 k = yh at *
          obtain ⟨d1, hd1⟩ : ∃ d, xl - yh = d := ⟨_, rfl⟩
          obtain ⟨d2, hd2⟩ : ∃ d, yl - xh = d := ⟨_, rfl⟩
          have HD1 := Lib.hid hd1
          have HD2 := Lib.hid hd2
          obtain ⟨z0, hq0⟩ : ∃ z, max d1 d2 = z := ⟨_, rfl⟩
          obtain ⟨z1, hq1⟩ : ∃ z, max 0 z0 = z := ⟨_, rfl⟩
          have hz : at' ds k = z1 := by rw [hg]; unfold bq.gap; omega
          rw [hz] at HS1
          clear hg hz hd1 hd2
          go_wp2_with fail
          refine wk.region_tailS 25 [.is (.pointer (some ⟨G, 0, none⟩)), .is (.slice (some ⟨bxl, oxl, none⟩) n2' c), .is (.int .i64 (k : Int)), .is (.pointer (some ⟨bxl, oxl + k, none⟩)), .is (.int .i64 xl), .is (.pointer (some ⟨G + 1, 1, none⟩)), .is (.slice (some ⟨byh, oyh, none⟩) n2' c2'), .is (.int .i64 (k : Int)), .is (.pointer (some ⟨byh, oyh + k, none⟩)), .is (.int .i64 yh), .is (.int .i64 d1), .is (.pointer (some ⟨G + 1, 0, none⟩)), .is (.slice (some ⟨byl, oyl, none⟩) n2' c2), .is (.int .i64 (k : Int)), .is (.pointer (some ⟨byl, oyl + k, none⟩)), .is (.int .i64 yl), .is (.pointer (some ⟨G, 1, none⟩)), .is (.slice (some ⟨bxh, oxh, none⟩) n2' c'), .is (.int .i64 (k : Int)), .is (.pointer (some ⟨bxh, oxh + k, none⟩)), .is (.int .i64 xh), .is (.int .i64 d2), .is (.int .i64 z0), .is (.int .i64 z1), .is (.int .i64 z1)] [some 28, some 29, some 30, some 31, some 32, some 33, some 34, some 35, some 36, some 37, some 38, some 39, some 40, some 41, some 42, some 43, some 44, some 45, some 46, some 47, some 48, some 49, some 50, some 51, some 10] (by kernel_rfl) (by kernel_rfl) (by kernel_rfl) (by kernel_rfl) [] (by kernel_rfl) (by intro p hp; cases hp) (by kernel_rfl) (by kernel_rfl) ?hstep ?hdone
          case hstep =>
            intro i o ho hi hns E w4 hb4 D
            have hi2 : i = 0 ∨ i = 1 ∨ i = 2 ∨ i = 3 ∨ i = 4 ∨ i = 5 ∨ i = 6 ∨ i = 7 ∨ i = 8 ∨ i = 9 ∨ i = 10 ∨ i = 11 ∨ i = 12 ∨ i = 13 ∨ i = 14 ∨ i = 15 ∨ i = 16 ∨ i = 17 ∨ i = 18 ∨ i = 19 ∨ i = 20 ∨ i = 21 ∨ i = 22 ∨ i = 23 ∨ i = 24 := by omega
            clear hi
            rcases hi2 with rfl | rfl | rfl | rfl | rfl | rfl | rfl | rfl | rfl | rfl | rfl | rfl | rfl | rfl | rfl | rfl | rfl | rfl | rfl | rfl | rfl | rfl | rfl | rfl | rfl
            ·
              have ho2 := (Array.getElem?_eq_some_iff.1 ho).2
              simp only [List.getElem_toArray, List.getElem_cons_zero] at ho2
              subst ho2
              clear ho
              have e4 := D.old 4 (by kernel_rfl)
              exact wk.does_run (by simp only [execOp]; rw [show E (.tmp 4) = .pointer (some ⟨G, 0, none⟩) by rw [e4]; rfl]; go_simp) rfl
            ·
              have ho2 := (Array.getElem?_eq_some_iff.1 ho).2
              simp only [List.getElem_toArray, List.getElem_cons_succ, List.getElem_cons_zero] at ho2
              subst ho2
              clear ho
              have e28 := D.is { on := 0, ground := .data } (by simp) rfl rfl 28 rfl
              exact wk.does_load1 rfl e28 ((HT1.out.below ((Below.refl _ _).drew.trans hb4)).two.c0) Try.underlying22 rfl rfl
            ·
              have ho2 := (Array.getElem?_eq_some_iff.1 ho).2
              simp only [List.getElem_toArray, List.getElem_cons_succ, List.getElem_cons_zero] at ho2
              subst ho2
              clear ho
              have e9 := D.old 9 (by kernel_rfl)
              exact wk.does_move rfl (by rw [e9]; rfl)
            ·
              have ho2 := (Array.getElem?_eq_some_iff.1 ho).2
              simp only [List.getElem_toArray, List.getElem_cons_succ, List.getElem_cons_zero] at ho2
              subst ho2
              clear ho
              have e29 := D.is { on := 1, ground := .data } (by simp) rfl rfl 29 rfl
              have e30 := D.is { on := 2, ground := .data } (by simp) rfl rfl 30 rfl
              exact wk.does_run (by simp only [execOp]; rw [e29, e30]; go_simp) rfl
            ·
              have ho2 := (Array.getElem?_eq_some_iff.1 ho).2
              simp only [List.getElem_toArray, List.getElem_cons_succ, List.getElem_cons_zero] at ho2
              subst ho2
              clear ho
              have e31 := D.is { on := 3, ground := .data } (by simp) rfl rfl 31 rfl
              exact wk.does_load1 rfl e31 (HCxl.out w4 ((Below.refl _ _).drew.trans hb4)) Try.underlying3 rfl rfl
            ·
              have ho2 := (Array.getElem?_eq_some_iff.1 ho).2
              simp only [List.getElem_toArray, List.getElem_cons_succ, List.getElem_cons_zero] at ho2
              subst ho2
              clear ho
              have e5 := D.old 5 (by kernel_rfl)
              exact wk.does_run (by simp only [execOp]; rw [show E (.tmp 5) = .pointer (some ⟨G + 1, 0, none⟩) by rw [e5]; rfl]; go_simp) rfl
            ·
              have ho2 := (Array.getElem?_eq_some_iff.1 ho).2
              simp only [List.getElem_toArray, List.getElem_cons_succ, List.getElem_cons_zero] at ho2
              subst ho2
              clear ho
              have e33 := D.is { on := 5, ground := .data } (by simp) rfl rfl 33 rfl
              exact wk.does_load1 rfl e33 ((HT2.out.below ((Below.refl _ _).drew.trans hb4)).two.c1) Try.underlying22 rfl rfl
            ·
              have ho2 := (Array.getElem?_eq_some_iff.1 ho).2
              simp only [List.getElem_toArray, List.getElem_cons_succ, List.getElem_cons_zero] at ho2
              subst ho2
              clear ho
              have e9 := D.old 9 (by kernel_rfl)
              exact wk.does_move rfl (by rw [e9]; rfl)
            ·
              have ho2 := (Array.getElem?_eq_some_iff.1 ho).2
              simp only [List.getElem_toArray, List.getElem_cons_succ, List.getElem_cons_zero] at ho2
              subst ho2
              clear ho
              have e34 := D.is { on := 6, ground := .data } (by simp) rfl rfl 34 rfl
              have e35 := D.is { on := 7, ground := .data } (by simp) rfl rfl 35 rfl
              exact wk.does_run (by simp only [execOp]; rw [e34, e35]; go_simp) rfl
            ·
              have ho2 := (Array.getElem?_eq_some_iff.1 ho).2
              simp only [List.getElem_toArray, List.getElem_cons_succ, List.getElem_cons_zero] at ho2
              subst ho2
              clear ho
              have e36 := D.is { on := 8, ground := .data } (by simp) rfl rfl 36 rfl
              exact wk.does_load1 rfl e36 (HCyh.out w4 ((Below.refl _ _).drew.trans hb4)) Try.underlying3 rfl rfl
            ·
              have ho2 := (Array.getElem?_eq_some_iff.1 ho).2
              simp only [List.getElem_toArray, List.getElem_cons_succ, List.getElem_cons_zero] at ho2
              subst ho2
              clear ho
              have e32 := D.is { on := 4, ground := .data } (by simp) rfl rfl 32 rfl
              have e37 := D.is { on := 9, ground := .data } (by simp) rfl rfl 37 rfl
              exact wk.does_run (by simp only [execOp]; rw [e32, e37, ← HD1.out]; go_simp; refine wrap_sm9 _ ?_; omega) rfl
            ·
              have ho2 := (Array.getElem?_eq_some_iff.1 ho).2
              simp only [List.getElem_toArray, List.getElem_cons_succ, List.getElem_cons_zero] at ho2
              subst ho2
              clear ho
              have e5 := D.old 5 (by kernel_rfl)
              exact wk.does_run (by simp only [execOp]; rw [show E (.tmp 5) = .pointer (some ⟨G + 1, 0, none⟩) by rw [e5]; rfl]; go_simp) rfl
            ·
              have ho2 := (Array.getElem?_eq_some_iff.1 ho).2
              simp only [List.getElem_toArray, List.getElem_cons_succ, List.getElem_cons_zero] at ho2
              subst ho2
              clear ho
              have e39 := D.is { on := 11, ground := .data } (by simp) rfl rfl 39 rfl
              exact wk.does_load1 rfl e39 ((HT2.out.below ((Below.refl _ _).drew.trans hb4)).two.c0) Try.underlying22 rfl rfl
            ·
              have ho2 := (Array.getElem?_eq_some_iff.1 ho).2
              simp only [List.getElem_toArray, List.getElem_cons_succ, List.getElem_cons_zero] at ho2
              subst ho2
              clear ho
              have e9 := D.old 9 (by kernel_rfl)
              exact wk.does_move rfl (by rw [e9]; rfl)
            ·
              have ho2 := (Array.getElem?_eq_some_iff.1 ho).2
              simp only [List.getElem_toArray, List.getElem_cons_succ, List.getElem_cons_zero] at ho2
              subst ho2
              clear ho
              have e40 := D.is { on := 12, ground := .data } (by simp) rfl rfl 40 rfl
              have e41 := D.is { on := 13, ground := .data } (by simp) rfl rfl 41 rfl
              exact wk.does_run (by simp only [execOp]; rw [e40, e41]; go_simp) rfl
            ·
              have ho2 := (Array.getElem?_eq_some_iff.1 ho).2
              simp only [List.getElem_toArray, List.getElem_cons_succ, List.getElem_cons_zero] at ho2
              subst ho2
              clear ho
              have e42 := D.is { on := 14, ground := .data } (by simp) rfl rfl 42 rfl
              exact wk.does_load1 rfl e42 (HCyl.out w4 ((Below.refl _ _).drew.trans hb4)) Try.underlying3 rfl rfl
            ·
              have ho2 := (Array.getElem?_eq_some_iff.1 ho).2
              simp only [List.getElem_toArray, List.getElem_cons_succ, List.getElem_cons_zero] at ho2
              subst ho2
              clear ho
              have e4 := D.old 4 (by kernel_rfl)
              exact wk.does_run (by simp only [execOp]; rw [show E (.tmp 4) = .pointer (some ⟨G, 0, none⟩) by rw [e4]; rfl]; go_simp) rfl
            ·
              have ho2 := (Array.getElem?_eq_some_iff.1 ho).2
              simp only [List.getElem_toArray, List.getElem_cons_succ, List.getElem_cons_zero] at ho2
              subst ho2
              clear ho
              have e44 := D.is { on := 16, ground := .data } (by simp) rfl rfl 44 rfl
              exact wk.does_load1 rfl e44 ((HT1.out.below ((Below.refl _ _).drew.trans hb4)).two.c1) Try.underlying22 rfl rfl
            ·
              have ho2 := (Array.getElem?_eq_some_iff.1 ho).2
              simp only [List.getElem_toArray, List.getElem_cons_succ, List.getElem_cons_zero] at ho2
              subst ho2
              clear ho
              have e9 := D.old 9 (by kernel_rfl)
              exact wk.does_move rfl (by rw [e9]; rfl)
            ·
              have ho2 := (Array.getElem?_eq_some_iff.1 ho).2
              simp only [List.getElem_toArray, List.getElem_cons_succ, List.getElem_cons_zero] at ho2
              subst ho2
              clear ho
              have e45 := D.is { on := 17, ground := .data } (by simp) rfl rfl 45 rfl
              have e46 := D.is { on := 18, ground := .data } (by simp) rfl rfl 46 rfl
              exact wk.does_run (by simp only [execOp]; rw [e45, e46]; go_simp) rfl
            ·
              have ho2 := (Array.getElem?_eq_some_iff.1 ho).2
              simp only [List.getElem_toArray, List.getElem_cons_succ, List.getElem_cons_zero] at ho2
              subst ho2
              clear ho
              have e47 := D.is { on := 19, ground := .data } (by simp) rfl rfl 47 rfl
              exact wk.does_load1 rfl e47 (HCxh.out w4 ((Below.refl _ _).drew.trans hb4)) Try.underlying3 rfl rfl
            ·
              have ho2 := (Array.getElem?_eq_some_iff.1 ho).2
              simp only [List.getElem_toArray, List.getElem_cons_succ, List.getElem_cons_zero] at ho2
              subst ho2
              clear ho
              have e43 := D.is { on := 15, ground := .data } (by simp) rfl rfl 43 rfl
              have e48 := D.is { on := 20, ground := .data } (by simp) rfl rfl 48 rfl
              exact wk.does_run (by simp only [execOp]; rw [e43, e48, ← HD2.out]; go_simp; refine wrap_sm9 _ ?_; omega) rfl
            ·
              have ho2 := (Array.getElem?_eq_some_iff.1 ho).2
              simp only [List.getElem_toArray, List.getElem_cons_succ, List.getElem_cons_zero] at ho2
              subst ho2
              clear ho
              have e38 := D.is { on := 10, ground := .data } (by simp) rfl rfl 38 rfl
              have e49 := D.is { on := 21, ground := .data } (by simp) rfl rfl 49 rfl
              exact wk.does_run (by simp only [execOp, resolve, List.map_toArray, List.map_cons, List.map_nil]; rw [e38, e49]; go_simp) rfl
            ·
              have ho2 := (Array.getElem?_eq_some_iff.1 ho).2
              simp only [List.getElem_toArray, List.getElem_cons_succ, List.getElem_cons_zero] at ho2
              subst ho2
              clear ho
              have e50 := D.is { on := 22, ground := .data } (by simp) rfl rfl 50 rfl
              exact wk.does_run (by simp only [execOp, resolve, List.map_toArray, List.map_cons, List.map_nil]; rw [e50, D.con]; go_simp) rfl
            ·
              have ho2 := (Array.getElem?_eq_some_iff.1 ho).2
              simp only [List.getElem_toArray, List.getElem_cons_succ, List.getElem_cons_zero] at ho2
              subst ho2
              clear ho
              have e51 := D.is { on := 23, ground := .data } (by simp) rfl rfl 51 rfl
              exact wk.does_assign rfl e51
          case hdone =>
            intro vals w4 hb4 hv
            have h24 := hv 24 (by omega)
            clear hv
            replace h24 : vals 24 = (.int .i64 z1) := h24
            simp only [List.drop_succ_cons, List.drop_zero, wpList, wk.setL, List.setIfInBounds_toArray, List.set_cons_zero, List.set_cons_succ, Nat.zero_add, Nat.reduceAdd, h24]
            generalize vals 0 = x0
            generalize vals 1 = x1
            generalize vals 2 = x2
            generalize vals 3 = x3
            generalize vals 4 = x4
            generalize vals 5 = x5
            generalize vals 6 = x6
            generalize vals 7 = x7
            generalize vals 8 = x8
            generalize vals 9 = x9
            generalize vals 10 = x10
            generalize vals 11 = x11
            generalize vals 12 = x12
            generalize vals 13 = x13
            generalize vals 14 = x14
            generalize vals 15 = x15
            generalize vals 16 = x16
            generalize vals 17 = x17
            generalize vals 18 = x18
            generalize vals 19 = x19
            generalize vals 20 = x20
            generalize vals 21 = x21
            generalize vals 22 = x22
            generalize vals 23 = x23
            have h48 := ((Below.refl _ _).drew.trans hb4 : Below wr.heap.size wr w4)
            have HRWA := Lib.hid (HRW.out.below h48)
            have HNA := Lib.hid (HN2.out.below h48)
            have HT1A := Lib.hid (HT1.out.below h48)
            have HT2A := Lib.hid (HT2.out.below h48)
            have HBSA := Lib.hid (HBS.out.trans (h48.mono HRW.out.le))
            have HBGA := Lib.hid (HBG.out.trans (h48.mono (by have := HRW.out.le; omega)))
            clear hb4 h48 HRW
            have HRW := HRWA
            go_wp2_with (at_builtin; refine wpList_append_own_at _ rfl _ _ 22 rfl S 3 i0 (.int .i64 0) 1 8 Try.underlying22 hi0 hz0 hz1 hz2 rfl (by decide) _ _ _ rfl (HRW.out.a.alloc _) ⟨_, 0, none⟩ 1 1 [.int .i64 z1] rfl rfl ?p51 ?p52 ?p53 ?p54 ?p55 ?_)
            try (case p51 => exact cell_one_new _ _ _)
            case p52 => simp [Value.oneCell']
            case p53 => unfold maxLen; omega
            case p54 => omega
            case p55 => have := HRW.out.le; first | (simp only [size_new]; omega) | omega
            intro v5 w5 hown hgrow _ hat
            have HRW5 := Lib.hid (HRW.out.grow0 _ hown hgrow hat).1
            have HB5 := Lib.hid (HRW.out.grow0 _ hown hgrow hat).2
            clear hown hgrow hat
            go_wp2_with (at_builtin; refine wpList_append_own_at _ rfl _ _ 22 rfl S 3 i0 (.int .i64 0) 1 8 Try.underlying22 hi0 hz0 hz1 hz2 rfl (by decide) _ _ _ rfl (HRW5.out.b.alloc _) ⟨_, 0, none⟩ 1 1 [.int .i64 0] rfl rfl ?p61 ?p62 ?p63 ?p64 ?p65 ?_)
            try (case p61 => exact cell_one_new _ _ _)
            case p62 => simp [Value.oneCell']
            case p63 => unfold maxLen; omega
            case p64 => omega
            case p65 => have := HRW5.out.le; first | (simp only [size_new]; omega) | omega
            intro v6 w6 hown hgrow _ hat
            have HRW6 := Lib.hid (HRW5.out.grow1 _ hown hgrow hat).1
            have HB6 := Lib.hid (HRW5.out.grow1 _ hown hgrow hat).2
            clear hown hgrow hat
            go_wp2_with fail
            go_roundg (gk - 1)
            case measure => have := HK.out; omega
            case rel =>
              have h66 := HB5.out.trans HB6.out
              refine ⟨k + 1, by have := HK.out; omega, by go_num, ?_, HNA.out.belowB h66 (by omega), HT1A.out.belowB h66 (by omega), HT2A.out.belowB h66 (by omega), HBSA.out.trans h66, HBGA.out.trans (h66.mono (by omega))⟩
              rw [HS1.out, HS2.out]
              unfold iv
              rw [List.map_append, List.map_append, List.map_take, List.map_replicate]
              have hh := HRW6.out
              unfold iv at hh
              first | exact hh | simpa using hh
        · obtain rfl : k = n2' := by omega
          have hT := HRW.out
          rw [List.take_of_length_le (Nat.le_of_eq HDL.out)] at hT
          have hbd : ∀ i, i < k → 0 ≤ at' ds i ∧ at' ds i ≤ 2000 := fun i hi => by
            have hi' : i < p.1.length := by rw [HN.out]; exact hi
            have hbp := box_bd HP.out hi'
            have hbq := box_bd HQ.out (i := i) (by rw [← HLPQ.out]; exact hi')
            have hg := difs_at bq.gap p q hi'
            rw [HDS.out] at hg
            rw [hg]; unfold bq.gap; omega
          have hb1 : ∀ x ∈ ds, -9223372036854775808 ≤ x ∧ x ≤ 9223372036854775807 := fun x hx => by
            obtain ⟨i, hi, rfl⟩ := List.mem_iff_getElem.1 hx
            have h := hbd i (by rw [← HDL.out]; exact hi)
            rw [show at' ds i = ds[i] by simp [at', hi]] at h
            omega
          obtain ⟨Aa, ca, rfl, ha⟩ := isI_of_own hT.a hb1
          obtain ⟨Ab, cb, rfl, hb⟩ := isI_of_own (l := List.replicate k 0) hT.b (fun x hx => by rw [List.eq_of_mem_replicate hx]; omega)
          have HKY := Lib.hid (rkey_calls m HM3.out Aa Ab k ca k cb ds (List.replicate k 0) wr ha hb (Nat.le_refl _) hn32 (fun i hi => by have := hbd i hi; rw [rep_at]; omega))
          have hkk : kv = keyf m (dists ds (List.replicate k 0)) := by rw [HKW.out, HDS.out, HN.out]
          rw [← hkk] at HKY
          clear hT hbd hb1 ha hb hkk hbS
          go_wp2_with fail
          refine HKY.out.mono ?_
          rintro e w' ⟨rfl, q1, rfl⟩
          have hb := below_dr (Below.refl wr.heap.size wr) q1
          have HNZ := Lib.hid (HN2.out.below hb)
          have HBZ := Lib.hid (HBG.out.trans (hb.mono (by have := HRW.out.le; omega)))
          clear hb
          have hm0 := HNZ.out.two.c0
          have hm1 := HNZ.out.two.c1
          have hg0 := HNZ.out.f0 0
          have hg1 := HNZ.out.f0 1
          have HM2 := Lib.hid (HNZ.out.set (.int .i64 kv) (.int .i64 0))
          have HB2 := Lib.hid (below_set2 HBZ.out (show G ≤ G + 1 + 1 by omega) (.int .i64 kv) (.int .i64 0))
          go_wp2_with fail
          exact bodyPost_ret (v := .agg #[.int .i64 kv, .int .i64 0]) (res_n1 (fn := Try.f14) rfl _ _ (G + 1 + 1) _ _ rfl HM2.out) rfl ⟨rfl, by rw [HG.out]; exact HB2.out⟩
end Go.Proofs.Ytegoinkkcfbfaaa.bk
/- The reference's Split. -/
namespace Go.Proofs.Ytegoinkkcfbfaaa.bk

open Go.ChangeShapes Go.WideShapes Go.ChangeAt Go.RowKit

open Go.Proofs.Ytegoinkkcfbfaaa.bq Go.Proofs.Ytegoinkkcfbfaaa.vk Go.Proofs.Ytegoinkkcfbfaaa.wk

set_option linter.unusedVariables false
def Rx (w : World) (g : Nat) (t : TypeId) (cs : Array Value) : Prop := w.heap[g]? = some (.cells cs t (0, 0))
theorem Rx.lt {w : World} {g : Nat} {t : TypeId} {cs : Array Value} (h : Rx w g t cs) : g < w.heap.size := (Array.getElem?_eq_some_iff.1 h).1
theorem Rx.below {w w' : World} {g : Nat} {t : TypeId} {cs : Array Value} (h : Rx w g t cs) (hb : Below w.heap.size w w') : Rx w' g t cs := (hb.block g h.lt).trans h
theorem Rx.belowB {w w' : World} {B g : Nat} {t : TypeId} {cs : Array Value} (h : Rx w g t cs) (hb : Below B w w') (hg : g < B) : Rx w' g t cs := (hb.block g hg).trans h
theorem Rx.new (w : World) (t : TypeId) (cs : Array Value) : Rx (w.alloc (.cells cs t)) w.heap.size t cs := heap_alloc_new w _
theorem Rx.f {w : World} {g : Nat} {t : TypeId} {cs : Array Value} (h : Rx w g t cs) (j : Nat) : w.frozen? ⟨g, j, none⟩ = false := frozen_of_row _ _ _ _ _ h
theorem Rx.c {w : World} {g j : Nat} {t : TypeId} {cs : Array Value} {v : Value} (h : Rx w g t cs) (hj : cs[j]? = some v) : w.cell? ⟨g, j, none⟩ = some v := by
  rw [cell_of_row _ _ _ _ _ _ h]; exact hj
theorem Rx.set3 {w : World} {g : Nat} {t : TypeId} {a b c : Value} (h : Rx w g t #[a, b, c]) (x y z : Value) : Rx (((w.setCell ⟨g, 0, none⟩ x).setCell ⟨g, 1, none⟩ y).setCell ⟨g, 2, none⟩ z) g t #[x, y, z] := by
  have h1 := heap_setCell_same w g 0 #[a, b, c] t x h
  have h2 := heap_setCell_same (w.setCell ⟨g, 0, none⟩ x) g 1 _ t y h1
  exact heap_setCell_same _ g 2 _ t z h2
theorem below_set3 {n g : Nat} {w0 w : World} (h : Below n w0 w) (hg : n ≤ g) (x y z : Value) : Below n w0 (((w.setCell ⟨g, 0, none⟩ x).setCell ⟨g, 1, none⟩ y).setCell ⟨g, 2, none⟩ z) :=
  ((h.setCell (p := ⟨g, 0, none⟩) hg x).setCell (p := ⟨g, 1, none⟩) hg y).setCell (p := ⟨g, 2, none⟩) hg z
/-- the axis that the reference has behind k rounds -/
theorem spl_axis {d : Nat → Int} {n : Nat} (hd : ∀ i, i < n → 0 ≤ d i ∧ d i ≤ 2000) : ∀ k, k ≤ n → 1 ≤ k → (spl d (List.range k)).2 = d (spl d (List.range k)).1
  | 0, _, h => by omega
  | 1, hk, _ => by
    have h0 := hd 0 (by omega)
    have e : spl d (List.range 1) = if (0 : Int) < d 0 then (0, d 0) else (0, 0) := rfl
    rw [e]
    split
    · rfl
    · show (0 : Int) = d 0; omega
  | k + 2, hk, _ => by
    have ih := spl_axis hd (k + 1) (by omega) (by omega)
    rw [List.range_succ, spl_snoc]
    unfold splS
    split
    · rfl
    · exact ih
theorem spl_next {d : Nat → Int} {n : Nat} (hd : ∀ i, i < n → 0 ≤ d i ∧ d i ≤ 2000) (k : Nat) (hk : k < n) : (spl d (List.range (k + 1))).1 = if d (spl d (List.range k)).1 < d k then k else (spl d (List.range k)).1 := by
  rw [List.range_succ, spl_snoc]
  unfold splS
  cases k with
  | zero =>
    have e : spl d (List.range 0) = (0, 0) := rfl
    rw [e]
    dsimp only
    split <;> split <;> rfl
  | succ k =>
    rw [spl_axis hd (k + 1) (by omega) (by omega)]
    split <;> rfl
abbrev MID : TypeId := 43
set_option maxRecDepth 100000 in
set_option maxHeartbeats 8000000 in
theorem refsplit_calls (v : Value) (p : Pair) (w : World) (h : IsX w v p) :
    Calls Try.prog 16 #[v] w fun e w' => e = .returned (.agg #[.int .i64 (splitR p).1, .int .i64 (splitR p).2.1, .int .i64 (splitR p).2.2]) ∧ Below w.heap.size w w' := by
  obtain ⟨R, hR⟩ : ∃ R, splitR p = R := ⟨_, rfl⟩
  rw [hR]
  have HR := Lib.hid hR
  clear hR
  obtain ⟨A, n, c, A', n', c', rfl, hi, hi'⟩ := h
  have HB := Lib.hid (Below.andThen (below_new w (.cells #[.slice A n c, .slice A' n' c'] 24)) (below_new _ (.cells #[.int .i64 0, .int .i64 0, .int .i64 0] MID)))
  have HT := Lib.hid ((TwoX.new w (.slice A n c) (.slice A' n' c')).below (below_new _ (.cells #[.int .i64 0, .int .i64 0, .int .i64 0] MID)))
  have HM := Lib.hid (Rx.new (w.alloc (.cells #[.slice A n c, .slice A' n' c'] 24)) MID #[.int .i64 0, .int .i64 0, .int .i64 0])
  rw [size_new] at HM
  have HX : Hid (IsX _ (.agg #[.slice A n c, .slice A' n' c']) p) := IsX.below ⟨_, _, _, _, _, _, rfl, hi, hi'⟩ HB.out
  have HI := Lib.hid (isI_below hi HB.out)
  have HI' := Lib.hid (isI_below hi' HB.out)
  have HN1 := Lib.hid hi.1
  have HN2 := Lib.hid hi'.1
  have hnc := hi.2.1
  have hnm := hi.2.2.1
  have hnc' := hi'.2.1
  have hnm' := hi'.2.2.1
  clear hi hi'
  have hc0HT := HT.out.two.c0
  have hc1HT := HT.out.two.c1
  go_enter Try.func16, Try.ntmps16
  go_wp2_with fail
  clear hc0HT hc1HT
  refine (refvalid_calls _ p _ HX.out).mono ?_
  rintro e w1 ⟨rfl, hb⟩
  replace HT := Lib.hid (HT.out.below hb)
  replace HM := Lib.hid (HM.out.below hb)
  replace HI := Lib.hid (isI_below HI.out hb)
  replace HI' := Lib.hid (isI_below HI'.out hb)
  replace HB := Lib.hid (Below.andThen HB.out hb)
  clear hb HX
  have hm0 := HM.out.c (j := 0) rfl
  have hm1 := HM.out.c (j := 1) rfl
  have hm2 := HM.out.c (j := 2) rfl
  have hf0 := HM.out.f 0
  have hf1 := HM.out.f 1
  have hf2 := HM.out.f 2
  cases hv : bvalid p
  · have hs : R = (0, 0, 1) := by rw [← HR.out]; unfold splitR; rw [hv]; rfl
    subst hs
    clear HR
    have HM2 := Lib.hid (HM.out.set3 (.int .i64 0) (.int .i64 0) (.int .i64 1))
    have HB2 := Lib.hid (below_set3 HB.out (show w.heap.size ≤ w.heap.size + 1 by omega) (.int .i64 0) (.int .i64 0) (.int .i64 1))
    clear hv
    go_wp2_with fail
    exact bodyPost_ret (v := .agg #[.int .i64 0, .int .i64 0, .int .i64 1]) (results_cell_row (fn := Try.f16) rfl _ _ (w.heap.size + 1) MID #[.int .i64 0, .int .i64 0, .int .i64 1] (0, 0) _ rfl HM2.out Try.underlying43 rfl (by kernel_rfl)) rfl ⟨rfl, HB2.out⟩
  · have HBX := Lib.hid (bvalid_iff.1 hv)
    have hl1 : 1 ≤ n := by have := HBX.out.lo.pos; have := HN1.out; omega
    have hnn : n' = n := by have := HBX.out.len; have := HN1.out; have := HN2.out; omega
    have hl32 : n ≤ 32 := by have := HBX.out.lo.le; have := HN1.out; omega
    subst hnn
    have HD : Hid (∀ i, i < n' → 0 ≤ side p i ∧ side p i ≤ 2000) := fun i hi => by
      have h1 := HBX.out.le i (by rw [HN1.out]; exact hi)
      have h2 := vec_at HBX.out.lo (i := i) (by rw [HN1.out]; exact hi)
      have h3 := vec_at HBX.out.hi (i := i) (by rw [HN2.out]; exact hi)
      unfold side
      omega
    have HS : Hid (R = (if (spl (side p) (List.range n')).2 = 0 then ((0, 0, 4) : Int × Int × Int) else (((spl (side p) (List.range n')).1 : Int), (at' p.1 (spl (side p) (List.range n')).1 + at' p.2 (spl (side p) (List.range n')).1) / 2, 0))) := by
      show _ = _
      rw [← HR.out]
      unfold splitR
      rw [hv, if_pos rfl, HN1.out]
    clear hv hm0 hm1 hm2 hf0 hf1 hf2
    have hc0HT := HT.out.two.c0
    have hc1HT := HT.out.two.c1
    go_wp2_with fail
    clear hc0HT hc1HT
    go_loopg [4, 5] n' (fun gk u x wr => ∃ k : Nat, k + gk = n' ∧ u = .int .i64 ((spl (side p) (List.range k)).1 : Int) ∧ x = .int .i64 (k : Int) ∧ Below w1.heap.size w1 wr)
    case atStart => exact ⟨0, by omega, rfl, rfl, Below.refl _ _⟩
    case round =>
      obtain ⟨k, hk, rfl, rfl, hbel⟩ := hrel
      have HK := Lib.hid hk
      have hkn : k ≤ n' := by omega
      have hax : (spl (side p) (List.range k)).1 < n' := (spl_bd (side p) n' HD.out (List.range k) (fun i hi => by have := List.mem_range.1 hi; omega) hl1).2.2
      have HTR := Lib.hid (HT.out.below hbel)
      have HBEL := Lib.hid hbel
      have hc0HT := HTR.out.two.c0
      have hc1HT := HTR.out.two.c1
      clear hk
      by_cases hlt : k < n'
      · have HNX : Hid ((spl (side p) (List.range (k + 1))).1 = if at' p.2 (spl (side p) (List.range k)).1 - at' p.1 (spl (side p) (List.range k)).1 < at' p.2 k - at' p.1 k then k else (spl (side p) (List.range k)).1) := spl_next HD.out k hlt
        generalize (spl (side p) (List.range k)).1 = ax at *
        obtain ⟨b1, o1, rfl, hck, -⟩ := isI_get (isI_below HI.out hbel) hlt
        obtain ⟨b2, o2, rfl, hck', -⟩ := isI_get (isI_below HI'.out hbel) hlt
        obtain ⟨_, _, e1, hca, -⟩ := isI_get (isI_below HI.out hbel) hax
        cases e1
        obtain ⟨_, _, e2, hca', -⟩ := isI_get (isI_below HI'.out hbel) hax
        cases e2
        have hk1 := vec_at HBX.out.lo (i := k) (by rw [HN1.out]; exact hlt)
        have hk2 := vec_at HBX.out.hi (i := k) (by rw [HN2.out]; exact hlt)
        have ha1 := vec_at HBX.out.lo (i := ax) (by rw [HN1.out]; exact hax)
        have ha2 := vec_at HBX.out.hi (i := ax) (by rw [HN2.out]; exact hax)
        have hlt0 : (k : Int) < (n' : Int) := by omega
        have hlt1 : (ax : Int) < (n' : Int) := by omega
        generalize at' p.1 k = x1 at *
        generalize at' p.2 k = x2 at *
        generalize at' p.1 ax = y1 at *
        generalize at' p.2 ax = y2 at *
        obtain ⟨hk11, hk12⟩ := hk1
        obtain ⟨hk21, hk22⟩ := hk2
        obtain ⟨ha11, ha12⟩ := ha1
        obtain ⟨ha21, ha22⟩ := ha2
        clear hbel
        go_wp2_with fail
        by_cases hgt : y2 - y1 < x2 - x1
        · have hd : decide (y2 - y1 < x2 - x1) = true := decide_eq_true hgt
          go_quiet (fail)
          go_wp2_with fail
          go_roundg (n' - (k + 1))
          case measure => have := HK.out; omega
          case rel => exact ⟨k + 1, by have := HK.out; omega, by rw [HNX.out, if_pos hgt], by go_num, below_drewN HBEL.out _⟩
        · have hd : decide (y2 - y1 < x2 - x1) = false := decide_eq_false hgt
          go_quiet (fail)
          go_wp2_with fail
          go_roundg (n' - (k + 1))
          case measure => have := HK.out; omega
          case rel => exact ⟨k + 1, by have := HK.out; omega, by rw [HNX.out, if_neg (by omega)], by go_num, below_drewN HBEL.out _⟩
      · obtain rfl : n' = k := by omega
        have HW : Hid ((spl (side p) (List.range n')).2 = at' p.2 (spl (side p) (List.range n')).1 - at' p.1 (spl (side p) (List.range n')).1) := spl_axis HD.out n' (Nat.le_refl _) hl1
        rw [HW.out] at HS
        generalize (spl (side p) (List.range n')).1 = ax at *
        obtain ⟨b1, o1, rfl, hca, hb1⟩ := isI_get (isI_below HI.out hbel) hax
        obtain ⟨b2, o2, rfl, hca', hb2⟩ := isI_get (isI_below HI'.out hbel) hax
        have ha1 := vec_at HBX.out.lo (i := ax) (by rw [HN1.out]; exact hax)
        have ha2 := vec_at HBX.out.hi (i := ax) (by rw [HN2.out]; exact hax)
        have hle := HBX.out.le ax (by rw [HN1.out]; exact hax)
        have hlt1 : (ax : Int) < (n' : Int) := by omega
        generalize at' p.1 ax = y1 at *
        generalize at' p.2 ax = y2 at *
        obtain ⟨ha11, ha12⟩ := ha1
        obtain ⟨ha21, ha22⟩ := ha2
        have HMR := Lib.hid (HM.out.below hbel)
        have HBR := Lib.hid (Below.andThen HB.out hbel)
        clear hbel hlt hkn HK
        go_wp2_with fail
        by_cases h0 : y2 = y1
        · have hq : (y2 == y1) = true := by rw [h0]; simp
          obtain rfl : R = (0, 0, 4) := by rw [HS.out, if_pos (by omega)]
          have hm0 := HMR.out.c (j := 0) rfl
          have hm1 := HMR.out.c (j := 1) rfl
          have hm2 := HMR.out.c (j := 2) rfl
          have hf0 := HMR.out.f 0
          have hf1 := HMR.out.f 1
          have hf2 := HMR.out.f 2
          go_quiet (fail)
          go_wp2_with fail
          exact bodyPost_ret (v := .agg #[.int .i64 0, .int .i64 0, .int .i64 4]) (results_cell_row (fn := Try.f16) rfl _ _ (w.heap.size + 1) MID #[.int .i64 0, .int .i64 0, .int .i64 4] (0, 0) _ rfl (HMR.out.set3 (.int .i64 0) (.int .i64 0) (.int .i64 4)) Try.underlying43 rfl (by kernel_rfl)) rfl ⟨rfl, below_set3 (below_drewN HBR.out _) (show w.heap.size ≤ w.heap.size + 1 by omega) _ _ _⟩
        · have hq : (y2 == y1) = false := by simp only [beq_eq_false_iff_ne, ne_eq]; exact h0
          obtain rfl : R = ((ax : Int), (y1 + y2) / 2, 0) := by rw [HS.out, if_neg (by omega)]
          go_quiet (fail)
          go_wp2_with fail
          go_loopg [6] (y2 - y1).toNat (fun gk x wq => ∃ t : Nat, t + gk = (y2 - y1).toNat ∧ x = .int .i64 (y1 + (t : Int)) ∧ 2 * (y1 + (t : Int)) ≤ y1 + y2 ∧ Below wr.heap.size wr wq)
          case atStart => exact ⟨0, by omega, by simp, by omega, below_drewN (Below.refl _ _) _⟩
          case round =>
            rename World => wq
            obtain ⟨t, ht, rfl, hin, hbq⟩ := hrel
            have hc0HT := (HTR.out.below hbq).two.c0
            have hc1HT := (HTR.out.below hbq).two.c1
            replace hca := (hbq.cell (p := ⟨b1, o1 + ax, none⟩) hb1).trans hca
            replace hca' := (hbq.cell (p := ⟨b2, o2 + ax, none⟩) hb2).trans hca'
            have HTT := Lib.hid ht
            have htl : (t : Int) ≤ 2000 := by omega
            have HMQ := Lib.hid (HMR.out.below hbq)
            have HBQ := Lib.hid (Below.andThen HBR.out hbq)
            have HBQ2 := Lib.hid hbq
            clear ht hbq
            go_wp2_with fail
            by_cases hgo : 2 * (y1 + (t : Int) + 1) ≤ y1 + y2
            · have hd : decide (2 * (y1 + (t : Int) + 1) ≤ y1 + y2) = true := decide_eq_true hgo
              go_quiet (fail)
              go_wp2_with fail
              go_roundg ((y2 - y1).toNat - (t + 1))
              case measure => have := HTT.out; omega
              case rel => exact ⟨t + 1, by have := HTT.out; omega, by go_num, by omega, below_drewN HBQ2.out _⟩
            · have hd : decide (2 * (y1 + (t : Int) + 1) ≤ y1 + y2) = false := decide_eq_false hgo
              have hat : (y1 + y2) / 2 = y1 + (t : Int) := by omega
              have HAT := Lib.hid hat
              have hm0 := HMQ.out.c (j := 0) rfl
              have hm1 := HMQ.out.c (j := 1) rfl
              have hm2 := HMQ.out.c (j := 2) rfl
              have hf0 := HMQ.out.f 0
              have hf1 := HMQ.out.f 1
              have hf2 := HMQ.out.f 2
              clear hat
              go_quiet (fail)
              go_wp2_with fail
              exact bodyPost_ret (v := .agg #[.int .i64 (ax : Int), .int .i64 (y1 + (t : Int)), .int .i64 0]) (results_cell_row (fn := Try.f16) rfl _ _ (w.heap.size + 1) MID #[.int .i64 (ax : Int), .int .i64 (y1 + (t : Int)), .int .i64 0] (0, 0) _ rfl (HMQ.out.set3 _ _ _) Try.underlying43 rfl (by kernel_rfl)) rfl ⟨by rw [HAT.out], below_set3 (below_drewN HBQ.out _) (show w.heap.size ≤ w.heap.size + 1 by omega) _ _ _⟩
end Go.Proofs.Ytegoinkkcfbfaaa.bk
/- A box as an argument. -/
namespace Go.Proofs.Ytegoinkkcfbfaaa.bk

open Go Go.ChangeShapes Go.WideShapes Go.ChangeAt Go.RowKit

open Go.Proofs.Ytegoinkkcfbfaaa.bq Go.Proofs.Ytegoinkkcfbfaaa.vk Go.Proofs.Ytegoinkkcfbfaaa.wk

set_option linter.unusedVariables false
theorem open_is {H : Type} {enc : TypeId × Value → H} {w : World} {base : Nat} {sp : Nat → Bool} {held : Bool} {v : Value} {m : Nat} {y : DataW H × List MemPlace}
    (h : DataW.trod enc Try.prog w base sp held m 22 [v] = some y) : ∃ A n c l, v = .slice A n c ∧ wo.IsI w A n c l := by
  have hs : ∃ A n c, v = .slice A n c := by
    rcases DataW.trod_slice Try.underlying22 h with ⟨hcs, _⟩ | ⟨ad, len, cap, elems, rest, m, _, hcs, _⟩
    · simp only [List.cons.injEq, and_true] at hcs; exact ⟨_, _, _, hcs⟩
    · simp only [List.cons.injEq, and_true] at hcs; exact ⟨_, _, _, hcs⟩
  obtain ⟨A, n, c, rfl⟩ := hs
  obtain ⟨l, hl⟩ := wo.openI Try.underlying22 Try.underlying3 (by kernel_rfl) h
  exact ⟨A, n, c, l, rfl, hl⟩
set_option maxRecDepth 100000 in
theorem open_x {H : Type} {enc : TypeId × Value → H} {w : World} {base b0 : Nat} {sp : Nat → Bool} {held : Bool} {r : Reach} {v : Value} {d : DataW H} {ps : List MemPlace}
    (hval : Value.okWide Try.prog w r b0 24 v) (hd : DataW.Trod enc Try.prog w base sp held 24 v d ps) : ∃ p, IsX w v p := by
  obtain ⟨⟨cs⟩, rfl, hcs⟩ := okWide_struct Try.underlying24 hval
  have hcs : cs.length = 2 := hcs.trans (by kernel_rfl)
  obtain ⟨fuel, hf⟩ := hd
  match cs, hcs with
  | [c0, c1], _ =>
    obtain ⟨y0, y1, m, _, _, h0, h1⟩ := trod_struct2 Try.underlying24 hf
    have hc : Try.prog.cellsOf 22 = 1 := by kernel_rfl
    rw [hc] at h0 h1
    obtain ⟨A, n, c, l, rfl, hl⟩ := open_is (show DataW.trod enc Try.prog w base sp held m 22 [c0] = some y0 from h0)
    obtain ⟨A', n', c', l', rfl, hl'⟩ := open_is (show DataW.trod enc Try.prog w base sp held m 22 [c1] = some y1 from h1)
    exact ⟨(l, l'), A, n, c, A', n', c', rfl, hl, hl'⟩
end Go.Proofs.Ytegoinkkcfbfaaa.bk
