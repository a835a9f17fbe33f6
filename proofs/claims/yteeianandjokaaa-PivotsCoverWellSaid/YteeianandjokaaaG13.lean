/- Joined: Pq Pna Pnb Pr Wa. -/
import Derived.Test.YteeianandjokaaaG12
/- The reference: Choose. -/
namespace Go.Proofs.Yteeianandjokaaa.pk

open Go.ChangeShapes Go.WideShapes Go.ChangeAt Go.RowKit

open Go.Proofs.Yteeianandjokaaa.pq Go.Proofs.Yteeianandjokaaa.cq Go.Proofs.Yteeianandjokaaa.vk Go.Proofs.Yteeianandjokaaa.bk Go.Proofs.Yteeianandjokaaa.wk Go.Proofs.Yteeianandjokaaa.uk

set_option linter.unusedVariables false
theorem own_new (w : World) (e : TypeId) (v : Value) : (w.alloc (.cells #[v] e)).ownsRow w.heap.size e 1 (.slice (some ⟨w.heap.size, 0, none⟩) 1 1) 1 [v] :=
  ⟨rfl, .inr ⟨w.heap.size, 1, #[v], rfl, Nat.le_refl _, heap_alloc_new _ _, Nat.le_refl _, by unfold maxLen; omega, rfl, rfl⟩⟩
theorem own_down {w : World} {B B' n s : Nat} {e : TypeId} {v : Value} {xs : List Value} (h : w.ownsRow B e s v n xs) (hB : B' ≤ B) : w.ownsRow B' e s v n xs := by
  refine ⟨h.1, ?_⟩
  rcases h.2 with h1 | ⟨g, cap, cur, h1, h2, h3⟩
  · exact .inl h1
  · exact .inr ⟨g, cap, cur, h1, by omega, h3⟩
/-- slices of given memory -/
def SV (w : World) (C : VV) (vals : List Value) : Prop := ∀ (j : Nat) (p : List Int), C[j]? = some p → ∃ A n c, vals[j]? = some (.slice A n c) ∧ wo.IsI w A n c p
theorem sv_push {w : World} {C : VV} {vals : List Value} {A : Option Addr} {n c : Nat} {p : List Int} (h : SV w C vals) (hl : vals.length = C.length) (hI : wo.IsI w A n c p) : SV w (C ++ [p]) (vals ++ [.slice A n c]) := fun j q hj => by
  rcases Nat.lt_trichotomy j C.length with hjk | hjk | hjk
  · rw [List.getElem?_append_left hjk] at hj
    obtain ⟨A9, n9, c9, h1, h2⟩ := h j q hj
    exact ⟨A9, n9, c9, by rw [List.getElem?_append_left (by omega)]; exact h1, h2⟩
  · subst hjk
    rw [List.getElem?_append_right (Nat.le_refl _), Nat.sub_self] at hj
    simp at hj
    subst hj
    exact ⟨A, n, c, by rw [List.getElem?_append_right (by omega), hl, Nat.sub_self]; rfl, hI⟩
  · rw [List.getElem?_eq_none (by simp; omega)] at hj; cases hj
theorem isVV_own0 {w0 w : World} {B n : Nat} {v : Value} {C : VV} {vals : List Value} (h : w.ownsRow B 23 1 v n vals) (hv : SV w0 C vals) (hb : Below w0.heap.size w0 w) (hl : C.length = n) : ∃ A c, v = .slice A n c ∧ IsVV w A n c C := by
  rcases h.2 with ⟨hs, hn0⟩ | ⟨g, cap, cur, hs, hb2, hh, h3, h4, h5, h6⟩
  · subst hs
    exact ⟨none, 0, by rw [hn0], hl, by omega, by omega, fun k p hk => by have := (List.getElem?_eq_some_iff.1 hk).1; omega⟩
  · subst hs
    refine ⟨_, _, rfl, hl, h3, by unfold maxLen at h4; omega, fun k p hk => ?_⟩
    obtain ⟨A', n', c', hu, hI⟩ := hv k p hk
    have hc := h.cells rfl k _ hu
    rw [wk.add_at] at hc
    exact ⟨g, 0, A', n', c', rfl, (Array.getElem?_eq_some_iff.1 hh).1, hc, isI_below hI hb⟩
def cho (L : VV) (pl : List Nat) : VV := pl.map fun k => L.getD k []
theorem cho_len (L : VV) (pl : List Nat) : (cho L pl).length = pl.length := by simp [cho]
theorem cho_snoc {L : VV} {k : Nat} {p : List Int} (pl : List Nat) (h : L[k]? = some p) : cho L (pl ++ [k]) = cho L pl ++ [p] := by
  unfold cho; rw [List.map_append, List.map_cons, List.map_nil, getD_some h]
theorem cho_fit {L : VV} {most d : Nat} {pl : List Nat} (h : Fit most d L) (hp : ∀ k ∈ pl, k < L.length) (h1 : 1 ≤ pl.length) (h8 : pl.length ≤ 8) : Fit 8 d (cho L pl) :=
  ⟨by rw [cho_len]; exact h1, by rw [cho_len]; exact h8, h.d1, h.d2, fun v hv => by
    unfold cho at hv
    obtain ⟨k, hk, rfl⟩ := List.mem_map.1 hv
    exact h.get (hp k hk)⟩
theorem af_nk {m : Int} {L : VV} {pl : List Nat} {k : Nat} {v : List Int} (h : L[k]? = some v) : af m L pl k = (nearest m (cho L pl) v).2 := by
  rw [af_at pl h]
  exact ap_nk m (cho L pl) v
abbrev NB : TypeId := 36
set_option maxRecDepth 100000 in
set_option maxHeartbeats 4000000 in
theorem rchoose_bad {m most : Int} {AL : Option Addr} {n cL : Nat} {L : VV} (w : World) (h : IsVV w AL n cL L) (hk : cok' m L most = false) :
    Calls Try.prog 15 #[.int .i64 m, .slice AL n cL, .int .i64 most] w fun e w' => e = .returned (.agg #[.slice none 0 0, .int .i64 1]) ∧ Below w.heap.size w w' := by
  have hbR := below_new w (.cells #[.slice none 0 0, .int .i64 0] NB)
  have HR := Lib.hid (Rw.new w NB #[.slice none 0 0, .int .i64 0])
  have HBR := Lib.hid hbR
  have HM := Lib.hid (fun w' => rmetric_calls m w')
  have HF := Lib.hid (rfit_calls (w.alloc (.cells #[.slice none 0 0, .int .i64 0] NB)) (isVV_below h hbR))
  unfold cok' at hk
  clear h hbR
  cases h1 : isM m
  · rw [h1] at HM
    go_enter Try.func15, Try.ntmps15
    go_wp2_with fail
    refine (HM.out _).mono ?_
    rintro e w1 ⟨rfl, rfl⟩
    go_wp2_with fail
    exact bodyPost_ret (v := .agg #[.slice none 0 0, .int .i64 1]) (results_cell_row (fn := Try.f15) rfl _ _ w.heap.size NB #[.slice none 0 0, .int .i64 1] (0, 0) _ rfl (heap_alloc_new _ _) Try.underlying36 rfl (by kernel_rfl)) rfl ⟨rfl, below_new _ _⟩
  · rw [h1] at HM
    cases h2 : fit 4096 L
    · rw [h2] at HF
      go_enter Try.func15, Try.ntmps15
      go_wp2_with fail
      refine (HM.out _).mono ?_
      rintro e w1 ⟨rfl, rfl⟩
      go_wp2_with fail
      refine HF.out.mono ?_
      rintro e w2 ⟨rfl, hb2⟩
      have hR1 := HR.out.below hb2
      have hB1 := Below.andThen HBR.out hb2
      clear hb2
      have hd0 := hR1.c (j := 0) rfl
      have hd1 := hR1.c (j := 1) rfl
      have hf0 := hR1.f 0
      have hf1 := hR1.f 1
      have HBF := Lib.hid (below_two hB1 (Nat.le_refl _) (.slice none 0 0) (.int .i64 1))
      have HTF := Lib.hid (hR1.set2 (.slice none 0 0) (.int .i64 1))
      clear hR1 hB1
      go_wp2_with fail
      exact bodyPost_ret (v := .agg #[.slice none 0 0, .int .i64 1]) (results_cell_row (fn := Try.f15) rfl _ _ w.heap.size NB #[.slice none 0 0, .int .i64 1] (0, 0) _ rfl HTF.out Try.underlying36 rfl (by kernel_rfl)) rfl ⟨rfl, HBF.out⟩
    · rw [h2] at HF
      rw [h1, h2, Bool.true_and, Bool.true_and, decide_eq_false_iff_not] at hk
      by_cases h3 : most < 1
      · go_enter Try.func15, Try.ntmps15
        go_wp2_with fail
        refine (HM.out _).mono ?_
        rintro e w1 ⟨rfl, rfl⟩
        go_wp2_with fail
        refine HF.out.mono ?_
        rintro e w2 ⟨rfl, hb2⟩
        have hR1 := HR.out.below hb2
        have hB1 := Below.andThen HBR.out hb2
        clear hb2
        have hd0 := hR1.c (j := 0) rfl
        have hd1 := hR1.c (j := 1) rfl
        have hf0 := hR1.f 0
        have hf1 := hR1.f 1
        have HBF := Lib.hid (below_two hB1 (Nat.le_refl _) (.slice none 0 0) (.int .i64 1))
        have HTF := Lib.hid (hR1.set2 (.slice none 0 0) (.int .i64 1))
        clear hR1 hB1
        go_wp2_with fail
        exact bodyPost_ret (v := .agg #[.slice none 0 0, .int .i64 1]) (results_cell_row (fn := Try.f15) rfl _ _ w.heap.size NB #[.slice none 0 0, .int .i64 1] (0, 0) _ rfl HTF.out Try.underlying36 rfl (by kernel_rfl)) rfl ⟨rfl, HBF.out⟩
      · have h4 : 8 < most := by omega
        go_enter Try.func15, Try.ntmps15
        go_wp2_with fail
        refine (HM.out _).mono ?_
        rintro e w1 ⟨rfl, rfl⟩
        go_wp2_with fail
        refine HF.out.mono ?_
        rintro e w2 ⟨rfl, hb2⟩
        have hR1 := HR.out.below hb2
        have hB1 := Below.andThen HBR.out hb2
        clear hb2
        have hd0 := hR1.c (j := 0) rfl
        have hd1 := hR1.c (j := 1) rfl
        have hf0 := hR1.f 0
        have hf1 := hR1.f 1
        have HBF := Lib.hid (below_two hB1 (Nat.le_refl _) (.slice none 0 0) (.int .i64 1))
        have HTF := Lib.hid (hR1.set2 (.slice none 0 0) (.int .i64 1))
        clear hR1 hB1
        go_wp2_with fail
        exact bodyPost_ret (v := .agg #[.slice none 0 0, .int .i64 1]) (results_cell_row (fn := Try.f15) rfl _ _ w.heap.size NB #[.slice none 0 0, .int .i64 1] (0, 0) _ rfl HTF.out Try.underlying36 rfl (by kernel_rfl)) rfl ⟨rfl, HBF.out⟩
set_option maxRecDepth 100000 in
set_option maxHeartbeats 8000000 in
theorem rchoose_good {m : Int} {most : Nat} {AL : Option Addr} {n cL : Nat} {L : VV} (w : World) (h : IsVV w AL n cL L) (h0 : isM m = true) (hft : fit 4096 L = true) (hm1 : 1 ≤ most) (hm8 : most ≤ 8) :
    Calls Try.prog 15 #[.int .i64 m, .slice AL n cL, .int .i64 (most : Int)] w fun e w' => ∃ A2 n2 c2, e = .returned (.agg #[.slice A2 n2 c2, .int .i64 0]) ∧ wo.IsI w' A2 n2 c2 (pz (pq.choose m L (most : Int))) ∧ Below w.heap.size w w' := by
  obtain ⟨i0, hi9, hz0, hz1, hz2⟩ := info_parts wi.infoI
  obtain ⟨i1, hj9, hj0, hj1, hj2⟩ := info_parts infoVz
  have hbR := below_new w (.cells #[.slice none 0 0, .int .i64 0] NB)
  have HR := Lib.hid (Rw.new w NB #[.slice none 0 0, .int .i64 0])
  have HBR := Lib.hid hbR
  have HM := Lib.hid (fun w' => rmetric_calls m w')
  have HFC := Lib.hid (rfit_calls (w.alloc (.cells #[.slice none 0 0, .int .i64 0] NB)) (isVV_below h hbR))
  have hF := fit_of hft
  have hM : 1 ≤ m ∧ m ≤ 3 := by simpa [isM] using h0
  rw [h0] at HM
  rw [hft] at HFC
  have hn4 : n ≤ 4096 := by rw [← h.1]; exact hF.n2
  have hn1 : 1 ≤ n := by rw [← h.1]; exact hF.n1
  have hmL := h.2.2.1
  have hncL := h.2.1
  obtain ⟨bL, oL, A0, n0, c0, p0, rfl, hb0, hc0, hI0, hX0⟩ := isVV_get h (k := 0) (by omega)
  rw [Nat.add_zero] at hc0
  have hlt00 : (0 : Int) < (n : Int) := by omega
  have HH := Lib.hid h
  have HF := Lib.hid hF
  have HM13 := Lib.hid hM
  have HLN : Hid (L.length = n) := h.1
  have HI0 := Lib.hid hI0
  have HX0 := Lib.hid hX0
  have HC0 := Lib.hid hc0
  have HB0 := Lib.hid hb0
  have HCH : Hid (pq.choose m L (most : Int) = chN m L (most - 1) [0]) := by show _ = _; rw [choose_first m (by rw [h.1]; exact hn1) (by omega), Int.toNat_natCast]
  clear h hbR h0 hft hF hM hI0 hX0 hc0 hb0
  go_enter Try.func15, Try.ntmps15
  go_wp2_with fail
  refine (HM.out _).mono ?_
  rintro e w1 ⟨rfl, rfl⟩
  go_wp2_with fail
  refine HFC.out.mono ?_
  rintro e w2 ⟨rfl, hb2⟩
  have hbn1 := below_new w2 (.cells #[.int .i64 0] 3)
  have hbn2 := below_new (w2.alloc (.cells #[.int .i64 0] 3)) (.cells #[.slice A0 n0 c0] 23)
  have hB2 := Below.andThen HBR.out hb2
  have hB3 := Below.andThen hB2 hbn1
  have hB4 := Below.andThen hB3 hbn2
  have hc3 := (hB3.cell (p := ⟨bL, oL, none⟩) HB0.out).trans HC0.out
  have HO1 := Lib.hid (keptB (own_new w2 3 (.int .i64 0)) hbn2)
  have ho2 := own_new (w2.alloc (.cells #[.int .i64 0] 3)) 23 (.slice A0 n0 c0)
  rw [size_new] at ho2
  have HO2 := Lib.hid ho2
  have HR4 := Lib.hid (((HR.out.below hb2).below hbn1).below hbn2)
  have HB4 := Lib.hid hB4
  have HS4 : Hid (w.heap.size < w2.heap.size ∧ ((w2.alloc (.cells #[.int .i64 0] 3)).alloc (.cells #[.slice A0 n0 c0] 23)).heap.size = w2.heap.size + 1 + 1) := ⟨(HR.out.below hb2).lt, by simp only [size_new]⟩
  clear hb2 hbn1 hbn2 hB2 hB3 hB4 ho2
  go_wp2_with fail
  clear hc3
  generalize hwS : (w2.alloc (.cells #[.int .i64 0] 3)).alloc (.cells #[.slice A0 n0 c0] 23) = w4 at *
  generalize hG2 : w2.heap.size = G2 at *
  have HSV0 : Hid (SV w (cho L [0]) [.slice A0 n0 c0]) := fun j p hj => by
    have e : cho L [0] = [p0] := by unfold cho; rw [List.map_cons, List.map_nil, getD_some HX0.out]
    rw [e] at hj
    cases j with
    | zero => simp at hj; subst hj; exact ⟨_, _, _, rfl, HI0.out⟩
    | succ j => simp at hj
  go_loopg [7, 8] (most - 1) (fun gk u x wr => ∃ (pl : List Nat) (vals : List Value) (v7 v8 : Value), pl.length + gk = most ∧ v7 = u ∧ v8 = x ∧ 1 ≤ pl.length ∧ chN m L (most - 1) [0] = chN m L gk pl ∧ (∀ k ∈ pl, k < n) ∧ wr.ownsRow G2 3 1 v7 pl.length (iv (pz pl)) ∧ wr.ownsRow G2 23 1 v8 pl.length vals ∧ SV w (cho L pl) vals ∧ Rw wr w.heap.size NB #[.slice none 0 0, .int .i64 0] ∧ Below w.heap.size w wr ∧ G2 ≤ wr.heap.size)
  case atStart => exact ⟨[0], [.slice A0 n0 c0], _, _, by simp; omega, rfl, rfl, Nat.le_refl _, rfl, fun k hk => by rw [List.mem_singleton.1 hk]; omega, HO1.out, own_down HO2.out (by omega), HSV0.out, HR4.out, HB4.out, by have := HS4.out.2; omega⟩
  case round =>
    obtain ⟨pl, vals, v7, v8, hpl, hv7, hv8, hp1, hch, hpn, ho7, ho8, hsv, hres, hbel, hsz⟩ := hrel
    subst hv7 hv8
    have HPL := Lib.hid hpl
    have HCHN := Lib.hid hch
    have HPN := Lib.hid hpn
    have HO7 := Lib.hid ho7
    have HO8 := Lib.hid ho8
    have HSV := Lib.hid hsv
    have HRES := Lib.hid hres
    have HBEL := Lib.hid hbel
    have HSZ := Lib.hid hsz
    have hpm : pl.length ≤ most := by omega
    have hcs : ∀ g, chN m L (g + 1) pl = if (far m L pl).2 = 0 then pl else chN m L g (pl ++ [(far m L pl).1]) := fun g => rfl
    have HCS := Lib.hid hcs
    have HFA : Hid (far m L pl = gr (af m L pl) n) := by show _ = _; unfold far; rw [HLN.out]
    obtain ⟨A7, c7, hv7⟩ := own_slice ho7
    obtain ⟨A8, c8, hv8, hVV⟩ := isVV_own0 ho8 hsv hbel (by rw [cho_len])
    subst hv7 hv8
    have HVV := Lib.hid hVV
    have hm8' := hVV.2.2.1
    have hnc8 := hVV.2.1
    clear hpl hch hpn ho7 ho8 hsv hres hbel hsz hcs hVV
    by_cases hdo : pl.length < most
    · obtain ⟨j, hj⟩ : ∃ j, gk = j + 1 := ⟨gk - 1, by have := HPL.out; omega⟩
      subst hj
      have hd3 : (pl.length : Int) < (most : Int) := by omega
      have HCF := Lib.hid (cho_fit HF.out (pl := pl) (fun k hk => by rw [HLN.out]; exact HPN.out k hk) hp1 (by omega))
      go_wp2_with fail
      obtain ⟨w0, hw0⟩ : ∃ u, u = wr := ⟨_, rfl⟩
      obtain ⟨gj, hgj⟩ : ∃ u, u = j := ⟨_, rfl⟩
      subst hgj
      go_loopg [9, 10, 11] n (fun gq x y z wr => ∃ k : Nat, k + gq = n ∧ x = .int .i64 ((gr (af m L pl) k).1 : Int) ∧ y = .int .i64 (gr (af m L pl) k).2 ∧ z = .int .i64 (k : Int) ∧ Below w0.heap.size w0 wr)
      case atStart => exact ⟨0, by omega, rfl, rfl, rfl, by rw [hw0]; exact Below.refl _ _⟩
      case round =>
        obtain ⟨k, hk, rfl, rfl, rfl, hbi⟩ := hrel
        subst hw0
        have HK := Lib.hid hk
        have HBI := Lib.hid hbi
        have hkn : k ≤ n := by omega
        clear hk
        by_cases hlt : k < n
        · have hbw : Below w.heap.size w wr := HBEL.out.trans (hbi.mono HBEL.out.size)
          obtain ⟨b', o', Av, nv, cv, v, e1, hbv, hcv, hIv, hXv⟩ := isVV_get (isVV_below HH.out hbw) hlt
          cases e1
          have hlt0 : (k : Int) < (n : Int) := by omega
          have HNC := Lib.hid (rnear_calls wr HM13.out.1 HM13.out.2 (isVV_below HVV.out hbi) hIv HCF.out (by omega) (HF.out.at hXv))
          have HAF : Hid (af m L pl k = (nearest m (cho L pl) v).2) := af_nk hXv
          generalize nearest m (cho L pl) v = q at *
          obtain ⟨q1, q2⟩ := q
          dsimp only at HNC HAF
          have HG : Hid (gr (af m L pl) (k + 1) = if (gr (af m L pl) k).2 < q2 then (k, q2) else gr (af m L pl) k) := by show _ = _; rw [gr, HAF.out]
          generalize gr (af m L pl) k = r at *
          obtain ⟨r1, r2⟩ := r
          dsimp only at HG ⊢
          clear hIv hXv hbw hbi HAF
          go_wp2_with fail
          refine HNC.out.mono ?_
          rintro e w5 ⟨rfl, hb5⟩
          have hT := Rw.new w5 PL #[.int .i64 (q1 : Int), .int .i64 q2, .int .i64 0]
          have hd1 := hT.c (j := 1) rfl
          have HB5 := Lib.hid (HBI.out.trans ((Below.andThen hb5 (below_new w5 (.cells #[.int .i64 (q1 : Int), .int .i64 q2, .int .i64 0] PL))).mono HBI.out.size))
          clear hb5 hT hcv
          by_cases hc : r2 < q2
          · have HG2 : Hid (gr (af m L pl) (k + 1) = (k, q2)) := by show _ = _; rw [HG.out, if_pos hc]
            go_wp2_with fail
            go_roundg (gk - 1)
            case measure => have := HK.out; omega
            case rel => exact ⟨k + 1, by have := HK.out; omega, by rw [HG2.out], by rw [HG2.out], by go_num, HB5.out⟩
          · have HG2 : Hid (gr (af m L pl) (k + 1) = (r1, r2)) := by show _ = _; rw [HG.out, if_neg hc]
            go_wp2_with fail
            go_roundg (gk - 1)
            case measure => have := HK.out; omega
            case rel => exact ⟨k + 1, by have := HK.out; omega, by rw [HG2.out], by rw [HG2.out], by go_num, HB5.out⟩
        · obtain rfl : k = n := by omega
          have hbw : Below w.heap.size w wr := HBEL.out.trans (hbi.mono HBEL.out.size)
          have HBW := Lib.hid hbw
          have HBW2 : Hid (G2 ≤ wr.heap.size) := Nat.le_trans HSZ.out hbi.size
          have HO7w := Lib.hid (keptB HO7.out hbi)
          have HO8w := Lib.hid (keptB HO8.out hbi)
          have HRSw := Lib.hid (HRES.out.below hbi)
          have HA1 : Hid ((far m L pl).1 < k) := by show _ < _; have := gr_lt (af m L pl) k hn1; rw [HFA.out]; exact this
          rw [← HFA.out]
          obtain ⟨r, hr⟩ : ∃ r, far m L pl = r := ⟨_, rfl⟩
          rw [hr] at HCS HA1 ⊢
          obtain ⟨r1, r2⟩ := r
          dsimp only at HCS HA1 ⊢
          clear hr hbw hbi HVV hm8' hnc8
          by_cases hz : r2 = 0
          · subst hz
            have hex : pq.choose m L (most : Int) = pl := by rw [HCH.out, HCHN.out, HCS.out, if_pos rfl]
            have HEX := Lib.hid hex
            clear hex
            have hi9' := isI_own_sq (B := G2) (es := []) HO7w.out (Nat.le_refl _) (pz_bd HPN.out hn4) (by simp)
            obtain ⟨A9, c9, e9, hsq⟩ := hi9'
            cases e9
            have hR1 := HRSw.out
            have hlg : w.heap.size < G2 := HS4.out.1
            have hd0 := hR1.c (j := 0) rfl
            have hd1 := hR1.c (j := 1) rfl
            have hf0 := hR1.f 0
            have hf1 := hR1.f 1
            have HIF := Lib.hid (hsq _ ((Kq.of_set (i := 0) (.slice A7 pl.length c7) hR1 (.inr hlg)).trans (Kq.of_set (i := 1) (.int .i64 0) (heap_setCell_same _ w.heap.size 0 _ NB _ hR1) (.inr hlg))))
            have HBF := Lib.hid (below_two HBW.out (Nat.le_refl _) (.slice A7 pl.length c7) (.int .i64 0))
            have HTF := Lib.hid (hR1.set2 (.slice A7 pl.length c7) (.int .i64 0))
            clear hR1 hsq hlg
            go_wp2_with fail
            exact bodyPost_ret (v := .agg #[.slice A7 pl.length c7, .int .i64 0]) (results_cell_row (fn := Try.f15) rfl _ _ w.heap.size NB #[.slice A7 pl.length c7, .int .i64 0] (0, 0) _ rfl HTF.out Try.underlying36 rfl (by kernel_rfl)) rfl ⟨_, _, _, rfl, by rw [HEX.out]; exact HIF.out, HBF.out⟩
          · have hz' : (r2 == 0) = false := by simpa using hz
            have hltr : (r1 : Int) < (k : Int) := by have := HA1.out; omega
            obtain ⟨b9, o9, A9, n9, c9, p, e9, hb9, hc9, hI9, hX9⟩ := isVV_get HH.out HA1.out
            cases e9
            have HI9 := Lib.hid hI9
            have HX9 := Lib.hid hX9
            have HC9 := Lib.hid hc9
            have HB9 := Lib.hid hb9
            have HCN : Hid (chN m L (most - 1) [0] = chN m L gj (pl ++ [r1])) := by show _ = _; rw [HCHN.out, HCS.out, if_neg hz]
            clear hI9 hX9 hc9 hb9
            go_wp2_with (at_builtin; refine wpList_append_own _ rfl _ _ 23 rfl G2 3 i0 (.int .i64 0) 1 8 Try.underlying23 hi9 hz0 hz1 hz2 rfl (by decide) _ _ _ rfl (HO7w.out.alloc _) ⟨wr.heap.size, 0, none⟩ 1 1 [.int .i64 (r1 : Int)] rfl rfl (cells1 _ _ _) ?c2 ?c3 ?c4 ?c5 ?_)
            case c2 => simp [Value.oneCell']
            case c3 => unfold maxLen; omega
            case c4 => omega
            case c5 => have := HBW2.out; rw [size_new]; omega
            intro v' w5 hown5 hgrow5 _
            have hlg : w.heap.size < G2 := HS4.out.1
            have hbw2 := HBW2.out
            have hR5 := HRSw.out.at (keep_low HO7w.out hgrow5 hlg (by omega))
            have hB5 : Below w.heap.size w w5 := (HBW.out.alloc (by omega) _).grown hgrow5 (by rw [size_new]; omega) (fun q hq => by have := (HO7w.out.lt q hq).1; omega)
            have ho85 := World.ownsRow.kept (keptB HO8w.out (below_new wr (.cells #[.int .i64 (r1 : Int)] 3))) hgrow5 (own_apart (HO7w.out.alloc _) (keptB HO8w.out (below_new wr (.cells #[.int .i64 (r1 : Int)] 3))) (by decide))
            have hc5 := (hB5.cell (p := ⟨bL, oL + r1, none⟩) HB9.out).trans HC9.out
            have hs5 : wr.heap.size + 1 ≤ w5.heap.size := by have := hgrow5.size; rw [size_new] at this; exact this
            have HR5 := Lib.hid hR5
            have HB5 := Lib.hid hB5
            have HO85 := Lib.hid ho85
            have HO75 := Lib.hid hown5
            have HS5 : Hid (G2 ≤ w5.heap.size) := by show _ ≤ _; omega
            have hvl : Hid (vals.length = pl.length) := by have := HO8.out.1; show _ = _; omega
            clear hown5 hgrow5 hR5 hB5 ho85 hs5 hbw2 hlg
            go_wp2_with (at_builtin; refine wpList_append_own _ rfl _ _ 22 rfl G2 23 i1 (.slice none 0 0) 1 24 Try.underlying22 hj9 hj0 hj1 hj2 rfl (by decide) _ _ _ rfl (HO85.out.alloc _) ⟨w5.heap.size, 0, none⟩ 1 1 [.slice A9 n9 c9] rfl rfl (cells1 _ _ _) ?d2 ?d3 ?d4 ?d5 ?_)
            case d2 => simp [Value.oneCell']
            case d3 => unfold maxLen; omega
            case d4 => omega
            case d5 => have := HS5.out; rw [size_new]; omega
            intro v'' w6 hown6 hgrow6 _
            have hlg : w.heap.size < G2 := HS4.out.1
            have hs5 := HS5.out
            have hR6 := HR5.out.at (keep_low HO85.out hgrow6 hlg (by omega))
            have hB6 : Below w.heap.size w w6 := (HB5.out.alloc (by omega) _).grown hgrow6 (by rw [size_new]; omega) (fun q hq => by have := (HO85.out.lt q hq).1; omega)
            have ho76 := World.ownsRow.kept (keptB HO75.out (below_new w5 (.cells #[.slice A9 n9 c9] 23))) hgrow6 (own_apart (HO85.out.alloc _) (keptB HO75.out (below_new w5 (.cells #[.slice A9 n9 c9] 23))) (by decide))
            have HR6 := Lib.hid hR6
            have HB6 := Lib.hid hB6
            have HO76 : Hid (w6.ownsRow G2 3 1 v' (pl ++ [r1]).length (iv (pz (pl ++ [r1])))) := by
              have h := ho76
              rw [pz_snoc, List.length_append]
              unfold iv at h ⊢
              rw [List.map_append]
              exact h
            have HO86 : Hid (w6.ownsRow G2 23 1 v'' (pl ++ [r1]).length (vals ++ [.slice A9 n9 c9])) := by rw [List.length_append]; exact hown6
            have HSV6 : Hid (SV w (cho L (pl ++ [r1])) (vals ++ [.slice A9 n9 c9])) := by
              rw [cho_snoc pl HX9.out]
              exact sv_push HSV.out (by rw [cho_len]; exact hvl.out) HI9.out
            have HS6 : Hid (G2 ≤ w6.heap.size) := by show _ ≤ _; have := hgrow6.size; rw [size_new] at this; omega
            have HPN2 : Hid (∀ i ∈ pl ++ [r1], i < k) := fun i hi => by
              rcases List.mem_append.1 hi with h | h
              · exact HPN.out i h
              · rw [List.mem_singleton.1 h]; exact HA1.out
            clear hown6 hgrow6 hR6 hB6 ho76 hs5 hlg hc5
            go_wp2_with fail
            go_roundg gj
            case measure => omega
            case rel => exact ⟨pl ++ [r1], _, _, _, by have := HPL.out; rw [List.length_append]; simp; omega, rfl, rfl, by rw [List.length_append]; simp, HCN.out, HPN2.out, HO76.out, HO86.out, HSV6.out, HR6.out, HB6.out, HS6.out⟩
    · have hex : pq.choose m L (most : Int) = pl := by
        rw [HCH.out, HCHN.out]
        have hp := HPL.out
        obtain rfl : gk = 0 := by omega
        rfl
      have HEX := Lib.hid hex
      clear hex
      have hd3 : ¬ (pl.length : Int) < (most : Int) := by omega
      have hi9' := isI_own_sq (B := G2) (es := []) HO7.out (Nat.le_refl _) (pz_bd HPN.out hn4) (by simp)
      obtain ⟨A9, c9, e9, hsq⟩ := hi9'
      cases e9
      have hR1 := HRES.out
      have hlg : w.heap.size < G2 := HS4.out.1
      have hd0 := hR1.c (j := 0) rfl
      have hd1 := hR1.c (j := 1) rfl
      have hf0 := hR1.f 0
      have hf1 := hR1.f 1
      have HIF := Lib.hid (hsq _ ((Kq.of_set (i := 0) (.slice A7 pl.length c7) hR1 (.inr hlg)).trans (Kq.of_set (i := 1) (.int .i64 0) (heap_setCell_same _ w.heap.size 0 _ NB _ hR1) (.inr hlg))))
      have HBF := Lib.hid (below_two HBEL.out (Nat.le_refl _) (.slice A7 pl.length c7) (.int .i64 0))
      have HTF := Lib.hid (hR1.set2 (.slice A7 pl.length c7) (.int .i64 0))
      clear hR1 hsq hlg
      go_wp2_with fail
      exact bodyPost_ret (v := .agg #[.slice A7 pl.length c7, .int .i64 0]) (results_cell_row (fn := Try.f15) rfl _ _ w.heap.size NB #[.slice A7 pl.length c7, .int .i64 0] (0, 0) _ rfl HTF.out Try.underlying36 rfl (by kernel_rfl)) rfl ⟨_, _, _, rfl, by rw [HEX.out]; exact HIF.out, HBF.out⟩
theorem rchoose_calls {m most : Int} {AL : Option Addr} {n cL : Nat} {L : VV} (w : World) (h : IsVV w AL n cL L) :
    Calls Try.prog 15 #[.int .i64 m, .slice AL n cL, .int .i64 most] w fun e w' => ∃ A2 n2 c2, e = .returned (.agg #[.slice A2 n2 c2, okE (cok' m L most)]) ∧ wo.IsI w' A2 n2 c2 (pz (if cok' m L most then pq.choose m L most else [])) ∧ Below w.heap.size w w' := by
  cases hk : cok' m L most
  · refine (rchoose_bad w h hk).mono ?_
    rintro e w' ⟨rfl, hb⟩
    exact ⟨_, _, _, rfl, isI_nil _, hb⟩
  · obtain ⟨h1, h2, h3, h4⟩ := cok'_iff.1 hk
    obtain ⟨k, rfl⟩ := Int.eq_ofNat_of_zero_le (show 0 ≤ most by omega)
    refine (rchoose_good w h h1 h2 (by omega) (by omega)).mono ?_
    rintro e w' ⟨A2, n2, c2, rfl, hI, hb⟩
    exact ⟨_, _, _, rfl, hI, hb⟩
end Go.Proofs.Yteeianandjokaaa.pk
/- The reference: In. -/
namespace Go.Proofs.Yteeianandjokaaa.pk

open Go.ChangeShapes Go.WideShapes Go.ChangeAt Go.RowKit

open Go.Proofs.Yteeianandjokaaa.pq Go.Proofs.Yteeianandjokaaa.cq Go.Proofs.Yteeianandjokaaa.vk Go.Proofs.Yteeianandjokaaa.bk Go.Proofs.Yteeianandjokaaa.wk Go.Proofs.Yteeianandjokaaa.uk

set_option linter.unusedVariables false
set_option maxRecDepth 100000 in
set_option maxHeartbeats 4000000 in
theorem rin_calls {S : List Sh} {ks : List Int} {A A' : Option Addr} {n c n' c' : Nat} (w : World) (h : IsS w A n c S) (h' : wo.IsI w A' n' c' ks) :
    Calls Try.prog 33 #[.slice A n c, .slice A' n' c'] w fun e w' => e = .returned (.bool (inn S ks)) ∧ Below w.heap.size w w' := by
  have hm := h.2.2.1
  have hnc := h.2.1
  have hm' := h'.2.2.1
  have hnc' := h'.2.1
  have HV := Lib.hid (rsvalid_calls w h)
  cases hva : svalid S
  · have hj : inn S ks = false := by unfold inn; rw [hva]; simp
    rw [hj]
    rw [hva] at HV
    clear h h' hj
    go_enter Try.func33, Try.ntmps33
    go_wp2_with fail
    refine HV.out.mono ?_
    rintro e w1 ⟨rfl, hb1⟩
    have HB1 := Lib.hid hb1
    clear hb1
    go_wp2_with fail
    go_ret
    exact ⟨rfl, HB1.out⟩
  · rw [hva] at HV
    by_cases hnn : n = n'
    · subst hnn
      have hj : inn S ks = (S.zip ks).all in1 := by unfold inn; rw [hva, h.1, h'.1]; simp
      rw [hj]
      have H := Lib.hid h
      have H' := Lib.hid h'
      have HZL : Hid ((S.zip ks).length = n) := by show _ = _; rw [List.length_zip, h.1, h'.1]; omega
      clear h h' hj
      go_enter Try.func33, Try.ntmps33
      go_wp2_with fail
      refine HV.out.mono ?_
      rintro e w1 ⟨rfl, hb1⟩
      have HB1 := Lib.hid hb1
      clear hb1
      go_wp2_with fail
      go_loopg [5] n (fun gk x wr => ∃ k : Nat, k + gk = n ∧ x = .int .i64 (k : Int) ∧ ((S.zip ks).take k).all in1 = true ∧ Below w.heap.size w wr)
      case atStart => exact ⟨0, by omega, rfl, by simp, HB1.out⟩
      case round =>
        obtain ⟨k, hk, rfl, hall, hbel⟩ := hrel
        have HK := Lib.hid hk
        have HALL := Lib.hid hall
        have HBEL := Lib.hid hbel
        have hkn : k ≤ n := by omega
        clear hk hall
        by_cases hlt : k < n
        · obtain ⟨b, o, ⟨s1, s2⟩, rfl, hc0, hc1, hb, hX, -⟩ := isS_get (isS_below H.out hbel) hlt
          obtain ⟨b2, o2, y, rfl, hy, hY, -, -⟩ := isI_at (isI_below H'.out hbel) hlt
          dsimp only at hc0 hc1
          have hlt0 : (k : Int) < (n : Int) := by omega
          have hz := zipAt hX hY
          have HTA := Lib.hid (take_all (p := in1) hz)
          have HMEM := Lib.hid (List.mem_of_getElem? hz)
          have hb2 := block_lt_of_cell hy
          have HIN : Hid (in1 ((s1, s2), y) = decide (s1 ≤ y ∧ y ≤ s2)) := rfl
          clear hX hY hz hbel
          by_cases h1 : y < s1
          · go_wp2_with fail
            refine wk.region_tailS 22 [.is (.slice (some ⟨b2, o2, none⟩) n c'), .is (.int .i64 (k : Int)), .is (.pointer (some ⟨b2, o2 + k, none⟩)), .is (.int .i64 y), .is (.slice (some ⟨b, o, none⟩) n c), .is (.int .i64 (k : Int)), .is (.pointer (some ⟨b, o + k * 2, none⟩)), .is (.pointer (some ⟨b, o + k * 2, none⟩)), .is (.int .i64 s1), .is (.bool true), .is (.bool true), .is undef, .is undef, .is undef, .is undef, .is undef, .is undef, .is undef, .is undef, .is undef, .is undef, .is (Value.bool true)] [some 22, some 23, some 24, some 25, some 26, some 27, some 28, some 29, some 30, some 31, some 32, some 33, some 34, some 35, some 36, some 37, some 38, some 39, some 40, some 41, some 42, some 43] (by kernel_rfl) (by kernel_rfl) (by kernel_rfl) (by kernel_rfl) [11, 12, 13, 14, 15, 16, 17, 18, 19, 20] (by kernel_rfl) (by intro p hp; simp only [List.mem_cons, List.not_mem_nil, or_false] at hp; rcases hp with rfl | rfl | rfl | rfl | rfl | rfl | rfl | rfl | rfl | rfl <;> rfl) (by kernel_rfl) (by kernel_rfl) ?hstep ?hdone
            case hstep =>
              intro i o ho hi hns E w4 hb4 D
              have hi2 : i = 0 ∨ i = 1 ∨ i = 2 ∨ i = 3 ∨ i = 4 ∨ i = 5 ∨ i = 6 ∨ i = 7 ∨ i = 8 ∨ i = 9 ∨ i = 10 ∨ i = 11 ∨ i = 12 ∨ i = 13 ∨ i = 14 ∨ i = 15 ∨ i = 16 ∨ i = 17 ∨ i = 18 ∨ i = 19 ∨ i = 20 ∨ i = 21 := by omega
              clear hi
              rcases hi2 with rfl | rfl | rfl | rfl | rfl | rfl | rfl | rfl | rfl | rfl | rfl | rfl | rfl | rfl | rfl | rfl | rfl | rfl | rfl | rfl | rfl | rfl
              ·
                have ho2 := (Array.getElem?_eq_some_iff.1 ho).2
                simp only [List.getElem_toArray, List.getElem_cons_zero] at ho2
                subst ho2
                clear ho
                have e1 := D.old 1 (by kernel_rfl)
                exact wk.does_move rfl (by rw [e1]; rfl)
              ·
                have ho2 := (Array.getElem?_eq_some_iff.1 ho).2
                simp only [List.getElem_toArray, List.getElem_cons_succ, List.getElem_cons_zero] at ho2
                subst ho2
                clear ho
                have e5 := D.old 5 (by kernel_rfl)
                exact wk.does_move rfl (by rw [e5]; rfl)
              ·
                have ho2 := (Array.getElem?_eq_some_iff.1 ho).2
                simp only [List.getElem_toArray, List.getElem_cons_succ, List.getElem_cons_zero] at ho2
                subst ho2
                clear ho
                have e22 := D.is { on := 0, ground := .data } (by simp) rfl rfl 22 rfl
                have e23 := D.is { on := 1, ground := .data } (by simp) rfl rfl 23 rfl
                exact wk.does_run (by simp only [execOp]; rw [show E (.tmp 22) = _ from e22, show E (.tmp 23) = _ from e23]; go_simp) rfl
              ·
                have ho2 := (Array.getElem?_eq_some_iff.1 ho).2
                simp only [List.getElem_toArray, List.getElem_cons_succ, List.getElem_cons_zero] at ho2
                subst ho2
                clear ho
                have e24 := D.is { on := 2, ground := .data } (by simp) rfl rfl 24 rfl
                exact wk.does_load1 rfl e24 ((((Below.refl _ _).drew.trans hb4).cell (p := ⟨b2, o2 + k, none⟩) hb2).trans hy) Try.underlying3 rfl rfl
              ·
                have ho2 := (Array.getElem?_eq_some_iff.1 ho).2
                simp only [List.getElem_toArray, List.getElem_cons_succ, List.getElem_cons_zero] at ho2
                subst ho2
                clear ho
                have e0 := D.old 0 (by kernel_rfl)
                exact wk.does_move rfl (by rw [e0]; rfl)
              ·
                have ho2 := (Array.getElem?_eq_some_iff.1 ho).2
                simp only [List.getElem_toArray, List.getElem_cons_succ, List.getElem_cons_zero] at ho2
                subst ho2
                clear ho
                have e5 := D.old 5 (by kernel_rfl)
                exact wk.does_move rfl (by rw [e5]; rfl)
              ·
                have ho2 := (Array.getElem?_eq_some_iff.1 ho).2
                simp only [List.getElem_toArray, List.getElem_cons_succ, List.getElem_cons_zero] at ho2
                subst ho2
                clear ho
                have e26 := D.is { on := 4, ground := .data } (by simp) rfl rfl 26 rfl
                have e27 := D.is { on := 5, ground := .data } (by simp) rfl rfl 27 rfl
                exact wk.does_run (by simp only [execOp]; rw [show E (.tmp 26) = _ from e26, show E (.tmp 27) = _ from e27]; go_simp) rfl
              ·
                have ho2 := (Array.getElem?_eq_some_iff.1 ho).2
                simp only [List.getElem_toArray, List.getElem_cons_succ, List.getElem_cons_zero] at ho2
                subst ho2
                clear ho
                have e28 := D.is { on := 6, ground := .data } (by simp) rfl rfl 28 rfl
                exact wk.does_run (by simp only [execOp]; rw [show E (.tmp 28) = _ from e28]; go_simp) rfl
              ·
                have ho2 := (Array.getElem?_eq_some_iff.1 ho).2
                simp only [List.getElem_toArray, List.getElem_cons_succ, List.getElem_cons_zero] at ho2
                subst ho2
                clear ho
                have e29 := D.is { on := 7, ground := .data } (by simp) rfl rfl 29 rfl
                exact wk.does_load1 rfl e29 ((((Below.refl _ _).drew.trans hb4).cell (p := ⟨b, o + k * 2, none⟩) hb).trans hc0) Try.underlying3 rfl rfl
              ·
                have ho2 := (Array.getElem?_eq_some_iff.1 ho).2
                simp only [List.getElem_toArray, List.getElem_cons_succ, List.getElem_cons_zero] at ho2
                subst ho2
                clear ho
                have e25 := D.is { on := 3, ground := .data } (by simp) rfl rfl 25 rfl
                have e30 := D.is { on := 8, ground := .data } (by simp) rfl rfl 30 rfl
                exact wk.does_run (by simp only [execOp]; rw [show E (.tmp 25) = _ from e25, show E (.tmp 30) = _ from e30]; go_simp; try (simp; omega)) rfl
              ·
                have ho2 := (Array.getElem?_eq_some_iff.1 ho).2
                simp only [List.getElem_toArray, List.getElem_cons_succ, List.getElem_cons_zero] at ho2
                subst ho2
                clear ho
                have e31 := D.is { on := 9, ground := .data } (by simp) rfl rfl 31 rfl
                exact wk.does_move rfl e31
              · cases (show false = true from hns.symm.trans (by kernel_rfl))
              · cases (show false = true from hns.symm.trans (by kernel_rfl))
              · cases (show false = true from hns.symm.trans (by kernel_rfl))
              · cases (show false = true from hns.symm.trans (by kernel_rfl))
              · cases (show false = true from hns.symm.trans (by kernel_rfl))
              · cases (show false = true from hns.symm.trans (by kernel_rfl))
              · cases (show false = true from hns.symm.trans (by kernel_rfl))
              · cases (show false = true from hns.symm.trans (by kernel_rfl))
              · cases (show false = true from hns.symm.trans (by kernel_rfl))
              · cases (show false = true from hns.symm.trans (by kernel_rfl))
              ·
                have ho2 := (Array.getElem?_eq_some_iff.1 ho).2
                simp only [List.getElem_toArray, List.getElem_cons_succ, List.getElem_cons_zero] at ho2
                subst ho2
                clear ho
                have e32 := D.is { on := 10, ground := .data } (by simp) rfl rfl 32 rfl
                have e42 := D.is { on := 20, ground := .data } (by simp) rfl rfl 42 rfl
                exact wk.does_pick rfl e32 (D.con _)
            case hdone =>
              intro vals w4 hb4 hv
              have h21 := hv 21 (by omega)
              clear hv
              replace h21 : vals 21 = (Value.bool true) := h21
              simp only [List.drop_succ_cons, List.drop_zero, wpList, wk.setL, List.setIfInBounds_toArray, List.set_cons_zero, List.set_cons_succ, Nat.zero_add, Nat.reduceAdd, h21]
              generalize vals 0 = x0
              generalize vals 1 = x1
              generalize vals 2 = x2
              generalize vals 3 = x3
              generalize vals 4 = x4
              generalize vals 5 = x5
              generalize vals 6 = x6
              generalize vals 7 = x7
              generalize vals 8 = x8
              generalize vals 9 = x9
              generalize vals 10 = x10
              generalize vals 11 = x11
              generalize vals 12 = x12
              generalize vals 13 = x13
              generalize vals 14 = x14
              generalize vals 15 = x15
              generalize vals 16 = x16
              generalize vals 17 = x17
              generalize vals 18 = x18
              generalize vals 19 = x19
              generalize vals 20 = x20
              have hb5 : Below wr.heap.size wr w4 := (Below.refl _ _).drew.trans hb4
              have HB5 := Lib.hid (HBEL.out.trans (hb5.mono HBEL.out.size))
              clear hb4 hb5
              go_wp2_with fail
              go_ret
              exact ⟨by rw [all_no HMEM.out (by rw [HIN.out]; simp; omega)]; rfl, HB5.out⟩
          · obtain ⟨vb, hvb⟩ : ∃ vb, decide (s2 < y) = vb := ⟨_, rfl⟩
            have HVB := Lib.hid hvb
            clear hvb
            go_wp2_with fail
            refine wk.region_tailS 22 [.is (.slice (some ⟨b2, o2, none⟩) n c'), .is (.int .i64 (k : Int)), .is (.pointer (some ⟨b2, o2 + k, none⟩)), .is (.int .i64 y), .is (.slice (some ⟨b, o, none⟩) n c), .is (.int .i64 (k : Int)), .is (.pointer (some ⟨b, o + k * 2, none⟩)), .is (.pointer (some ⟨b, o + k * 2, none⟩)), .is (.int .i64 s1), .is (.bool false), .is (.bool false), .is (.slice (some ⟨b2, o2, none⟩) n c'), .is (.int .i64 (k : Int)), .is (.pointer (some ⟨b2, o2 + k, none⟩)), .is (.int .i64 y), .is (.slice (some ⟨b, o, none⟩) n c), .is (.int .i64 (k : Int)), .is (.pointer (some ⟨b, o + k * 2, none⟩)), .is (.pointer (some ⟨b, o + k * 2 + 1, none⟩)), .is (.int .i64 s2), .is (.bool vb), .is (.bool vb)] [some 22, some 23, some 24, some 25, some 26, some 27, some 28, some 29, some 30, some 31, some 32, some 33, some 34, some 35, some 36, some 37, some 38, some 39, some 40, some 41, some 42, some 43] (by kernel_rfl) (by kernel_rfl) (by kernel_rfl) (by kernel_rfl) [] (by kernel_rfl) (by intro p hp; cases hp) (by kernel_rfl) (by kernel_rfl) ?hstep ?hdone
            case hstep =>
              intro i o ho hi hns E w4 hb4 D
              have hi2 : i = 0 ∨ i = 1 ∨ i = 2 ∨ i = 3 ∨ i = 4 ∨ i = 5 ∨ i = 6 ∨ i = 7 ∨ i = 8 ∨ i = 9 ∨ i = 10 ∨ i = 11 ∨ i = 12 ∨ i = 13 ∨ i = 14 ∨ i = 15 ∨ i = 16 ∨ i = 17 ∨ i = 18 ∨ i = 19 ∨ i = 20 ∨ i = 21 := by omega
              clear hi
              rcases hi2 with rfl | rfl | rfl | rfl | rfl | rfl | rfl | rfl | rfl | rfl | rfl | rfl | rfl | rfl | rfl | rfl | rfl | rfl | rfl | rfl | rfl | rfl
              ·
                have ho2 := (Array.getElem?_eq_some_iff.1 ho).2
                simp only [List.getElem_toArray, List.getElem_cons_zero] at ho2
                subst ho2
                clear ho
                have e1 := D.old 1 (by kernel_rfl)
                exact wk.does_move rfl (by rw [e1]; rfl)
              ·
                have ho2 := (Array.getElem?_eq_some_iff.1 ho).2
                simp only [List.getElem_toArray, List.getElem_cons_succ, List.getElem_cons_zero] at ho2
                subst ho2
                clear ho
                have e5 := D.old 5 (by kernel_rfl)
                exact wk.does_move rfl (by rw [e5]; rfl)
              ·
                have ho2 := (Array.getElem?_eq_some_iff.1 ho).2
                simp only [List.getElem_toArray, List.getElem_cons_succ, List.getElem_cons_zero] at ho2
                subst ho2
                clear ho
                have e22 := D.is { on := 0, ground := .data } (by simp) rfl rfl 22 rfl
                have e23 := D.is { on := 1, ground := .data } (by simp) rfl rfl 23 rfl
                exact wk.does_run (by simp only [execOp]; rw [show E (.tmp 22) = _ from e22, show E (.tmp 23) = _ from e23]; go_simp) rfl
              ·
                have ho2 := (Array.getElem?_eq_some_iff.1 ho).2
                simp only [List.getElem_toArray, List.getElem_cons_succ, List.getElem_cons_zero] at ho2
                subst ho2
                clear ho
                have e24 := D.is { on := 2, ground := .data } (by simp) rfl rfl 24 rfl
                exact wk.does_load1 rfl e24 ((((Below.refl _ _).drew.trans hb4).cell (p := ⟨b2, o2 + k, none⟩) hb2).trans hy) Try.underlying3 rfl rfl
              ·
                have ho2 := (Array.getElem?_eq_some_iff.1 ho).2
                simp only [List.getElem_toArray, List.getElem_cons_succ, List.getElem_cons_zero] at ho2
                subst ho2
                clear ho
                have e0 := D.old 0 (by kernel_rfl)
                exact wk.does_move rfl (by rw [e0]; rfl)
              ·
                have ho2 := (Array.getElem?_eq_some_iff.1 ho).2
                simp only [List.getElem_toArray, List.getElem_cons_succ, List.getElem_cons_zero] at ho2
                subst ho2
                clear ho
                have e5 := D.old 5 (by kernel_rfl)
                exact wk.does_move rfl (by rw [e5]; rfl)
              ·
                have ho2 := (Array.getElem?_eq_some_iff.1 ho).2
                simp only [List.getElem_toArray, List.getElem_cons_succ, List.getElem_cons_zero] at ho2
                subst ho2
                clear ho
                have e26 := D.is { on := 4, ground := .data } (by simp) rfl rfl 26 rfl
                have e27 := D.is { on := 5, ground := .data } (by simp) rfl rfl 27 rfl
                exact wk.does_run (by simp only [execOp]; rw [show E (.tmp 26) = _ from e26, show E (.tmp 27) = _ from e27]; go_simp) rfl
              ·
                have ho2 := (Array.getElem?_eq_some_iff.1 ho).2
                simp only [List.getElem_toArray, List.getElem_cons_succ, List.getElem_cons_zero] at ho2
                subst ho2
                clear ho
                have e28 := D.is { on := 6, ground := .data } (by simp) rfl rfl 28 rfl
                exact wk.does_run (by simp only [execOp]; rw [show E (.tmp 28) = _ from e28]; go_simp) rfl
              ·
                have ho2 := (Array.getElem?_eq_some_iff.1 ho).2
                simp only [List.getElem_toArray, List.getElem_cons_succ, List.getElem_cons_zero] at ho2
                subst ho2
                clear ho
                have e29 := D.is { on := 7, ground := .data } (by simp) rfl rfl 29 rfl
                exact wk.does_load1 rfl e29 ((((Below.refl _ _).drew.trans hb4).cell (p := ⟨b, o + k * 2, none⟩) hb).trans hc0) Try.underlying3 rfl rfl
              ·
                have ho2 := (Array.getElem?_eq_some_iff.1 ho).2
                simp only [List.getElem_toArray, List.getElem_cons_succ, List.getElem_cons_zero] at ho2
                subst ho2
                clear ho
                have e25 := D.is { on := 3, ground := .data } (by simp) rfl rfl 25 rfl
                have e30 := D.is { on := 8, ground := .data } (by simp) rfl rfl 30 rfl
                exact wk.does_run (by simp only [execOp]; rw [show E (.tmp 25) = _ from e25, show E (.tmp 30) = _ from e30]; go_simp; try (simp; omega)) rfl
              ·
                have ho2 := (Array.getElem?_eq_some_iff.1 ho).2
                simp only [List.getElem_toArray, List.getElem_cons_succ, List.getElem_cons_zero] at ho2
                subst ho2
                clear ho
                have e31 := D.is { on := 9, ground := .data } (by simp) rfl rfl 31 rfl
                exact wk.does_move rfl e31
              ·
                have ho2 := (Array.getElem?_eq_some_iff.1 ho).2
                simp only [List.getElem_toArray, List.getElem_cons_succ, List.getElem_cons_zero] at ho2
                subst ho2
                clear ho
                have e1 := D.old 1 (by kernel_rfl)
                exact wk.does_move rfl (by rw [e1]; rfl)
              ·
                have ho2 := (Array.getElem?_eq_some_iff.1 ho).2
                simp only [List.getElem_toArray, List.getElem_cons_succ, List.getElem_cons_zero] at ho2
                subst ho2
                clear ho
                have e5 := D.old 5 (by kernel_rfl)
                exact wk.does_move rfl (by rw [e5]; rfl)
              ·
                have ho2 := (Array.getElem?_eq_some_iff.1 ho).2
                simp only [List.getElem_toArray, List.getElem_cons_succ, List.getElem_cons_zero] at ho2
                subst ho2
                clear ho
                have e33 := D.is { on := 11, ground := .data } (by simp) rfl rfl 33 rfl
                have e34 := D.is { on := 12, ground := .data } (by simp) rfl rfl 34 rfl
                exact wk.does_run (by simp only [execOp]; rw [show E (.tmp 33) = _ from e33, show E (.tmp 34) = _ from e34]; go_simp) rfl
              ·
                have ho2 := (Array.getElem?_eq_some_iff.1 ho).2
                simp only [List.getElem_toArray, List.getElem_cons_succ, List.getElem_cons_zero] at ho2
                subst ho2
                clear ho
                have e35 := D.is { on := 13, ground := .data } (by simp) rfl rfl 35 rfl
                exact wk.does_load1 rfl e35 ((((Below.refl _ _).drew.trans hb4).cell (p := ⟨b2, o2 + k, none⟩) hb2).trans hy) Try.underlying3 rfl rfl
              ·
                have ho2 := (Array.getElem?_eq_some_iff.1 ho).2
                simp only [List.getElem_toArray, List.getElem_cons_succ, List.getElem_cons_zero] at ho2
                subst ho2
                clear ho
                have e0 := D.old 0 (by kernel_rfl)
                exact wk.does_move rfl (by rw [e0]; rfl)
              ·
                have ho2 := (Array.getElem?_eq_some_iff.1 ho).2
                simp only [List.getElem_toArray, List.getElem_cons_succ, List.getElem_cons_zero] at ho2
                subst ho2
                clear ho
                have e5 := D.old 5 (by kernel_rfl)
                exact wk.does_move rfl (by rw [e5]; rfl)
              ·
                have ho2 := (Array.getElem?_eq_some_iff.1 ho).2
                simp only [List.getElem_toArray, List.getElem_cons_succ, List.getElem_cons_zero] at ho2
                subst ho2
                clear ho
                have e37 := D.is { on := 15, ground := .data } (by simp) rfl rfl 37 rfl
                have e38 := D.is { on := 16, ground := .data } (by simp) rfl rfl 38 rfl
                exact wk.does_run (by simp only [execOp]; rw [show E (.tmp 37) = _ from e37, show E (.tmp 38) = _ from e38]; go_simp) rfl
              ·
                have ho2 := (Array.getElem?_eq_some_iff.1 ho).2
                simp only [List.getElem_toArray, List.getElem_cons_succ, List.getElem_cons_zero] at ho2
                subst ho2
                clear ho
                have e39 := D.is { on := 17, ground := .data } (by simp) rfl rfl 39 rfl
                exact wk.does_run (by simp only [execOp]; rw [show E (.tmp 39) = _ from e39]; go_simp) rfl
              ·
                have ho2 := (Array.getElem?_eq_some_iff.1 ho).2
                simp only [List.getElem_toArray, List.getElem_cons_succ, List.getElem_cons_zero] at ho2
                subst ho2
                clear ho
                have e40 := D.is { on := 18, ground := .data } (by simp) rfl rfl 40 rfl
                exact wk.does_load1 rfl e40 ((((Below.refl _ _).drew.trans hb4).cell (p := ⟨b, o + k * 2 + 1, none⟩) hb).trans hc1) Try.underlying3 rfl rfl
              ·
                have ho2 := (Array.getElem?_eq_some_iff.1 ho).2
                simp only [List.getElem_toArray, List.getElem_cons_succ, List.getElem_cons_zero] at ho2
                subst ho2
                clear ho
                have e36 := D.is { on := 14, ground := .data } (by simp) rfl rfl 36 rfl
                have e41 := D.is { on := 19, ground := .data } (by simp) rfl rfl 41 rfl
                exact wk.does_run (by simp only [execOp]; rw [show E (.tmp 36) = _ from e36, show E (.tmp 41) = _ from e41]; go_simp; try rw [HVB.out]) rfl
              ·
                have ho2 := (Array.getElem?_eq_some_iff.1 ho).2
                simp only [List.getElem_toArray, List.getElem_cons_succ, List.getElem_cons_zero] at ho2
                subst ho2
                clear ho
                have e32 := D.is { on := 10, ground := .data } (by simp) rfl rfl 32 rfl
                have e42 := D.is { on := 20, ground := .data } (by simp) rfl rfl 42 rfl
                exact wk.does_pick rfl e32 e42
            case hdone =>
              intro vals w4 hb4 hv
              have h21 := hv 21 (by omega)
              clear hv
              replace h21 : vals 21 = (.bool vb) := h21
              simp only [List.drop_succ_cons, List.drop_zero, wpList, wk.setL, List.setIfInBounds_toArray, List.set_cons_zero, List.set_cons_succ, Nat.zero_add, Nat.reduceAdd, h21]
              generalize vals 0 = x0
              generalize vals 1 = x1
              generalize vals 2 = x2
              generalize vals 3 = x3
              generalize vals 4 = x4
              generalize vals 5 = x5
              generalize vals 6 = x6
              generalize vals 7 = x7
              generalize vals 8 = x8
              generalize vals 9 = x9
              generalize vals 10 = x10
              generalize vals 11 = x11
              generalize vals 12 = x12
              generalize vals 13 = x13
              generalize vals 14 = x14
              generalize vals 15 = x15
              generalize vals 16 = x16
              generalize vals 17 = x17
              generalize vals 18 = x18
              generalize vals 19 = x19
              generalize vals 20 = x20
              have hb5 : Below wr.heap.size wr w4 := (Below.refl _ _).drew.trans hb4
              have HB5 := Lib.hid (HBEL.out.trans (hb5.mono HBEL.out.size))
              clear hb4 hb5
              cases vb
              · have h3 : ¬ s2 < y := by have := HVB.out; simpa using this
                go_wp2_with fail
                go_roundg (gk - 1)
                case measure => have := HK.out; omega
                case rel => exact ⟨k + 1, by have := HK.out; omega, by go_num, by rw [HTA.out, HALL.out, HIN.out]; simp; omega, HB5.out⟩
              · have h3 : s2 < y := by have := HVB.out; simpa using this
                go_wp2_with fail
                go_ret
                exact ⟨by rw [all_no HMEM.out (by rw [HIN.out]; simp; omega)]; rfl, HB5.out⟩
        · obtain rfl : k = n := by omega
          have ho := HALL.out
          rw [List.take_of_length_le (by have := HZL.out; omega)] at ho
          have HO := Lib.hid ho
          clear ho hbel
          go_wp2_with fail
          go_ret
          exact ⟨by rw [HO.out]; rfl, HBEL.out⟩
    · have hj : inn S ks = false := by unfold inn; rw [h.1, h'.1]; simp [hnn]
      rw [hj]
      have hne : ((n' : Int) != (n : Int)) = true := by simp; omega
      clear h h' hj
      go_enter Try.func33, Try.ntmps33
      go_wp2_with fail
      refine HV.out.mono ?_
      rintro e w1 ⟨rfl, hb1⟩
      have HB1 := Lib.hid hb1
      clear hb1
      go_wp2_with fail
      go_ret
      exact ⟨rfl, HB1.out⟩
end Go.Proofs.Yteeianandjokaaa.pk
/- The reference: asked. -/
namespace Go.Proofs.Yteeianandjokaaa.pk

open Go.ChangeShapes Go.WideShapes Go.ChangeAt Go.RowKit

open Go.Proofs.Yteeianandjokaaa.pq Go.Proofs.Yteeianandjokaaa.cq Go.Proofs.Yteeianandjokaaa.vk Go.Proofs.Yteeianandjokaaa.bk Go.Proofs.Yteeianandjokaaa.wk Go.Proofs.Yteeianandjokaaa.uk

set_option linter.unusedVariables false
set_option maxRecDepth 100000 in
set_option maxHeartbeats 600000 in
theorem rasked_calls {m : Int} {S : List Sh} {ks : List Int} {A A' : Option Addr} {n c n' c' : Nat} (w : World) (h : IsS w A n c S) (h' : wo.IsI w A' n' c' ks) :
    Calls Try.prog 63 #[.int .i64 m, .slice A n c, .slice A' n' c'] w fun e w' => e = .returned (.bool (asked m S ks)) ∧ Below w.heap.size w w' := by
  have hm := h.2.2.1
  have hnc := h.2.1
  have hm' := h'.2.2.1
  have hnc' := h'.2.1
  have HM := Lib.hid (fun w' => rmetric_calls m w')
  have HV := Lib.hid (rsvalid_calls w h)
  have HE : Hid (asked m S ks = (isM m && (decide (n = n') && (svalid S && ks.all kok)))) := by show _ = _; unfold asked; rw [h.1, h'.1]
  have H' := Lib.hid h'
  clear h h'
  go_enter Try.func63, Try.ntmps63
  go_wp2_with fail
  go_loopg [7] n' (fun gk x wr => ∃ k : Nat, k + gk = n' ∧ x = .int .i64 (k : Int) ∧ wr = w ∧ (ks.take k).all kok = true)
  case atStart => exact ⟨0, by omega, rfl, rfl, by simp⟩
  case round =>
    obtain ⟨k, hk, rfl, rfl, hall⟩ := hrel
    have HK := Lib.hid hk
    have HALL := Lib.hid hall
    have hkn : k ≤ n' := by omega
    clear hk hall
    by_cases hlt : k < n'
    · obtain ⟨b2, o2, y, rfl, hy, hY, -, -⟩ := isI_at H'.out hlt
      have hlt0 : (k : Int) < (n' : Int) := by omega
      have HTA := Lib.hid (take_all (p := kok) hY)
      have HMEM := Lib.hid (List.mem_of_getElem? hY)
      have HIN : Hid (kok y = decide (0 ≤ y ∧ y ≤ 134217728)) := rfl
      clear hY
      by_cases h1 : y < 0
      · go_wp2_with fail
        go_ret
        exact ⟨by rw [HE.out, all_no HMEM.out (by rw [HIN.out]; simp; omega)]; simp, Below.refl _ _⟩
      · by_cases h2 : 134217728 < y
        · go_wp2_with fail
          go_ret
          exact ⟨by rw [HE.out, all_no HMEM.out (by rw [HIN.out]; simp; omega)]; simp, Below.refl _ _⟩
        · go_wp2_with fail
          go_roundg (gk - 1)
          case measure => have := HK.out; omega
          case rel => exact ⟨k + 1, by have := HK.out; omega, by go_num, rfl, by rw [HTA.out, HALL.out, HIN.out]; simp; omega⟩
    · obtain rfl : k = n' := by omega
      have ho := HALL.out
      rw [List.take_of_length_le (by have := H'.out.1; omega)] at ho
      have HO := Lib.hid ho
      clear ho
      cases h1 : isM m
      · rw [h1] at HM
        go_wp2_with fail
        refine (HM.out _).mono ?_
        rintro e w' ⟨rfl, rfl⟩
        go_wp2_with fail
        go_ret
        exact ⟨by rw [HE.out, h1]; rfl, Below.refl _ _⟩
      · rw [h1] at HM
        cases h2 : svalid S
        · rw [h2] at HV
          go_wp2_with fail
          refine (HM.out _).mono ?_
          rintro e w' ⟨rfl, rfl⟩
          go_wp2_with fail
          refine HV.out.mono ?_
          rintro e w1 ⟨rfl, hb1⟩
          have HB1 := Lib.hid hb1
          clear hb1
          go_wp2_with fail
          go_ret
          exact ⟨by rw [HE.out, h1, h2]; simp, HB1.out⟩
        · rw [h2] at HV
          by_cases hnn : n = k
          · have hdt : decide (n = k) = true := decide_eq_true hnn
            have HDT := Lib.hid hdt
            clear hdt
            subst hnn
            have hnn' : ((n : Int) == (n : Int)) = true := by simp
            go_wp2_with fail
            refine (HM.out _).mono ?_
            rintro e w' ⟨rfl, rfl⟩
            go_wp2_with fail
            refine HV.out.mono ?_
            intro e w1 hh
            obtain ⟨he, hb1⟩ := hh
            subst he
            have HB1 := Lib.hid hb1
            clear hb1
            go_wp2_with fail
            go_ret
            exact ⟨by rw [HE.out, h1, h2, HO.out, HDT.out]; first | (simp; done) | (simp [hnn']; done) | (simp; omega), HB1.out⟩
          · have hnn' : ((k : Int) == (n : Int)) = false := by simp; omega
            go_wp2_with fail
            refine (HM.out _).mono ?_
            rintro e w' ⟨rfl, rfl⟩
            go_wp2_with fail
            refine HV.out.mono ?_
            intro e w1 hh
            obtain ⟨he, hb1⟩ := hh
            subst he
            have HB1 := Lib.hid hb1
            clear hb1
            go_wp2_with fail
            go_ret
            exact ⟨by rw [HE.out, h1, h2, HO.out, decide_eq_false hnn]; first | (simp; done) | (simp [hnn']; done) | (simp; omega), HB1.out⟩
end Go.Proofs.Yteeianandjokaaa.pk
/- The reference: Low, High, Join. -/
namespace Go.Proofs.Yteeianandjokaaa.pk

open Go.ChangeShapes Go.WideShapes Go.ChangeAt Go.RowKit

open Go.Proofs.Yteeianandjokaaa.pq Go.Proofs.Yteeianandjokaaa.cq Go.Proofs.Yteeianandjokaaa.vk Go.Proofs.Yteeianandjokaaa.bk Go.Proofs.Yteeianandjokaaa.wk Go.Proofs.Yteeianandjokaaa.uk

set_option linter.unusedVariables false
set_option maxRecDepth 100000 in
set_option maxHeartbeats 4000000 in
theorem rlow_calls {m : Int} {S : List Sh} {ks : List Int} {A A' : Option Addr} {n c n' c' : Nat} (w : World) (h : IsS w A n c S) (h' : wo.IsI w A' n' c' ks) :
    Calls Try.prog 27 #[.int .i64 m, .slice A n c, .slice A' n' c'] w fun e w' => e = .returned (.agg #[.int .i64 0, .int .i64 (if asked m S ks then lowS m S ks else 0), .int .i64 (if asked m S ks then 0 else 1)]) ∧ Below w.heap.size w w' := by
  have hm := h.2.2.1
  have hnc := h.2.1
  have hm' := h'.2.2.1
  have hnc' := h'.2.1
  have hbR := below_new w (.cells #[.int .i64 0, .int .i64 0, .int .i64 0] PL)
  have HR := Lib.hid (Rw.new w PL #[.int .i64 0, .int .i64 0, .int .i64 0])
  have HBR := Lib.hid hbR
  have HBO := Lib.hid (rasked_calls (m := m) (w.alloc (.cells #[.int .i64 0, .int .i64 0, .int .i64 0] PL)) (isS_below h hbR) (isI_below h' hbR))
  cases hk : asked m S ks
  · rw [hk] at HBO
    clear h h' hbR
    go_enter Try.func27, Try.ntmps27
    go_wp2_with fail
    refine HBO.out.mono ?_
    rintro e w1 ⟨rfl, hb1⟩
    have hR1 := HR.out.below hb1
    have hB1 := Below.andThen HBR.out hb1
    have hd0 := hR1.c (j := 0) rfl
    have hd1 := hR1.c (j := 1) rfl
    have hd2 := hR1.c (j := 2) rfl
    have hf0 := hR1.f 0
    have hf1 := hR1.f 1
    have hf2 := hR1.f 2
    have HBF := Lib.hid (below_three hB1 (Nat.le_refl _) (.int .i64 0) (.int .i64 0) (.int .i64 1))
    have HTF := Lib.hid (hR1.set3 (.int .i64 0) (.int .i64 0) (.int .i64 1))
    go_wp2_with fail
    exact bodyPost_ret (v := .agg #[.int .i64 0, .int .i64 0, .int .i64 1]) (results_cell_row (fn := Try.f27) rfl _ _ w.heap.size PL #[.int .i64 0, .int .i64 0, .int .i64 1] (0, 0) _ rfl HTF.out Try.underlying39 rfl (by kernel_rfl)) rfl ⟨rfl, HBF.out⟩
  · rw [hk] at HBO
    have ha := asked_of hk
    rw [if_pos rfl, if_pos rfl]
    have HA := Lib.hid ha
    have HS := Lib.hid h
    have HI := Lib.hid h'
    have hn8 : n ≤ 8 := by rw [← h.1]; exact ha.n8
    obtain rfl : n' = n := by rw [← h'.1, ← h.1]; exact ha.len.symm
    have HCV : Hid (lowS m S ks = mxk (gapf m S ks) n') := by show _ = _; rw [lowS_mx, h.1]
    clear h h' hbR ha
    go_enter Try.func27, Try.ntmps27
    go_wp2_with fail
    refine HBO.out.mono ?_
    rintro e w1 ⟨rfl, hb1⟩
    have HR1 := Lib.hid (HR.out.below hb1)
    have HB1 := Lib.hid (Below.andThen HBR.out hb1)
    clear hb1
    go_wp2_with fail
    go_loopg [8, 9] n' (fun gk x y wr => ∃ k : Nat, k + gk = n' ∧ x = .int .i64 (mxk (gapf m S ks) k) ∧ y = .int .i64 (k : Int) ∧ Below w.heap.size w wr ∧ Rw wr w.heap.size PL #[.int .i64 0, .int .i64 0, .int .i64 0])
    case atStart => exact ⟨0, by omega, rfl, rfl, HB1.out, HR1.out⟩
    case round =>
      obtain ⟨k, hk, hx0, rfl, hbel, hres⟩ := hrel
      have HK := Lib.hid hk
      have HBEL := Lib.hid hbel
      have HRZ := Lib.hid hres
      have hkn : k ≤ n' := by omega
      clear hk
      by_cases hlt : k < n'
      · obtain ⟨b, o, ⟨s1, s2⟩, rfl, hc0, hc1, hb1, hX, -⟩ := isS_get (isS_below HS.out hbel) hlt
        obtain ⟨b2, o2, y, rfl, hy, hY, -, -⟩ := isI_at (isI_below HI.out hbel) hlt
        have hb2 := block_lt_of_cell hy
        have ho := HA.out.ok _ (List.mem_of_getElem? hX)
        have hq := HA.out.kok _ (List.mem_of_getElem? hY)
        dsimp only at hc0 hc1 ho
        have HC := Lib.hid (fun w' => samew (me.rgap_calls m s1 s2 y w' (by omega) (by omega) (by omega) (by omega) (by omega)))
        have HGA : Hid (gapf m S ks k = me.gap m s1 s2 y) := gapf_at hX hY
        have hlt0 : (k : Int) < (n' : Int) := by omega
        have HMX : Hid (mxk (gapf m S ks) (k + 1) = max (mxk (gapf m S ks) k) (me.gap m s1 s2 y)) := by show _ = _; rw [mxk, HGA.out]
        generalize me.gap m s1 s2 y = g at *
        generalize mxk (gapf m S ks) k = z at *
        subst hx0
        obtain ⟨mx, hmx⟩ : ∃ mx, max z g = mx := ⟨_, rfl⟩
        rw [hmx] at HMX
        have HMM := Lib.hid hmx
        clear hX hY hres hbel hmx ho hq HGA
        go_wp2_with fail
        refine wk.region_tailK 18 [.is (.int .i64 z), .is (.int .i64 m), .is (.slice (some ⟨b, o, none⟩) n' c), .is (.int .i64 (k : Int)), .is (.pointer (some ⟨b, o + k * 2, none⟩)), .is (.pointer (some ⟨b, o + k * 2, none⟩)), .is (.int .i64 s1), .is (.slice (some ⟨b, o, none⟩) n' c), .is (.int .i64 (k : Int)), .is (.pointer (some ⟨b, o + k * 2, none⟩)), .is (.pointer (some ⟨b, o + k * 2 + 1, none⟩)), .is (.int .i64 s2), .is (.slice (some ⟨b2, o2, none⟩) n' c'), .is (.int .i64 (k : Int)), .is (.pointer (some ⟨b2, o2 + k, none⟩)), .is (.int .i64 y), .is (.int .i64 g), .is (.int .i64 mx)] [some 23, some 24, some 25, some 26, some 27, some 28, some 29, some 30, some 31, some 32, some 33, some 34, some 35, some 36, some 37, some 38, some 39, some 40] (by kernel_rfl) (by kernel_rfl) (by kernel_rfl) (by kernel_rfl) [] (by kernel_rfl) (by intro p hp; cases hp) (by kernel_rfl) (by kernel_rfl) ?hstep ?hdone
        case hstep =>
          intro i o ho hi hns E w4 hb4 D hold
          have hi2 : i = 0 ∨ i = 1 ∨ i = 2 ∨ i = 3 ∨ i = 4 ∨ i = 5 ∨ i = 6 ∨ i = 7 ∨ i = 8 ∨ i = 9 ∨ i = 10 ∨ i = 11 ∨ i = 12 ∨ i = 13 ∨ i = 14 ∨ i = 15 ∨ i = 16 ∨ i = 17 := by omega
          clear hi
          rcases hi2 with rfl | rfl | rfl | rfl | rfl | rfl | rfl | rfl | rfl | rfl | rfl | rfl | rfl | rfl | rfl | rfl | rfl | rfl
          ·
            have ho2 := (Array.getElem?_eq_some_iff.1 ho).2
            simp only [List.getElem_toArray, List.getElem_cons_zero] at ho2
            subst ho2
            clear ho
            have e8 := hold 8 (by kernel_rfl)
            exact wk.does_move rfl (by rw [e8]; rfl)
          ·
            have ho2 := (Array.getElem?_eq_some_iff.1 ho).2
            simp only [List.getElem_toArray, List.getElem_cons_succ, List.getElem_cons_zero] at ho2
            subst ho2
            clear ho
            have e0 := D.old 0 (by kernel_rfl)
            exact wk.does_move rfl (by rw [e0]; rfl)
          ·
            have ho2 := (Array.getElem?_eq_some_iff.1 ho).2
            simp only [List.getElem_toArray, List.getElem_cons_succ, List.getElem_cons_zero] at ho2
            subst ho2
            clear ho
            have e1 := D.old 1 (by kernel_rfl)
            exact wk.does_move rfl (by rw [e1]; rfl)
          ·
            have ho2 := (Array.getElem?_eq_some_iff.1 ho).2
            simp only [List.getElem_toArray, List.getElem_cons_succ, List.getElem_cons_zero] at ho2
            subst ho2
            clear ho
            have e9 := D.old 9 (by kernel_rfl)
            exact wk.does_move rfl (by rw [e9]; rfl)
          ·
            have ho2 := (Array.getElem?_eq_some_iff.1 ho).2
            simp only [List.getElem_toArray, List.getElem_cons_succ, List.getElem_cons_zero] at ho2
            subst ho2
            clear ho
            have e25 := D.is { on := 2, ground := .data } (by simp) rfl rfl 25 rfl
            have e26 := D.is { on := 3, ground := .data } (by simp) rfl rfl 26 rfl
            exact wk.does_run (by simp only [execOp]; rw [show E (.tmp 25) = _ from e25, show E (.tmp 26) = _ from e26]; go_simp) rfl
          ·
            have ho2 := (Array.getElem?_eq_some_iff.1 ho).2
            simp only [List.getElem_toArray, List.getElem_cons_succ, List.getElem_cons_zero] at ho2
            subst ho2
            clear ho
            have e27 := D.is { on := 4, ground := .data } (by simp) rfl rfl 27 rfl
            exact wk.does_run (by simp only [execOp]; rw [show E (.tmp 27) = _ from e27]; go_simp) rfl
          ·
            have ho2 := (Array.getElem?_eq_some_iff.1 ho).2
            simp only [List.getElem_toArray, List.getElem_cons_succ, List.getElem_cons_zero] at ho2
            subst ho2
            clear ho
            have e28 := D.is { on := 5, ground := .data } (by simp) rfl rfl 28 rfl
            exact wk.does_load1 rfl e28 ((((Below.refl _ _).drew.trans hb4).cell (p := ⟨b, o + k * 2, none⟩) hb1).trans hc0) Try.underlying3 rfl rfl
          ·
            have ho2 := (Array.getElem?_eq_some_iff.1 ho).2
            simp only [List.getElem_toArray, List.getElem_cons_succ, List.getElem_cons_zero] at ho2
            subst ho2
            clear ho
            have e1 := D.old 1 (by kernel_rfl)
            exact wk.does_move rfl (by rw [e1]; rfl)
          ·
            have ho2 := (Array.getElem?_eq_some_iff.1 ho).2
            simp only [List.getElem_toArray, List.getElem_cons_succ, List.getElem_cons_zero] at ho2
            subst ho2
            clear ho
            have e9 := D.old 9 (by kernel_rfl)
            exact wk.does_move rfl (by rw [e9]; rfl)
          ·
            have ho2 := (Array.getElem?_eq_some_iff.1 ho).2
            simp only [List.getElem_toArray, List.getElem_cons_succ, List.getElem_cons_zero] at ho2
            subst ho2
            clear ho
            have e30 := D.is { on := 7, ground := .data } (by simp) rfl rfl 30 rfl
            have e31 := D.is { on := 8, ground := .data } (by simp) rfl rfl 31 rfl
            exact wk.does_run (by simp only [execOp]; rw [show E (.tmp 30) = _ from e30, show E (.tmp 31) = _ from e31]; go_simp) rfl
          ·
            have ho2 := (Array.getElem?_eq_some_iff.1 ho).2
            simp only [List.getElem_toArray, List.getElem_cons_succ, List.getElem_cons_zero] at ho2
            subst ho2
            clear ho
            have e32 := D.is { on := 9, ground := .data } (by simp) rfl rfl 32 rfl
            exact wk.does_run (by simp only [execOp]; rw [show E (.tmp 32) = _ from e32]; go_simp) rfl
          ·
            have ho2 := (Array.getElem?_eq_some_iff.1 ho).2
            simp only [List.getElem_toArray, List.getElem_cons_succ, List.getElem_cons_zero] at ho2
            subst ho2
            clear ho
            have e33 := D.is { on := 10, ground := .data } (by simp) rfl rfl 33 rfl
            exact wk.does_load1 rfl e33 ((((Below.refl _ _).drew.trans hb4).cell (p := ⟨b, o + k * 2 + 1, none⟩) hb1).trans hc1) Try.underlying3 rfl rfl
          ·
            have ho2 := (Array.getElem?_eq_some_iff.1 ho).2
            simp only [List.getElem_toArray, List.getElem_cons_succ, List.getElem_cons_zero] at ho2
            subst ho2
            clear ho
            have e2 := D.old 2 (by kernel_rfl)
            exact wk.does_move rfl (by rw [e2]; rfl)
          ·
            have ho2 := (Array.getElem?_eq_some_iff.1 ho).2
            simp only [List.getElem_toArray, List.getElem_cons_succ, List.getElem_cons_zero] at ho2
            subst ho2
            clear ho
            have e9 := D.old 9 (by kernel_rfl)
            exact wk.does_move rfl (by rw [e9]; rfl)
          ·
            have ho2 := (Array.getElem?_eq_some_iff.1 ho).2
            simp only [List.getElem_toArray, List.getElem_cons_succ, List.getElem_cons_zero] at ho2
            subst ho2
            clear ho
            have e35 := D.is { on := 12, ground := .data } (by simp) rfl rfl 35 rfl
            have e36 := D.is { on := 13, ground := .data } (by simp) rfl rfl 36 rfl
            exact wk.does_run (by simp only [execOp]; rw [show E (.tmp 35) = _ from e35, show E (.tmp 36) = _ from e36]; go_simp) rfl
          ·
            have ho2 := (Array.getElem?_eq_some_iff.1 ho).2
            simp only [List.getElem_toArray, List.getElem_cons_succ, List.getElem_cons_zero] at ho2
            subst ho2
            clear ho
            have e37 := D.is { on := 14, ground := .data } (by simp) rfl rfl 37 rfl
            exact wk.does_load1 rfl e37 ((((Below.refl _ _).drew.trans hb4).cell (p := ⟨b2, o2 + k, none⟩) hb2).trans hy) Try.underlying3 rfl rfl
          ·
            have ho2 := (Array.getElem?_eq_some_iff.1 ho).2
            simp only [List.getElem_toArray, List.getElem_cons_succ, List.getElem_cons_zero] at ho2
            subst ho2
            clear ho
            have e24 := D.is { on := 1, ground := .data } (by simp) rfl rfl 24 rfl
            have e29 := D.is { on := 6, ground := .data } (by simp) rfl rfl 29 rfl
            have e34 := D.is { on := 11, ground := .data } (by simp) rfl rfl 34 rfl
            have e38 := D.is { on := 15, ground := .data } (by simp) rfl rfl 38 rfl
            refine wk.does_fn (f := 64) (vs := #[.int .i64 m, .int .i64 s1, .int .i64 s2, .int .i64 y]) rfl (D.fn _) (by simp [e24, e29, e34, e38]) (by go_simp) ?_
            refine (HC.out w4).mono ?_
            rintro e w7 ⟨rfl, hb7⟩
            exact ⟨_, rfl, hb7, rfl⟩
          ·
            have ho2 := (Array.getElem?_eq_some_iff.1 ho).2
            simp only [List.getElem_toArray, List.getElem_cons_succ, List.getElem_cons_zero] at ho2
            subst ho2
            clear ho
            have e23 := D.is { on := 0, ground := .data } (by simp) rfl rfl 23 rfl
            have e39 := D.is { on := 16, ground := .data } (by simp) rfl rfl 39 rfl
            exact wk.does_run (v := .int .i64 mx) (by unfold execOp; simp only [resolve, invoke, builtin, Sem.run_bind, Sem.run_pure, Result.andThen_ok, List.map_toArray, List.map_cons, List.map_nil]; rw [show E (.tmp 23) = _ from e23, show E (.tmp 39) = _ from e39]; go_simp; try rw [HMM.out]) rfl
        case hdone =>
          intro vals w4 hb4 hv
          have h17 := hv 17 (by omega)
          clear hv
          replace h17 : vals 17 = (.int .i64 mx) := h17
          simp only [List.drop_succ_cons, List.drop_zero, wk.setL, List.setIfInBounds_toArray, List.set_cons_zero, List.set_cons_succ, Nat.zero_add, Nat.reduceAdd, h17]
          generalize vals 0 = x0
          generalize vals 1 = x1
          generalize vals 2 = x2
          generalize vals 3 = x3
          generalize vals 4 = x4
          generalize vals 5 = x5
          generalize vals 6 = x6
          generalize vals 7 = x7
          generalize vals 8 = x8
          generalize vals 9 = x9
          generalize vals 10 = x10
          generalize vals 11 = x11
          generalize vals 12 = x12
          generalize vals 13 = x13
          generalize vals 14 = x14
          generalize vals 15 = x15
          generalize vals 16 = x16
          have hb5 : Below wr.heap.size wr w4 := (Below.refl _ _).drew.trans hb4
          have HB5 := Lib.hid (HBEL.out.trans (hb5.mono HBEL.out.size))
          have HR5 := Lib.hid (HRZ.out.below hb5)
          clear hb4 hb5
          go_wp2_with fail
          go_roundg (gk - 1)
          case measure => have := HK.out; omega
          case rel => exact ⟨k + 1, by have := HK.out; omega, by rw [HMX.out], by go_num, HB5.out, HR5.out⟩
      · obtain rfl : k = n' := by omega
        obtain ⟨z, hz⟩ : ∃ z, mxk (gapf m S ks) k = z := ⟨_, rfl⟩
        have HZ := Lib.hid hz
        rw [hz] at hx0
        subst hx0
        clear hz
        have hd0 := hres.c (j := 0) rfl
        have hd1 := hres.c (j := 1) rfl
        have hd2 := hres.c (j := 2) rfl
        have hf0 := hres.f 0
        have hf1 := hres.f 1
        have hf2 := hres.f 2
        have HBF := Lib.hid (below_three hbel (Nat.le_refl _) (.int .i64 0) (.int .i64 z) (.int .i64 0))
        have HTF := Lib.hid (hres.set3 (.int .i64 0) (.int .i64 z) (.int .i64 0))
        go_wp2_with fail
        exact bodyPost_ret (v := .agg #[.int .i64 0, .int .i64 z, .int .i64 0]) (results_cell_row (fn := Try.f27) rfl _ _ w.heap.size PL #[.int .i64 0, .int .i64 z, .int .i64 0] (0, 0) _ rfl HTF.out Try.underlying39 rfl (by kernel_rfl)) rfl ⟨by rw [HCV.out, HZ.out], HBF.out⟩
set_option maxRecDepth 100000 in
set_option maxHeartbeats 4000000 in
theorem rhigh_calls {m : Int} {S : List Sh} {ks : List Int} {A A' : Option Addr} {n c n' c' : Nat} (w : World) (h : IsS w A n c S) (h' : wo.IsI w A' n' c' ks) :
    Calls Try.prog 28 #[.int .i64 m, .slice A n c, .slice A' n' c'] w fun e w' => e = .returned (.agg #[.int .i64 0, .int .i64 (if asked m S ks then highS m S ks else 0), .int .i64 (if asked m S ks then 0 else 1)]) ∧ Below w.heap.size w w' := by
  have hm := h.2.2.1
  have hnc := h.2.1
  have hm' := h'.2.2.1
  have hnc' := h'.2.1
  have hbR := below_new w (.cells #[.int .i64 0, .int .i64 0, .int .i64 0] PL)
  have HR := Lib.hid (Rw.new w PL #[.int .i64 0, .int .i64 0, .int .i64 0])
  have HBR := Lib.hid hbR
  have HBO := Lib.hid (rasked_calls (m := m) (w.alloc (.cells #[.int .i64 0, .int .i64 0, .int .i64 0] PL)) (isS_below h hbR) (isI_below h' hbR))
  cases hk : asked m S ks
  · rw [hk] at HBO
    clear h h' hbR
    go_enter Try.func28, Try.ntmps28
    go_wp2_with fail
    refine HBO.out.mono ?_
    rintro e w1 ⟨rfl, hb1⟩
    have hR1 := HR.out.below hb1
    have hB1 := Below.andThen HBR.out hb1
    have hd0 := hR1.c (j := 0) rfl
    have hd1 := hR1.c (j := 1) rfl
    have hd2 := hR1.c (j := 2) rfl
    have hf0 := hR1.f 0
    have hf1 := hR1.f 1
    have hf2 := hR1.f 2
    have HBF := Lib.hid (below_three hB1 (Nat.le_refl _) (.int .i64 0) (.int .i64 0) (.int .i64 1))
    have HTF := Lib.hid (hR1.set3 (.int .i64 0) (.int .i64 0) (.int .i64 1))
    go_wp2_with fail
    exact bodyPost_ret (v := .agg #[.int .i64 0, .int .i64 0, .int .i64 1]) (results_cell_row (fn := Try.f28) rfl _ _ w.heap.size PL #[.int .i64 0, .int .i64 0, .int .i64 1] (0, 0) _ rfl HTF.out Try.underlying39 rfl (by kernel_rfl)) rfl ⟨rfl, HBF.out⟩
  · rw [hk] at HBO
    have ha := asked_of hk
    rw [if_pos rfl, if_pos rfl]
    have HA := Lib.hid ha
    have HS := Lib.hid h
    have HI := Lib.hid h'
    have hn8 : n ≤ 8 := by rw [← h.1]; exact ha.n8
    obtain rfl : n' = n := by rw [← h'.1, ← h.1]; exact ha.len.symm
    have HCV : Hid (highS m S ks = mnk (reaf m S ks) n') := by show _ = _; rw [highS_mn, h.1]
    clear h h' hbR ha
    go_enter Try.func28, Try.ntmps28
    go_wp2_with fail
    refine HBO.out.mono ?_
    rintro e w1 ⟨rfl, hb1⟩
    have HR1 := Lib.hid (HR.out.below hb1)
    have HB1 := Lib.hid (Below.andThen HBR.out hb1)
    clear hb1
    go_wp2_with fail
    go_loopg [8, 9] n' (fun gk x y wr => ∃ k : Nat, k + gk = n' ∧ x = .int .i64 (mnk (reaf m S ks) k) ∧ y = .int .i64 (k : Int) ∧ Below w.heap.size w wr ∧ Rw wr w.heap.size PL #[.int .i64 0, .int .i64 0, .int .i64 0])
    case atStart => exact ⟨0, by omega, rfl, rfl, HB1.out, HR1.out⟩
    case round =>
      obtain ⟨k, hk, hx0, rfl, hbel, hres⟩ := hrel
      have HK := Lib.hid hk
      have HBEL := Lib.hid hbel
      have HRZ := Lib.hid hres
      have hkn : k ≤ n' := by omega
      clear hk
      by_cases hlt : k < n'
      · obtain ⟨b, o, ⟨s1, s2⟩, rfl, hc0, hc1, hb1, hX, -⟩ := isS_get (isS_below HS.out hbel) hlt
        obtain ⟨b2, o2, y, rfl, hy, hY, -, -⟩ := isI_at (isI_below HI.out hbel) hlt
        have hb2 := block_lt_of_cell hy
        have ho := HA.out.ok _ (List.mem_of_getElem? hX)
        have hq := HA.out.kok _ (List.mem_of_getElem? hY)
        dsimp only at hc0 hc1 ho
        have HC := Lib.hid (fun w' => samew (me.rreach_calls m s1 s2 y w' (by omega) (by omega) (by omega) (by omega) (by omega)))
        have HGA : Hid (reaf m S ks k = me.high m y s2) := reaf_at hX hY
        have hlt0 : (k : Int) < (n' : Int) := by omega
        have HMX : Hid (mnk (reaf m S ks) (k + 1) = min (mnk (reaf m S ks) k) (me.high m y s2)) := by show _ = _; rw [mnk, HGA.out]
        generalize me.high m y s2 = g at *
        generalize mnk (reaf m S ks) k = z at *
        subst hx0
        obtain ⟨mx, hmx⟩ : ∃ mx, min z g = mx := ⟨_, rfl⟩
        rw [hmx] at HMX
        have HMM := Lib.hid hmx
        clear hX hY hres hbel hmx ho hq HGA
        go_wp2_with fail
        refine wk.region_tailK 18 [.is (.int .i64 z), .is (.int .i64 m), .is (.slice (some ⟨b, o, none⟩) n' c), .is (.int .i64 (k : Int)), .is (.pointer (some ⟨b, o + k * 2, none⟩)), .is (.pointer (some ⟨b, o + k * 2, none⟩)), .is (.int .i64 s1), .is (.slice (some ⟨b, o, none⟩) n' c), .is (.int .i64 (k : Int)), .is (.pointer (some ⟨b, o + k * 2, none⟩)), .is (.pointer (some ⟨b, o + k * 2 + 1, none⟩)), .is (.int .i64 s2), .is (.slice (some ⟨b2, o2, none⟩) n' c'), .is (.int .i64 (k : Int)), .is (.pointer (some ⟨b2, o2 + k, none⟩)), .is (.int .i64 y), .is (.int .i64 g), .is (.int .i64 mx)] [some 23, some 24, some 25, some 26, some 27, some 28, some 29, some 30, some 31, some 32, some 33, some 34, some 35, some 36, some 37, some 38, some 39, some 40] (by kernel_rfl) (by kernel_rfl) (by kernel_rfl) (by kernel_rfl) [] (by kernel_rfl) (by intro p hp; cases hp) (by kernel_rfl) (by kernel_rfl) ?hstep ?hdone
        case hstep =>
          intro i o ho hi hns E w4 hb4 D hold
          have hi2 : i = 0 ∨ i = 1 ∨ i = 2 ∨ i = 3 ∨ i = 4 ∨ i = 5 ∨ i = 6 ∨ i = 7 ∨ i = 8 ∨ i = 9 ∨ i = 10 ∨ i = 11 ∨ i = 12 ∨ i = 13 ∨ i = 14 ∨ i = 15 ∨ i = 16 ∨ i = 17 := by omega
          clear hi
          rcases hi2 with rfl | rfl | rfl | rfl | rfl | rfl | rfl | rfl | rfl | rfl | rfl | rfl | rfl | rfl | rfl | rfl | rfl | rfl
          ·
            have ho2 := (Array.getElem?_eq_some_iff.1 ho).2
            simp only [List.getElem_toArray, List.getElem_cons_zero] at ho2
            subst ho2
            clear ho
            have e8 := hold 8 (by kernel_rfl)
            exact wk.does_move rfl (by rw [e8]; rfl)
          ·
            have ho2 := (Array.getElem?_eq_some_iff.1 ho).2
            simp only [List.getElem_toArray, List.getElem_cons_succ, List.getElem_cons_zero] at ho2
            subst ho2
            clear ho
            have e0 := D.old 0 (by kernel_rfl)
            exact wk.does_move rfl (by rw [e0]; rfl)
          ·
            have ho2 := (Array.getElem?_eq_some_iff.1 ho).2
            simp only [List.getElem_toArray, List.getElem_cons_succ, List.getElem_cons_zero] at ho2
            subst ho2
            clear ho
            have e1 := D.old 1 (by kernel_rfl)
            exact wk.does_move rfl (by rw [e1]; rfl)
          ·
            have ho2 := (Array.getElem?_eq_some_iff.1 ho).2
            simp only [List.getElem_toArray, List.getElem_cons_succ, List.getElem_cons_zero] at ho2
            subst ho2
            clear ho
            have e9 := D.old 9 (by kernel_rfl)
            exact wk.does_move rfl (by rw [e9]; rfl)
          ·
            have ho2 := (Array.getElem?_eq_some_iff.1 ho).2
            simp only [List.getElem_toArray, List.getElem_cons_succ, List.getElem_cons_zero] at ho2
            subst ho2
            clear ho
            have e25 := D.is { on := 2, ground := .data } (by simp) rfl rfl 25 rfl
            have e26 := D.is { on := 3, ground := .data } (by simp) rfl rfl 26 rfl
            exact wk.does_run (by simp only [execOp]; rw [show E (.tmp 25) = _ from e25, show E (.tmp 26) = _ from e26]; go_simp) rfl
          ·
            have ho2 := (Array.getElem?_eq_some_iff.1 ho).2
            simp only [List.getElem_toArray, List.getElem_cons_succ, List.getElem_cons_zero] at ho2
            subst ho2
            clear ho
            have e27 := D.is { on := 4, ground := .data } (by simp) rfl rfl 27 rfl
            exact wk.does_run (by simp only [execOp]; rw [show E (.tmp 27) = _ from e27]; go_simp) rfl
          ·
            have ho2 := (Array.getElem?_eq_some_iff.1 ho).2
            simp only [List.getElem_toArray, List.getElem_cons_succ, List.getElem_cons_zero] at ho2
            subst ho2
            clear ho
            have e28 := D.is { on := 5, ground := .data } (by simp) rfl rfl 28 rfl
            exact wk.does_load1 rfl e28 ((((Below.refl _ _).drew.trans hb4).cell (p := ⟨b, o + k * 2, none⟩) hb1).trans hc0) Try.underlying3 rfl rfl
          ·
            have ho2 := (Array.getElem?_eq_some_iff.1 ho).2
            simp only [List.getElem_toArray, List.getElem_cons_succ, List.getElem_cons_zero] at ho2
            subst ho2
            clear ho
            have e1 := D.old 1 (by kernel_rfl)
            exact wk.does_move rfl (by rw [e1]; rfl)
          ·
            have ho2 := (Array.getElem?_eq_some_iff.1 ho).2
            simp only [List.getElem_toArray, List.getElem_cons_succ, List.getElem_cons_zero] at ho2
            subst ho2
            clear ho
            have e9 := D.old 9 (by kernel_rfl)
            exact wk.does_move rfl (by rw [e9]; rfl)
          ·
            have ho2 := (Array.getElem?_eq_some_iff.1 ho).2
            simp only [List.getElem_toArray, List.getElem_cons_succ, List.getElem_cons_zero] at ho2
            subst ho2
            clear ho
            have e30 := D.is { on := 7, ground := .data } (by simp) rfl rfl 30 rfl
            have e31 := D.is { on := 8, ground := .data } (by simp) rfl rfl 31 rfl
            exact wk.does_run (by simp only [execOp]; rw [show E (.tmp 30) = _ from e30, show E (.tmp 31) = _ from e31]; go_simp) rfl
          ·
            have ho2 := (Array.getElem?_eq_some_iff.1 ho).2
            simp only [List.getElem_toArray, List.getElem_cons_succ, List.getElem_cons_zero] at ho2
            subst ho2
            clear ho
            have e32 := D.is { on := 9, ground := .data } (by simp) rfl rfl 32 rfl
            exact wk.does_run (by simp only [execOp]; rw [show E (.tmp 32) = _ from e32]; go_simp) rfl
          ·
            have ho2 := (Array.getElem?_eq_some_iff.1 ho).2
            simp only [List.getElem_toArray, List.getElem_cons_succ, List.getElem_cons_zero] at ho2
            subst ho2
            clear ho
            have e33 := D.is { on := 10, ground := .data } (by simp) rfl rfl 33 rfl
            exact wk.does_load1 rfl e33 ((((Below.refl _ _).drew.trans hb4).cell (p := ⟨b, o + k * 2 + 1, none⟩) hb1).trans hc1) Try.underlying3 rfl rfl
          ·
            have ho2 := (Array.getElem?_eq_some_iff.1 ho).2
            simp only [List.getElem_toArray, List.getElem_cons_succ, List.getElem_cons_zero] at ho2
            subst ho2
            clear ho
            have e2 := D.old 2 (by kernel_rfl)
            exact wk.does_move rfl (by rw [e2]; rfl)
          ·
            have ho2 := (Array.getElem?_eq_some_iff.1 ho).2
            simp only [List.getElem_toArray, List.getElem_cons_succ, List.getElem_cons_zero] at ho2
            subst ho2
            clear ho
            have e9 := D.old 9 (by kernel_rfl)
            exact wk.does_move rfl (by rw [e9]; rfl)
          ·
            have ho2 := (Array.getElem?_eq_some_iff.1 ho).2
            simp only [List.getElem_toArray, List.getElem_cons_succ, List.getElem_cons_zero] at ho2
            subst ho2
            clear ho
            have e35 := D.is { on := 12, ground := .data } (by simp) rfl rfl 35 rfl
            have e36 := D.is { on := 13, ground := .data } (by simp) rfl rfl 36 rfl
            exact wk.does_run (by simp only [execOp]; rw [show E (.tmp 35) = _ from e35, show E (.tmp 36) = _ from e36]; go_simp) rfl
          ·
            have ho2 := (Array.getElem?_eq_some_iff.1 ho).2
            simp only [List.getElem_toArray, List.getElem_cons_succ, List.getElem_cons_zero] at ho2
            subst ho2
            clear ho
            have e37 := D.is { on := 14, ground := .data } (by simp) rfl rfl 37 rfl
            exact wk.does_load1 rfl e37 ((((Below.refl _ _).drew.trans hb4).cell (p := ⟨b2, o2 + k, none⟩) hb2).trans hy) Try.underlying3 rfl rfl
          ·
            have ho2 := (Array.getElem?_eq_some_iff.1 ho).2
            simp only [List.getElem_toArray, List.getElem_cons_succ, List.getElem_cons_zero] at ho2
            subst ho2
            clear ho
            have e24 := D.is { on := 1, ground := .data } (by simp) rfl rfl 24 rfl
            have e29 := D.is { on := 6, ground := .data } (by simp) rfl rfl 29 rfl
            have e34 := D.is { on := 11, ground := .data } (by simp) rfl rfl 34 rfl
            have e38 := D.is { on := 15, ground := .data } (by simp) rfl rfl 38 rfl
            refine wk.does_fn (f := 65) (vs := #[.int .i64 m, .int .i64 s1, .int .i64 s2, .int .i64 y]) rfl (D.fn _) (by simp [e24, e29, e34, e38]) (by go_simp) ?_
            refine (HC.out w4).mono ?_
            rintro e w7 ⟨rfl, hb7⟩
            exact ⟨_, rfl, hb7, rfl⟩
          ·
            have ho2 := (Array.getElem?_eq_some_iff.1 ho).2
            simp only [List.getElem_toArray, List.getElem_cons_succ, List.getElem_cons_zero] at ho2
            subst ho2
            clear ho
            have e23 := D.is { on := 0, ground := .data } (by simp) rfl rfl 23 rfl
            have e39 := D.is { on := 16, ground := .data } (by simp) rfl rfl 39 rfl
            exact wk.does_run (v := .int .i64 mx) (by unfold execOp; simp only [resolve, invoke, builtin, Sem.run_bind, Sem.run_pure, Result.andThen_ok, List.map_toArray, List.map_cons, List.map_nil]; rw [show E (.tmp 23) = _ from e23, show E (.tmp 39) = _ from e39]; go_simp; try rw [HMM.out]) rfl
        case hdone =>
          intro vals w4 hb4 hv
          have h17 := hv 17 (by omega)
          clear hv
          replace h17 : vals 17 = (.int .i64 mx) := h17
          simp only [List.drop_succ_cons, List.drop_zero, wk.setL, List.setIfInBounds_toArray, List.set_cons_zero, List.set_cons_succ, Nat.zero_add, Nat.reduceAdd, h17]
          generalize vals 0 = x0
          generalize vals 1 = x1
          generalize vals 2 = x2
          generalize vals 3 = x3
          generalize vals 4 = x4
          generalize vals 5 = x5
          generalize vals 6 = x6
          generalize vals 7 = x7
          generalize vals 8 = x8
          generalize vals 9 = x9
          generalize vals 10 = x10
          generalize vals 11 = x11
          generalize vals 12 = x12
          generalize vals 13 = x13
          generalize vals 14 = x14
          generalize vals 15 = x15
          generalize vals 16 = x16
          have hb5 : Below wr.heap.size wr w4 := (Below.refl _ _).drew.trans hb4
          have HB5 := Lib.hid (HBEL.out.trans (hb5.mono HBEL.out.size))
          have HR5 := Lib.hid (HRZ.out.below hb5)
          clear hb4 hb5
          go_wp2_with fail
          go_roundg (gk - 1)
          case measure => have := HK.out; omega
          case rel => exact ⟨k + 1, by have := HK.out; omega, by rw [HMX.out], by go_num, HB5.out, HR5.out⟩
      · obtain rfl : k = n' := by omega
        obtain ⟨z, hz⟩ : ∃ z, mnk (reaf m S ks) k = z := ⟨_, rfl⟩
        have HZ := Lib.hid hz
        rw [hz] at hx0
        subst hx0
        clear hz
        have hd0 := hres.c (j := 0) rfl
        have hd1 := hres.c (j := 1) rfl
        have hd2 := hres.c (j := 2) rfl
        have hf0 := hres.f 0
        have hf1 := hres.f 1
        have hf2 := hres.f 2
        have HBF := Lib.hid (below_three hbel (Nat.le_refl _) (.int .i64 0) (.int .i64 z) (.int .i64 0))
        have HTF := Lib.hid (hres.set3 (.int .i64 0) (.int .i64 z) (.int .i64 0))
        go_wp2_with fail
        exact bodyPost_ret (v := .agg #[.int .i64 0, .int .i64 z, .int .i64 0]) (results_cell_row (fn := Try.f28) rfl _ _ w.heap.size PL #[.int .i64 0, .int .i64 z, .int .i64 0] (0, 0) _ rfl HTF.out Try.underlying39 rfl (by kernel_rfl)) rfl ⟨by rw [HCV.out, HZ.out], HBF.out⟩
end Go.Proofs.Yteeianandjokaaa.pk
/- The laws of pivot: the contracts in the form that their walks use. -/
namespace Go.Proofs.Yteeianandjokaaa.pk

open Go.ChangeShapes Go.WideShapes Go.ChangeAt Go.RowKit

open Go.Proofs.Yteeianandjokaaa.pq Go.Proofs.Yteeianandjokaaa.cq Go.Proofs.Yteeianandjokaaa.vk Go.Proofs.Yteeianandjokaaa.bk Go.Proofs.Yteeianandjokaaa.wk Go.Proofs.Yteeianandjokaaa.uk

set_option linter.unusedVariables false
structure W1 (w : World) (A : Option Addr) (n c : Nat) (l : List Int) : Prop where
  is : wo.IsI w A n c l
theorem W1.below {w w' : World} {A : Option Addr} {n c : Nat} {l : List Int} (h : W1 w A n c l) (hb : Below w.heap.size w w') : W1 w' A n c l := ⟨isI_below h.is hb⟩
structure W2 (w : World) (A : Option Addr) (n c : Nat) (l : VV) : Prop where
  is : IsVV w A n c l
theorem W2.below {w w' : World} {A : Option Addr} {n c : Nat} {l : VV} (h : W2 w A n c l) (hb : Below w.heap.size w w') : W2 w' A n c l := ⟨isVV_below h.is hb⟩
structure W3 (w : World) (A : Option Addr) (n c : Nat) (l : List Sh) : Prop where
  is : IsS w A n c l
theorem W3.below {w w' : World} {A : Option Addr} {n c : Nat} {l : List Sh} (h : W3 w A n c l) (hb : Below w.heap.size w w') : W3 w' A n c l := ⟨isS_below h.is hb⟩
def eI (b : Bool) : Int := if b then 0 else 1
theorem eI_t : eI true = 0 := rfl
theorem eI_f : eI false = 1 := rfl
def cvI (m : Int) (P L : VV) : Int := if haveK m P L then pq.cover m P L else 0
def nrI (m : Int) (P : VV) (v : List Int) : Int := if haveK m P [v] then ((nearest m P v).1 : Int) else 0
def nyI (m : Int) (P : VV) (v : List Int) : Int := if haveK m P [v] then (nearest m P v).2 else 0
def loI (m : Int) (S : List Sh) (ks : List Int) : Int := if asked m S ks then lowS m S ks else 0
def hiI (m : Int) (S : List Sh) (ks : List Int) : Int := if asked m S ks then highS m S ks else 0
def chI (m most : Int) (L : VV) : List Int := pz (if cok' m L most then pq.choose m L most else [])
def shI (m : Int) (P L : VV) : List Sh := if haveK m P L then shells m P L else []
def tbI (m : Int) (P L : VV) : VV := if haveK m P L then table m P L else []
def joI (a b : List Sh) : List Sh := if jok a b then joins a b else []
theorem choose_c {m most : Int} {AL : Option Addr} {n cL : Nat} {L : VV} (w : World) (h : IsVV w AL n cL L) :
    Calls Try.prog 11 #[.int .i64 m, .slice AL n cL, .int .i64 most] w fun e w' => ∃ A2 n2 c2, e = .returned (.tuple #[.slice A2 n2 c2, .int .i64 (eI (cok' m L most))]) ∧ wo.IsI w' A2 n2 c2 (chI m most L) ∧ Below w.heap.size w w' := choose_calls w h
theorem rchoose_c {m most : Int} {AL : Option Addr} {n cL : Nat} {L : VV} (w : World) (h : IsVV w AL n cL L) :
    Calls Try.prog 15 #[.int .i64 m, .slice AL n cL, .int .i64 most] w fun e w' => ∃ A2 n2 c2, e = .returned (.agg #[.slice A2 n2 c2, .int .i64 (eI (cok' m L most))]) ∧ wo.IsI w' A2 n2 c2 (chI m most L) ∧ Below w.heap.size w w' := rchoose_calls w h
theorem nearT_eq (m : Int) (P : VV) (v : List Int) : nearT m P v = .tuple #[.int .i64 (nrI m P v), .int .i64 (nyI m P v), .int .i64 (eI (haveK m P [v]))] := by
  unfold nearT nrI nyI eI
  cases haveK m P [v] <;> rfl
theorem nearV_eq (m : Int) (P : VV) (v : List Int) : nearV m P v = .agg #[.int .i64 (nrI m P v), .int .i64 (nyI m P v), .int .i64 (eI (haveK m P [v]))] := by
  unfold nearV nrI nyI eI
  cases haveK m P [v] <;> rfl
theorem nearest_c {m : Int} {A A' : Option Addr} {n c n' c' : Nat} {P : VV} {v : List Int} (w : World) (h : IsVV w A n c P) (h' : wo.IsI w A' n' c' v) :
    Calls Try.prog 12 #[.int .i64 m, .slice A n c, .slice A' n' c'] w fun e w' => e = .returned (.tuple #[.int .i64 (nrI m P v), .int .i64 (nyI m P v), .int .i64 (eI (haveK m P [v]))]) ∧ Below w.heap.size w w' := by
  rw [← nearT_eq]; exact nearest_calls w h h'
theorem rnearest_c {m : Int} {A A' : Option Addr} {n c n' c' : Nat} {P : VV} {v : List Int} (w : World) (h : IsVV w A n c P) (h' : wo.IsI w A' n' c' v) :
    Calls Try.prog 16 #[.int .i64 m, .slice A n c, .slice A' n' c'] w fun e w' => e = .returned (.agg #[.int .i64 (nrI m P v), .int .i64 (nyI m P v), .int .i64 (eI (haveK m P [v]))]) ∧ Below w.heap.size w w' := by
  rw [← nearV_eq]; exact rnearest_calls w h h'
theorem cover_c {m : Int} {A A' : Option Addr} {n c n' c' : Nat} {P L : VV} (w : World) (h : IsVV w A n c P) (h' : IsVV w A' n' c' L) :
    Calls Try.prog 13 #[.int .i64 m, .slice A n c, .slice A' n' c'] w fun e w' => e = .returned (.tuple #[.int .i64 (cvI m P L), .int .i64 (eI (haveK m P L))]) ∧ Below w.heap.size w w' := cover_calls w h h'
theorem rcover_c {m : Int} {A A' : Option Addr} {n c n' c' : Nat} {P L : VV} (w : World) (h : IsVV w A n c P) (h' : IsVV w A' n' c' L) :
    Calls Try.prog 17 #[.int .i64 m, .slice A n c, .slice A' n' c'] w fun e w' => e = .returned (.agg #[.int .i64 0, .int .i64 (cvI m P L), .int .i64 (eI (haveK m P L))]) ∧ Below w.heap.size w w' := rcover_calls w h h'
theorem table_c {m : Int} {A A' : Option Addr} {n c n' c' : Nat} {P L : VV} (w : World) (h : IsVV w A n c P) (h' : IsVV w A' n' c' L) :
    Calls Try.prog 14 #[.int .i64 m, .slice A n c, .slice A' n' c'] w fun e w' => ∃ A2 n2 c2, e = .returned (.tuple #[.slice A2 n2 c2, .int .i64 (eI (haveK m P L))]) ∧ IsVV w' A2 n2 c2 (tbI m P L) ∧ Below w.heap.size w w' := table_calls w h h'
theorem rtable_c {m : Int} {A A' : Option Addr} {n c n' c' : Nat} {P L : VV} (w : World) (h : IsVV w A n c P) (h' : IsVV w A' n' c' L) :
    Calls Try.prog 18 #[.int .i64 m, .slice A n c, .slice A' n' c'] w fun e w' => ∃ A2 n2 c2, e = .returned (.agg #[.slice A2 n2 c2, .int .i64 (eI (haveK m P L))]) ∧ IsVV w' A2 n2 c2 (tbI m P L) ∧ Below w.heap.size w w' := rtable_calls w h h'
theorem shells_c {m : Int} {A A' : Option Addr} {n c n' c' : Nat} {P L : VV} (w : World) (h : IsVV w A n c P) (h' : IsVV w A' n' c' L) :
    Calls Try.prog 21 #[.int .i64 m, .slice A n c, .slice A' n' c'] w fun e w' => ∃ A2 n2 c2, e = .returned (.tuple #[.slice A2 n2 c2, .int .i64 (eI (haveK m P L))]) ∧ IsS w' A2 n2 c2 (shI m P L) ∧ Below w.heap.size w w' := shells_calls w h h'
theorem rshells_c {m : Int} {A A' : Option Addr} {n c n' c' : Nat} {P L : VV} (w : World) (h : IsVV w A n c P) (h' : IsVV w A' n' c' L) :
    Calls Try.prog 25 #[.int .i64 m, .slice A n c, .slice A' n' c'] w fun e w' => ∃ A2 n2 c2, e = .returned (.agg #[.slice A2 n2 c2, .int .i64 (eI (haveK m P L))]) ∧ IsS w' A2 n2 c2 (shI m P L) ∧ Below w.heap.size w w' := rshells_calls w h h'
theorem join_c {a b' : List Sh} {n c n' c' : Nat} {A A' : Option Addr} (w : World) (h : IsS w A n c a) (h' : IsS w A' n' c' b') :
    Calls Try.prog 22 #[.slice A n c, .slice A' n' c'] w fun e w' => ∃ A2 n2 c2, e = .returned (.tuple #[.slice A2 n2 c2, .int .i64 (eI (jok a b'))]) ∧ IsS w' A2 n2 c2 (joI a b') ∧ Below w.heap.size w w' := join_calls w h h'
theorem rjoin_c {a b' : List Sh} {n c n' c' : Nat} {A A' : Option Addr} (w : World) (h : IsS w A n c a) (h' : IsS w A' n' c' b') :
    Calls Try.prog 26 #[.slice A n c, .slice A' n' c'] w fun e w' => ∃ A2 n2 c2, e = .returned (.agg #[.slice A2 n2 c2, .int .i64 (eI (jok a b'))]) ∧ IsS w' A2 n2 c2 (joI a b') ∧ Below w.heap.size w w' := rjoin_calls w h h'
theorem low_c {m : Int} {S : List Sh} {ks : List Int} {A A' : Option Addr} {n c n' c' : Nat} (w : World) (h : IsS w A n c S) (h' : wo.IsI w A' n' c' ks) :
    Calls Try.prog 23 #[.int .i64 m, .slice A n c, .slice A' n' c'] w fun e w' => e = .returned (.tuple #[.int .i64 (loI m S ks), .int .i64 (eI (asked m S ks))]) ∧ Below w.heap.size w w' := low_calls w h h'
theorem high_c {m : Int} {S : List Sh} {ks : List Int} {A A' : Option Addr} {n c n' c' : Nat} (w : World) (h : IsS w A n c S) (h' : wo.IsI w A' n' c' ks) :
    Calls Try.prog 24 #[.int .i64 m, .slice A n c, .slice A' n' c'] w fun e w' => e = .returned (.tuple #[.int .i64 (hiI m S ks), .int .i64 (eI (asked m S ks))]) ∧ Below w.heap.size w w' := high_calls w h h'
theorem rlow_c {m : Int} {S : List Sh} {ks : List Int} {A A' : Option Addr} {n c n' c' : Nat} (w : World) (h : IsS w A n c S) (h' : wo.IsI w A' n' c' ks) :
    Calls Try.prog 27 #[.int .i64 m, .slice A n c, .slice A' n' c'] w fun e w' => e = .returned (.agg #[.int .i64 0, .int .i64 (loI m S ks), .int .i64 (eI (asked m S ks))]) ∧ Below w.heap.size w w' := rlow_calls w h h'
theorem rhigh_c {m : Int} {S : List Sh} {ks : List Int} {A A' : Option Addr} {n c n' c' : Nat} (w : World) (h : IsS w A n c S) (h' : wo.IsI w A' n' c' ks) :
    Calls Try.prog 28 #[.int .i64 m, .slice A n c, .slice A' n' c'] w fun e w' => e = .returned (.agg #[.int .i64 0, .int .i64 (hiI m S ks), .int .i64 (eI (asked m S ks))]) ∧ Below w.heap.size w w' := rhigh_calls w h h'
theorem rsame_t {A A' : Option Addr} {n c n' c' : Nat} {a : List Int} (w : World) (h : wo.IsI w A n c a) (h' : wo.IsI w A' n' c' a) :
    Calls Try.prog 19 #[.slice A n c, .slice A' n' c'] w fun e w' => e = .returned (.bool true) ∧ Below w.heap.size w w' := by
  have := rsame_calls w h h'
  rw [decide_eq_true rfl] at this
  exact this
theorem rsameRows_t {A A' : Option Addr} {n c n' c' : Nat} {a : VV} (w : World) (h : IsVV w A n c a) (h' : IsVV w A' n' c' a) :
    Calls Try.prog 20 #[.slice A n c, .slice A' n' c'] w fun e w' => e = .returned (.bool true) ∧ Below w.heap.size w w' := by
  have := rsameRows_calls w h h'
  rw [decide_eq_true rfl] at this
  exact this
theorem rsameSh_t {A A' : Option Addr} {n c n' c' : Nat} {a : List Sh} (w : World) (h : IsS w A n c a) (h' : IsS w A' n' c' a) :
    Calls Try.prog 29 #[.slice A n c, .slice A' n' c'] w fun e w' => e = .returned (.bool true) ∧ Below w.heap.size w w' := by
  have := rsameSh_calls w h h'
  rw [decide_eq_true rfl] at this
  exact this
end Go.Proofs.Yteeianandjokaaa.pk
