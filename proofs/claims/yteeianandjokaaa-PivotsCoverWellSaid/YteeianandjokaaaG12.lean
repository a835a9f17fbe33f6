/- Joined: Pp Pn Ps Pt. -/
import Derived.Test.YteeianandjokaaaG11
/- The reference: Cover, Keys, Table. -/
namespace Go.Proofs.Yteeianandjokaaa.pk

open Go.ChangeShapes Go.WideShapes Go.ChangeAt Go.RowKit

open Go.Proofs.Yteeianandjokaaa.pq Go.Proofs.Yteeianandjokaaa.cq Go.Proofs.Yteeianandjokaaa.vk Go.Proofs.Yteeianandjokaaa.bk Go.Proofs.Yteeianandjokaaa.wk Go.Proofs.Yteeianandjokaaa.uk

set_option linter.unusedVariables false
set_option maxRecDepth 100000 in
set_option maxHeartbeats 4000000 in
theorem rcover_calls {m : Int} {A A' : Option Addr} {n c n' c' : Nat} {P L : VV} (w : World) (h : IsVV w A n c P) (h' : IsVV w A' n' c' L) :
    Calls Try.prog 17 #[.int .i64 m, .slice A n c, .slice A' n' c'] w fun e w' => e = .returned (.agg #[.int .i64 0, .int .i64 (if haveK m P L then pq.cover m P L else 0), .int .i64 (if haveK m P L then 0 else 1)]) ∧ Below w.heap.size w w' := by
  have hm := h'.2.2.1
  have hnc := h'.2.1
  have hbR := below_new w (.cells #[.int .i64 0, .int .i64 0, .int .i64 0] PL)
  have HR := Lib.hid (Rw.new w PL #[.int .i64 0, .int .i64 0, .int .i64 0])
  have HBR := Lib.hid hbR
  have HBO := Lib.hid (rboth_calls (m := m) (w.alloc (.cells #[.int .i64 0, .int .i64 0, .int .i64 0] PL)) (isVV_below h hbR) (isVV_below h' hbR))
  cases hk : haveK m P L
  · rw [hk] at HBO
    clear h h' hbR
    go_enter Try.func17, Try.ntmps17
    go_wp2_with fail
    refine HBO.out.mono ?_
    rintro e w1 ⟨rfl, hb1⟩
    have hR1 := HR.out.below hb1
    have hB1 := Below.andThen HBR.out hb1
    have hd0 := hR1.c (j := 0) rfl
    have hd1 := hR1.c (j := 1) rfl
    have hd2 := hR1.c (j := 2) rfl
    have hf0 := hR1.f 0
    have hf1 := hR1.f 1
    have hf2 := hR1.f 2
    have HBF := Lib.hid (below_three hB1 (Nat.le_refl _) (.int .i64 0) (.int .i64 0) (.int .i64 1))
    have HTF := Lib.hid (hR1.set3 (.int .i64 0) (.int .i64 0) (.int .i64 1))
    go_wp2_with fail
    exact bodyPost_ret (v := .agg #[.int .i64 0, .int .i64 0, .int .i64 1]) (results_cell_row (fn := Try.f17) rfl _ _ w.heap.size PL #[.int .i64 0, .int .i64 0, .int .i64 1] (0, 0) _ rfl HTF.out Try.underlying39 rfl (by kernel_rfl)) rfl ⟨rfl, HBF.out⟩
  · rw [hk] at HBO
    have hv := have_of hk
    rw [if_pos rfl, if_pos rfl]
    have HV := Lib.hid hv
    have HP := Lib.hid h
    have HL := Lib.hid h'
    have hn4 : n' ≤ 4096 := by rw [← h'.1]; exact hv.l.n2
    have HCV : Hid (pq.cover m P L = mxk (cf m P L) n') := by show _ = _; rw [cover_mx, h'.1]
    clear h h' hbR hv
    go_enter Try.func17, Try.ntmps17
    go_wp2_with fail
    refine HBO.out.mono ?_
    rintro e w1 ⟨rfl, hb1⟩
    have HR1 := Lib.hid (HR.out.below hb1)
    have HB1 := Lib.hid (Below.andThen HBR.out hb1)
    clear hb1
    go_wp2_with fail
    go_loopg [8, 9] n' (fun gk x y wr => ∃ k : Nat, k + gk = n' ∧ x = .int .i64 (mxk (cf m P L) k) ∧ y = .int .i64 (k : Int) ∧ Below w.heap.size w wr ∧ Rw wr w.heap.size PL #[.int .i64 0, .int .i64 0, .int .i64 0])
    case atStart => exact ⟨0, by omega, rfl, rfl, HB1.out, HR1.out⟩
    case round =>
      obtain ⟨k, hk, rfl, rfl, hbel, hres⟩ := hrel
      have HK := Lib.hid hk
      have HBEL := Lib.hid hbel
      have HRES := Lib.hid hres
      have hkn : k ≤ n' := by omega
      clear hk
      by_cases hlt : k < n'
      · obtain ⟨b, o, A1, n1, c1, v, rfl, hb3, hc3, hI3, hX3⟩ := isVV_get (isVV_below HL.out hbel) hlt
        have hlt0 : (k : Int) < (n' : Int) := by omega
        have HKK := Lib.hid (rnear_calls wr HV.out.m1 HV.out.m3 (isVV_below HP.out hbel) hI3 HV.out.p (by omega) (HV.out.l.at hX3))
        have HCF : Hid (cf m P L k = (nearest m P v).2) := by show _ = _; unfold cf nk; rw [getD_some hX3]
        generalize nearest m P v = q at *
        obtain ⟨q1, q2⟩ := q
        dsimp only at HKK HCF
        have HMX : Hid (mxk (cf m P L) (k + 1) = max (mxk (cf m P L) k) q2) := by show _ = _; rw [mxk, HCF.out]
        generalize mxk (cf m P L) k = z at *
        obtain ⟨mx, hmx⟩ : ∃ mx, max z q2 = mx := ⟨_, rfl⟩
        rw [hmx] at HMX
        have HMM := Lib.hid hmx
        clear hI3 hX3 hres hbel
        go_wp2_with fail
        refine HKK.out.mono ?_
        rintro e w3 ⟨rfl, hb4⟩
        have hbN := below_new w3 (.cells #[.int .i64 (q1 : Int), .int .i64 q2, .int .i64 0] PL)
        have HR3 := Lib.hid ((HRES.out.below hb4).below hbN)
        have HB3 := Lib.hid (HBEL.out.trans ((Below.andThen hb4 hbN).mono HBEL.out.size))
        clear hb4 hbN
        go_wp2_with fail
        go_roundg (gk - 1)
        case measure => have := HK.out; omega
        case rel => exact ⟨k + 1, by have := HK.out; omega, by rw [HMX.out], by go_num, HB3.out, HR3.out⟩
      · obtain rfl : k = n' := by omega
        obtain ⟨z, hz⟩ : ∃ z, mxk (cf m P L) k = z := ⟨_, rfl⟩
        have HZ := Lib.hid hz
        rw [hz]
        clear hz
        have hd0 := hres.c (j := 0) rfl
        have hd1 := hres.c (j := 1) rfl
        have hd2 := hres.c (j := 2) rfl
        have hf0 := hres.f 0
        have hf1 := hres.f 1
        have hf2 := hres.f 2
        have HBF := Lib.hid (below_three hbel (Nat.le_refl _) (.int .i64 0) (.int .i64 z) (.int .i64 0))
        have HTF := Lib.hid (hres.set3 (.int .i64 0) (.int .i64 z) (.int .i64 0))
        go_wp2_with fail
        exact bodyPost_ret (v := .agg #[.int .i64 0, .int .i64 z, .int .i64 0]) (results_cell_row (fn := Try.f17) rfl _ _ w.heap.size PL #[.int .i64 0, .int .i64 z, .int .i64 0] (0, 0) _ rfl HTF.out Try.underlying39 rfl (by kernel_rfl)) rfl ⟨by rw [HCV.out, HZ.out], HBF.out⟩
set_option maxRecDepth 100000 in
set_option maxHeartbeats 4000000 in
theorem rkeys_calls {m : Int} {A A' : Option Addr} {n c n' c' d : Nat} {P : VV} {v : List Int} (w : World) (h1 : 1 ≤ m) (h3 : m ≤ 3) (h : IsVV w A n c P) (h' : wo.IsI w A' n' c' v) (hP : Fit 8 d P) (hv : v.length = d ∧ vq.Vec v) :
    Calls Try.prog 54 #[.int .i64 m, .slice A n c, .slice A' n' c'] w fun e w' => ∃ u, e = .returned u ∧ w'.ownsRow w.heap.size 3 1 u n (iv (keys m P v)) ∧ Below w.heap.size w w' := by
  obtain ⟨i0, hi9, hz0, hz1, hz2⟩ := info_parts wi.infoI
  have hm := h.2.2.1
  have hnc := h.2.1
  have hn8 : n ≤ 8 := by rw [← h.1]; exact hP.n2
  have HKL : Hid ((keys m P v).length = n) := by show _ = _; unfold keys; rw [List.length_map, h.1]
  have H := Lib.hid h
  have H' := Lib.hid h'
  clear h h'
  generalize hG : w.heap.size = G at *
  have HG := Lib.hid hG
  clear hG
  go_enter Try.func54, Try.ntmps54
  go_wp2_with fail
  go_loopg [7, 8] n (fun gk u x wr => ∃ (i : Nat) (v1 : Value), i + gk = n ∧ u = v1 ∧ x = .int .i64 (i : Int) ∧ wr.ownsRow G 3 1 v1 i (iv ((keys m P v).take i)) ∧ Below G w wr)
  case atStart => exact ⟨0, _, by omega, rfl, rfl, by simpa [iv] using World.ownsRow_nil _ _ _ _, Below.refl _ _⟩
  case round =>
    obtain ⟨i, v1, hi, rfl, rfl, hownr, hbi⟩ := hrel
    have HKI := Lib.hid hi
    have HOWR := Lib.hid hownr
    have HBI := Lib.hid hbi
    have hin : i ≤ n := by omega
    have hbw : Below w.heap.size w wr := by rw [HG.out]; exact hbi
    have HBW : Hid (G ≤ wr.heap.size) := by show _ ≤ _; have := hbi.size; have := HG.out; omega
    clear hi hownr
    by_cases hlt2 : i < n
    · obtain ⟨b, o, Ai, ni, ci, p, rfl, hbb, hci, hIi, hXi⟩ := isVV_get (isVV_below H.out hbw) hlt2
      have hlt3 : (i : Int) < (n : Int) := by omega
      have HCK := Lib.hid (rkeyF wr h1 h3 hIi (isI_below H'.out hbw) (hP.at hXi) hv)
      have HKX : Hid ((keys m P v)[i]? = some (vq.key m p v)) := by show _ = _; unfold keys; rw [List.getElem?_map, hXi]; rfl
      generalize vq.key m p v = ri at *
      clear hXi hIi hbi hbw
      go_wp2_with fail
      refine HCK.out.mono ?_
      rintro e w5 ⟨rfl, hb5⟩
      have hbe5 : Below G w w5 := HBI.out.trans (hb5.mono HBW.out)
      have HOW := Lib.hid (keptB HOWR.out hb5)
      have hB5 : G ≤ w5.heap.size := Nat.le_trans HBW.out hb5.size
      have HBE5 := Lib.hid hbe5
      clear hb5 hbe5
      go_wp2_with (at_builtin; refine wpList_append_own _ rfl _ _ 23 rfl G 3 i0 (.int .i64 0) 1 8 Try.underlying23 hi9 hz0 hz1 hz2 rfl (by decide) _ _ _ rfl (HOW.out.alloc _) ⟨w5.heap.size, 0, none⟩ 1 1 [.int .i64 ri] rfl rfl (cells1 _ _ _) ?c2 ?c3 ?c4 ?c5 ?_)
      case c2 => simp [Value.oneCell']
      case c3 => unfold maxLen; omega
      case c4 => omega
      case c5 => rw [size_new]; omega
      intro v' w6 hown6 hgrow6 _
      have hbe : Below G w w6 := (HBE5.out.alloc hB5 _).grown hgrow6 (by rw [size_new]; omega) (fun q hq => (HOW.out.lt q hq).1)
      have HB6 := Lib.hid hbe
      have HO6 := Lib.hid hown6
      clear hown6 hgrow6 hbe
      go_wp2_with fail
      go_roundg (gk - 1)
      case measure => have := HKI.out; omega
      case rel =>
        refine ⟨i + 1, _, by have := HKI.out; omega, rfl, by go_num, ?_, HB6.out⟩
        have hO := HO6.out
        rw [List.take_add_one, HKX.out]
        unfold iv at hO ⊢
        rw [List.map_append]
        simpa using hO
    · obtain rfl : i = n := by omega
      have hor := HOWR.out
      rw [List.take_of_length_le (by have := HKL.out; omega)] at hor
      have HOR := Lib.hid hor
      clear hor hbi hbw
      go_wp2_with fail
      go_ret
      exact ⟨_, rfl, HOR.out, HBI.out⟩
abbrev RS : TypeId := 43
set_option maxRecDepth 100000 in
set_option maxHeartbeats 4000000 in
theorem rtable_calls {m : Int} {A A' : Option Addr} {n c n' c' : Nat} {P L : VV} (w : World) (h : IsVV w A n c P) (h' : IsVV w A' n' c' L) :
    Calls Try.prog 18 #[.int .i64 m, .slice A n c, .slice A' n' c'] w fun e w' => ∃ A2 n2 c2, e = .returned (.agg #[.slice A2 n2 c2, .int .i64 (if haveK m P L then 0 else 1)]) ∧ IsVV w' A2 n2 c2 (if haveK m P L then table m P L else []) ∧ Below w.heap.size w w' := by
  have hm := h'.2.2.1
  have hnc := h'.2.1
  have hbR := below_new w (.cells #[.slice none 0 0, .int .i64 0] RS)
  have HR := Lib.hid (Rw.new w RS #[.slice none 0 0, .int .i64 0])
  have HBR := Lib.hid hbR
  have HBO := Lib.hid (rboth_calls (m := m) (w.alloc (.cells #[.slice none 0 0, .int .i64 0] RS)) (isVV_below h hbR) (isVV_below h' hbR))
  cases hk : haveK m P L
  · rw [hk] at HBO
    clear h h' hbR
    go_enter Try.func18, Try.ntmps18
    go_wp2_with fail
    refine HBO.out.mono ?_
    rintro e w1 ⟨rfl, hb1⟩
    have hR1 := HR.out.below hb1
    have hd0 := hR1.c (j := 0) rfl
    have hd1 := hR1.c (j := 1) rfl
    have hf0 := hR1.f 0
    have hf1 := hR1.f 1
    have HBF := Lib.hid (below_two (Below.andThen HBR.out hb1) (Nat.le_refl _) (.slice none 0 0) (.int .i64 1))
    have HTF := Lib.hid (hR1.set2 (.slice none 0 0) (.int .i64 1))
    clear hb1 hR1
    go_wp2_with fail
    exact bodyPost_ret (v := .agg #[.slice none 0 0, .int .i64 1]) (results_cell_row (fn := Try.f18) rfl _ _ w.heap.size RS #[.slice none 0 0, .int .i64 1] (0, 0) _ rfl HTF.out Try.underlying43 rfl (by kernel_rfl)) rfl ⟨_, _, _, rfl, ⟨rfl, Nat.le_refl _, by omega, fun k l hk => by simp at hk⟩, HBF.out⟩
  · obtain ⟨i1, hj9, hj0, hj1, hj2⟩ := info_parts infoVz
    rw [hk] at HBO
    have hv := have_of hk
    rw [if_pos rfl, if_pos rfl]
    have HV := Lib.hid hv
    have HP := Lib.hid h
    have HL := Lib.hid h'
    have hn4 : n' ≤ 4096 := by rw [← h'.1]; exact hv.l.n2
    have HTL : Hid ((table m P L).length = n') := by show _ = _; unfold table; rw [List.length_map, h'.1]
    have HPL : Hid (P.length = n) := h.1
    clear h h' hbR hv
    go_enter Try.func18, Try.ntmps18
    go_wp2_with fail
    refine HBO.out.mono ?_
    rintro e w1 ⟨rfl, hb1⟩
    have HR1 := Lib.hid (HR.out.below hb1)
    have HB1 := Lib.hid (Below.andThen HBR.out hb1)
    clear hb1
    go_wp2_with fail
    go_loopg [8, 9] n' (fun gk u x wr => ∃ (k : Nat) (v0 : Value) (vs : List Value), k + gk = n' ∧ v0 = u ∧ x = .int .i64 (k : Int) ∧ RowQ IsV w1.heap.size [23] 23 wr v0 ((table m P L).take k) vs ∧ Below w1.heap.size w1 wr)
    case atStart => exact ⟨0, _, [], by omega, rfl, rfl, RowQ.nil _ _ _ _ _, Below.refl _ _⟩
    case round =>
      obtain ⟨k, v0, vs, hk, hv0, rfl, hown, hbel⟩ := hrel
      subst hv0
      have HK := Lib.hid hk
      have HOWN := Lib.hid hown
      have HBEL := Lib.hid hbel
      have HSZ : Hid (w1.heap.size ≤ wr.heap.size) := hbel.size
      have hbw : Below w.heap.size w wr := HB1.out.trans (hbel.mono HB1.out.size)
      have HBW := Lib.hid hbw
      have hkn : k ≤ n' := by omega
      clear hk hown
      by_cases hlt : k < n'
      · obtain ⟨b7, o7, A8, n8, c8, v, rfl, hb7, hc7, hI8, hX8⟩ := isVV_get (isVV_below HL.out hbw) hlt
        have hlt0 : (k : Int) < (n' : Int) := by omega
        have HFV := Lib.hid (HV.out.l.at hX8)
        have HTK : Hid ((table m P L)[k]? = some (keys m P v)) := by show _ = _; unfold table; rw [List.getElem?_map, hX8]; rfl
        have HKC := Lib.hid (rkeys_calls wr HV.out.m1 HV.out.m3 (isVV_below HP.out hbw) hI8 HV.out.p HFV.out)
        clear hX8 hI8 hbel hbw
        go_wp2_with fail
        refine HKC.out.mono ?_
        rintro e w5 ⟨u, rfl, hor, hb5⟩
        have hbd : ∀ x ∈ keys m P v, I64 x := fun x hx => by
          unfold keys at hx
          obtain ⟨p, hp, rfl⟩ := List.mem_map.1 hx
          have := key_bd (m := m) (HV.out.p.ok p hp) HFV.out
          unfold I64
          omega
        obtain ⟨A9, c9, rfl, hsq⟩ := isI_own_sq (B := w1.heap.size) (es := [23]) hor HSZ.out hbd (by decide)
        have hsv : Sq w1.heap.size [23] (fun w' => IsV w' (.slice A9 n c9) (keys m P v)) w5 := hsq.imp fun w' h => ⟨_, _, _, rfl, h⟩
        have HSV := Lib.hid hsv
        have hrow := HOWN.out.below hb5
        have HROW := Lib.hid hrow
        have HLT : Hid (((table m P L).take k).length = k) := by show _ = _; rw [List.length_take, HTL.out]; omega
        have ho0 := hrow.own
        rw [HLT.out] at ho0
        have HO2 := Lib.hid (keptB ho0 (below_new w5 (.cells #[.slice A9 n c9] 23)))
        have HBR5 : Hid (Below w1.heap.size w1 w5) := HBEL.out.trans (hb5.mono HSZ.out)
        have HSZ2 : Hid (w1.heap.size ≤ w5.heap.size) := HBR5.out.size
        clear hor hbd hsq hsv hrow ho0 hb5
        go_wp2_with (at_builtin; refine wpList_append_own _ rfl _ _ 22 rfl w1.heap.size 23 i1 (.slice none 0 0) 1 24 Try.underlying22 hj9 hj0 hj1 hj2 rfl (by decide) _ _ _ rfl HO2.out ⟨w5.heap.size, 0, none⟩ 1 1 [.slice A9 n c9] rfl rfl (cells1 _ _ _) ?d2 ?d3 ?d4 ?d5 ?_)
        case d2 => simp [Value.oneCell']
        case d3 => unfold maxLen; omega
        case d4 => omega
        case d5 => have := HSZ2.out; rw [size_new]; omega
        intro v' w6 hown5 hgrow5 _
        have hbe : Below w1.heap.size w1 w6 := (HBR5.out.alloc HSZ2.out _).grown hgrow5 (by have := HSZ2.out; rw [size_new]; omega) (fun q hq => (HO2.out.lt q hq).1)
        have hpush := HROW.out.push (by simp) HSV.out _ hgrow5 (by rw [HLT.out]; exact hown5)
        have HB5 := Lib.hid hbe
        have HP5 := Lib.hid hpush
        clear hown5 hgrow5 hbe hpush
        go_wp2_with fail
        go_roundg (gk - 1)
        case measure => have := HK.out; omega
        case rel =>
          refine ⟨k + 1, _, vs ++ [.slice A9 n c9], by have := HK.out; omega, rfl, by go_num, ?_, HB5.out⟩
          have hO := HP5.out
          rw [List.take_add_one, HTK.out]
          exact hO
      · obtain rfl : k = n' := by omega
        have ho := HOWN.out
        rw [List.take_of_length_le (by have := HTL.out; omega)] at ho
        obtain ⟨A9, c9, rfl, hvv⟩ := ho.isVV_sq (es' := []) (by simp) (by simp)
        have hR2 := HR1.out.below hbel
        have hd0 := hR2.c (j := 0) rfl
        have hd1 := hR2.c (j := 1) rfl
        have hf0 := hR2.f 0
        have hf1 := hR2.f 1
        have hlt9 : w.heap.size < w1.heap.size := HR1.out.lt
        have HVV := Lib.hid (hvv _ ((Kq.of_set (i := 0) (.slice A9 (table m P L).length c9) hR2 (.inr hlt9)).trans (Kq.of_set (i := 1) (.int .i64 0) (heap_setCell_same _ w.heap.size 0 _ RS _ hR2) (.inr hlt9))))
        have HBF := Lib.hid (below_two hbw (Nat.le_refl _) (.slice A9 (table m P L).length c9) (.int .i64 0))
        have HTF := Lib.hid (hR2.set2 (.slice A9 (table m P L).length c9) (.int .i64 0))
        clear ho hbel hvv hR2 hbw
        go_wp2_with fail
        exact bodyPost_ret (v := .agg #[.slice A9 (table m P L).length c9, .int .i64 0]) (results_cell_row (fn := Try.f18) rfl _ _ w.heap.size RS #[.slice A9 (table m P L).length c9, .int .i64 0] (0, 0) _ rfl HTF.out Try.underlying43 rfl (by kernel_rfl)) rfl ⟨_, _, _, rfl, HVV.out, HBF.out⟩
end Go.Proofs.Yteeianandjokaaa.pk
/- The reference: Valid, In, asked. -/
namespace Go.Proofs.Yteeianandjokaaa.pk

open Go.ChangeShapes Go.WideShapes Go.ChangeAt Go.RowKit

open Go.Proofs.Yteeianandjokaaa.pq Go.Proofs.Yteeianandjokaaa.cq Go.Proofs.Yteeianandjokaaa.vk Go.Proofs.Yteeianandjokaaa.bk Go.Proofs.Yteeianandjokaaa.wk Go.Proofs.Yteeianandjokaaa.uk

set_option linter.unusedVariables false
set_option maxRecDepth 100000 in
set_option maxHeartbeats 4000000 in
theorem rsvalid_calls {A : Option Addr} {n c : Nat} {S : List Sh} (w : World) (h : IsS w A n c S) :
    Calls Try.prog 31 #[.slice A n c] w fun e w' => e = .returned (.bool (svalid S)) ∧ Below w.heap.size w w' := by
  have hm := h.2.2.1
  have hnc := h.2.1
  have HE : Hid (svalid S = (decide (n ≤ 8) && S.all sok)) := by show _ = _; unfold svalid; rw [h.1]
  have H := Lib.hid h
  clear h
  go_enter Try.func31, Try.ntmps31
  go_wp2_with fail
  go_loopg [3] n (fun gk x wr => ∃ k : Nat, k + gk = n ∧ x = .int .i64 (k : Int) ∧ Below w.heap.size w wr ∧ (S.take k).all sok = true)
  case atStart => exact ⟨0, by omega, rfl, Below.refl _ _, by simp⟩
  case round =>
    obtain ⟨k, hk, rfl, hbel, hall⟩ := hrel
    have HK := Lib.hid hk
    have HALL := Lib.hid hall
    have HBEL := Lib.hid hbel
    have hkn : k ≤ n := by omega
    clear hk hall
    by_cases hlt : k < n
    · obtain ⟨b, o, ⟨s1, s2⟩, rfl, hc0, hc1, hb, hX, -⟩ := isS_get (isS_below H.out hbel) hlt
      dsimp only at hc0 hc1
      have hlt0 : (k : Int) < (n : Int) := by omega
      have HTA := Lib.hid (take_all (p := sok) hX)
      have HMEM := Lib.hid (List.mem_of_getElem? hX)
      have HSK : Hid (sok (s1, s2) = decide (0 ≤ s1 ∧ s1 ≤ s2 ∧ s2 ≤ 134217728)) := rfl
      clear hX hbel
      by_cases h1 : s1 < 0
      · go_wp2_with fail
        refine wk.region_tailS 27 [.is (.slice (some ⟨b, o, none⟩) n c), .is (.int .i64 (k : Int)), .is (.pointer (some ⟨b, o + k * 2, none⟩)), .is (.pointer (some ⟨b, o + k * 2, none⟩)), .is (.int .i64 s1), .is (.bool true), .is (.bool true), .is undef, .is undef, .is undef, .is undef, .is undef, .is undef, .is undef, .is undef, .is undef, .is undef, .is undef, .is (Value.bool true), .is (.bool true), .is undef, .is undef, .is undef, .is undef, .is undef, .is undef, .is (Value.bool true)] [some 10, some 11, some 12, some 13, some 14, some 15, some 16, some 17, some 18, some 19, some 20, some 21, some 22, some 23, some 24, some 25, some 26, some 27, some 28, some 29, some 30, some 31, some 32, some 33, some 34, some 35, some 36] (by kernel_rfl) (by kernel_rfl) (by kernel_rfl) (by kernel_rfl) [7, 8, 9, 10, 11, 12, 13, 14, 15, 16, 17, 20, 21, 22, 23, 24, 25] (by kernel_rfl) (by intro p hp; simp only [List.mem_cons, List.not_mem_nil, or_false] at hp; rcases hp with rfl | rfl | rfl | rfl | rfl | rfl | rfl | rfl | rfl | rfl | rfl | rfl | rfl | rfl | rfl | rfl | rfl <;> rfl) (by kernel_rfl) (by kernel_rfl) ?hstep ?hdone
        case hstep =>
          intro i o ho hi hns E w4 hb4 D
          have hi2 : i = 0 ∨ i = 1 ∨ i = 2 ∨ i = 3 ∨ i = 4 ∨ i = 5 ∨ i = 6 ∨ i = 7 ∨ i = 8 ∨ i = 9 ∨ i = 10 ∨ i = 11 ∨ i = 12 ∨ i = 13 ∨ i = 14 ∨ i = 15 ∨ i = 16 ∨ i = 17 ∨ i = 18 ∨ i = 19 ∨ i = 20 ∨ i = 21 ∨ i = 22 ∨ i = 23 ∨ i = 24 ∨ i = 25 ∨ i = 26 := by omega
          clear hi
          rcases hi2 with rfl | rfl | rfl | rfl | rfl | rfl | rfl | rfl | rfl | rfl | rfl | rfl | rfl | rfl | rfl | rfl | rfl | rfl | rfl | rfl | rfl | rfl | rfl | rfl | rfl | rfl | rfl
          ·
            have ho2 := (Array.getElem?_eq_some_iff.1 ho).2
            simp only [List.getElem_toArray, List.getElem_cons_zero] at ho2
            subst ho2
            clear ho
            have e0 := D.old 0 (by kernel_rfl)
            exact wk.does_move rfl (by rw [e0]; rfl)
          ·
            have ho2 := (Array.getElem?_eq_some_iff.1 ho).2
            simp only [List.getElem_toArray, List.getElem_cons_succ, List.getElem_cons_zero] at ho2
            subst ho2
            clear ho
            have e3 := D.old 3 (by kernel_rfl)
            exact wk.does_move rfl (by rw [e3]; rfl)
          ·
            have ho2 := (Array.getElem?_eq_some_iff.1 ho).2
            simp only [List.getElem_toArray, List.getElem_cons_succ, List.getElem_cons_zero] at ho2
            subst ho2
            clear ho
            have e10 := D.is { on := 0, ground := .data } (by simp) rfl rfl 10 rfl
            have e11 := D.is { on := 1, ground := .data } (by simp) rfl rfl 11 rfl
            exact wk.does_run (by simp only [execOp]; rw [show E (.tmp 10) = _ from e10, show E (.tmp 11) = _ from e11]; go_simp) rfl
          ·
            have ho2 := (Array.getElem?_eq_some_iff.1 ho).2
            simp only [List.getElem_toArray, List.getElem_cons_succ, List.getElem_cons_zero] at ho2
            subst ho2
            clear ho
            have e12 := D.is { on := 2, ground := .data } (by simp) rfl rfl 12 rfl
            exact wk.does_run (by simp only [execOp]; rw [show E (.tmp 12) = _ from e12]; go_simp) rfl
          ·
            have ho2 := (Array.getElem?_eq_some_iff.1 ho).2
            simp only [List.getElem_toArray, List.getElem_cons_succ, List.getElem_cons_zero] at ho2
            subst ho2
            clear ho
            have e13 := D.is { on := 3, ground := .data } (by simp) rfl rfl 13 rfl
            exact wk.does_load1 rfl e13 ((((Below.refl _ _).drew.trans hb4).cell (p := ⟨b, o + k * 2, none⟩) hb).trans hc0) Try.underlying3 rfl rfl
          ·
            have ho2 := (Array.getElem?_eq_some_iff.1 ho).2
            simp only [List.getElem_toArray, List.getElem_cons_succ, List.getElem_cons_zero] at ho2
            subst ho2
            clear ho
            have e14 := D.is { on := 4, ground := .data } (by simp) rfl rfl 14 rfl
            exact wk.does_run (by simp only [execOp]; rw [show E (.tmp 14) = _ from e14, show E (.const (.int .i64 0)) = .int .i64 0 from D.con _]; go_simp; try (simp; omega)) rfl
          ·
            have ho2 := (Array.getElem?_eq_some_iff.1 ho).2
            simp only [List.getElem_toArray, List.getElem_cons_succ, List.getElem_cons_zero] at ho2
            subst ho2
            clear ho
            have e15 := D.is { on := 5, ground := .data } (by simp) rfl rfl 15 rfl
            exact wk.does_move rfl e15
          · cases (show false = true from hns.symm.trans (by kernel_rfl))
          · cases (show false = true from hns.symm.trans (by kernel_rfl))
          · cases (show false = true from hns.symm.trans (by kernel_rfl))
          · cases (show false = true from hns.symm.trans (by kernel_rfl))
          · cases (show false = true from hns.symm.trans (by kernel_rfl))
          · cases (show false = true from hns.symm.trans (by kernel_rfl))
          · cases (show false = true from hns.symm.trans (by kernel_rfl))
          · cases (show false = true from hns.symm.trans (by kernel_rfl))
          · cases (show false = true from hns.symm.trans (by kernel_rfl))
          · cases (show false = true from hns.symm.trans (by kernel_rfl))
          · cases (show false = true from hns.symm.trans (by kernel_rfl))
          ·
            have ho2 := (Array.getElem?_eq_some_iff.1 ho).2
            simp only [List.getElem_toArray, List.getElem_cons_succ, List.getElem_cons_zero] at ho2
            subst ho2
            clear ho
            have e16 := D.is { on := 6, ground := .data } (by simp) rfl rfl 16 rfl
            have e27 := D.is { on := 17, ground := .data } (by simp) rfl rfl 27 rfl
            exact wk.does_pick rfl e16 (D.con _)
          ·
            have ho2 := (Array.getElem?_eq_some_iff.1 ho).2
            simp only [List.getElem_toArray, List.getElem_cons_succ, List.getElem_cons_zero] at ho2
            subst ho2
            clear ho
            have e28 := D.is { on := 18, ground := .data } (by simp) rfl rfl 28 rfl
            exact wk.does_move rfl e28
          · cases (show false = true from hns.symm.trans (by kernel_rfl))
          · cases (show false = true from hns.symm.trans (by kernel_rfl))
          · cases (show false = true from hns.symm.trans (by kernel_rfl))
          · cases (show false = true from hns.symm.trans (by kernel_rfl))
          · cases (show false = true from hns.symm.trans (by kernel_rfl))
          · cases (show false = true from hns.symm.trans (by kernel_rfl))
          ·
            have ho2 := (Array.getElem?_eq_some_iff.1 ho).2
            simp only [List.getElem_toArray, List.getElem_cons_succ, List.getElem_cons_zero] at ho2
            subst ho2
            clear ho
            have e29 := D.is { on := 19, ground := .data } (by simp) rfl rfl 29 rfl
            have e35 := D.is { on := 25, ground := .data } (by simp) rfl rfl 35 rfl
            exact wk.does_pick rfl e29 (D.con _)
        case hdone =>
          intro vals w4 hb4 hv
          have h26 := hv 26 (by omega)
          clear hv
          replace h26 : vals 26 = (Value.bool true) := h26
          simp only [List.drop_succ_cons, List.drop_zero, wpList, wk.setL, List.setIfInBounds_toArray, List.set_cons_zero, List.set_cons_succ, Nat.zero_add, Nat.reduceAdd, h26]
          generalize vals 0 = x0
          generalize vals 1 = x1
          generalize vals 2 = x2
          generalize vals 3 = x3
          generalize vals 4 = x4
          generalize vals 5 = x5
          generalize vals 6 = x6
          generalize vals 7 = x7
          generalize vals 8 = x8
          generalize vals 9 = x9
          generalize vals 10 = x10
          generalize vals 11 = x11
          generalize vals 12 = x12
          generalize vals 13 = x13
          generalize vals 14 = x14
          generalize vals 15 = x15
          generalize vals 16 = x16
          generalize vals 17 = x17
          generalize vals 18 = x18
          generalize vals 19 = x19
          generalize vals 20 = x20
          generalize vals 21 = x21
          generalize vals 22 = x22
          generalize vals 23 = x23
          generalize vals 24 = x24
          generalize vals 25 = x25
          have hb5 : Below wr.heap.size wr w4 := (Below.refl _ _).drew.trans hb4
          have HB5 := Lib.hid (HBEL.out.trans (hb5.mono HBEL.out.size))
          clear hb4 hb5
          go_wp2_with fail
          go_ret
          exact ⟨by rw [HE.out, all_no HMEM.out (by rw [HSK.out]; simp; omega), Bool.and_false]; rfl, HB5.out⟩
      · by_cases h2 : s2 < s1
        · go_wp2_with fail
          refine wk.region_tailS 27 [.is (.slice (some ⟨b, o, none⟩) n c), .is (.int .i64 (k : Int)), .is (.pointer (some ⟨b, o + k * 2, none⟩)), .is (.pointer (some ⟨b, o + k * 2, none⟩)), .is (.int .i64 s1), .is (.bool false), .is (.bool false), .is (.slice (some ⟨b, o, none⟩) n c), .is (.int .i64 (k : Int)), .is (.pointer (some ⟨b, o + k * 2, none⟩)), .is (.pointer (some ⟨b, o + k * 2, none⟩)), .is (.int .i64 s1), .is (.slice (some ⟨b, o, none⟩) n c), .is (.int .i64 (k : Int)), .is (.pointer (some ⟨b, o + k * 2, none⟩)), .is (.pointer (some ⟨b, o + k * 2 + 1, none⟩)), .is (.int .i64 s2), .is (.bool true), .is (.bool true), .is (.bool true), .is undef, .is undef, .is undef, .is undef, .is undef, .is undef, .is (Value.bool true)] [some 10, some 11, some 12, some 13, some 14, some 15, some 16, some 17, some 18, some 19, some 20, some 21, some 22, some 23, some 24, some 25, some 26, some 27, some 28, some 29, some 30, some 31, some 32, some 33, some 34, some 35, some 36] (by kernel_rfl) (by kernel_rfl) (by kernel_rfl) (by kernel_rfl) [20, 21, 22, 23, 24, 25] (by kernel_rfl) (by intro p hp; simp only [List.mem_cons, List.not_mem_nil, or_false] at hp; rcases hp with rfl | rfl | rfl | rfl | rfl | rfl <;> rfl) (by kernel_rfl) (by kernel_rfl) ?hstep ?hdone
          case hstep =>
            intro i o ho hi hns E w4 hb4 D
            have hi2 : i = 0 ∨ i = 1 ∨ i = 2 ∨ i = 3 ∨ i = 4 ∨ i = 5 ∨ i = 6 ∨ i = 7 ∨ i = 8 ∨ i = 9 ∨ i = 10 ∨ i = 11 ∨ i = 12 ∨ i = 13 ∨ i = 14 ∨ i = 15 ∨ i = 16 ∨ i = 17 ∨ i = 18 ∨ i = 19 ∨ i = 20 ∨ i = 21 ∨ i = 22 ∨ i = 23 ∨ i = 24 ∨ i = 25 ∨ i = 26 := by omega
            clear hi
            rcases hi2 with rfl | rfl | rfl | rfl | rfl | rfl | rfl | rfl | rfl | rfl | rfl | rfl | rfl | rfl | rfl | rfl | rfl | rfl | rfl | rfl | rfl | rfl | rfl | rfl | rfl | rfl | rfl
            ·
              have ho2 := (Array.getElem?_eq_some_iff.1 ho).2
              simp only [List.getElem_toArray, List.getElem_cons_zero] at ho2
              subst ho2
              clear ho
              have e0 := D.old 0 (by kernel_rfl)
              exact wk.does_move rfl (by rw [e0]; rfl)
            ·
              have ho2 := (Array.getElem?_eq_some_iff.1 ho).2
              simp only [List.getElem_toArray, List.getElem_cons_succ, List.getElem_cons_zero] at ho2
              subst ho2
              clear ho
              have e3 := D.old 3 (by kernel_rfl)
              exact wk.does_move rfl (by rw [e3]; rfl)
            ·
              have ho2 := (Array.getElem?_eq_some_iff.1 ho).2
              simp only [List.getElem_toArray, List.getElem_cons_succ, List.getElem_cons_zero] at ho2
              subst ho2
              clear ho
              have e10 := D.is { on := 0, ground := .data } (by simp) rfl rfl 10 rfl
              have e11 := D.is { on := 1, ground := .data } (by simp) rfl rfl 11 rfl
              exact wk.does_run (by simp only [execOp]; rw [show E (.tmp 10) = _ from e10, show E (.tmp 11) = _ from e11]; go_simp) rfl
            ·
              have ho2 := (Array.getElem?_eq_some_iff.1 ho).2
              simp only [List.getElem_toArray, List.getElem_cons_succ, List.getElem_cons_zero] at ho2
              subst ho2
              clear ho
              have e12 := D.is { on := 2, ground := .data } (by simp) rfl rfl 12 rfl
              exact wk.does_run (by simp only [execOp]; rw [show E (.tmp 12) = _ from e12]; go_simp) rfl
            ·
              have ho2 := (Array.getElem?_eq_some_iff.1 ho).2
              simp only [List.getElem_toArray, List.getElem_cons_succ, List.getElem_cons_zero] at ho2
              subst ho2
              clear ho
              have e13 := D.is { on := 3, ground := .data } (by simp) rfl rfl 13 rfl
              exact wk.does_load1 rfl e13 ((((Below.refl _ _).drew.trans hb4).cell (p := ⟨b, o + k * 2, none⟩) hb).trans hc0) Try.underlying3 rfl rfl
            ·
              have ho2 := (Array.getElem?_eq_some_iff.1 ho).2
              simp only [List.getElem_toArray, List.getElem_cons_succ, List.getElem_cons_zero] at ho2
              subst ho2
              clear ho
              have e14 := D.is { on := 4, ground := .data } (by simp) rfl rfl 14 rfl
              exact wk.does_run (by simp only [execOp]; rw [show E (.tmp 14) = _ from e14, show E (.const (.int .i64 0)) = .int .i64 0 from D.con _]; go_simp; try (simp; omega)) rfl
            ·
              have ho2 := (Array.getElem?_eq_some_iff.1 ho).2
              simp only [List.getElem_toArray, List.getElem_cons_succ, List.getElem_cons_zero] at ho2
              subst ho2
              clear ho
              have e15 := D.is { on := 5, ground := .data } (by simp) rfl rfl 15 rfl
              exact wk.does_move rfl e15
            ·
              have ho2 := (Array.getElem?_eq_some_iff.1 ho).2
              simp only [List.getElem_toArray, List.getElem_cons_succ, List.getElem_cons_zero] at ho2
              subst ho2
              clear ho
              have e0 := D.old 0 (by kernel_rfl)
              exact wk.does_move rfl (by rw [e0]; rfl)
            ·
              have ho2 := (Array.getElem?_eq_some_iff.1 ho).2
              simp only [List.getElem_toArray, List.getElem_cons_succ, List.getElem_cons_zero] at ho2
              subst ho2
              clear ho
              have e3 := D.old 3 (by kernel_rfl)
              exact wk.does_move rfl (by rw [e3]; rfl)
            ·
              have ho2 := (Array.getElem?_eq_some_iff.1 ho).2
              simp only [List.getElem_toArray, List.getElem_cons_succ, List.getElem_cons_zero] at ho2
              subst ho2
              clear ho
              have e17 := D.is { on := 7, ground := .data } (by simp) rfl rfl 17 rfl
              have e18 := D.is { on := 8, ground := .data } (by simp) rfl rfl 18 rfl
              exact wk.does_run (by simp only [execOp]; rw [show E (.tmp 17) = _ from e17, show E (.tmp 18) = _ from e18]; go_simp) rfl
            ·
              have ho2 := (Array.getElem?_eq_some_iff.1 ho).2
              simp only [List.getElem_toArray, List.getElem_cons_succ, List.getElem_cons_zero] at ho2
              subst ho2
              clear ho
              have e19 := D.is { on := 9, ground := .data } (by simp) rfl rfl 19 rfl
              exact wk.does_run (by simp only [execOp]; rw [show E (.tmp 19) = _ from e19]; go_simp) rfl
            ·
              have ho2 := (Array.getElem?_eq_some_iff.1 ho).2
              simp only [List.getElem_toArray, List.getElem_cons_succ, List.getElem_cons_zero] at ho2
              subst ho2
              clear ho
              have e20 := D.is { on := 10, ground := .data } (by simp) rfl rfl 20 rfl
              exact wk.does_load1 rfl e20 ((((Below.refl _ _).drew.trans hb4).cell (p := ⟨b, o + k * 2, none⟩) hb).trans hc0) Try.underlying3 rfl rfl
            ·
              have ho2 := (Array.getElem?_eq_some_iff.1 ho).2
              simp only [List.getElem_toArray, List.getElem_cons_succ, List.getElem_cons_zero] at ho2
              subst ho2
              clear ho
              have e0 := D.old 0 (by kernel_rfl)
              exact wk.does_move rfl (by rw [e0]; rfl)
            ·
              have ho2 := (Array.getElem?_eq_some_iff.1 ho).2
              simp only [List.getElem_toArray, List.getElem_cons_succ, List.getElem_cons_zero] at ho2
              subst ho2
              clear ho
              have e3 := D.old 3 (by kernel_rfl)
              exact wk.does_move rfl (by rw [e3]; rfl)
            ·
              have ho2 := (Array.getElem?_eq_some_iff.1 ho).2
              simp only [List.getElem_toArray, List.getElem_cons_succ, List.getElem_cons_zero] at ho2
              subst ho2
              clear ho
              have e22 := D.is { on := 12, ground := .data } (by simp) rfl rfl 22 rfl
              have e23 := D.is { on := 13, ground := .data } (by simp) rfl rfl 23 rfl
              exact wk.does_run (by simp only [execOp]; rw [show E (.tmp 22) = _ from e22, show E (.tmp 23) = _ from e23]; go_simp) rfl
            ·
              have ho2 := (Array.getElem?_eq_some_iff.1 ho).2
              simp only [List.getElem_toArray, List.getElem_cons_succ, List.getElem_cons_zero] at ho2
              subst ho2
              clear ho
              have e24 := D.is { on := 14, ground := .data } (by simp) rfl rfl 24 rfl
              exact wk.does_run (by simp only [execOp]; rw [show E (.tmp 24) = _ from e24]; go_simp) rfl
            ·
              have ho2 := (Array.getElem?_eq_some_iff.1 ho).2
              simp only [List.getElem_toArray, List.getElem_cons_succ, List.getElem_cons_zero] at ho2
              subst ho2
              clear ho
              have e25 := D.is { on := 15, ground := .data } (by simp) rfl rfl 25 rfl
              exact wk.does_load1 rfl e25 ((((Below.refl _ _).drew.trans hb4).cell (p := ⟨b, o + k * 2 + 1, none⟩) hb).trans hc1) Try.underlying3 rfl rfl
            ·
              have ho2 := (Array.getElem?_eq_some_iff.1 ho).2
              simp only [List.getElem_toArray, List.getElem_cons_succ, List.getElem_cons_zero] at ho2
              subst ho2
              clear ho
              have e21 := D.is { on := 11, ground := .data } (by simp) rfl rfl 21 rfl
              have e26 := D.is { on := 16, ground := .data } (by simp) rfl rfl 26 rfl
              exact wk.does_run (by simp only [execOp]; rw [show E (.tmp 21) = _ from e21, show E (.tmp 26) = _ from e26]; go_simp; try (simp; omega)) rfl
            ·
              have ho2 := (Array.getElem?_eq_some_iff.1 ho).2
              simp only [List.getElem_toArray, List.getElem_cons_succ, List.getElem_cons_zero] at ho2
              subst ho2
              clear ho
              have e16 := D.is { on := 6, ground := .data } (by simp) rfl rfl 16 rfl
              have e27 := D.is { on := 17, ground := .data } (by simp) rfl rfl 27 rfl
              exact wk.does_pick rfl e16 e27
            ·
              have ho2 := (Array.getElem?_eq_some_iff.1 ho).2
              simp only [List.getElem_toArray, List.getElem_cons_succ, List.getElem_cons_zero] at ho2
              subst ho2
              clear ho
              have e28 := D.is { on := 18, ground := .data } (by simp) rfl rfl 28 rfl
              exact wk.does_move rfl e28
            · cases (show false = true from hns.symm.trans (by kernel_rfl))
            · cases (show false = true from hns.symm.trans (by kernel_rfl))
            · cases (show false = true from hns.symm.trans (by kernel_rfl))
            · cases (show false = true from hns.symm.trans (by kernel_rfl))
            · cases (show false = true from hns.symm.trans (by kernel_rfl))
            · cases (show false = true from hns.symm.trans (by kernel_rfl))
            ·
              have ho2 := (Array.getElem?_eq_some_iff.1 ho).2
              simp only [List.getElem_toArray, List.getElem_cons_succ, List.getElem_cons_zero] at ho2
              subst ho2
              clear ho
              have e29 := D.is { on := 19, ground := .data } (by simp) rfl rfl 29 rfl
              have e35 := D.is { on := 25, ground := .data } (by simp) rfl rfl 35 rfl
              exact wk.does_pick rfl e29 (D.con _)
          case hdone =>
            intro vals w4 hb4 hv
            have h26 := hv 26 (by omega)
            clear hv
            replace h26 : vals 26 = (Value.bool true) := h26
            simp only [List.drop_succ_cons, List.drop_zero, wpList, wk.setL, List.setIfInBounds_toArray, List.set_cons_zero, List.set_cons_succ, Nat.zero_add, Nat.reduceAdd, h26]
            generalize vals 0 = x0
            generalize vals 1 = x1
            generalize vals 2 = x2
            generalize vals 3 = x3
            generalize vals 4 = x4
            generalize vals 5 = x5
            generalize vals 6 = x6
            generalize vals 7 = x7
            generalize vals 8 = x8
            generalize vals 9 = x9
            generalize vals 10 = x10
            generalize vals 11 = x11
            generalize vals 12 = x12
            generalize vals 13 = x13
            generalize vals 14 = x14
            generalize vals 15 = x15
            generalize vals 16 = x16
            generalize vals 17 = x17
            generalize vals 18 = x18
            generalize vals 19 = x19
            generalize vals 20 = x20
            generalize vals 21 = x21
            generalize vals 22 = x22
            generalize vals 23 = x23
            generalize vals 24 = x24
            generalize vals 25 = x25
            have hb5 : Below wr.heap.size wr w4 := (Below.refl _ _).drew.trans hb4
            have HB5 := Lib.hid (HBEL.out.trans (hb5.mono HBEL.out.size))
            clear hb4 hb5
            go_wp2_with fail
            go_ret
            exact ⟨by rw [HE.out, all_no HMEM.out (by rw [HSK.out]; simp; omega), Bool.and_false]; rfl, HB5.out⟩
        · obtain ⟨vb, hvb⟩ : ∃ vb, decide (134217728 < s2) = vb := ⟨_, rfl⟩
          have HVB := Lib.hid hvb
          clear hvb
          go_wp2_with fail
          refine wk.region_tailS 27 [.is (.slice (some ⟨b, o, none⟩) n c), .is (.int .i64 (k : Int)), .is (.pointer (some ⟨b, o + k * 2, none⟩)), .is (.pointer (some ⟨b, o + k * 2, none⟩)), .is (.int .i64 s1), .is (.bool false), .is (.bool false), .is (.slice (some ⟨b, o, none⟩) n c), .is (.int .i64 (k : Int)), .is (.pointer (some ⟨b, o + k * 2, none⟩)), .is (.pointer (some ⟨b, o + k * 2, none⟩)), .is (.int .i64 s1), .is (.slice (some ⟨b, o, none⟩) n c), .is (.int .i64 (k : Int)), .is (.pointer (some ⟨b, o + k * 2, none⟩)), .is (.pointer (some ⟨b, o + k * 2 + 1, none⟩)), .is (.int .i64 s2), .is (.bool false), .is (.bool false), .is (.bool false), .is (.slice (some ⟨b, o, none⟩) n c), .is (.int .i64 (k : Int)), .is (.pointer (some ⟨b, o + k * 2, none⟩)), .is (.pointer (some ⟨b, o + k * 2 + 1, none⟩)), .is (.int .i64 s2), .is (.bool vb), .is (.bool vb)] [some 10, some 11, some 12, some 13, some 14, some 15, some 16, some 17, some 18, some 19, some 20, some 21, some 22, some 23, some 24, some 25, some 26, some 27, some 28, some 29, some 30, some 31, some 32, some 33, some 34, some 35, some 36] (by kernel_rfl) (by kernel_rfl) (by kernel_rfl) (by kernel_rfl) [] (by kernel_rfl) (by intro p hp; cases hp) (by kernel_rfl) (by kernel_rfl) ?hstep ?hdone
          case hstep =>
            intro i o ho hi hns E w4 hb4 D
            have hi2 : i = 0 ∨ i = 1 ∨ i = 2 ∨ i = 3 ∨ i = 4 ∨ i = 5 ∨ i = 6 ∨ i = 7 ∨ i = 8 ∨ i = 9 ∨ i = 10 ∨ i = 11 ∨ i = 12 ∨ i = 13 ∨ i = 14 ∨ i = 15 ∨ i = 16 ∨ i = 17 ∨ i = 18 ∨ i = 19 ∨ i = 20 ∨ i = 21 ∨ i = 22 ∨ i = 23 ∨ i = 24 ∨ i = 25 ∨ i = 26 := by omega
            clear hi
            rcases hi2 with rfl | rfl | rfl | rfl | rfl | rfl | rfl | rfl | rfl | rfl | rfl | rfl | rfl | rfl | rfl | rfl | rfl | rfl | rfl | rfl | rfl | rfl | rfl | rfl | rfl | rfl | rfl
            ·
              have ho2 := (Array.getElem?_eq_some_iff.1 ho).2
              simp only [List.getElem_toArray, List.getElem_cons_zero] at ho2
              subst ho2
              clear ho
              have e0 := D.old 0 (by kernel_rfl)
              exact wk.does_move rfl (by rw [e0]; rfl)
            ·
              have ho2 := (Array.getElem?_eq_some_iff.1 ho).2
              simp only [List.getElem_toArray, List.getElem_cons_succ, List.getElem_cons_zero] at ho2
              subst ho2
              clear ho
              have e3 := D.old 3 (by kernel_rfl)
              exact wk.does_move rfl (by rw [e3]; rfl)
            ·
              have ho2 := (Array.getElem?_eq_some_iff.1 ho).2
              simp only [List.getElem_toArray, List.getElem_cons_succ, List.getElem_cons_zero] at ho2
              subst ho2
              clear ho
              have e10 := D.is { on := 0, ground := .data } (by simp) rfl rfl 10 rfl
              have e11 := D.is { on := 1, ground := .data } (by simp) rfl rfl 11 rfl
              exact wk.does_run (by simp only [execOp]; rw [show E (.tmp 10) = _ from e10, show E (.tmp 11) = _ from e11]; go_simp) rfl
            ·
              have ho2 := (Array.getElem?_eq_some_iff.1 ho).2
              simp only [List.getElem_toArray, List.getElem_cons_succ, List.getElem_cons_zero] at ho2
              subst ho2
              clear ho
              have e12 := D.is { on := 2, ground := .data } (by simp) rfl rfl 12 rfl
              exact wk.does_run (by simp only [execOp]; rw [show E (.tmp 12) = _ from e12]; go_simp) rfl
            ·
              have ho2 := (Array.getElem?_eq_some_iff.1 ho).2
              simp only [List.getElem_toArray, List.getElem_cons_succ, List.getElem_cons_zero] at ho2
              subst ho2
              clear ho
              have e13 := D.is { on := 3, ground := .data } (by simp) rfl rfl 13 rfl
              exact wk.does_load1 rfl e13 ((((Below.refl _ _).drew.trans hb4).cell (p := ⟨b, o + k * 2, none⟩) hb).trans hc0) Try.underlying3 rfl rfl
            ·
              have ho2 := (Array.getElem?_eq_some_iff.1 ho).2
              simp only [List.getElem_toArray, List.getElem_cons_succ, List.getElem_cons_zero] at ho2
              subst ho2
              clear ho
              have e14 := D.is { on := 4, ground := .data } (by simp) rfl rfl 14 rfl
              exact wk.does_run (by simp only [execOp]; rw [show E (.tmp 14) = _ from e14, show E (.const (.int .i64 0)) = .int .i64 0 from D.con _]; go_simp; try (simp; omega)) rfl
            ·
              have ho2 := (Array.getElem?_eq_some_iff.1 ho).2
              simp only [List.getElem_toArray, List.getElem_cons_succ, List.getElem_cons_zero] at ho2
              subst ho2
              clear ho
              have e15 := D.is { on := 5, ground := .data } (by simp) rfl rfl 15 rfl
              exact wk.does_move rfl e15
            ·
              have ho2 := (Array.getElem?_eq_some_iff.1 ho).2
              simp only [List.getElem_toArray, List.getElem_cons_succ, List.getElem_cons_zero] at ho2
              subst ho2
              clear ho
              have e0 := D.old 0 (by kernel_rfl)
              exact wk.does_move rfl (by rw [e0]; rfl)
            ·
              have ho2 := (Array.getElem?_eq_some_iff.1 ho).2
              simp only [List.getElem_toArray, List.getElem_cons_succ, List.getElem_cons_zero] at ho2
              subst ho2
              clear ho
              have e3 := D.old 3 (by kernel_rfl)
              exact wk.does_move rfl (by rw [e3]; rfl)
            ·
              have ho2 := (Array.getElem?_eq_some_iff.1 ho).2
              simp only [List.getElem_toArray, List.getElem_cons_succ, List.getElem_cons_zero] at ho2
              subst ho2
              clear ho
              have e17 := D.is { on := 7, ground := .data } (by simp) rfl rfl 17 rfl
              have e18 := D.is { on := 8, ground := .data } (by simp) rfl rfl 18 rfl
              exact wk.does_run (by simp only [execOp]; rw [show E (.tmp 17) = _ from e17, show E (.tmp 18) = _ from e18]; go_simp) rfl
            ·
              have ho2 := (Array.getElem?_eq_some_iff.1 ho).2
              simp only [List.getElem_toArray, List.getElem_cons_succ, List.getElem_cons_zero] at ho2
              subst ho2
              clear ho
              have e19 := D.is { on := 9, ground := .data } (by simp) rfl rfl 19 rfl
              exact wk.does_run (by simp only [execOp]; rw [show E (.tmp 19) = _ from e19]; go_simp) rfl
            ·
              have ho2 := (Array.getElem?_eq_some_iff.1 ho).2
              simp only [List.getElem_toArray, List.getElem_cons_succ, List.getElem_cons_zero] at ho2
              subst ho2
              clear ho
              have e20 := D.is { on := 10, ground := .data } (by simp) rfl rfl 20 rfl
              exact wk.does_load1 rfl e20 ((((Below.refl _ _).drew.trans hb4).cell (p := ⟨b, o + k * 2, none⟩) hb).trans hc0) Try.underlying3 rfl rfl
            ·
              have ho2 := (Array.getElem?_eq_some_iff.1 ho).2
              simp only [List.getElem_toArray, List.getElem_cons_succ, List.getElem_cons_zero] at ho2
              subst ho2
              clear ho
              have e0 := D.old 0 (by kernel_rfl)
              exact wk.does_move rfl (by rw [e0]; rfl)
            ·
              have ho2 := (Array.getElem?_eq_some_iff.1 ho).2
              simp only [List.getElem_toArray, List.getElem_cons_succ, List.getElem_cons_zero] at ho2
              subst ho2
              clear ho
              have e3 := D.old 3 (by kernel_rfl)
              exact wk.does_move rfl (by rw [e3]; rfl)
            ·
              have ho2 := (Array.getElem?_eq_some_iff.1 ho).2
              simp only [List.getElem_toArray, List.getElem_cons_succ, List.getElem_cons_zero] at ho2
              subst ho2
              clear ho
              have e22 := D.is { on := 12, ground := .data } (by simp) rfl rfl 22 rfl
              have e23 := D.is { on := 13, ground := .data } (by simp) rfl rfl 23 rfl
              exact wk.does_run (by simp only [execOp]; rw [show E (.tmp 22) = _ from e22, show E (.tmp 23) = _ from e23]; go_simp) rfl
            ·
              have ho2 := (Array.getElem?_eq_some_iff.1 ho).2
              simp only [List.getElem_toArray, List.getElem_cons_succ, List.getElem_cons_zero] at ho2
              subst ho2
              clear ho
              have e24 := D.is { on := 14, ground := .data } (by simp) rfl rfl 24 rfl
              exact wk.does_run (by simp only [execOp]; rw [show E (.tmp 24) = _ from e24]; go_simp) rfl
            ·
              have ho2 := (Array.getElem?_eq_some_iff.1 ho).2
              simp only [List.getElem_toArray, List.getElem_cons_succ, List.getElem_cons_zero] at ho2
              subst ho2
              clear ho
              have e25 := D.is { on := 15, ground := .data } (by simp) rfl rfl 25 rfl
              exact wk.does_load1 rfl e25 ((((Below.refl _ _).drew.trans hb4).cell (p := ⟨b, o + k * 2 + 1, none⟩) hb).trans hc1) Try.underlying3 rfl rfl
            ·
              have ho2 := (Array.getElem?_eq_some_iff.1 ho).2
              simp only [List.getElem_toArray, List.getElem_cons_succ, List.getElem_cons_zero] at ho2
              subst ho2
              clear ho
              have e21 := D.is { on := 11, ground := .data } (by simp) rfl rfl 21 rfl
              have e26 := D.is { on := 16, ground := .data } (by simp) rfl rfl 26 rfl
              exact wk.does_run (by simp only [execOp]; rw [show E (.tmp 21) = _ from e21, show E (.tmp 26) = _ from e26]; go_simp; try (simp; omega)) rfl
            ·
              have ho2 := (Array.getElem?_eq_some_iff.1 ho).2
              simp only [List.getElem_toArray, List.getElem_cons_succ, List.getElem_cons_zero] at ho2
              subst ho2
              clear ho
              have e16 := D.is { on := 6, ground := .data } (by simp) rfl rfl 16 rfl
              have e27 := D.is { on := 17, ground := .data } (by simp) rfl rfl 27 rfl
              exact wk.does_pick rfl e16 e27
            ·
              have ho2 := (Array.getElem?_eq_some_iff.1 ho).2
              simp only [List.getElem_toArray, List.getElem_cons_succ, List.getElem_cons_zero] at ho2
              subst ho2
              clear ho
              have e28 := D.is { on := 18, ground := .data } (by simp) rfl rfl 28 rfl
              exact wk.does_move rfl e28
            ·
              have ho2 := (Array.getElem?_eq_some_iff.1 ho).2
              simp only [List.getElem_toArray, List.getElem_cons_succ, List.getElem_cons_zero] at ho2
              subst ho2
              clear ho
              have e0 := D.old 0 (by kernel_rfl)
              exact wk.does_move rfl (by rw [e0]; rfl)
            ·
              have ho2 := (Array.getElem?_eq_some_iff.1 ho).2
              simp only [List.getElem_toArray, List.getElem_cons_succ, List.getElem_cons_zero] at ho2
              subst ho2
              clear ho
              have e3 := D.old 3 (by kernel_rfl)
              exact wk.does_move rfl (by rw [e3]; rfl)
            ·
              have ho2 := (Array.getElem?_eq_some_iff.1 ho).2
              simp only [List.getElem_toArray, List.getElem_cons_succ, List.getElem_cons_zero] at ho2
              subst ho2
              clear ho
              have e30 := D.is { on := 20, ground := .data } (by simp) rfl rfl 30 rfl
              have e31 := D.is { on := 21, ground := .data } (by simp) rfl rfl 31 rfl
              exact wk.does_run (by simp only [execOp]; rw [show E (.tmp 30) = _ from e30, show E (.tmp 31) = _ from e31]; go_simp) rfl
            ·
              have ho2 := (Array.getElem?_eq_some_iff.1 ho).2
              simp only [List.getElem_toArray, List.getElem_cons_succ, List.getElem_cons_zero] at ho2
              subst ho2
              clear ho
              have e32 := D.is { on := 22, ground := .data } (by simp) rfl rfl 32 rfl
              exact wk.does_run (by simp only [execOp]; rw [show E (.tmp 32) = _ from e32]; go_simp) rfl
            ·
              have ho2 := (Array.getElem?_eq_some_iff.1 ho).2
              simp only [List.getElem_toArray, List.getElem_cons_succ, List.getElem_cons_zero] at ho2
              subst ho2
              clear ho
              have e33 := D.is { on := 23, ground := .data } (by simp) rfl rfl 33 rfl
              exact wk.does_load1 rfl e33 ((((Below.refl _ _).drew.trans hb4).cell (p := ⟨b, o + k * 2 + 1, none⟩) hb).trans hc1) Try.underlying3 rfl rfl
            ·
              have ho2 := (Array.getElem?_eq_some_iff.1 ho).2
              simp only [List.getElem_toArray, List.getElem_cons_succ, List.getElem_cons_zero] at ho2
              subst ho2
              clear ho
              have e34 := D.is { on := 24, ground := .data } (by simp) rfl rfl 34 rfl
              exact wk.does_run (by simp only [execOp]; rw [show E (.tmp 34) = _ from e34, show E (.const (.int .i64 134217728)) = .int .i64 134217728 from D.con _]; go_simp; try rw [HVB.out]) rfl
            ·
              have ho2 := (Array.getElem?_eq_some_iff.1 ho).2
              simp only [List.getElem_toArray, List.getElem_cons_succ, List.getElem_cons_zero] at ho2
              subst ho2
              clear ho
              have e29 := D.is { on := 19, ground := .data } (by simp) rfl rfl 29 rfl
              have e35 := D.is { on := 25, ground := .data } (by simp) rfl rfl 35 rfl
              exact wk.does_pick rfl e29 e35
          case hdone =>
            intro vals w4 hb4 hv
            have h26 := hv 26 (by omega)
            clear hv
            replace h26 : vals 26 = (.bool vb) := h26
            simp only [List.drop_succ_cons, List.drop_zero, wpList, wk.setL, List.setIfInBounds_toArray, List.set_cons_zero, List.set_cons_succ, Nat.zero_add, Nat.reduceAdd, h26]
            generalize vals 0 = x0
            generalize vals 1 = x1
            generalize vals 2 = x2
            generalize vals 3 = x3
            generalize vals 4 = x4
            generalize vals 5 = x5
            generalize vals 6 = x6
            generalize vals 7 = x7
            generalize vals 8 = x8
            generalize vals 9 = x9
            generalize vals 10 = x10
            generalize vals 11 = x11
            generalize vals 12 = x12
            generalize vals 13 = x13
            generalize vals 14 = x14
            generalize vals 15 = x15
            generalize vals 16 = x16
            generalize vals 17 = x17
            generalize vals 18 = x18
            generalize vals 19 = x19
            generalize vals 20 = x20
            generalize vals 21 = x21
            generalize vals 22 = x22
            generalize vals 23 = x23
            generalize vals 24 = x24
            generalize vals 25 = x25
            have hb5 : Below wr.heap.size wr w4 := (Below.refl _ _).drew.trans hb4
            have HB5 := Lib.hid (HBEL.out.trans (hb5.mono HBEL.out.size))
            clear hb4 hb5
            cases vb
            · have h3 : ¬ 134217728 < s2 := by have := HVB.out; simpa using this
              go_wp2_with fail
              go_roundg (gk - 1)
              case measure => have := HK.out; omega
              case rel => exact ⟨k + 1, by have := HK.out; omega, by go_num, HB5.out, by rw [HTA.out, HALL.out, HSK.out]; simp; omega⟩
            · have h3 : 134217728 < s2 := by have := HVB.out; simpa using this
              go_wp2_with fail
              go_ret
              exact ⟨by rw [HE.out, all_no HMEM.out (by rw [HSK.out]; simp; omega), Bool.and_false]; rfl, HB5.out⟩
    · obtain rfl : k = n := by omega
      have ho := HALL.out
      rw [List.take_of_length_le (by have := H.out.1; omega)] at ho
      have HO := Lib.hid ho
      clear ho hbel
      by_cases h8 : k ≤ 8
      · have h8' : (k : Int) ≤ 8 := by omega
        go_wp2_with fail
        go_ret
        exact ⟨by rw [HE.out, HO.out, decide_eq_true h8]; first | rfl | (simp; try omega), HBEL.out⟩
      · have h8' : ¬ (k : Int) ≤ 8 := by omega
        go_wp2_with fail
        go_ret
        exact ⟨by rw [HE.out, decide_eq_false h8]; first | rfl | (simp; try omega), HBEL.out⟩
end Go.Proofs.Yteeianandjokaaa.pk
/- The reference: Join. -/
namespace Go.Proofs.Yteeianandjokaaa.pk

open Go.ChangeShapes Go.WideShapes Go.ChangeAt Go.RowKit

open Go.Proofs.Yteeianandjokaaa.pq Go.Proofs.Yteeianandjokaaa.cq Go.Proofs.Yteeianandjokaaa.vk Go.Proofs.Yteeianandjokaaa.bk Go.Proofs.Yteeianandjokaaa.wk Go.Proofs.Yteeianandjokaaa.uk

set_option linter.unusedVariables false
abbrev MD : TypeId := 54
theorem jok_eq (a b : List Sh) : jok a b = (svalid a && (svalid b && decide (a.length = b.length))) := by
  unfold jok; cases svalid a <;> cases svalid b <;> simp
theorem isS_own_sq {w : World} {B B' n : Nat} {es : List TypeId} {v : Value} {l : List Sh} (h : w.ownsRow B' 65 2 v n (fl l)) (hB : B ≤ B') (hb : ∀ r ∈ l, Wd r) (he : 65 ∉ es) : ∃ A c, v = .slice A n c ∧ Sq B es (fun w' => IsS w' A n c l) w := by
  obtain ⟨A, c, rfl⟩ := own_slice h
  refine ⟨A, c, rfl, (own_sq h hB he).imp fun w' h' => ?_⟩
  obtain ⟨A', c', e, hI⟩ := isS_of_own h' hb
  cases e
  exact hI
set_option maxRecDepth 100000 in
set_option maxHeartbeats 4000000 in
theorem rjoin_calls {a b' : List Sh} {n c n' c' : Nat} {A A' : Option Addr} (w : World) (h : IsS w A n c a) (h' : IsS w A' n' c' b') :
    Calls Try.prog 26 #[.slice A n c, .slice A' n' c'] w fun e w' => ∃ A2 n2 c2, e = .returned (.agg #[.slice A2 n2 c2, okE (jok a b')]) ∧ IsS w' A2 n2 c2 (if jok a b' then joins a b' else []) ∧ Below w.heap.size w w' := by
  have hm := h.2.2.1
  have hnc := h.2.1
  have hm' := h'.2.2.1
  have hnc' := h'.2.1
  have hbR := below_new w (.cells #[.slice none 0 0, .int .i64 0] MD)
  have HR := Lib.hid (Rw.new w MD #[.slice none 0 0, .int .i64 0])
  have HBR := Lib.hid hbR
  have HV := Lib.hid (rsvalid_calls _ (isS_below h hbR))
  have HV' := Lib.hid (fun w' (hb : Below w.heap.size w w') => rsvalid_calls w' (isS_below h' hb))
  unfold okE
  rw [jok_eq, h.1, h'.1]
  cases hva : svalid a
  · rw [hva] at HV
    rw [Bool.false_and]
    clear h h' hbR
    go_enter Try.func26, Try.ntmps26
    go_wp2_with fail
    refine HV.out.mono ?_
    rintro e w1 ⟨rfl, hb1⟩
    have hR1 := HR.out.below hb1
    have hB1 := Below.andThen HBR.out hb1
    clear hb1
    have hd0 := hR1.c (j := 0) rfl
    have hd1 := hR1.c (j := 1) rfl
    have hf0 := hR1.f 0
    have hf1 := hR1.f 1
    have HBF := Lib.hid (below_two hB1 (Nat.le_refl _) (.slice none 0 0) (.int .i64 1))
    have HTF := Lib.hid (hR1.set2 (.slice none 0 0) (.int .i64 1))
    clear hR1 hB1
    go_wp2_with fail
    exact bodyPost_ret (v := .agg #[.slice none 0 0, .int .i64 1]) (results_cell_row (fn := Try.f26) rfl _ _ w.heap.size MD #[.slice none 0 0, .int .i64 1] (0, 0) _ rfl HTF.out Try.underlying54 rfl (by kernel_rfl)) rfl ⟨_, _, _, rfl, isS_nil _, HBF.out⟩
  · rw [hva] at HV
    rw [Bool.true_and]
    cases hvb : svalid b'
    · rw [hvb] at HV'
      rw [Bool.false_and]
      clear h h' hbR
      go_enter Try.func26, Try.ntmps26
      go_wp2_with fail
      refine HV.out.mono ?_
      rintro e w1 ⟨rfl, hb1⟩
      have HR1 := Lib.hid (HR.out.below hb1)
      have HB1 := Lib.hid (Below.andThen HBR.out hb1)
      clear hb1
      go_wp2_with fail
      refine (HV'.out _ HB1.out).mono ?_
      rintro e w2 ⟨rfl, hb2⟩
      have hR1 := HR1.out.below hb2
      have hB1 := Below.andThen HB1.out hb2
      clear hb2
      have hd0 := hR1.c (j := 0) rfl
      have hd1 := hR1.c (j := 1) rfl
      have hf0 := hR1.f 0
      have hf1 := hR1.f 1
      have HBF := Lib.hid (below_two hB1 (Nat.le_refl _) (.slice none 0 0) (.int .i64 1))
      have HTF := Lib.hid (hR1.set2 (.slice none 0 0) (.int .i64 1))
      clear hR1 hB1
      go_wp2_with fail
      exact bodyPost_ret (v := .agg #[.slice none 0 0, .int .i64 1]) (results_cell_row (fn := Try.f26) rfl _ _ w.heap.size MD #[.slice none 0 0, .int .i64 1] (0, 0) _ rfl HTF.out Try.underlying54 rfl (by kernel_rfl)) rfl ⟨_, _, _, rfl, isS_nil _, HBF.out⟩
    · rw [hvb] at HV'
      rw [Bool.true_and]
      by_cases hnn : n = n'
      · subst hnn
        rw [decide_eq_true rfl, if_pos rfl, if_pos rfl]
        have HAL : Hid ((joins a b').length = n) := by show _ = _; rw [joins_len (by rw [h.1, h'.1]), h.1]
        have HWD := Lib.hid (joins_wd hva hvb)
        have hn8 : n ≤ 8 := by rw [← h.1]; exact svalid_len hva
        have H := Lib.hid h
        have H' := Lib.hid h'
        obtain ⟨i0, hi, hz0, hz1, hz2⟩ := info_parts infoSh
        clear h h' hbR
        go_enter Try.func26, Try.ntmps26
        go_wp2_with fail
        refine HV.out.mono ?_
        rintro e w1 ⟨rfl, hb1⟩
        have HR1 := Lib.hid (HR.out.below hb1)
        have HB1 := Lib.hid (Below.andThen HBR.out hb1)
        clear hb1
        go_wp2_with fail
        refine (HV'.out _ HB1.out).mono ?_
        rintro e w2 ⟨rfl, hb2⟩
        have HR2 := Lib.hid (HR1.out.below hb2)
        have HB2 := Lib.hid (Below.andThen HB1.out hb2)
        have H2 := Lib.hid (isS_below H.out HB2.out)
        have H2' := Lib.hid (isS_below H'.out HB2.out)
        have HLT2 : Hid (w.heap.size < w2.heap.size) := HR2.out.lt
        clear hb2
        go_wp2_with fail
        go_loopg [5, 6] n (fun gk v x wr => ∃ (k : Nat) (v0 : Value), k + gk = n ∧ v0 = v ∧ x = .int .i64 (k : Int) ∧ wr.ownsRow w2.heap.size 65 2 v0 k (fl ((joins a b').take k)) ∧ Below w2.heap.size w2 wr)
        case atStart => exact ⟨0, _, by omega, rfl, rfl, by simpa [fl] using World.ownsRow_nil _ _ _ _, Below.refl _ _⟩
        case round =>
          obtain ⟨k, v0, hk, hv0, rfl, hown, hbel⟩ := hrel
          subst hv0
          have HK := Lib.hid hk
          have HOWN2 := Lib.hid hown
          have HBEL := Lib.hid hbel
          have HBW : Hid (w2.heap.size ≤ wr.heap.size) := hbel.size
          have hkn : k ≤ n := by omega
          by_cases hlt : k < n
          · obtain ⟨b, o, ⟨s1, s2⟩, rfl, hx1, hx2, hb1, hX, hwx⟩ := isS_get (isS_below H2.out hbel) hlt
            obtain ⟨b2, o2, ⟨y1, y2⟩, rfl, hy1, hy2, hb2, hY, hwy⟩ := isS_get (isS_below H2'.out hbel) hlt
            dsimp only at hx1 hx2 hy1 hy2
            have hlt0 : (k : Int) < (n : Int) := by omega
            have HS : Hid ((joins a b').take (k + 1) = (joins a b').take k ++ [(min s1 y1, max s2 y2)]) := by
              show _ = _
              rw [List.take_add_one, joins_at hX hY]; rfl
            obtain ⟨mn, hmn⟩ : ∃ z, min s1 y1 = z := ⟨_, rfl⟩
            obtain ⟨mx, hmx⟩ : ∃ z, max s2 y2 = z := ⟨_, rfl⟩
            rw [hmn, hmx] at HS
            have HMN := Lib.hid hmn
            have HMX := Lib.hid hmx
            clear hmn hmx hX hY hwx hwy hown hbel hk
            go_wp2_with fail
            refine wk.region_tailK 25 [.is (v0), .is (.slice (some ⟨b, o, none⟩) n c), .is (.int .i64 (k : Int)), .is (.pointer (some ⟨b, o + k * 2, none⟩)), .is (.pointer (some ⟨b, o + k * 2, none⟩)), .is (.int .i64 s1), .is (.slice (some ⟨b2, o2, none⟩) n c'), .is (.int .i64 (k : Int)), .is (.pointer (some ⟨b2, o2 + k * 2, none⟩)), .is (.pointer (some ⟨b2, o2 + k * 2, none⟩)), .is (.int .i64 y1), .is (.int .i64 mn), .is (.slice (some ⟨b, o, none⟩) n c), .is (.int .i64 (k : Int)), .is (.pointer (some ⟨b, o + k * 2, none⟩)), .is (.pointer (some ⟨b, o + k * 2 + 1, none⟩)), .is (.int .i64 s2), .is (.slice (some ⟨b2, o2, none⟩) n c'), .is (.int .i64 (k : Int)), .is (.pointer (some ⟨b2, o2 + k * 2, none⟩)), .is (.pointer (some ⟨b2, o2 + k * 2 + 1, none⟩)), .is (.int .i64 y2), .is (.int .i64 mx), .is (.agg #[.int .i64 mn, .int .i64 mx]), .st (fun u x => ∃ g, x = .slice (some ⟨g, 0, none⟩) 1 1 ∧ RowS u g mn mx) (fun u u2 x h hb => by obtain ⟨g, h1, h2⟩ := h; exact ⟨g, h1, h2.below hb⟩)] [some 29, some 30, some 31, some 32, some 33, some 34, some 35, some 36, some 37, some 38, some 39, some 40, some 41, some 42, some 43, some 44, some 45, some 46, some 47, some 48, some 49, some 50, some 51, some 52, some 53] (by kernel_rfl) (by kernel_rfl) (by kernel_rfl) (by kernel_rfl) [] (by kernel_rfl) (by intro p hp; cases hp) (by kernel_rfl) (by kernel_rfl) ?hstep ?hdone
            case hstep =>
              intro i o ho hi hns E w4 hb4 D hold
              have hi2 : i = 0 ∨ i = 1 ∨ i = 2 ∨ i = 3 ∨ i = 4 ∨ i = 5 ∨ i = 6 ∨ i = 7 ∨ i = 8 ∨ i = 9 ∨ i = 10 ∨ i = 11 ∨ i = 12 ∨ i = 13 ∨ i = 14 ∨ i = 15 ∨ i = 16 ∨ i = 17 ∨ i = 18 ∨ i = 19 ∨ i = 20 ∨ i = 21 ∨ i = 22 ∨ i = 23 ∨ i = 24 := by omega
              clear hi
              rcases hi2 with rfl | rfl | rfl | rfl | rfl | rfl | rfl | rfl | rfl | rfl | rfl | rfl | rfl | rfl | rfl | rfl | rfl | rfl | rfl | rfl | rfl | rfl | rfl | rfl | rfl
              ·
                have ho2 := (Array.getElem?_eq_some_iff.1 ho).2
                simp only [List.getElem_toArray, List.getElem_cons_zero] at ho2
                subst ho2
                clear ho
                have e5 := hold 5 (by kernel_rfl)
                exact wk.does_move rfl (by rw [e5]; rfl)
              ·
                have ho2 := (Array.getElem?_eq_some_iff.1 ho).2
                simp only [List.getElem_toArray, List.getElem_cons_succ, List.getElem_cons_zero] at ho2
                subst ho2
                clear ho
                have e0 := D.old 0 (by kernel_rfl)
                exact wk.does_move rfl (by rw [e0]; rfl)
              ·
                have ho2 := (Array.getElem?_eq_some_iff.1 ho).2
                simp only [List.getElem_toArray, List.getElem_cons_succ, List.getElem_cons_zero] at ho2
                subst ho2
                clear ho
                have e6 := D.old 6 (by kernel_rfl)
                exact wk.does_move rfl (by rw [e6]; rfl)
              ·
                have ho2 := (Array.getElem?_eq_some_iff.1 ho).2
                simp only [List.getElem_toArray, List.getElem_cons_succ, List.getElem_cons_zero] at ho2
                subst ho2
                clear ho
                have e30 := D.is { on := 1, ground := .data } (by simp) rfl rfl 30 rfl
                have e31 := D.is { on := 2, ground := .data } (by simp) rfl rfl 31 rfl
                exact wk.does_run (by simp only [execOp]; rw [show E (.tmp 30) = _ from e30, show E (.tmp 31) = _ from e31]; go_simp) rfl
              ·
                have ho2 := (Array.getElem?_eq_some_iff.1 ho).2
                simp only [List.getElem_toArray, List.getElem_cons_succ, List.getElem_cons_zero] at ho2
                subst ho2
                clear ho
                have e32 := D.is { on := 3, ground := .data } (by simp) rfl rfl 32 rfl
                exact wk.does_run (by simp only [execOp]; rw [show E (.tmp 32) = _ from e32]; go_simp) rfl
              ·
                have ho2 := (Array.getElem?_eq_some_iff.1 ho).2
                simp only [List.getElem_toArray, List.getElem_cons_succ, List.getElem_cons_zero] at ho2
                subst ho2
                clear ho
                have e33 := D.is { on := 4, ground := .data } (by simp) rfl rfl 33 rfl
                exact wk.does_load1 rfl e33 ((((Below.refl _ _).drew.trans hb4).cell (p := ⟨b, o + k * 2, none⟩) hb1).trans hx1) Try.underlying3 rfl rfl
              ·
                have ho2 := (Array.getElem?_eq_some_iff.1 ho).2
                simp only [List.getElem_toArray, List.getElem_cons_succ, List.getElem_cons_zero] at ho2
                subst ho2
                clear ho
                have e1 := D.old 1 (by kernel_rfl)
                exact wk.does_move rfl (by rw [e1]; rfl)
              ·
                have ho2 := (Array.getElem?_eq_some_iff.1 ho).2
                simp only [List.getElem_toArray, List.getElem_cons_succ, List.getElem_cons_zero] at ho2
                subst ho2
                clear ho
                have e6 := D.old 6 (by kernel_rfl)
                exact wk.does_move rfl (by rw [e6]; rfl)
              ·
                have ho2 := (Array.getElem?_eq_some_iff.1 ho).2
                simp only [List.getElem_toArray, List.getElem_cons_succ, List.getElem_cons_zero] at ho2
                subst ho2
                clear ho
                have e35 := D.is { on := 6, ground := .data } (by simp) rfl rfl 35 rfl
                have e36 := D.is { on := 7, ground := .data } (by simp) rfl rfl 36 rfl
                exact wk.does_run (by simp only [execOp]; rw [show E (.tmp 35) = _ from e35, show E (.tmp 36) = _ from e36]; go_simp) rfl
              ·
                have ho2 := (Array.getElem?_eq_some_iff.1 ho).2
                simp only [List.getElem_toArray, List.getElem_cons_succ, List.getElem_cons_zero] at ho2
                subst ho2
                clear ho
                have e37 := D.is { on := 8, ground := .data } (by simp) rfl rfl 37 rfl
                exact wk.does_run (by simp only [execOp]; rw [show E (.tmp 37) = _ from e37]; go_simp) rfl
              ·
                have ho2 := (Array.getElem?_eq_some_iff.1 ho).2
                simp only [List.getElem_toArray, List.getElem_cons_succ, List.getElem_cons_zero] at ho2
                subst ho2
                clear ho
                have e38 := D.is { on := 9, ground := .data } (by simp) rfl rfl 38 rfl
                exact wk.does_load1 rfl e38 ((((Below.refl _ _).drew.trans hb4).cell (p := ⟨b2, o2 + k * 2, none⟩) hb2).trans hy1) Try.underlying3 rfl rfl
              ·
                have ho2 := (Array.getElem?_eq_some_iff.1 ho).2
                simp only [List.getElem_toArray, List.getElem_cons_succ, List.getElem_cons_zero] at ho2
                subst ho2
                clear ho
                have e34 := D.is { on := 5, ground := .data } (by simp) rfl rfl 34 rfl
                have e39 := D.is { on := 10, ground := .data } (by simp) rfl rfl 39 rfl
                exact wk.does_run (v := .int .i64 mn) (by unfold execOp; simp only [resolve, invoke, builtin, Sem.run_bind, Sem.run_pure, Result.andThen_ok, List.map_toArray, List.map_cons, List.map_nil]; rw [show E (.tmp 34) = _ from e34, show E (.tmp 39) = _ from e39]; go_simp; try rw [HMN.out]) rfl
              ·
                have ho2 := (Array.getElem?_eq_some_iff.1 ho).2
                simp only [List.getElem_toArray, List.getElem_cons_succ, List.getElem_cons_zero] at ho2
                subst ho2
                clear ho
                have e0 := D.old 0 (by kernel_rfl)
                exact wk.does_move rfl (by rw [e0]; rfl)
              ·
                have ho2 := (Array.getElem?_eq_some_iff.1 ho).2
                simp only [List.getElem_toArray, List.getElem_cons_succ, List.getElem_cons_zero] at ho2
                subst ho2
                clear ho
                have e6 := D.old 6 (by kernel_rfl)
                exact wk.does_move rfl (by rw [e6]; rfl)
              ·
                have ho2 := (Array.getElem?_eq_some_iff.1 ho).2
                simp only [List.getElem_toArray, List.getElem_cons_succ, List.getElem_cons_zero] at ho2
                subst ho2
                clear ho
                have e41 := D.is { on := 12, ground := .data } (by simp) rfl rfl 41 rfl
                have e42 := D.is { on := 13, ground := .data } (by simp) rfl rfl 42 rfl
                exact wk.does_run (by simp only [execOp]; rw [show E (.tmp 41) = _ from e41, show E (.tmp 42) = _ from e42]; go_simp) rfl
              ·
                have ho2 := (Array.getElem?_eq_some_iff.1 ho).2
                simp only [List.getElem_toArray, List.getElem_cons_succ, List.getElem_cons_zero] at ho2
                subst ho2
                clear ho
                have e43 := D.is { on := 14, ground := .data } (by simp) rfl rfl 43 rfl
                exact wk.does_run (by simp only [execOp]; rw [show E (.tmp 43) = _ from e43]; go_simp) rfl
              ·
                have ho2 := (Array.getElem?_eq_some_iff.1 ho).2
                simp only [List.getElem_toArray, List.getElem_cons_succ, List.getElem_cons_zero] at ho2
                subst ho2
                clear ho
                have e44 := D.is { on := 15, ground := .data } (by simp) rfl rfl 44 rfl
                exact wk.does_load1 rfl e44 ((((Below.refl _ _).drew.trans hb4).cell (p := ⟨b, o + k * 2 + 1, none⟩) hb1).trans hx2) Try.underlying3 rfl rfl
              ·
                have ho2 := (Array.getElem?_eq_some_iff.1 ho).2
                simp only [List.getElem_toArray, List.getElem_cons_succ, List.getElem_cons_zero] at ho2
                subst ho2
                clear ho
                have e1 := D.old 1 (by kernel_rfl)
                exact wk.does_move rfl (by rw [e1]; rfl)
              ·
                have ho2 := (Array.getElem?_eq_some_iff.1 ho).2
                simp only [List.getElem_toArray, List.getElem_cons_succ, List.getElem_cons_zero] at ho2
                subst ho2
                clear ho
                have e6 := D.old 6 (by kernel_rfl)
                exact wk.does_move rfl (by rw [e6]; rfl)
              ·
                have ho2 := (Array.getElem?_eq_some_iff.1 ho).2
                simp only [List.getElem_toArray, List.getElem_cons_succ, List.getElem_cons_zero] at ho2
                subst ho2
                clear ho
                have e46 := D.is { on := 17, ground := .data } (by simp) rfl rfl 46 rfl
                have e47 := D.is { on := 18, ground := .data } (by simp) rfl rfl 47 rfl
                exact wk.does_run (by simp only [execOp]; rw [show E (.tmp 46) = _ from e46, show E (.tmp 47) = _ from e47]; go_simp) rfl
              ·
                have ho2 := (Array.getElem?_eq_some_iff.1 ho).2
                simp only [List.getElem_toArray, List.getElem_cons_succ, List.getElem_cons_zero] at ho2
                subst ho2
                clear ho
                have e48 := D.is { on := 19, ground := .data } (by simp) rfl rfl 48 rfl
                exact wk.does_run (by simp only [execOp]; rw [show E (.tmp 48) = _ from e48]; go_simp) rfl
              ·
                have ho2 := (Array.getElem?_eq_some_iff.1 ho).2
                simp only [List.getElem_toArray, List.getElem_cons_succ, List.getElem_cons_zero] at ho2
                subst ho2
                clear ho
                have e49 := D.is { on := 20, ground := .data } (by simp) rfl rfl 49 rfl
                exact wk.does_load1 rfl e49 ((((Below.refl _ _).drew.trans hb4).cell (p := ⟨b2, o2 + k * 2 + 1, none⟩) hb2).trans hy2) Try.underlying3 rfl rfl
              ·
                have ho2 := (Array.getElem?_eq_some_iff.1 ho).2
                simp only [List.getElem_toArray, List.getElem_cons_succ, List.getElem_cons_zero] at ho2
                subst ho2
                clear ho
                have e45 := D.is { on := 16, ground := .data } (by simp) rfl rfl 45 rfl
                have e50 := D.is { on := 21, ground := .data } (by simp) rfl rfl 50 rfl
                exact wk.does_run (v := .int .i64 mx) (by unfold execOp; simp only [resolve, invoke, builtin, Sem.run_bind, Sem.run_pure, Result.andThen_ok, List.map_toArray, List.map_cons, List.map_nil]; rw [show E (.tmp 45) = _ from e45, show E (.tmp 50) = _ from e50]; go_simp; try rw [HMX.out]) rfl
              ·
                have ho2 := (Array.getElem?_eq_some_iff.1 ho).2
                simp only [List.getElem_toArray, List.getElem_cons_succ, List.getElem_cons_zero] at ho2
                subst ho2
                clear ho
                have e40 := D.is { on := 11, ground := .data } (by simp) rfl rfl 40 rfl
                have e51 := D.is { on := 22, ground := .data } (by simp) rfl rfl 51 rfl
                exact wk.does_run (by simp only [execOp, List.map_toArray, List.map_cons, List.map_nil]; rw [show E (.tmp 40) = _ from e40, show E (.tmp 51) = _ from e51]; go_simp) rfl
              ·
                have ho2 := (Array.getElem?_eq_some_iff.1 ho).2
                simp only [List.getElem_toArray, List.getElem_cons_succ, List.getElem_cons_zero] at ho2
                subst ho2
                clear ho
                have e52 := D.is { on := 23, ground := .data } (by simp) rfl rfl 52 rfl
                refine wk.does_new (v := .slice (some ⟨w4.heap.size, 0, none⟩) 1 1) (w' := w4.alloc (.cells #[.int .i64 mn, .int .i64 mx] 65)) (by simp only [execOp, List.map_toArray, List.map_cons, List.map_nil]; rw [show E (.tmp 52) = _ from e52]; go_simp) (below_new _ _) ⟨_, rfl, RowS.new _ _ _⟩
            case hdone =>
              intro vals w4 hb4 hv
              have h0 := hv 0 (by omega)
              have h24 := hv 24 (by omega)
              clear hv
              replace h0 : vals 0 = (v0) := h0
              simp only [List.drop_succ_cons, List.drop_zero, wk.setL, List.setIfInBounds_toArray, List.set_cons_zero, List.set_cons_succ, Nat.zero_add, Nat.reduceAdd, h0]
              generalize vals 1 = x1
              generalize vals 2 = x2
              generalize vals 3 = x3
              generalize vals 4 = x4
              generalize vals 5 = x5
              generalize vals 6 = x6
              generalize vals 7 = x7
              generalize vals 8 = x8
              generalize vals 9 = x9
              generalize vals 10 = x10
              generalize vals 11 = x11
              generalize vals 12 = x12
              generalize vals 13 = x13
              generalize vals 14 = x14
              generalize vals 15 = x15
              generalize vals 16 = x16
              generalize vals 17 = x17
              generalize vals 18 = x18
              generalize vals 19 = x19
              generalize vals 20 = x20
              generalize vals 21 = x21
              generalize vals 22 = x22
              generalize vals 23 = x23
              generalize vals 24 = x24 at *
              obtain ⟨g, rfl, hg⟩ := h24
              have hb5 : Below wr.heap.size wr w4 := (Below.refl _ _).drew.trans hb4
              have HOW := Lib.hid (keptB HOWN2.out hb5)
              have HCG := Lib.hid hg.cells
              have HBELx := Lib.hid (HBEL.out.trans (hb5.mono HBW.out))
              have HBWx : Hid (w2.heap.size ≤ w4.heap.size) := HBELx.out.size
              clear hb4 hg hb5
              go_wp2_with (at_builtin; refine wpList_append_own _ rfl _ _ 48 rfl w2.heap.size 65 i0 (.agg #[.int .i64 0, .int .i64 0]) 2 16 Try.underlying48 hi hz0 hz1 hz2 rfl (by decide) _ _ _ rfl HOW.out ⟨g, 0, none⟩ 1 1 [.int .i64 mn, .int .i64 mx] rfl rfl HCG.out ?c2 ?c3 ?c4 ?c5 ?_)
              case c2 => exact ones2
              case c3 => unfold maxLen; omega
              case c4 => omega
              case c5 => exact HBWx.out
              intro v' w5 hown2 hgrow _
              have hbe : Below w2.heap.size w2 w5 := HBELx.out.grown hgrow (by have := HBWx.out; omega) (fun q hq => (HOW.out.lt q hq).1)
              have HB5 := Lib.hid hbe
              have HO5 := Lib.hid hown2
              clear hown2 hgrow hbe
              go_wp2_with fail
              go_roundg (gk - 1)
              case measure => have := HK.out; omega
              case rel =>
                refine ⟨k + 1, _, by have := HK.out; omega, rfl, by go_num, ?_, HB5.out⟩
                have h := HO5.out
                rw [HS.out, fl_append]
                exact h
          · obtain rfl : k = n := by omega
            have ho := HOWN2.out
            rw [List.take_of_length_le (by have := HAL.out; omega)] at ho
            obtain ⟨A9, c9, e9, hsq⟩ := isS_own_sq (B := w2.heap.size) (es := []) ho (Nat.le_refl _) HWD.out (by simp)
            subst e9
            have hR1 := HR2.out.below hbel
            have hlg := HLT2.out
            have hd0 := hR1.c (j := 0) rfl
            have hd1 := hR1.c (j := 1) rfl
            have hf0 := hR1.f 0
            have hf1 := hR1.f 1
            have HIF := Lib.hid (hsq _ ((Kq.of_set (i := 0) (.slice A9 k c9) hR1 (.inr hlg)).trans (Kq.of_set (i := 1) (.int .i64 0) (heap_setCell_same _ w.heap.size 0 _ MD _ hR1) (.inr hlg))))
            have HBF := Lib.hid (below_two (Below.andThen HB2.out hbel) (Nat.le_refl _) (.slice A9 k c9) (.int .i64 0))
            have HTF := Lib.hid (hR1.set2 (.slice A9 k c9) (.int .i64 0))
            clear hR1 hsq hlg ho hown hbel hk
            go_wp2_with fail
            exact bodyPost_ret (v := .agg #[.slice A9 k c9, .int .i64 0]) (results_cell_row (fn := Try.f26) rfl _ _ w.heap.size MD #[.slice A9 k c9, .int .i64 0] (0, 0) _ rfl HTF.out Try.underlying54 rfl (by kernel_rfl)) rfl ⟨_, _, _, rfl, HIF.out, HBF.out⟩
      · rw [decide_eq_false hnn]
        have hne : ((n : Int) != (n' : Int)) = true := by simp; omega
        clear h h' hbR
        go_enter Try.func26, Try.ntmps26
        go_wp2_with fail
        refine HV.out.mono ?_
        rintro e w1 ⟨rfl, hb1⟩
        have HR1 := Lib.hid (HR.out.below hb1)
        have HB1 := Lib.hid (Below.andThen HBR.out hb1)
        clear hb1
        go_wp2_with fail
        refine (HV'.out _ HB1.out).mono ?_
        rintro e w2 ⟨rfl, hb2⟩
        have hR1 := HR1.out.below hb2
        have hB1 := Below.andThen HB1.out hb2
        clear hb2
        have hd0 := hR1.c (j := 0) rfl
        have hd1 := hR1.c (j := 1) rfl
        have hf0 := hR1.f 0
        have hf1 := hR1.f 1
        have HBF := Lib.hid (below_two hB1 (Nat.le_refl _) (.slice none 0 0) (.int .i64 1))
        have HTF := Lib.hid (hR1.set2 (.slice none 0 0) (.int .i64 1))
        clear hR1 hB1
        go_wp2_with fail
        exact bodyPost_ret (v := .agg #[.slice none 0 0, .int .i64 1]) (results_cell_row (fn := Try.f26) rfl _ _ w.heap.size MD #[.slice none 0 0, .int .i64 1] (0, 0) _ rfl HTF.out Try.underlying54 rfl (by kernel_rfl)) rfl ⟨_, _, _, rfl, isS_nil _, HBF.out⟩
end Go.Proofs.Yteeianandjokaaa.pk
/- The reference: Shells. -/
namespace Go.Proofs.Yteeianandjokaaa.pk

open Go.ChangeShapes Go.WideShapes Go.ChangeAt Go.RowKit

open Go.Proofs.Yteeianandjokaaa.pq Go.Proofs.Yteeianandjokaaa.cq Go.Proofs.Yteeianandjokaaa.vk Go.Proofs.Yteeianandjokaaa.bk Go.Proofs.Yteeianandjokaaa.wk Go.Proofs.Yteeianandjokaaa.uk

set_option linter.unusedVariables false
theorem Rw.belowB {w w' : World} {B g : Nat} {t : TypeId} {cs : Array Value} (h : Rw w g t cs) (hb : Below B w w') (hg : g < B) : Rw w' g t cs := h.at (hb.block g hg)
theorem RowS.f {w : World} {g : Nat} {a b : Int} (h : RowS w g a b) (j : Nat) : w.frozen? ⟨g, j, none⟩ = false := frozen_of_row _ _ _ _ _ h
theorem RowS.set0 {w : World} {g : Nat} {a b : Int} (h : RowS w g a b) (x : Int) : RowS (w.setCell ⟨g, 0, none⟩ (.int .i64 x)) g x b := heap_setCell_same w g 0 #[.int .i64 a, .int .i64 b] 65 (.int .i64 x) h
theorem RowS.set1 {w : World} {g : Nat} {a b : Int} (h : RowS w g a b) (x : Int) : RowS (w.setCell ⟨g, 1, none⟩ (.int .i64 x)) g a x := heap_setCell_same w g 1 #[.int .i64 a, .int .i64 b] 65 (.int .i64 x) h
def shr (m : Int) (p : List Int) (L : VV) (i : Nat) : Sh := (L.take i).foldl (fun s v => grow1 s (vq.key m p v)) (vq.key m p (L.headD []), vq.key m p (L.headD []))
theorem shr_zero (m : Int) (p : List Int) (L : VV) : shr m p L 0 = (vq.key m p (L.headD []), vq.key m p (L.headD [])) := rfl
theorem shr_succ {m : Int} {p : List Int} {L : VV} {k : Nat} {v : List Int} (h : L[k]? = some v) : shr m p L (k + 1) = (min (shr m p L k).1 (vq.key m p v), max (shr m p L k).2 (vq.key m p v)) := by
  unfold shr
  rw [List.take_add_one, h, List.foldl_append]; rfl
theorem shr_end {m : Int} {p : List Int} {L : VV} {n : Nat} (h : L.length = n) (h1 : 1 ≤ n) : shr m p L n = shl m p L := by
  unfold shr shl
  rw [List.take_of_length_le (by omega)]
  cases L with
  | nil => simp at h; omega
  | cons x T =>
    rw [List.foldl_cons]
    have e : grow1 (vq.key m p ((x :: T).headD []), vq.key m p ((x :: T).headD [])) (vq.key m p x) = (vq.key m p x, vq.key m p x) := by
      unfold grow1
      simp
    rw [e]
    rfl
theorem table_at {m : Int} {P L : VV} {k : Nat} {v : List Int} (h : L[k]? = some v) : (table m P L)[k]? = some (keys m P v) := by unfold table; rw [List.getElem?_map, h]; rfl
theorem keys_at {m : Int} {P : VV} {k : Nat} {p : List Int} (v : List Int) (h : P[k]? = some p) : (keys m P v)[k]? = some (vq.key m p v) := by unfold keys; rw [List.getElem?_map, h]; rfl
set_option maxRecDepth 100000 in
set_option maxHeartbeats 8000000 in
theorem rshells_calls {m : Int} {A A' : Option Addr} {n c n' c' : Nat} {P L : VV} (w : World) (h : IsVV w A n c P) (h' : IsVV w A' n' c' L) :
    Calls Try.prog 25 #[.int .i64 m, .slice A n c, .slice A' n' c'] w fun e w' => ∃ A2 n2 c2, e = .returned (.agg #[.slice A2 n2 c2, okE (haveK m P L)]) ∧ IsS w' A2 n2 c2 (if haveK m P L then shells m P L else []) ∧ Below w.heap.size w w' := by
  have hm := h'.2.2.1
  have hnc := h'.2.1
  have hmp := h.2.2.1
  have hncp := h.2.1
  have hbR := below_new w (.cells #[.slice none 0 0, .int .i64 0] MD)
  have HR := Lib.hid (Rw.new w MD #[.slice none 0 0, .int .i64 0])
  have HBR := Lib.hid hbR
  have HTB := Lib.hid (rtable_calls (m := m) _ (isVV_below h hbR) (isVV_below h' hbR))
  unfold okE
  cases hk : haveK m P L
  · rw [hk] at HTB
    clear h h' hbR
    go_enter Try.func25, Try.ntmps25
    go_wp2_with fail
    refine HTB.out.mono ?_
    rintro e w1 ⟨A5, n5, c5, rfl, -, hb1⟩
    have hbT := below_new w1 (.cells #[.slice A5 n5 c5, .int .i64 1] RS)
    have hT := Rw.new w1 RS #[.slice A5 n5 c5, .int .i64 1]
    have hR1 := (HR.out.below hb1).below hbT
    have hB1 := Below.andThen (Below.andThen HBR.out hb1) hbT
    have ht1 := hT.c (j := 1) rfl
    clear hb1 hbT hT
    have hd0 := hR1.c (j := 0) rfl
    have hd1 := hR1.c (j := 1) rfl
    have hf0 := hR1.f 0
    have hf1 := hR1.f 1
    have HBF := Lib.hid (below_two hB1 (Nat.le_refl _) (.slice none 0 0) (.int .i64 1))
    have HTF := Lib.hid (hR1.set2 (.slice none 0 0) (.int .i64 1))
    clear hR1 hB1
    go_wp2_with fail
    exact bodyPost_ret (v := .agg #[.slice none 0 0, .int .i64 1]) (results_cell_row (fn := Try.f25) rfl _ _ w.heap.size MD #[.slice none 0 0, .int .i64 1] (0, 0) _ rfl HTF.out Try.underlying54 rfl (by kernel_rfl)) rfl ⟨_, _, _, rfl, isS_nil _, HBF.out⟩
  · rw [hk] at HTB
    have hv := have_of hk
    rw [if_pos rfl, if_pos rfl]
    obtain ⟨i0, hi, hz0, hz1, hz2⟩ := info_parts infoSh
    have hn8 : n ≤ 8 := by rw [← h.1]; exact hv.p.n2
    have hn4 : n' ≤ 4096 := by rw [← h'.1]; exact hv.l.n2
    have hn1 : 1 ≤ n' := by rw [← h'.1]; exact hv.l.n1
    have HWD := Lib.hid (shells_wd hv)
    have HPL : Hid (P.length = n) := h.1
    have HLN : Hid (L.length = n') := h'.1
    have HSL : Hid ((shells m P L).length = n) := by show _ = _; unfold shells; rw [List.length_map, h.1]
    have HX0 := Lib.hid (head_at (L := L) (by rw [h'.1]; exact hn1))
    clear h h' hbR hv
    go_enter Try.func25, Try.ntmps25
    go_wp2_with fail
    refine HTB.out.mono ?_
    rintro e w1 ⟨A5, n5, c5, rfl, hVV5, hb1⟩
    replace hVV5 : IsVV w1 A5 n5 c5 (table m P L) := by simpa using hVV5
    have hn5 : n5 = n' := by rw [← hVV5.1]; unfold table; rw [List.length_map, HLN.out]
    subst hn5
    obtain ⟨bT, oT, Ah, nh, ch, rfl, hbh, hch, hIh⟩ := hVV5.2.2.2 0 _ (table_at HX0.out)
    have hm5 := hVV5.2.2.1
    have hnc5 := hVV5.2.1
    have hbT := below_new w1 (.cells #[.slice (some ⟨bT, oT, none⟩) n5 c5, .int .i64 0] RS)
    have hT := Rw.new w1 RS #[.slice (some ⟨bT, oT, none⟩) n5 c5, .int .i64 0]
    have HR2 := Lib.hid ((HR.out.below hb1).below hbT)
    have HB2 := Lib.hid (Below.andThen (Below.andThen HBR.out hb1) hbT)
    have HT2 := Lib.hid hT
    have HVT := Lib.hid (isVV_below hVV5 hbT)
    have ht1 := hT.c (j := 1) rfl
    have HLT2 : Hid (w.heap.size < w1.heap.size) := (HR.out.below hb1).lt
    clear hb1 hT hVV5 hbh hch hIh
    go_wp2_with fail
    have hsz2 : (w1.alloc (.cells #[.slice (some ⟨bT, oT, none⟩) n5 c5, .int .i64 0] RS)).heap.size = w1.heap.size + 1 := size_new _ _
    have HSZ2 := Lib.hid hsz2
    clear ht1 hbT hsz2
    generalize hG1 : w1.heap.size = G1 at *
    generalize w1.alloc (.cells #[.slice (some ⟨bT, oT, none⟩) n5 c5, .int .i64 0] RS) = w2 at *
    have HG1 : Hid (G1 < w2.heap.size) := by show _ < _; have := HSZ2.out; omega
    go_loopg [8, 9] n (fun gk u x wr => ∃ (k : Nat) (v0 : Value), k + gk = n ∧ v0 = u ∧ x = .int .i64 (k : Int) ∧ wr.ownsRow w2.heap.size 65 2 v0 k (fl ((shells m P L).take k)) ∧ Below w2.heap.size w2 wr)
    case atStart => exact ⟨0, _, by omega, rfl, rfl, by simpa [fl] using World.ownsRow_nil _ _ _ _, Below.refl _ _⟩
    case round =>
      obtain ⟨k, v0, hk, hv0, rfl, hown, hbel⟩ := hrel
      subst hv0
      have HK := Lib.hid hk
      have HOWN := Lib.hid hown
      have HBEL := Lib.hid hbel
      have HBW : Hid (w2.heap.size ≤ wr.heap.size) := hbel.size
      have hkn : k ≤ n := by omega
      by_cases hlt : k < n
      · have hpk : P[k]? = some (P[k]'(by rw [HPL.out]; exact hlt)) := List.getElem?_eq_getElem _
        generalize P[k]'(by rw [HPL.out]; exact hlt) = p at hpk
        have hVr := isVV_below HVT.out hbel
        obtain ⟨b', o', Ah, nh, ch, e1, hbh, hch, hIh⟩ := hVr.2.2.2 0 _ (table_at HX0.out)
        cases e1
        rw [Nat.add_zero] at hch
        have hnh : nh = n := by rw [← hIh.1]; unfold keys; rw [List.length_map, HPL.out]
        subst hnh
        obtain ⟨bh, oh, z0, rfl, hcx, hxx, -, -⟩ := isI_at hIh hlt
        rw [keys_at _ hpk] at hxx
        have hbx := block_lt_of_cell hcx
        have hmh := hIh.2.2.1
        have hnch := hIh.2.1
        have hlt0 : (k : Int) < (nh : Int) := by omega
        have hlt1 : (0 : Int) < (n5 : Int) := by omega
        have HTR := Lib.hid (HT2.out.belowB hbel HG1.out)
        have HVR := Lib.hid hVr
        have HPK := Lib.hid hpk
        have HZ : Hid (shr m p L 0 = (z0, z0)) := by show _ = _; injection hxx with hxx; rw [shr_zero, hxx]
        have HTK : Hid ((shells m P L)[k]? = some (shl m p L)) := by show _ = _; unfold shells; rw [List.getElem?_map, hpk]; rfl
        have HSE : Hid (shr m p L n5 = shl m p L) := shr_end HLN.out hn1
        clear hIh hpk hVr hxx hown hbel hk
        go_wp2_with fail
        refine wk.region_tailS 16 [.is (.pointer (some ⟨G1, 0, none⟩)), .is (.slice (some ⟨bT, oT, none⟩) n5 c5), .is (.pointer (some ⟨bT, oT, none⟩)), .is (.slice (some ⟨bh, oh, none⟩) nh ch), .is (.int .i64 (k : Int)), .is (.pointer (some ⟨bh, oh + k, none⟩)), .is (.int .i64 z0), .is (.pointer (some ⟨G1, 0, none⟩)), .is (.slice (some ⟨bT, oT, none⟩) n5 c5), .is (.pointer (some ⟨bT, oT, none⟩)), .is (.slice (some ⟨bh, oh, none⟩) nh ch), .is (.int .i64 (k : Int)), .is (.pointer (some ⟨bh, oh + k, none⟩)), .is (.int .i64 z0), .is (.agg #[.int .i64 z0, .int .i64 z0]), .st (fun u x => ∃ g, x = .pointer (some ⟨g, 0, none⟩) ∧ wr.heap.size ≤ g ∧ RowS u g 0 0) (fun u u2 x h hb => by obtain ⟨g, h1, h2, h3⟩ := h; exact ⟨g, h1, h2, h3.below hb⟩)] [some 28, some 29, some 30, some 31, some 32, some 33, some 34, some 35, some 36, some 37, some 38, some 39, some 40, some 41, some 42, some 10] (by kernel_rfl) (by kernel_rfl) (by kernel_rfl) (by kernel_rfl) [] (by kernel_rfl) (by intro p hp; cases hp) (by kernel_rfl) (by kernel_rfl) ?hstep ?hdone
        case hstep =>
          intro i o ho hi hns E w6 hb4 D
          have hi2 : i = 0 ∨ i = 1 ∨ i = 2 ∨ i = 3 ∨ i = 4 ∨ i = 5 ∨ i = 6 ∨ i = 7 ∨ i = 8 ∨ i = 9 ∨ i = 10 ∨ i = 11 ∨ i = 12 ∨ i = 13 ∨ i = 14 ∨ i = 15 := by omega
          clear hi
          rcases hi2 with rfl | rfl | rfl | rfl | rfl | rfl | rfl | rfl | rfl | rfl | rfl | rfl | rfl | rfl | rfl | rfl
          ·
            have ho2 := (Array.getElem?_eq_some_iff.1 ho).2
            simp only [List.getElem_toArray, List.getElem_cons_zero] at ho2
            subst ho2
            clear ho
            have e7 := D.old 7 (by kernel_rfl)
            exact wk.does_run (by simp only [execOp]; rw [show E (.tmp 7) = .pointer (some ⟨G1, 0, none⟩) by rw [e7]; rfl]; go_simp) rfl
          ·
            have ho2 := (Array.getElem?_eq_some_iff.1 ho).2
            simp only [List.getElem_toArray, List.getElem_cons_succ, List.getElem_cons_zero] at ho2
            subst ho2
            clear ho
            have e28 := D.is { on := 0, ground := .data } (by simp) rfl rfl 28 rfl
            exact wk.does_load1 rfl e28 ((HTR.out.below ((Below.refl _ _).drew.trans hb4)).c (j := 0) rfl) Try.underlying22 rfl rfl
          ·
            have ho2 := (Array.getElem?_eq_some_iff.1 ho).2
            simp only [List.getElem_toArray, List.getElem_cons_succ, List.getElem_cons_zero] at ho2
            subst ho2
            clear ho
            have e29 := D.is { on := 1, ground := .data } (by simp) rfl rfl 29 rfl
            exact wk.does_run (by simp only [execOp]; rw [show E (.tmp 29) = _ from e29, show E (.const (.int .i64 0)) = .int .i64 0 from D.con _]; go_simp; try (intro h0; omega)) rfl
          ·
            have ho2 := (Array.getElem?_eq_some_iff.1 ho).2
            simp only [List.getElem_toArray, List.getElem_cons_succ, List.getElem_cons_zero] at ho2
            subst ho2
            clear ho
            have e30 := D.is { on := 2, ground := .data } (by simp) rfl rfl 30 rfl
            exact wk.does_load1 rfl e30 ((((Below.refl _ _).drew.trans hb4).cell (p := ⟨bT, oT, none⟩) hbh).trans hch) Try.underlying23 rfl rfl
          ·
            have ho2 := (Array.getElem?_eq_some_iff.1 ho).2
            simp only [List.getElem_toArray, List.getElem_cons_succ, List.getElem_cons_zero] at ho2
            subst ho2
            clear ho
            have e9 := D.old 9 (by kernel_rfl)
            exact wk.does_move rfl (by rw [e9]; rfl)
          ·
            have ho2 := (Array.getElem?_eq_some_iff.1 ho).2
            simp only [List.getElem_toArray, List.getElem_cons_succ, List.getElem_cons_zero] at ho2
            subst ho2
            clear ho
            have e31 := D.is { on := 3, ground := .data } (by simp) rfl rfl 31 rfl
            have e32 := D.is { on := 4, ground := .data } (by simp) rfl rfl 32 rfl
            exact wk.does_run (by simp only [execOp]; rw [show E (.tmp 31) = _ from e31, show E (.tmp 32) = _ from e32]; go_simp) rfl
          ·
            have ho2 := (Array.getElem?_eq_some_iff.1 ho).2
            simp only [List.getElem_toArray, List.getElem_cons_succ, List.getElem_cons_zero] at ho2
            subst ho2
            clear ho
            have e33 := D.is { on := 5, ground := .data } (by simp) rfl rfl 33 rfl
            exact wk.does_load1 rfl e33 ((((Below.refl _ _).drew.trans hb4).cell (p := ⟨bh, oh + k, none⟩) hbx).trans hcx) Try.underlying3 rfl rfl
          ·
            have ho2 := (Array.getElem?_eq_some_iff.1 ho).2
            simp only [List.getElem_toArray, List.getElem_cons_succ, List.getElem_cons_zero] at ho2
            subst ho2
            clear ho
            have e7 := D.old 7 (by kernel_rfl)
            exact wk.does_run (by simp only [execOp]; rw [show E (.tmp 7) = .pointer (some ⟨G1, 0, none⟩) by rw [e7]; rfl]; go_simp) rfl
          ·
            have ho2 := (Array.getElem?_eq_some_iff.1 ho).2
            simp only [List.getElem_toArray, List.getElem_cons_succ, List.getElem_cons_zero] at ho2
            subst ho2
            clear ho
            have e35 := D.is { on := 7, ground := .data } (by simp) rfl rfl 35 rfl
            exact wk.does_load1 rfl e35 ((HTR.out.below ((Below.refl _ _).drew.trans hb4)).c (j := 0) rfl) Try.underlying22 rfl rfl
          ·
            have ho2 := (Array.getElem?_eq_some_iff.1 ho).2
            simp only [List.getElem_toArray, List.getElem_cons_succ, List.getElem_cons_zero] at ho2
            subst ho2
            clear ho
            have e36 := D.is { on := 8, ground := .data } (by simp) rfl rfl 36 rfl
            exact wk.does_run (by simp only [execOp]; rw [show E (.tmp 36) = _ from e36, show E (.const (.int .i64 0)) = .int .i64 0 from D.con _]; go_simp; try (intro h0; omega)) rfl
          ·
            have ho2 := (Array.getElem?_eq_some_iff.1 ho).2
            simp only [List.getElem_toArray, List.getElem_cons_succ, List.getElem_cons_zero] at ho2
            subst ho2
            clear ho
            have e37 := D.is { on := 9, ground := .data } (by simp) rfl rfl 37 rfl
            exact wk.does_load1 rfl e37 ((((Below.refl _ _).drew.trans hb4).cell (p := ⟨bT, oT, none⟩) hbh).trans hch) Try.underlying23 rfl rfl
          ·
            have ho2 := (Array.getElem?_eq_some_iff.1 ho).2
            simp only [List.getElem_toArray, List.getElem_cons_succ, List.getElem_cons_zero] at ho2
            subst ho2
            clear ho
            have e9 := D.old 9 (by kernel_rfl)
            exact wk.does_move rfl (by rw [e9]; rfl)
          ·
            have ho2 := (Array.getElem?_eq_some_iff.1 ho).2
            simp only [List.getElem_toArray, List.getElem_cons_succ, List.getElem_cons_zero] at ho2
            subst ho2
            clear ho
            have e38 := D.is { on := 10, ground := .data } (by simp) rfl rfl 38 rfl
            have e39 := D.is { on := 11, ground := .data } (by simp) rfl rfl 39 rfl
            exact wk.does_run (by simp only [execOp]; rw [show E (.tmp 38) = _ from e38, show E (.tmp 39) = _ from e39]; go_simp) rfl
          ·
            have ho2 := (Array.getElem?_eq_some_iff.1 ho).2
            simp only [List.getElem_toArray, List.getElem_cons_succ, List.getElem_cons_zero] at ho2
            subst ho2
            clear ho
            have e40 := D.is { on := 12, ground := .data } (by simp) rfl rfl 40 rfl
            exact wk.does_load1 rfl e40 ((((Below.refl _ _).drew.trans hb4).cell (p := ⟨bh, oh + k, none⟩) hbx).trans hcx) Try.underlying3 rfl rfl
          ·
            have ho2 := (Array.getElem?_eq_some_iff.1 ho).2
            simp only [List.getElem_toArray, List.getElem_cons_succ, List.getElem_cons_zero] at ho2
            subst ho2
            clear ho
            have e34 := D.is { on := 6, ground := .data } (by simp) rfl rfl 34 rfl
            have e41 := D.is { on := 13, ground := .data } (by simp) rfl rfl 41 rfl
            exact wk.does_run (by simp only [execOp, List.map_toArray, List.map_cons, List.map_nil]; rw [show E (.tmp 34) = _ from e34, show E (.tmp 41) = _ from e41]; go_simp) rfl
          ·
            have ho2 := (Array.getElem?_eq_some_iff.1 ho).2
            simp only [List.getElem_toArray, List.getElem_cons_succ, List.getElem_cons_zero] at ho2
            subst ho2
            clear ho
            refine wk.does_new (v := .pointer (some ⟨w6.heap.size, 0, none⟩)) (w' := w6.alloc (.cells #[.int .i64 0, .int .i64 0] 65)) (by simp only [execOp]; go_simp) (below_new _ _) ⟨_, rfl, ((Below.refl _ _).drew.trans hb4).size, RowS.new _ _ _⟩
        case hdone =>
          intro vals w6 hb4 hv
          have h14 := hv 14 (by omega)
          have h15 := hv 15 (by omega)
          clear hv
          replace h14 : vals 14 = (.agg #[.int .i64 z0, .int .i64 z0]) := h14
          simp only [List.drop_succ_cons, List.drop_zero, wk.setL, List.setIfInBounds_toArray, List.set_cons_zero, List.set_cons_succ, Nat.zero_add, Nat.reduceAdd, h14]
          generalize vals 0 = x0
          generalize vals 1 = x1
          generalize vals 2 = x2
          generalize vals 3 = x3
          generalize vals 4 = x4
          generalize vals 5 = x5
          generalize vals 6 = x6
          generalize vals 7 = x7
          generalize vals 8 = x8
          generalize vals 9 = x9
          generalize vals 10 = x10
          generalize vals 11 = x11
          generalize vals 12 = x12
          generalize vals 13 = x13
          generalize vals 15 = x15 at *
          obtain ⟨g, rfl, hgw, hg⟩ := h15
          have hb5 : Below wr.heap.size wr w6 := (Below.refl _ _).drew.trans hb4
          have hr7 := (hg.set0 z0)
          have hr8 := hr7.set1 z0
          have hc0 := hg.c0
          have hc1 := hg.c1
          have hf0 := hg.f 0
          have hf1 := hg.f 1
          have HR8 := Lib.hid hr8
          have HB8 := Lib.hid (below_two hb5 hgw (.int .i64 z0) (.int .i64 z0))
          have HGW := Lib.hid hgw
          clear hb4 hb5 hg hr7 hr8
          go_wp2_with fail
          obtain ⟨w0, hw0⟩ : ∃ u, u = wr := ⟨_, rfl⟩
          go_loopg [11] n5 (fun gq x wr => ∃ i : Nat, i + gq = n5 ∧ x = .int .i64 (i : Int) ∧ RowS wr g (shr m p L i).1 (shr m p L i).2 ∧ Below w0.heap.size w0 wr)
          case atStart => exact ⟨0, by omega, rfl, by rw [HZ.out]; exact HR8.out, by rw [hw0]; exact HB8.out⟩
          case round =>
            obtain ⟨i, hi', rfl, hrg, hbi⟩ := hrel
            subst hw0
            have HKI := Lib.hid hi'
            have HRGA := Lib.hid hrg
            have HBIA := Lib.hid hbi
            have hin : i ≤ n5 := by omega
            have hgw := HGW.out
            clear hi'
            by_cases hlti : i < n5
            · obtain ⟨v, hvL⟩ : ∃ v, L[i]? = some v := ⟨_, List.getElem?_eq_getElem (show i < L.length by rw [HLN.out]; exact hlti)⟩
              obtain ⟨b', o', Ai, ni, ci, e1, hbi1, hci1, hIi⟩ := (isVV_below HVR.out hbi).2.2.2 i _ (table_at hvL)
              cases e1
              have hni : nh = ni := by rw [← hIi.1]; unfold keys; rw [List.length_map, HPL.out]
              subst hni
              obtain ⟨bi, oi, y, rfl, hci2, hyy, -, -⟩ := isI_at hIi hlt
              rw [keys_at _ HPK.out] at hyy
              have hbi2 := block_lt_of_cell hci2
              have hmi := hIi.2.2.1
              have hnci := hIi.2.1
              have hlt2 : (i : Int) < (n5 : Int) := by omega
              have HBI1A := Lib.hid hbi1
              have HCI1A := Lib.hid hci1
              have HBI2A := Lib.hid hbi2
              have HCI2A := Lib.hid hci2
              have HTIA := Lib.hid (HTR.out.below hbi)
              have HSK := Lib.hid (shr_succ (m := m) (p := p) hvL)
              generalize shr m p L i = s at *
              obtain ⟨s1, s2⟩ := s
              dsimp only at HSK HRGA hrg
              injection hyy with hyy
              rw [hyy] at HSK
              obtain ⟨mn, hmn⟩ : ∃ z, min s1 y = z := ⟨_, rfl⟩
              obtain ⟨mx, hmx⟩ : ∃ z, max s2 y = z := ⟨_, rfl⟩
              rw [hmn, hmx] at HSK
              have HMN := Lib.hid hmn
              have HMX := Lib.hid hmx
              clear hmn hmx hIi hvL hyy hrg hbi hbi1 hci1 hbi2 hci2
              go_wp2_with fail
              refine wk.region_tailS 12 [.is (.pointer (some ⟨g, 0, none⟩)), .is (.int .i64 s1), .is (.pointer (some ⟨G1, 0, none⟩)), .is (.slice (some ⟨bT, oT, none⟩) n5 c5), .is (.int .i64 (i : Int)), .is (.pointer (some ⟨bT, oT + i, none⟩)), .is (.slice (some ⟨bi, oi, none⟩) nh ci), .is (.int .i64 (k : Int)), .is (.pointer (some ⟨bi, oi + k, none⟩)), .is (.int .i64 y), .is (.int .i64 mn), .is (.pointer (some ⟨g, 0, none⟩))] [some 49, some 50, some 51, some 52, some 53, some 54, some 55, some 56, some 57, some 58, some 59, some 60] (by kernel_rfl) (by kernel_rfl) (by kernel_rfl) (by kernel_rfl) [] (by kernel_rfl) (by intro p hp; cases hp) (by kernel_rfl) (by kernel_rfl) ?hstep ?hdone
              case hstep =>
                intro i o ho hi hns E w6 hb6 D
                have hi2 : i = 0 ∨ i = 1 ∨ i = 2 ∨ i = 3 ∨ i = 4 ∨ i = 5 ∨ i = 6 ∨ i = 7 ∨ i = 8 ∨ i = 9 ∨ i = 10 ∨ i = 11 := by omega
                clear hi
                rcases hi2 with rfl | rfl | rfl | rfl | rfl | rfl | rfl | rfl | rfl | rfl | rfl | rfl
                ·
                  have ho2 := (Array.getElem?_eq_some_iff.1 ho).2
                  simp only [List.getElem_toArray, List.getElem_cons_zero] at ho2
                  subst ho2
                  clear ho
                  have e10 := D.old 10 (by kernel_rfl)
                  exact wk.does_run (by simp only [execOp]; rw [show E (.tmp 10) = .pointer (some ⟨g, 0, none⟩) by rw [e10]; rfl]; go_simp) rfl
                ·
                  have ho2 := (Array.getElem?_eq_some_iff.1 ho).2
                  simp only [List.getElem_toArray, List.getElem_cons_succ, List.getElem_cons_zero] at ho2
                  subst ho2
                  clear ho
                  have e49 := D.is { on := 0, ground := .data } (by simp) rfl rfl 49 rfl
                  exact wk.does_load1 rfl e49 ((HRGA.out.below ((Below.refl _ _).drew.trans hb6)).c0) Try.underlying3 rfl rfl
                ·
                  have ho2 := (Array.getElem?_eq_some_iff.1 ho).2
                  simp only [List.getElem_toArray, List.getElem_cons_succ, List.getElem_cons_zero] at ho2
                  subst ho2
                  clear ho
                  have e7 := D.old 7 (by kernel_rfl)
                  exact wk.does_run (by simp only [execOp]; rw [show E (.tmp 7) = .pointer (some ⟨G1, 0, none⟩) by rw [e7]; rfl]; go_simp) rfl
                ·
                  have ho2 := (Array.getElem?_eq_some_iff.1 ho).2
                  simp only [List.getElem_toArray, List.getElem_cons_succ, List.getElem_cons_zero] at ho2
                  subst ho2
                  clear ho
                  have e51 := D.is { on := 2, ground := .data } (by simp) rfl rfl 51 rfl
                  exact wk.does_load1 rfl e51 ((HTIA.out.below ((Below.refl _ _).drew.trans hb6)).c (j := 0) rfl) Try.underlying22 rfl rfl
                ·
                  have ho2 := (Array.getElem?_eq_some_iff.1 ho).2
                  simp only [List.getElem_toArray, List.getElem_cons_succ, List.getElem_cons_zero] at ho2
                  subst ho2
                  clear ho
                  have e11 := D.old 11 (by kernel_rfl)
                  exact wk.does_move rfl (by rw [e11]; rfl)
                ·
                  have ho2 := (Array.getElem?_eq_some_iff.1 ho).2
                  simp only [List.getElem_toArray, List.getElem_cons_succ, List.getElem_cons_zero] at ho2
                  subst ho2
                  clear ho
                  have e52 := D.is { on := 3, ground := .data } (by simp) rfl rfl 52 rfl
                  have e53 := D.is { on := 4, ground := .data } (by simp) rfl rfl 53 rfl
                  exact wk.does_run (by simp only [execOp]; rw [show E (.tmp 52) = _ from e52, show E (.tmp 53) = _ from e53]; go_simp) rfl
                ·
                  have ho2 := (Array.getElem?_eq_some_iff.1 ho).2
                  simp only [List.getElem_toArray, List.getElem_cons_succ, List.getElem_cons_zero] at ho2
                  subst ho2
                  clear ho
                  have e54 := D.is { on := 5, ground := .data } (by simp) rfl rfl 54 rfl
                  exact wk.does_load1 rfl e54 ((((Below.refl _ _).drew.trans hb6).cell (p := ⟨bT, oT + i, none⟩) HBI1A.out).trans HCI1A.out) Try.underlying23 rfl rfl
                ·
                  have ho2 := (Array.getElem?_eq_some_iff.1 ho).2
                  simp only [List.getElem_toArray, List.getElem_cons_succ, List.getElem_cons_zero] at ho2
                  subst ho2
                  clear ho
                  have e9 := D.old 9 (by kernel_rfl)
                  exact wk.does_move rfl (by rw [e9]; rfl)
                ·
                  have ho2 := (Array.getElem?_eq_some_iff.1 ho).2
                  simp only [List.getElem_toArray, List.getElem_cons_succ, List.getElem_cons_zero] at ho2
                  subst ho2
                  clear ho
                  have e55 := D.is { on := 6, ground := .data } (by simp) rfl rfl 55 rfl
                  have e56 := D.is { on := 7, ground := .data } (by simp) rfl rfl 56 rfl
                  exact wk.does_run (by simp only [execOp]; rw [show E (.tmp 55) = _ from e55, show E (.tmp 56) = _ from e56]; go_simp) rfl
                ·
                  have ho2 := (Array.getElem?_eq_some_iff.1 ho).2
                  simp only [List.getElem_toArray, List.getElem_cons_succ, List.getElem_cons_zero] at ho2
                  subst ho2
                  clear ho
                  have e57 := D.is { on := 8, ground := .data } (by simp) rfl rfl 57 rfl
                  exact wk.does_load1 rfl e57 ((((Below.refl _ _).drew.trans hb6).cell (p := ⟨bi, oi + k, none⟩) HBI2A.out).trans HCI2A.out) Try.underlying3 rfl rfl
                ·
                  have ho2 := (Array.getElem?_eq_some_iff.1 ho).2
                  simp only [List.getElem_toArray, List.getElem_cons_succ, List.getElem_cons_zero] at ho2
                  subst ho2
                  clear ho
                  have e50 := D.is { on := 1, ground := .data } (by simp) rfl rfl 50 rfl
                  have e58 := D.is { on := 9, ground := .data } (by simp) rfl rfl 58 rfl
                  exact wk.does_run (v := .int .i64 mn) (by unfold execOp; simp only [resolve, invoke, builtin, Sem.run_bind, Sem.run_pure, Result.andThen_ok, List.map_toArray, List.map_cons, List.map_nil]; rw [show E (.tmp 50) = _ from e50, show E (.tmp 58) = _ from e58]; go_simp; try rw [HMN.out]) rfl
                ·
                  have ho2 := (Array.getElem?_eq_some_iff.1 ho).2
                  simp only [List.getElem_toArray, List.getElem_cons_succ, List.getElem_cons_zero] at ho2
                  subst ho2
                  clear ho
                  have e10 := D.old 10 (by kernel_rfl)
                  exact wk.does_run (by simp only [execOp]; rw [show E (.tmp 10) = .pointer (some ⟨g, 0, none⟩) by rw [e10]; rfl]; go_simp) rfl
              case hdone =>
                intro vals w6 hb6 hv
                have h10 := hv 10 (by omega)
                have h11 := hv 11 (by omega)
                clear hv
                replace h10 : vals 10 = (.int .i64 mn) := h10
                replace h11 : vals 11 = (.pointer (some ⟨g, 0, none⟩)) := h11
                simp only [List.drop_succ_cons, List.drop_zero, wk.setL, List.setIfInBounds_toArray, List.set_cons_zero, List.set_cons_succ, Nat.zero_add, Nat.reduceAdd, h10, h11]
                generalize vals 0 = x0
                generalize vals 1 = x1
                generalize vals 2 = x2
                generalize vals 3 = x3
                generalize vals 4 = x4
                generalize vals 5 = x5
                generalize vals 6 = x6
                generalize vals 7 = x7
                generalize vals 8 = x8
                generalize vals 9 = x9
                have hb7 : Below wr.heap.size wr w6 := (Below.refl _ _).drew.trans hb6
                have hr7 := HRGA.out.below hb7
                have hc0 := hr7.c0
                have hf0 := hr7.f 0
                have HRGB0 := Lib.hid (hr7.set0 mn)
                have hbb := ((HBIA.out.trans (hb7.mono HBIA.out.size)).setCell (p := ⟨g, 0, none⟩) HGW.out (.int .i64 mn))
                have HBB0 := Lib.hid hbb
                have hVb := isVV_below HVR.out hbb
                have hRb := HTR.out.below hbb
                obtain ⟨v, hvL⟩ : ∃ v, L[i]? = some v := ⟨_, List.getElem?_eq_getElem (show i < L.length by rw [HLN.out]; exact hlti)⟩
                have hcT : (w6.setCell ⟨g, 0, none⟩ (.int .i64 mn)).cell? ⟨bT, oT + i, none⟩ = some (.slice (some ⟨bi, oi, none⟩) nh ci) := by
                  have h1 := hb7.cell (p := ⟨bT, oT + i, none⟩) HBI1A.out
                  have hne : bT < w0.heap.size := by
                    obtain ⟨b', o', _, _, _, e1, h2, _⟩ := HVR.out.2.2.2 i _ (table_at hvL)
                    cases e1; exact h2
                  rw [((Below.refl w0.heap.size w6).setCell (p := ⟨g, 0, none⟩) HGW.out (.int .i64 mn)).cell (p := ⟨bT, oT + i, none⟩) hne, h1]
                  exact HCI1A.out
                have hcX : (w6.setCell ⟨g, 0, none⟩ (.int .i64 mn)).cell? ⟨bi, oi + k, none⟩ = some (.int .i64 y) := by
                  have h1 := hb7.cell (p := ⟨bi, oi + k, none⟩) HBI2A.out
                  have hne : bi < w0.heap.size := by
                    obtain ⟨b', o', Aq, nq, cq, e1, h2, h3, h4⟩ := HVR.out.2.2.2 i _ (table_at hvL)
                    cases e1
                    have h5 := HBIA.out.cell (p := ⟨bT, oT + i, none⟩) h2
                    rw [h3, HCI1A.out] at h5
                    cases h5
                    obtain ⟨bq, oq, xq, e2, h6, -, -, -⟩ := isI_at h4 hlt
                    cases e2
                    exact block_lt_of_cell h6
                  rw [((Below.refl w0.heap.size w6).setCell (p := ⟨g, 0, none⟩) HGW.out (.int .i64 mn)).cell (p := ⟨bi, oi + k, none⟩) hne, h1]
                  exact HCI2A.out
                have HTIB0 := Lib.hid hRb
                have HCI1B0 := Lib.hid hcT
                have HCI2B0 := Lib.hid hcX
                have HBI1B0 := Lib.hid (block_lt_of_cell hcT)
                have HBI2B0 := Lib.hid (block_lt_of_cell hcX)
                clear hb6 hb7 hr7 hbb hVb hRb hcT hcX hvL
                go_wp2_with fail
                generalize w6.setCell ⟨g, 0, none⟩ (.int .i64 mn) = w7 at *
                have HRGB := HRGB0
                have HBB := HBB0
                have HTIB := HTIB0
                have HCI1B := HCI1B0
                have HCI2B := HCI2B0
                have HBI1B := HBI1B0
                have HBI2B := HBI2B0
                clear hc0 hf0
                refine wk.region_tailS 12 [.is (.pointer (some ⟨g, 1, none⟩)), .is (.int .i64 s2), .is (.pointer (some ⟨G1, 0, none⟩)), .is (.slice (some ⟨bT, oT, none⟩) n5 c5), .is (.int .i64 (i : Int)), .is (.pointer (some ⟨bT, oT + i, none⟩)), .is (.slice (some ⟨bi, oi, none⟩) nh ci), .is (.int .i64 (k : Int)), .is (.pointer (some ⟨bi, oi + k, none⟩)), .is (.int .i64 y), .is (.int .i64 mx), .is (.pointer (some ⟨g, 1, none⟩))] [some 61, some 62, some 63, some 64, some 65, some 66, some 67, some 68, some 69, some 70, some 71, some 72] (by kernel_rfl) (by kernel_rfl) (by kernel_rfl) (by kernel_rfl) [] (by kernel_rfl) (by intro p hp; cases hp) (by kernel_rfl) (by kernel_rfl) ?hstep ?hdone
                case hstep =>
                  intro i o ho hi hns E w8 hb8 D
                  have hi2 : i = 0 ∨ i = 1 ∨ i = 2 ∨ i = 3 ∨ i = 4 ∨ i = 5 ∨ i = 6 ∨ i = 7 ∨ i = 8 ∨ i = 9 ∨ i = 10 ∨ i = 11 := by omega
                  clear hi
                  rcases hi2 with rfl | rfl | rfl | rfl | rfl | rfl | rfl | rfl | rfl | rfl | rfl | rfl
                  ·
                    have ho2 := (Array.getElem?_eq_some_iff.1 ho).2
                    simp only [List.getElem_toArray, List.getElem_cons_zero] at ho2
                    subst ho2
                    clear ho
                    have e10 := D.old 10 (by kernel_rfl)
                    exact wk.does_run (by simp only [execOp]; rw [show E (.tmp 10) = .pointer (some ⟨g, 0, none⟩) by rw [e10]; rfl]; go_simp) rfl
                  ·
                    have ho2 := (Array.getElem?_eq_some_iff.1 ho).2
                    simp only [List.getElem_toArray, List.getElem_cons_succ, List.getElem_cons_zero] at ho2
                    subst ho2
                    clear ho
                    have e61 := D.is { on := 0, ground := .data } (by simp) rfl rfl 61 rfl
                    exact wk.does_load1 rfl e61 ((HRGB.out.below ((Below.refl _ _).drew.trans hb8)).c1) Try.underlying3 rfl rfl
                  ·
                    have ho2 := (Array.getElem?_eq_some_iff.1 ho).2
                    simp only [List.getElem_toArray, List.getElem_cons_succ, List.getElem_cons_zero] at ho2
                    subst ho2
                    clear ho
                    have e7 := D.old 7 (by kernel_rfl)
                    exact wk.does_run (by simp only [execOp]; rw [show E (.tmp 7) = .pointer (some ⟨G1, 0, none⟩) by rw [e7]; rfl]; go_simp) rfl
                  ·
                    have ho2 := (Array.getElem?_eq_some_iff.1 ho).2
                    simp only [List.getElem_toArray, List.getElem_cons_succ, List.getElem_cons_zero] at ho2
                    subst ho2
                    clear ho
                    have e63 := D.is { on := 2, ground := .data } (by simp) rfl rfl 63 rfl
                    exact wk.does_load1 rfl e63 ((HTIB.out.below ((Below.refl _ _).drew.trans hb8)).c (j := 0) rfl) Try.underlying22 rfl rfl
                  ·
                    have ho2 := (Array.getElem?_eq_some_iff.1 ho).2
                    simp only [List.getElem_toArray, List.getElem_cons_succ, List.getElem_cons_zero] at ho2
                    subst ho2
                    clear ho
                    have e11 := D.old 11 (by kernel_rfl)
                    exact wk.does_move rfl (by rw [e11]; rfl)
                  ·
                    have ho2 := (Array.getElem?_eq_some_iff.1 ho).2
                    simp only [List.getElem_toArray, List.getElem_cons_succ, List.getElem_cons_zero] at ho2
                    subst ho2
                    clear ho
                    have e64 := D.is { on := 3, ground := .data } (by simp) rfl rfl 64 rfl
                    have e65 := D.is { on := 4, ground := .data } (by simp) rfl rfl 65 rfl
                    exact wk.does_run (by simp only [execOp]; rw [show E (.tmp 64) = _ from e64, show E (.tmp 65) = _ from e65]; go_simp) rfl
                  ·
                    have ho2 := (Array.getElem?_eq_some_iff.1 ho).2
                    simp only [List.getElem_toArray, List.getElem_cons_succ, List.getElem_cons_zero] at ho2
                    subst ho2
                    clear ho
                    have e66 := D.is { on := 5, ground := .data } (by simp) rfl rfl 66 rfl
                    exact wk.does_load1 rfl e66 ((((Below.refl _ _).drew.trans hb8).cell (p := ⟨bT, oT + i, none⟩) HBI1B.out).trans HCI1B.out) Try.underlying23 rfl rfl
                  ·
                    have ho2 := (Array.getElem?_eq_some_iff.1 ho).2
                    simp only [List.getElem_toArray, List.getElem_cons_succ, List.getElem_cons_zero] at ho2
                    subst ho2
                    clear ho
                    have e9 := D.old 9 (by kernel_rfl)
                    exact wk.does_move rfl (by rw [e9]; rfl)
                  ·
                    have ho2 := (Array.getElem?_eq_some_iff.1 ho).2
                    simp only [List.getElem_toArray, List.getElem_cons_succ, List.getElem_cons_zero] at ho2
                    subst ho2
                    clear ho
                    have e67 := D.is { on := 6, ground := .data } (by simp) rfl rfl 67 rfl
                    have e68 := D.is { on := 7, ground := .data } (by simp) rfl rfl 68 rfl
                    exact wk.does_run (by simp only [execOp]; rw [show E (.tmp 67) = _ from e67, show E (.tmp 68) = _ from e68]; go_simp) rfl
                  ·
                    have ho2 := (Array.getElem?_eq_some_iff.1 ho).2
                    simp only [List.getElem_toArray, List.getElem_cons_succ, List.getElem_cons_zero] at ho2
                    subst ho2
                    clear ho
                    have e69 := D.is { on := 8, ground := .data } (by simp) rfl rfl 69 rfl
                    exact wk.does_load1 rfl e69 ((((Below.refl _ _).drew.trans hb8).cell (p := ⟨bi, oi + k, none⟩) HBI2B.out).trans HCI2B.out) Try.underlying3 rfl rfl
                  ·
                    have ho2 := (Array.getElem?_eq_some_iff.1 ho).2
                    simp only [List.getElem_toArray, List.getElem_cons_succ, List.getElem_cons_zero] at ho2
                    subst ho2
                    clear ho
                    have e62 := D.is { on := 1, ground := .data } (by simp) rfl rfl 62 rfl
                    have e70 := D.is { on := 9, ground := .data } (by simp) rfl rfl 70 rfl
                    exact wk.does_run (v := .int .i64 mx) (by unfold execOp; simp only [resolve, invoke, builtin, Sem.run_bind, Sem.run_pure, Result.andThen_ok, List.map_toArray, List.map_cons, List.map_nil]; rw [show E (.tmp 62) = _ from e62, show E (.tmp 70) = _ from e70]; go_simp; try rw [HMX.out]) rfl
                  ·
                    have ho2 := (Array.getElem?_eq_some_iff.1 ho).2
                    simp only [List.getElem_toArray, List.getElem_cons_succ, List.getElem_cons_zero] at ho2
                    subst ho2
                    clear ho
                    have e10 := D.old 10 (by kernel_rfl)
                    exact wk.does_run (by simp only [execOp]; rw [show E (.tmp 10) = .pointer (some ⟨g, 0, none⟩) by rw [e10]; rfl]; go_simp) rfl
                case hdone =>
                  intro vals w8 hb8 hv
                  have h10 := hv 10 (by omega)
                  have h11 := hv 11 (by omega)
                  clear hv
                  replace h10 : vals 10 = (.int .i64 mx) := h10
                  replace h11 : vals 11 = (.pointer (some ⟨g, 1, none⟩)) := h11
                  simp only [List.drop_succ_cons, List.drop_zero, wk.setL, List.setIfInBounds_toArray, List.set_cons_zero, List.set_cons_succ, Nat.zero_add, Nat.reduceAdd, h10, h11]
                  generalize vals 0 = x0
                  generalize vals 1 = x1
                  generalize vals 2 = x2
                  generalize vals 3 = x3
                  generalize vals 4 = x4
                  generalize vals 5 = x5
                  generalize vals 6 = x6
                  generalize vals 7 = x7
                  generalize vals 8 = x8
                  generalize vals 9 = x9
                  have hb9 : Below w7.heap.size w7 w8 := (Below.refl _ _).drew.trans hb8
                  have hr9 := HRGB.out.below hb9
                  have hc1 := hr9.c1
                  have hf1 := hr9.f 1
                  have HR9 := Lib.hid (hr9.set1 mx)
                  have HB9 := Lib.hid (((HBB.out.trans (hb9.mono HBB.out.size)).setCell (p := ⟨g, 1, none⟩) HGW.out (.int .i64 mx)))
                  clear hb8 hb9 hr9
                  go_wp2_with fail
                  go_roundg (gk - 1)
                  case measure => have := HKI.out; omega
                  case rel => exact ⟨i + 1, by have := HKI.out; omega, by go_num, by rw [HSK.out]; exact HR9.out, HB9.out⟩
            · obtain rfl : i = n5 := by omega
              rw [HSE.out] at hrg
              have hc0 := hrg.c0
              have hc1 := hrg.c1
              have HO := Lib.hid (keptB HOWN.out hbi)
              have HBZ := Lib.hid (HBEL.out.trans (hbi.mono HBW.out))
              have HBW2 : Hid (w2.heap.size ≤ wr.heap.size) := HBZ.out.size
              generalize shl m p L = s at *
              obtain ⟨s1, s2⟩ := s
              dsimp only at hc0 hc1
              clear hrg hbi
              go_wp2_with (at_builtin; refine wpList_append_own _ rfl _ _ 48 rfl w2.heap.size 65 i0 (.agg #[.int .i64 0, .int .i64 0]) 2 16 Try.underlying48 hi hz0 hz1 hz2 rfl (by decide) _ _ _ rfl (HO.out.alloc _) ⟨wr.heap.size, 0, none⟩ 1 1 [.int .i64 s1, .int .i64 s2] rfl rfl (RowS.new wr s1 s2).cells ?c2 ?c3 ?c4 ?c5 ?_)
              case c2 => simp [Value.oneCell']
              case c3 => unfold maxLen; omega
              case c4 => omega
              case c5 => have := HBW2.out; simp; omega
              intro v' w7 hown7 hgrow7 _
              have hB7 : Below w2.heap.size w2 w7 := (HBZ.out.alloc HBW2.out _).grown hgrow7 (by have := HBW2.out; simp only [size_new]; omega) (fun q hq => (HO.out.lt q hq).1)
              have HB7 := Lib.hid hB7
              have HO7 := Lib.hid hown7
              clear hown7 hgrow7 hB7 hc0 hc1
              go_wp2_with fail
              go_roundg (nh - (k + 1))
              case measure => have := HK.out; omega
              case rel =>
                refine ⟨k + 1, _, by have := HK.out; omega, rfl, by go_num, ?_, HB7.out⟩
                have hO := HO7.out
                rw [List.take_add_one, HTK.out, Option.toList_some, fl_append]
                exact hO
      · obtain rfl : k = n := by omega
        have ho := hown
        rw [List.take_of_length_le (by have := HSL.out; omega)] at ho
        obtain ⟨A9, c9, e9, hsq⟩ := isS_own_sq (B := w2.heap.size) (es := []) ho (Nat.le_refl _) HWD.out (by simp)
        subst e9
        have hlg : w.heap.size < w2.heap.size := by have := HLT2.out; have := HG1.out; omega
        have hR1 := HR2.out.belowB hbel hlg
        have hd0 := hR1.c (j := 0) rfl
        have hd1 := hR1.c (j := 1) rfl
        have hf0 := hR1.f 0
        have hf1 := hR1.f 1
        have HIF := Lib.hid (hsq _ ((Kq.of_set (i := 0) (.slice A9 k c9) hR1 (.inr hlg)).trans (Kq.of_set (i := 1) (.int .i64 0) (heap_setCell_same _ w.heap.size 0 _ MD _ hR1) (.inr hlg))))
        have HBF := Lib.hid (below_two (Below.andThen HB2.out hbel) (Nat.le_refl _) (.slice A9 k c9) (.int .i64 0))
        have HTF := Lib.hid (hR1.set2 (.slice A9 k c9) (.int .i64 0))
        clear hR1 hsq hlg ho hown hbel hk
        go_wp2_with fail
        exact bodyPost_ret (v := .agg #[.slice A9 k c9, .int .i64 0]) (results_cell_row (fn := Try.f25) rfl _ _ w.heap.size MD #[.slice A9 k c9, .int .i64 0] (0, 0) _ rfl HTF.out Try.underlying54 rfl (by kernel_rfl)) rfl ⟨_, _, _, rfl, HIF.out, HBF.out⟩
end Go.Proofs.Yteeianandjokaaa.pk
