/- Joined: Bj Bk Bg Bv Val3 Val5 Bl Val4. -/
import Derived.Test.YtegoinkkcfbfaaaG5

import Derived.Laws.EntriesVeiled

import Derived.Deep.RegionWith

import Derived.Lib.SliceRun
/- Keys of boxes. -/
namespace Go.Proofs.Ytegoinkkcfbfaaa.bk

open Go.ChangeShapes Go.WideShapes Go.ChangeAt Go.RowKit

open Go.Proofs.Ytegoinkkcfbfaaa.bq Go.Proofs.Ytegoinkkcfbfaaa.vk Go.Proofs.Ytegoinkkcfbfaaa.wk

set_option linter.unusedVariables false
attribute [local go_sem] Oper.semAt_some
def df (f : Nat) : Int → Int → Int → Int → Int := if f = 33 then bq.gap else bq.reach
theorem df_calls (f : Nat) (hf : f = 33 ∨ f = 34) (a b c d : Int) (h1 : -1000 ≤ a ∧ a ≤ 1000) (h2 : -1000 ≤ b ∧ b ≤ 1000) (h3 : -1000 ≤ c ∧ c ≤ 1000) (h4 : -1000 ≤ d ∧ d ≤ 1000) (w : World) :
    Calls Try.prog f #[rng a b, rng c d] w fun e w' => e = .returned (.int .i64 (df f a b c d)) ∧ Below w.heap.size w w' := by
  rcases hf with rfl | rfl
  · exact gap_calls a b c d w h1 h2 h3 h4
  · exact reach_calls a b c d w h1 h2 h3 h4
theorem df_enters (f : Nat) (hf : f = 33 ∨ f = 34) : ∀ args w, (callFunc f args).run Try.prog w = .ok (.enter f args) w := by
  rcases hf with rfl | rfl
  · intro args w; kernel_rfl
  · intro args w; kernel_rfl
theorem df_bd (f : Nat) (hf : f = 33 ∨ f = 34) {a b c d : Int} (h1 : -1000 ≤ a ∧ a ≤ 1000) (h2 : -1000 ≤ b ∧ b ≤ 1000) (h3 : -1000 ≤ c ∧ c ≤ 1000) (h4 : -1000 ≤ d ∧ d ≤ 1000) (h5 : a ≤ b) (h6 : c ≤ d) : 0 ≤ df f a b c d ∧ df f a b c d ≤ 2000 := by
  rcases hf with rfl | rfl
  · show 0 ≤ bq.gap a b c d ∧ bq.gap a b c d ≤ 2000
    unfold bq.gap; omega
  · show 0 ≤ bq.reach a b c d ∧ bq.reach a b c d ≤ 2000
    unfold bq.reach; omega
def asked (m : Int) (p q : Pair) : Bool := metric m && balike p q
set_option maxRecDepth 100000 in
set_option maxHeartbeats 8000000 in
theorem key_calls (m : Int) (v u : Value) (p q : Pair) (f : Nat) (hf : f = 33 ∨ f = 34) (w : World) (h : IsX w v p) (h2 : IsX w u q) :
    Calls Try.prog 31 #[.int .i64 m, v, u, .func (.func f) #[] #[]] w fun e w' => e = .returned (.tuple #[.int .i64 (if asked m p q then keyf m (difs (df f) p q) else 0), .int .i64 (if asked m p q then 0 else 1)]) ∧ Below w.heap.size w w' := by
  have HA := Lib.hid (fun w' hb => alike_calls v u p q w' (h.below hb) (h2.below hb))
  have HX := Lib.hid h
  have HX2 := Lib.hid h2
  have hFE := df_enters f hf
  have HDF := Lib.hid (df_calls f hf)
  have HDBD := Lib.hid (fun a b c d h1 h2 h3 h4 h5 h6 => @df_bd f hf a b c d h1 h2 h3 h4 h5 h6)
  obtain ⟨A, n, c, A', n', c', rfl, hi, hi'⟩ := h
  obtain ⟨A2, n2, c2, A2', n2', c2', rfl, hi2, hi2'⟩ := h2
  clear hi hi' hi2 hi2' hf
  obtain ⟨kv, hkv⟩ : ∃ kv : Int, (if asked m p q then keyf m (difs (df f) p q) else 0) = kv := ⟨_, rfl⟩
  obtain ⟨ke, hke⟩ : ∃ ke : Int, (if asked m p q then 0 else 1) = ke := ⟨_, rfl⟩
  rw [hkv, hke]
  have HKV := Lib.hid hkv
  have HKW := Lib.hid hke
  clear hkv hke
  refine enter_marks Try.func31 rfl ?_
  simp only [Try.ntmps31, List.size_toArray, List.length_cons, List.length_nil, Nat.reduceAdd, Nat.reduceSub, Array.replicate_succ, Array.replicate_zero, List.push_toArray, List.append_toArray, List.nil_append, List.cons_append]
  by_cases hmt : metric m = true
  · have hm := metric_iff.1 hmt
    have HAE := Lib.hid (add_enters m hm)
    have hQ := TwoX.new (w.alloc (.cells #[.slice A n c, .slice A' n' c'] 24)) (.slice A2 n2 c2) (.slice A2' n2' c2')
    have hP := (TwoX.new w (.slice A n c) (.slice A' n' c')).below (below_new _ (.cells #[.slice A2 n2 c2, .slice A2' n2' c2'] 24))
    have hF := One.new ((w.alloc (.cells #[.slice A n c, .slice A' n' c'] 24)).alloc (.cells #[.slice A2 n2 c2, .slice A2' n2' c2'] 24)) 69 (.func (.func f) #[] #[])
    have hb3 := below_new ((w.alloc (.cells #[.slice A n c, .slice A' n' c'] 24)).alloc (.cells #[.slice A2 n2 c2, .slice A2' n2' c2'] 24)) (.cells #[.func (.func f) #[] #[]] 69)
    have hP3 := hP.below hb3
    have hQ3 := hQ.below hb3
    have hB3 := Below.andThen (Below.andThen (below_new w (.cells #[.slice A n c, .slice A' n' c'] 24)) (below_new _ (.cells #[.slice A2 n2 c2, .slice A2' n2' c2'] 24))) hb3
    have hsz3 : (((w.alloc (.cells #[.slice A n c, .slice A' n' c'] 24)).alloc (.cells #[.slice A2 n2 c2, .slice A2' n2' c2'] 24)).alloc (.cells #[.func (.func f) #[] #[]] 69)).heap.size = w.heap.size + 3 := by simp only [size_new]
    simp only [size_new] at hQ3 hF
    clear hP hQ hb3
    generalize hw3 : ((w.alloc (.cells #[.slice A n c, .slice A' n' c'] 24)).alloc (.cells #[.slice A2 n2 c2, .slice A2' n2' c2'] 24)).alloc (.cells #[.func (.func f) #[] #[]] 69) = w3 at *
    have HW3 := Lib.hid hw3
    clear hw3
    have hb4 := below_new w3 (.cells #[.int .i64 0] 3)
    have hb5 := below_new (w3.alloc (.cells #[.int .i64 0] 3)) (.cells #[.func (.func (addf m)) #[] #[.pointer (some ⟨w.heap.size + 1 + 1 + 1, 0, none⟩)]] 106)
    have hS := (One.new w3 3 (.int .i64 0)).below hb5
    have hC := One.new (w3.alloc (.cells #[.int .i64 0] 3)) 106 (.func (.func (addf m)) #[] #[.pointer (some ⟨w.heap.size + 1 + 1 + 1, 0, none⟩)])
    rw [hsz3] at hS
    rw [size_new, hsz3] at hC
    have hbb := Below.andThen hb4 hb5
    have HP := Lib.hid (hP3.below hbb)
    have HQ := Lib.hid (hQ3.below hbb)
    have HF := Lib.hid (hF.below hbb)
    have HS0 := Lib.hid hS
    have HC := Lib.hid hC
    have HB := Lib.hid (hB3.trans (hbb.mono (by omega)))
    clear hP3 hQ3 hF hB3 hb4 hb5 hS hC hbb
    go_wp2_with fail
    refine (adder_calls m hm _).mono ?_
    rintro e w1 ⟨rfl, rfl⟩
    go_wp2_with fail
    simp only [HW3.out]
    by_cases hal : balike p q = true
    · have HASK : Hid (asked m p q = true) := by show _ = _; simp [asked, hmt, hal]
      obtain ⟨hl, hp, hq⟩ := balike_iff.1 hal
      rw [hal] at HA
      refine (HA.out _ HB.out).mono ?_
      rintro e w1 ⟨rfl, hb⟩
      replace HP := Lib.hid (HP.out.below hb)
      replace HQ := Lib.hid (HQ.out.below hb)
      replace HF := Lib.hid (HF.out.below hb)
      replace HS0 := Lib.hid (HS0.out.below hb)
      replace HC := Lib.hid (HC.out.below hb)
      replace HB := Lib.hid (HB.out.trans (hb.mono HB.out.size))
      clear hb hsz3 HW3
      have hbx := below_new w1 (.cells #[.int .i64 0] 3)
      have hP1 := HP.out.below hbx
      have hc0 := hP1.two.c0
      have hc1 := hP1.two.c1
      clear hP1 hbx
      go_wp2_with fail
      refine (sides_calls _ _ _).mono ?_
      rintro e w2 ⟨rfl, rfl⟩
      go_wp2_with fail
      obtain ⟨dk, hdk⟩ : ∃ dk : Nat → Int, dk = fun i => df f (at' p.1 i) (at' p.2 i) (at' q.1 i) (at' q.2 i) := ⟨_, rfl⟩
      have hdif : difs (df f) p q = (List.range p.1.length).map dk := by rw [hdk]; rfl
      have hplen := hp.len
      have hqlen := hq.len
      have hdb : ∀ i, i < p.1.length → 0 ≤ dk i ∧ dk i ≤ 2000 := fun i hi => by
        rw [hdk]
        exact HDBD.out _ _ _ _ (vec_at hp.lo hi) (vec_at hp.hi (by omega)) (vec_at hq.lo (by omega)) (vec_at hq.hi (by omega)) (hp.le i hi) (hq.le i (by omega))
      obtain ⟨K, hK⟩ : ∃ K : List (Nth p.1.length) → Int, K = fun pre => keyf m (pre.map fun y => dk y.1) := ⟨_, rfl⟩
      have hkb : ∀ pre : List (Nth p.1.length), pre.length < p.1.length → 0 ≤ K pre ∧ K pre ≤ 128000000 := fun pre hpre => by
        have h1 := keyf_bd m (pre.map fun y => dk y.1) (fun d hd => by obtain ⟨y, _, rfl⟩ := List.mem_map.1 hd; exact hdb y.1 y.2)
        rw [List.length_map] at h1
        have := hp.lo.le
        rw [hK]
        show 0 ≤ keyf m (pre.map fun y => dk y.1) ∧ keyf m (pre.map fun y => dk y.1) ≤ 128000000
        omega
      have HK0 : Hid (K [] = 0) := by show _ = _; rw [hK]; rfl
      have HKS : Hid (∀ pre x, K (pre ++ [x]) = bq.step m (K pre) (dk x.1)) := by
        intro pre x
        rw [hK]
        show keyf m ((pre ++ [x]).map fun y => dk y.1) = _
        rw [List.map_append, List.map_singleton, keyf_snoc]
      have HKE : Hid (∀ ys : List (Nth p.1.length), ys.map (·.1) = List.range p.1.length → K ys = keyf m (difs (df f) p q)) := by
        intro ys hys
        rw [hdif, ← hys, List.map_map, hK]; rfl
      clear hK
      have HKBA := Lib.hid hkb
      have HDBA := Lib.hid hdb
      have HDK := Lib.hid hdk
      clear hkb hdb hdk
      have HPV := Lib.hid hp
      have HQV := Lib.hid hq
      generalize hG : w.heap.size = G at *
      generalize hSS : w1.heap.size = S at *
      have hGS : G + 1 + 1 + 1 + 1 < S := by rw [← hSS]; exact HC.out.lt
      have hs2 : ∀ o1 o2, ((w1.alloc o1).alloc o2).heap.size = S + 2 := fun o1 o2 => by simp only [size_new, hSS]
      have hbx := below_new w1 (.cells #[.int .i64 0] 3)
      have hby := below_new (w1.alloc (.cells #[.int .i64 0] 3)) (.cells #[.slice A n c, .slice A' n' c'] 24)
      have hbz := Below.andThen hbx hby
      have hO2 := (One.new w1 3 (.int .i64 0)).below hby
      have hTw := Two.new (w1.alloc (.cells #[.int .i64 0] 3)) (.slice A n c) (.slice A' n' c') 24
      rw [hSS] at hO2
      simp only [size_new, hSS] at hTw
      replace HQ := Lib.hid (HQ.out.below hbz)
      replace HF := Lib.hid (HF.out.below hbz)
      replace HC := Lib.hid (HC.out.below hbz)
      have hO1 := HS0.out.below hbz
      have hB2 := HB.out.trans (hbz.mono (by omega))
      have hB2' : Below G w ((w1.alloc (.cells #[.int .i64 0] 3)).alloc (.cells #[.slice A n c, .slice A' n' c'] 24)) := hB2
      clear hbx hby hbz hB2 hc0 hc1
      refine range_sides' (some 13) 14 G (S + 1) [G + 1 + 1 + 1, S] p (.slice A n c) (.slice A' n' c') rfl ?c1 ?c2 ?c0 ?c3 ?c4 ?c5 ?c6 (fun pre W => One W (G + 1 + 1 + 1) 3 (.int .i64 (K pre)) ∧ One W S 3 (.int .i64 (K pre))) (fun c W => False) ?c7 ?c8 ?c9 ?rassign ?rbody ?rdone ?rstop
      case c0 => exact hTw
      case c1 => intro j hj; simp only [List.mem_cons, List.not_mem_nil, or_false] at hj; omega
      case c2 => rw [hs2]; omega
      case c3 => intro hj; simp only [List.mem_cons, List.not_mem_nil, or_false] at hj; omega
      case c4 => intro j hj; rw [hs2]; simp only [List.mem_cons, List.not_mem_nil, or_false] at hj; omega
      case c5 => omega
      case c6 =>
        intro w' hb
        exact HX.out.below (by rw [hG]; exact hB2'.trans hb)
      case c7 => exact OwnFrom.and (own_one (by rw [hs2]; omega)) (own_one (by rw [hs2]; omega))
      case c8 => intro c' s W W' row hs _ _; exact hs
      case c9 => rw [HK0.out]; exact ⟨hO1, hO2⟩
      case rassign =>
        intro l m i a b W K hK
        unfold rng at hK ⊢
        simp only [roundT, List.setIfInBounds_toArray, List.set_cons_succ, List.set_cons_zero] at hK ⊢
        gi_wp2
        exact hK
      case rbody =>
        rintro l m' pre x Bx W hBx hTB hx ⟨hO1, hO2⟩ hlen
        have HTB := Lib.hid hTB
        have HO1 := Lib.hid hO1
        have HO2 := Lib.hid hO2
        have hBG : Below G w W := hB2'.trans (hx.below (by rw [hs2]; omega) (by intro j hj; simp only [List.mem_cons, List.not_mem_nil, or_false] at hj; omega))
        have hxl := x.2
        have hblk : ∀ k, k < S → k ≠ G + 1 + 1 + 1 → W.heap[k]? = ((w1.alloc (.cells #[.int .i64 0] 3)).alloc (.cells #[.slice A n c, .slice A' n' c'] 24)).heap[k]? := fun k h1 h2 => hx.block k (by rw [hs2]; omega) (by simp only [List.mem_cons, List.not_mem_nil, or_false]; omega)
        replace HQ : Hid (TwoX W (G + 1) (.slice A2 n2 c2) (.slice A2' n2' c2')) := (hblk (G + 1) (by omega) (by omega)).trans HQ.out
        replace HF := Lib.hid (HF.out.at (hblk (G + 1 + 1) (by omega) (by omega)))
        replace HC := Lib.hid (HC.out.at (hblk (G + 1 + 1 + 1 + 1) (by omega) (by omega)))
        have HS := Lib.hid (fun w' (hb : Below W.heap.size W w') => side_calls _ q x.1 w' ((HX2.out.below (by rw [hG]; exact hBG)).below hb) (by omega) (by omega))
        have HD := Lib.hid (fun w' => HDF.out (at' p.1 x.1) (at' p.2 x.1) (at' q.1 x.1) (at' q.2 x.1) (vec_at HPV.out.lo hxl) (vec_at HPV.out.hi (by omega)) (vec_at HQV.out.lo (by omega)) (vec_at HQV.out.hi (by omega)) w')
        have HKB := Lib.hid (HKBA.out pre hlen)
        have HDB := Lib.hid (HDBA.out x.1 hxl)
        have HWB : Hid (S + 2 ≤ W.heap.size) := by have := hx.size; rw [hs2] at this; exact this
        have HSG : Hid (S ≠ G + 1 + 1 + 1) := by show _ ≠ _; omega
        have HDX : Hid (df f (at' p.1 x.1) (at' p.2 x.1) (at' q.1 x.1) (at' q.2 x.1) = dk x.1) := by show _ = _; rw [HDK.out]
        rw [HDX.out] at HD
        rw [hs2]
        clear hTB hO1 hO2 hx hBG hblk
        simp only [roundT, List.setIfInBounds_toArray, List.set_cons_succ, List.set_cons_zero]
        refine wpIn_block ?_
        refine wk.region_tailS_in l (by kernel_rfl) (fun ⟨_, _, h⟩ => h) 7 [.is (.func (.func (addf m)) #[] #[.pointer (some ⟨G + 1 + 1 + 1, 0, none⟩)]), .is (.func (.func f) #[] #[]), .is (rng (at' p.1 x.1) (at' p.2 x.1)), .is (.agg #[.slice A2 n2 c2, .slice A2' n2' c2']), .is (.int .i64 (x.1 : Int)), .is (rng (at' q.1 x.1) (at' q.2 x.1)), .is (.int .i64 (dk x.1))] [some 32, some 33, some 34, some 35, some 36, some 37, some 38] (by kernel_rfl) (by kernel_rfl) (by kernel_rfl) (by kernel_rfl) [] (by kernel_rfl) (by intro p hp; cases hp) (by kernel_rfl) (by kernel_rfl) ?hstep ?hdone
        case hstep =>
          intro i o ho hi hns E w4 hb4 D
          have hi2 : i = 0 ∨ i = 1 ∨ i = 2 ∨ i = 3 ∨ i = 4 ∨ i = 5 ∨ i = 6 := by omega
          clear hi
          rcases hi2 with rfl | rfl | rfl | rfl | rfl | rfl | rfl
          ·
            have ho2 := (Array.getElem?_eq_some_iff.1 ho).2
            simp only [List.getElem_toArray, List.getElem_cons_zero] at ho2
            subst ho2
            clear ho
            have e10 := D.old 10 (by kernel_rfl)
            exact wk.does_load1 rfl (by rw [e10]; rfl) (HC.out.below ((Below.refl _ _).drew.trans hb4)).cell Try.underlying106 rfl rfl
          ·
            have ho2 := (Array.getElem?_eq_some_iff.1 ho).2
            simp only [List.getElem_toArray, List.getElem_cons_succ, List.getElem_cons_zero] at ho2
            subst ho2
            clear ho
            have e7 := D.old 7 (by kernel_rfl)
            exact wk.does_load1 rfl (by rw [e7]; rfl) (HF.out.below ((Below.refl _ _).drew.trans hb4)).cell Try.underlying69 rfl rfl
          ·
            have ho2 := (Array.getElem?_eq_some_iff.1 ho).2
            simp only [List.getElem_toArray, List.getElem_cons_succ, List.getElem_cons_zero] at ho2
            subst ho2
            clear ho
            have e14 := D.old 14 (by kernel_rfl)
            obtain ⟨ty, hty⟩ := HTB.out.below ((Below.refl _ _).drew.trans hb4)
            exact wk.does_load_row rfl (by rw [e14]; rfl) hty Try.underlying75 rfl (by kernel_rfl) rfl
          ·
            have ho2 := (Array.getElem?_eq_some_iff.1 ho).2
            simp only [List.getElem_toArray, List.getElem_cons_succ, List.getElem_cons_zero] at ho2
            subst ho2
            clear ho
            have e6 := D.old 6 (by kernel_rfl)
            exact wk.does_load_row rfl (by rw [e6]; rfl) (HQ.out.below ((Below.refl _ _).drew.trans hb4)) Try.underlying24 rfl (by kernel_rfl) rfl
          ·
            have ho2 := (Array.getElem?_eq_some_iff.1 ho).2
            simp only [List.getElem_toArray, List.getElem_cons_succ, List.getElem_cons_zero] at ho2
            subst ho2
            clear ho
            have e13 := D.old 13 (by kernel_rfl)
            exact wk.does_move rfl (by rw [e13]; rfl)
          ·
            have ho2 := (Array.getElem?_eq_some_iff.1 ho).2
            simp only [List.getElem_toArray, List.getElem_cons_succ, List.getElem_cons_zero] at ho2
            subst ho2
            clear ho
            have e35 := D.is { on := 3, ground := .data } (by simp) rfl rfl 35 rfl
            have e36 := D.is { on := 4, ground := .data } (by simp) rfl rfl 36 rfl
            refine wk.does_fn (f := 74) (vs := #[.agg #[.slice A2 n2 c2, .slice A2' n2' c2'], .int .i64 (x.1 : Int)]) rfl (D.fn _) (by simp [e35, e36]) (by go_simp) ?_
            refine (HS.out w4 ((Below.refl _ _).drew.trans hb4)).mono ?_
            rintro e w7 ⟨rfl, hb7⟩
            exact ⟨_, rfl, hb7, rfl⟩
          ·
            have ho2 := (Array.getElem?_eq_some_iff.1 ho).2
            simp only [List.getElem_toArray, List.getElem_cons_succ, List.getElem_cons_zero] at ho2
            subst ho2
            clear ho
            have e33 := D.is { on := 1, ground := .data } (by simp) rfl rfl 33 rfl
            have e34 := D.is { on := 2, ground := .data } (by simp) rfl rfl 34 rfl
            have e37 := D.is { on := 5, ground := .data } (by simp) rfl rfl 37 rfl
            refine wk.does_fn (f := f) (vs := #[rng (at' p.1 x.1) (at' p.2 x.1), rng (at' q.1 x.1) (at' q.2 x.1)]) rfl e33 (by simp [e34, e37]) (hFE _ _) ?_
            refine (HD.out w4).mono ?_
            rintro e w7 ⟨rfl, hb7⟩
            exact ⟨_, rfl, hb7, rfl⟩
        case hdone =>
          intro vals w4 hb4 hv
          have h0 := hv 0 (by omega)
          have h6 := hv 6 (by omega)
          clear hv
          replace h0 : vals 0 = (.func (.func (addf m)) #[] #[.pointer (some ⟨G + 1 + 1 + 1, 0, none⟩)]) := h0
          replace h6 : vals 6 = (.int .i64 (dk x.1)) := h6
          simp only [List.drop_succ_cons, List.drop_zero, wk.setL, List.setIfInBounds_toArray, List.set_cons_zero, List.set_cons_succ, Nat.zero_add, Nat.reduceAdd, h0, h6]
          generalize vals 1 = x1
          generalize vals 2 = x2
          generalize vals 3 = x3
          generalize vals 4 = x4
          generalize vals 5 = x5
          have hb5 := ((Below.refl _ _).drew.trans hb4 : Below W.heap.size W w4)
          have hO5 := HO1.out.below hb5
          have hO6 := HO2.out.below hb5
          have hAD := Lib.hid (add_calls m hm (G + 1 + 1 + 1) (K pre) (dk x.1) w4 hO5 (HKB.out).1 (HKB.out).2 (HDB.out).1 (HDB.out).2)
          have hTU := Turn.of_below (M := [G + 1 + 1 + 1, S]) (B := S + 2) hb5 HWB.out
          have HTU := Lib.hid hTU
          have HO5 := Lib.hid hO5
          have HO6 := Lib.hid hO6
          clear hb4 hb5 hO5 hO6 hTU
          have hAE := HAE.out
          go_wp2_with fail
          refine hAD.out.mono ?_
          rintro e w5 ⟨rfl, rfl⟩
          have hO7 := HO6.out.other (.int .i64 (bq.step m (K pre) (dk x.1))) (k := G + 1 + 1 + 1) HSG.out
          have hc7 := hO7.cell
          have hf7 := hO7.frozen
          have HO7 := Lib.hid hO7
          clear hO7
          go_wp2_with fail
          refine ⟨(HTU.out.trans (Turn.setCell _ (by simp))).trans (Turn.setCell _ (by simp)), by rw [HKS.out]; exact (HO5.out.set _).other _ (Ne.symm HSG.out), by rw [HKS.out]; exact HO7.out.set _⟩
      case rdone =>
        rintro D ys W hD hys hx ⟨hO1, hO2⟩ hK
        have hO0 := hO2.cell
        rw [hs2] at hD
        have HKE2 := Lib.hid (HKE.out ys hys)
        generalize K ys = kk at *
        clear hplen hqlen hdif hys hl
        go_wp2_with fail
        refine leave_mark hK (results_tmp2 rfl _ _ _) ⟨?_, ?_⟩
        · rw [← HKV.out, ← HKW.out, HASK.out, if_pos rfl, if_pos rfl, ← HKE2.out]; rfl
        · rw [hG]; exact below_mark (hB2'.trans (hx.below (by rw [hs2]; omega) (by intro j hj; simp only [List.mem_cons, List.not_mem_nil, or_false] at hj; omega))) (by omega)
      case rstop =>
        rintro D c W hD hx hF hK
        exact hF.elim
    · have hal' : balike p q = false := by simpa using hal
      have HASK : Hid (asked m p q = false) := by show _ = _; simp [asked, hal']
      rw [hal'] at HA
      refine (HA.out _ HB.out).mono ?_
      rintro e w1 ⟨rfl, hb⟩
      replace HB := Lib.hid (HB.out.trans (hb.mono HB.out.size))
      clear hb
      go_wp2_with fail
      refine leave_bare (results_tmp2 rfl _ _ _) ⟨?_, HB.out⟩
      rw [← HKV.out, ← HKW.out, HASK.out]; rfl
  · have hmt' : metric m = false := by simpa using hmt
    have HASK : Hid (asked m p q = false) := by show _ = _; simp [asked, hmt']
    have HB := Lib.hid (Below.andThen (Below.andThen (Below.andThen (below_new w (.cells #[.slice A n c, .slice A' n' c'] 24)) (below_new _ (.cells #[.slice A2 n2 c2, .slice A2' n2' c2'] 24))) (below_new _ (.cells #[.func (.func f) #[] #[]] 69))) (below_new _ (.cells #[.int .i64 0] 3)))
    go_wp2_with fail
    refine (adder_no m hmt' _).mono ?_
    rintro e w1 ⟨rfl, rfl⟩
    go_wp2_with fail
    refine leave_bare (results_tmp2 rfl _ _ _) ⟨?_, ?_⟩
    · rw [← HKV.out, ← HKW.out, HASK.out]; rfl
    · exact Below.andThen HB.out (below_new _ _)
end Go.Proofs.Ytegoinkkcfbfaaa.bk
/- Near, Far, Apart. -/
namespace Go.Proofs.Ytegoinkkcfbfaaa.bk

open Go.ChangeShapes Go.WideShapes Go.ChangeAt Go.RowKit

open Go.Proofs.Ytegoinkkcfbfaaa.bq Go.Proofs.Ytegoinkkcfbfaaa.vk Go.Proofs.Ytegoinkkcfbfaaa.wk

set_option linter.unusedVariables false
set_option maxRecDepth 100000 in
theorem near_calls (m : Int) (v : Value) (p : Pair) (A : Option Addr) (n c : Nat) (l : List Int) (w : World) (h : IsX w v p) (h2 : wo.IsI w A n c l) :
    Calls Try.prog 7 #[.int .i64 m, v, .slice A n c] w fun e w' => e = .returned (.tuple #[.int .i64 (if asked m p (l, l) then keyf m (difs bq.gap p (l, l)) else 0), .int .i64 (if asked m p (l, l) then 0 else 1)]) ∧ Below w.heap.size w w' := by
  have HK := Lib.hid (fun w' hb => key_calls m v (.agg #[.slice A n c, .slice A n c]) p (l, l) 33 (.inl rfl) w' (h.below hb) ⟨A, n, c, A, n, c, rfl, isI_below h2 hb, isI_below h2 hb⟩)
  have hd : df 33 = bq.gap := rfl
  rw [hd] at HK
  obtain ⟨kv, hkv⟩ : ∃ kv : Int, (if asked m p (l, l) then keyf m (difs bq.gap p (l, l)) else 0) = kv := ⟨_, rfl⟩
  obtain ⟨ke, hke⟩ : ∃ ke : Int, (if asked m p (l, l) then 0 else 1) = ke := ⟨_, rfl⟩
  rw [hkv, hke] at HK ⊢
  clear hkv hke hd
  obtain ⟨A1, n1, c1, A1', n1', c1', rfl, hi, hi'⟩ := h
  have HB0 := Lib.hid (below_new w (.cells #[.slice A1 n1 c1, .slice A1' n1' c1'] 24))
  have HT := Lib.hid (TwoX.new w (.slice A1 n1 c1) (.slice A1' n1' c1'))
  clear hi hi' h2
  go_enter Try.func7, Try.ntmps7
  go_wp2_with fail
  refine wk.region_tailS 9 [.is (.int .i64 m), .is (.agg #[.slice A1 n1 c1, .slice A1' n1' c1']), .is (.slice A n c), .is (.agg #[.slice A n c, .slice A n c]), .is (.tuple #[.int .i64 kv, .int .i64 ke]), .is (.int .i64 kv), .is (.int .i64 ke), .is (.int .i64 kv), .is (.int .i64 ke)] [some 8, some 9, some 10, some 11, some 12, some 13, some 14, some 6, some 7] (by kernel_rfl) (by kernel_rfl) (by kernel_rfl) (by kernel_rfl) [] (by kernel_rfl) (by intro p hp; cases hp) (by kernel_rfl) (by kernel_rfl) ?hstep ?hdone
  case hstep =>
    intro i o ho hi hns E w4 hb4 D
    have hi2 : i = 0 ∨ i = 1 ∨ i = 2 ∨ i = 3 ∨ i = 4 ∨ i = 5 ∨ i = 6 ∨ i = 7 ∨ i = 8 := by omega
    clear hi
    rcases hi2 with rfl | rfl | rfl | rfl | rfl | rfl | rfl | rfl | rfl
    ·
      have ho2 := (Array.getElem?_eq_some_iff.1 ho).2
      simp only [List.getElem_toArray, List.getElem_cons_zero] at ho2
      subst ho2
      clear ho
      have e0 := D.old 0 (by kernel_rfl)
      exact wk.does_move rfl (by rw [e0]; rfl)
    ·
      have ho2 := (Array.getElem?_eq_some_iff.1 ho).2
      simp only [List.getElem_toArray, List.getElem_cons_succ, List.getElem_cons_zero] at ho2
      subst ho2
      clear ho
      have e4 := D.old 4 (by kernel_rfl)
      exact wk.does_load_row rfl (by rw [e4]; rfl) (HT.out.below ((Below.refl _ _).drew.trans hb4)) Try.underlying24 rfl (by kernel_rfl) rfl
    ·
      have ho2 := (Array.getElem?_eq_some_iff.1 ho).2
      simp only [List.getElem_toArray, List.getElem_cons_succ, List.getElem_cons_zero] at ho2
      subst ho2
      clear ho
      have e2 := D.old 2 (by kernel_rfl)
      exact wk.does_move rfl (by rw [e2]; rfl)
    ·
      have ho2 := (Array.getElem?_eq_some_iff.1 ho).2
      simp only [List.getElem_toArray, List.getElem_cons_succ, List.getElem_cons_zero] at ho2
      subst ho2
      clear ho
      have e10 := D.is { on := 2, ground := .data } (by simp) rfl rfl 10 rfl
      refine wk.does_fn (f := 32) (vs := #[.slice A n c]) rfl (D.fn _) (by simp [e10]) (by go_simp) ?_
      refine (point_calls A n c w4).mono ?_
      rintro e w7 ⟨rfl, hb7⟩
      exact ⟨_, rfl, hb7, rfl⟩
    ·
      have ho2 := (Array.getElem?_eq_some_iff.1 ho).2
      simp only [List.getElem_toArray, List.getElem_cons_succ, List.getElem_cons_zero] at ho2
      subst ho2
      clear ho
      have e8 := D.is { on := 0, ground := .data } (by simp) rfl rfl 8 rfl
      have e9 := D.is { on := 1, ground := .data } (by simp) rfl rfl 9 rfl
      have e11 := D.is { on := 3, ground := .data } (by simp) rfl rfl 11 rfl
      refine wk.does_fn (f := 31) (vs := #[.int .i64 m, .agg #[.slice A1 n1 c1, .slice A1' n1' c1'], .agg #[.slice A n c, .slice A n c], .func (.func 33) #[] #[]]) rfl (D.fn _) (by simp [e8, e9, e11, D.fn _]) (by go_simp) ?_
      refine (HK.out w4 (Below.andThen HB0.out ((Below.refl _ _).drew.trans hb4))).mono ?_
      rintro e w7 ⟨rfl, hb7⟩
      exact ⟨_, rfl, hb7, rfl⟩
    ·
      have ho2 := (Array.getElem?_eq_some_iff.1 ho).2
      simp only [List.getElem_toArray, List.getElem_cons_succ, List.getElem_cons_zero] at ho2
      subst ho2
      clear ho
      have e12 := D.is { on := 4, ground := .data } (by simp) rfl rfl 12 rfl
      exact wk.does_extract rfl e12 rfl rfl
    ·
      have ho2 := (Array.getElem?_eq_some_iff.1 ho).2
      simp only [List.getElem_toArray, List.getElem_cons_succ, List.getElem_cons_zero] at ho2
      subst ho2
      clear ho
      have e12 := D.is { on := 4, ground := .data } (by simp) rfl rfl 12 rfl
      exact wk.does_extract rfl e12 rfl rfl
    ·
      have ho2 := (Array.getElem?_eq_some_iff.1 ho).2
      simp only [List.getElem_toArray, List.getElem_cons_succ, List.getElem_cons_zero] at ho2
      subst ho2
      clear ho
      have e13 := D.is { on := 5, ground := .data } (by simp) rfl rfl 13 rfl
      exact wk.does_assign rfl e13
    ·
      have ho2 := (Array.getElem?_eq_some_iff.1 ho).2
      simp only [List.getElem_toArray, List.getElem_cons_succ, List.getElem_cons_zero] at ho2
      subst ho2
      clear ho
      have e14 := D.is { on := 6, ground := .data } (by simp) rfl rfl 14 rfl
      exact wk.does_assign rfl e14
  case hdone =>
    intro vals w4 hb4 hv
    have h7 := hv 7 (by omega)
    have h8 := hv 8 (by omega)
    clear hv
    replace h7 : vals 7 = (.int .i64 kv) := h7
    replace h8 : vals 8 = (.int .i64 ke) := h8
    simp only [List.drop_succ_cons, List.drop_zero, wpList, wk.setL, List.setIfInBounds_toArray, List.set_cons_zero, List.set_cons_succ, Nat.zero_add, Nat.reduceAdd, h7, h8]
    generalize vals 0 = x0
    generalize vals 1 = x1
    generalize vals 2 = x2
    generalize vals 3 = x3
    generalize vals 4 = x4
    generalize vals 5 = x5
    generalize vals 6 = x6
    have HB1 := Lib.hid (Below.andThen HB0.out ((Below.refl _ _).drew.trans hb4))
    clear hb4
    go_wp2_with fail
    exact bodyPost_ret (results_tmp2 rfl _ _ _) rfl ⟨rfl, HB1.out⟩
set_option maxRecDepth 100000 in
theorem far_calls (m : Int) (v : Value) (p : Pair) (A : Option Addr) (n c : Nat) (l : List Int) (w : World) (h : IsX w v p) (h2 : wo.IsI w A n c l) :
    Calls Try.prog 8 #[.int .i64 m, v, .slice A n c] w fun e w' => e = .returned (.tuple #[.int .i64 (if asked m p (l, l) then keyf m (difs bq.reach p (l, l)) else 0), .int .i64 (if asked m p (l, l) then 0 else 1)]) ∧ Below w.heap.size w w' := by
  have HK := Lib.hid (fun w' hb => key_calls m v (.agg #[.slice A n c, .slice A n c]) p (l, l) 34 (.inr rfl) w' (h.below hb) ⟨A, n, c, A, n, c, rfl, isI_below h2 hb, isI_below h2 hb⟩)
  have hd : df 34 = bq.reach := rfl
  rw [hd] at HK
  obtain ⟨kv, hkv⟩ : ∃ kv : Int, (if asked m p (l, l) then keyf m (difs bq.reach p (l, l)) else 0) = kv := ⟨_, rfl⟩
  obtain ⟨ke, hke⟩ : ∃ ke : Int, (if asked m p (l, l) then 0 else 1) = ke := ⟨_, rfl⟩
  rw [hkv, hke] at HK ⊢
  clear hkv hke hd
  obtain ⟨A1, n1, c1, A1', n1', c1', rfl, hi, hi'⟩ := h
  have HB0 := Lib.hid (below_new w (.cells #[.slice A1 n1 c1, .slice A1' n1' c1'] 24))
  have HT := Lib.hid (TwoX.new w (.slice A1 n1 c1) (.slice A1' n1' c1'))
  clear hi hi' h2
  go_enter Try.func8, Try.ntmps8
  go_wp2_with fail
  refine wk.region_tailS 9 [.is (.int .i64 m), .is (.agg #[.slice A1 n1 c1, .slice A1' n1' c1']), .is (.slice A n c), .is (.agg #[.slice A n c, .slice A n c]), .is (.tuple #[.int .i64 kv, .int .i64 ke]), .is (.int .i64 kv), .is (.int .i64 ke), .is (.int .i64 kv), .is (.int .i64 ke)] [some 8, some 9, some 10, some 11, some 12, some 13, some 14, some 6, some 7] (by kernel_rfl) (by kernel_rfl) (by kernel_rfl) (by kernel_rfl) [] (by kernel_rfl) (by intro p hp; cases hp) (by kernel_rfl) (by kernel_rfl) ?hstep ?hdone
  case hstep =>
    intro i o ho hi hns E w4 hb4 D
    have hi2 : i = 0 ∨ i = 1 ∨ i = 2 ∨ i = 3 ∨ i = 4 ∨ i = 5 ∨ i = 6 ∨ i = 7 ∨ i = 8 := by omega
    clear hi
    rcases hi2 with rfl | rfl | rfl | rfl | rfl | rfl | rfl | rfl | rfl
    ·
      have ho2 := (Array.getElem?_eq_some_iff.1 ho).2
      simp only [List.getElem_toArray, List.getElem_cons_zero] at ho2
      subst ho2
      clear ho
      have e0 := D.old 0 (by kernel_rfl)
      exact wk.does_move rfl (by rw [e0]; rfl)
    ·
      have ho2 := (Array.getElem?_eq_some_iff.1 ho).2
      simp only [List.getElem_toArray, List.getElem_cons_succ, List.getElem_cons_zero] at ho2
      subst ho2
      clear ho
      have e4 := D.old 4 (by kernel_rfl)
      exact wk.does_load_row rfl (by rw [e4]; rfl) (HT.out.below ((Below.refl _ _).drew.trans hb4)) Try.underlying24 rfl (by kernel_rfl) rfl
    ·
      have ho2 := (Array.getElem?_eq_some_iff.1 ho).2
      simp only [List.getElem_toArray, List.getElem_cons_succ, List.getElem_cons_zero] at ho2
      subst ho2
      clear ho
      have e2 := D.old 2 (by kernel_rfl)
      exact wk.does_move rfl (by rw [e2]; rfl)
    ·
      have ho2 := (Array.getElem?_eq_some_iff.1 ho).2
      simp only [List.getElem_toArray, List.getElem_cons_succ, List.getElem_cons_zero] at ho2
      subst ho2
      clear ho
      have e10 := D.is { on := 2, ground := .data } (by simp) rfl rfl 10 rfl
      refine wk.does_fn (f := 32) (vs := #[.slice A n c]) rfl (D.fn _) (by simp [e10]) (by go_simp) ?_
      refine (point_calls A n c w4).mono ?_
      rintro e w7 ⟨rfl, hb7⟩
      exact ⟨_, rfl, hb7, rfl⟩
    ·
      have ho2 := (Array.getElem?_eq_some_iff.1 ho).2
      simp only [List.getElem_toArray, List.getElem_cons_succ, List.getElem_cons_zero] at ho2
      subst ho2
      clear ho
      have e8 := D.is { on := 0, ground := .data } (by simp) rfl rfl 8 rfl
      have e9 := D.is { on := 1, ground := .data } (by simp) rfl rfl 9 rfl
      have e11 := D.is { on := 3, ground := .data } (by simp) rfl rfl 11 rfl
      refine wk.does_fn (f := 31) (vs := #[.int .i64 m, .agg #[.slice A1 n1 c1, .slice A1' n1' c1'], .agg #[.slice A n c, .slice A n c], .func (.func 34) #[] #[]]) rfl (D.fn _) (by simp [e8, e9, e11, D.fn _]) (by go_simp) ?_
      refine (HK.out w4 (Below.andThen HB0.out ((Below.refl _ _).drew.trans hb4))).mono ?_
      rintro e w7 ⟨rfl, hb7⟩
      exact ⟨_, rfl, hb7, rfl⟩
    ·
      have ho2 := (Array.getElem?_eq_some_iff.1 ho).2
      simp only [List.getElem_toArray, List.getElem_cons_succ, List.getElem_cons_zero] at ho2
      subst ho2
      clear ho
      have e12 := D.is { on := 4, ground := .data } (by simp) rfl rfl 12 rfl
      exact wk.does_extract rfl e12 rfl rfl
    ·
      have ho2 := (Array.getElem?_eq_some_iff.1 ho).2
      simp only [List.getElem_toArray, List.getElem_cons_succ, List.getElem_cons_zero] at ho2
      subst ho2
      clear ho
      have e12 := D.is { on := 4, ground := .data } (by simp) rfl rfl 12 rfl
      exact wk.does_extract rfl e12 rfl rfl
    ·
      have ho2 := (Array.getElem?_eq_some_iff.1 ho).2
      simp only [List.getElem_toArray, List.getElem_cons_succ, List.getElem_cons_zero] at ho2
      subst ho2
      clear ho
      have e13 := D.is { on := 5, ground := .data } (by simp) rfl rfl 13 rfl
      exact wk.does_assign rfl e13
    ·
      have ho2 := (Array.getElem?_eq_some_iff.1 ho).2
      simp only [List.getElem_toArray, List.getElem_cons_succ, List.getElem_cons_zero] at ho2
      subst ho2
      clear ho
      have e14 := D.is { on := 6, ground := .data } (by simp) rfl rfl 14 rfl
      exact wk.does_assign rfl e14
  case hdone =>
    intro vals w4 hb4 hv
    have h7 := hv 7 (by omega)
    have h8 := hv 8 (by omega)
    clear hv
    replace h7 : vals 7 = (.int .i64 kv) := h7
    replace h8 : vals 8 = (.int .i64 ke) := h8
    simp only [List.drop_succ_cons, List.drop_zero, wpList, wk.setL, List.setIfInBounds_toArray, List.set_cons_zero, List.set_cons_succ, Nat.zero_add, Nat.reduceAdd, h7, h8]
    generalize vals 0 = x0
    generalize vals 1 = x1
    generalize vals 2 = x2
    generalize vals 3 = x3
    generalize vals 4 = x4
    generalize vals 5 = x5
    generalize vals 6 = x6
    have HB1 := Lib.hid (Below.andThen HB0.out ((Below.refl _ _).drew.trans hb4))
    clear hb4
    go_wp2_with fail
    exact bodyPost_ret (results_tmp2 rfl _ _ _) rfl ⟨rfl, HB1.out⟩
set_option maxRecDepth 100000 in
theorem apart_calls (m : Int) (v u : Value) (p q : Pair) (w : World) (h : IsX w v p) (h2 : IsX w u q) :
    Calls Try.prog 9 #[.int .i64 m, v, u] w fun e w' => e = .returned (.tuple #[.int .i64 (if asked m p q then keyf m (difs bq.gap p q) else 0), .int .i64 (if asked m p q then 0 else 1)]) ∧ Below w.heap.size w w' := by
  have HK := Lib.hid (fun w' hb => key_calls m v u p q 33 (.inl rfl) w' (h.below hb) (h2.below hb))
  have hd : df 33 = bq.gap := rfl
  rw [hd] at HK
  obtain ⟨kv, hkv⟩ : ∃ kv : Int, (if asked m p q then keyf m (difs bq.gap p q) else 0) = kv := ⟨_, rfl⟩
  obtain ⟨ke, hke⟩ : ∃ ke : Int, (if asked m p q then 0 else 1) = ke := ⟨_, rfl⟩
  rw [hkv, hke] at HK ⊢
  clear hkv hke hd
  obtain ⟨A1, n1, c1, A1', n1', c1', rfl, hi, hi'⟩ := h
  obtain ⟨A2, n2, c2, A2', n2', c2', rfl, hi2, hi2'⟩ := h2
  have HB0 := Lib.hid (Below.andThen (below_new w (.cells #[.slice A1 n1 c1, .slice A1' n1' c1'] 24)) (below_new _ (.cells #[.slice A2 n2 c2, .slice A2' n2' c2'] 24)))
  clear hi hi' hi2 hi2'
  go_enter Try.func9, Try.ntmps9
  go_wp2_with fail
  refine (HK.out _ HB0.out).mono ?_
  rintro e w1 ⟨rfl, hb⟩
  have HB1 := Lib.hid (HB0.out.trans (hb.mono HB0.out.size))
  clear hb
  go_wp2_with fail
  exact bodyPost_ret (results_tmp2 rfl _ _ _) rfl ⟨rfl, HB1.out⟩
end Go.Proofs.Ytegoinkkcfbfaaa.bk
/- Meet. -/
namespace Go.Proofs.Ytegoinkkcfbfaaa.bk

open Go.ChangeShapes Go.WideShapes Go.ChangeAt Go.RowKit

open Go.Proofs.Ytegoinkkcfbfaaa.bq Go.Proofs.Ytegoinkkcfbfaaa.vk Go.Proofs.Ytegoinkkcfbfaaa.wk

set_option linter.unusedVariables false
def meetR (p q : Pair) : Pair × Bool × Int := if balike p q then (if bvalid (meet p q) then (meet p q, true, 0) else (([], []), false, 0)) else (([], []), false, 1)
set_option maxRecDepth 100000 in
set_option maxHeartbeats 4000000 in
theorem meet_calls (v u : Value) (p q : Pair) (w : World) (h : IsX w v p) (h2 : IsX w u q) :
    Calls Try.prog 30 #[v, u] w fun e w' => ∃ x, e = .returned (.tuple #[x, .bool (meetR p q).2.1, .int .i64 (meetR p q).2.2]) ∧ IsX w' x (meetR p q).1 ∧ Below w.heap.size w w' := by
  have HA := Lib.hid (fun w' hb => alike_calls v u p q w' (h.below hb) (h2.below hb))
  obtain ⟨A, n, c, A', n', c', rfl, hi, hi'⟩ := h
  obtain ⟨A2, n2, c2, A2', n2', c2', rfl, hi2, hi2'⟩ := h2
  have HB0 := Lib.hid (Below.andThen (Below.andThen (below_new w (.cells #[.slice A n c, .slice A' n' c'] 24)) (below_new _ (.cells #[.slice A2 n2 c2, .slice A2' n2' c2'] 24))) (below_new _ (.cells #[.slice none 0 0, .slice none 0 0] 24)))
  have hT1 := ((Two.new w (.slice A n c) (.slice A' n' c') 24).below (below_new _ (.cells #[.slice A2 n2 c2, .slice A2' n2' c2'] 24))).below (below_new _ (.cells #[.slice none 0 0, .slice none 0 0] 24))
  have hT2 := (Two.new (w.alloc (.cells #[.slice A n c, .slice A' n' c'] 24)) (.slice A2 n2 c2) (.slice A2' n2' c2') 24).below (below_new _ (.cells #[.slice none 0 0, .slice none 0 0] 24))
  have hT3 := TwoX.new ((w.alloc (.cells #[.slice A n c, .slice A' n' c'] 24)).alloc (.cells #[.slice A2 n2 c2, .slice A2' n2' c2'] 24)) (.slice none 0 0) (.slice none 0 0)
  simp only [size_new] at hT2 hT3
  by_cases hal : balike p q = true
  · obtain ⟨hl, hp, hq⟩ := balike_iff.1 hal
    have hn1 := hp.lo.le
    have hnn := hp.len
    have hnn2 := hq.len
    have HJ1 := Lib.hid (fun w' (hb : Below w.heap.size w w') => joined_calls 71 (.inr rfl) A A2 n c n2 c2 p.1 q.1 w' (isI_below hi hb) (isI_below hi2 hb) (by rw [← hi.1, ← hi2.1]; omega) (by rw [← hi.1]; omega))
    have HJ2 := Lib.hid (fun w' (hb : Below w.heap.size w w') => joined_calls 72 (.inl rfl) A' A2' n' c' n2' c2' p.2 q.2 w' (isI_below hi' hb) (isI_below hi2' hb) (by rw [← hi'.1, ← hi2'.1]; omega) (by rw [← hi'.1]; omega))
    clear hi hi' hi2 hi2'
    rw [hal] at HA
    have HR : Hid (meetR p q = if bvalid (meet p q) then (meet p q, true, 0) else (([], []), false, 0)) := by show _ = _; rw [meetR, if_pos hal]
    go_enter Try.func30, Try.ntmps30
    go_wp2_with fail
    refine (HA.out _ HB0.out).mono ?_
    rintro e w1 ⟨rfl, hb⟩
    have HB1 := Lib.hid (HB0.out.trans (hb.mono HB0.out.size))
    have HT1 := Lib.hid (hT1.below hb)
    have HT2 := Lib.hid (hT2.below hb)
    have HT3 := Lib.hid (hT3.below hb)
    replace HJ1 := Lib.hid (fun w' (hb : Below w1.heap.size w1 w') => HJ1.out w' (HB1.out.trans (hb.mono HB1.out.size)))
    replace HJ2 := Lib.hid (fun w' (hb : Below w1.heap.size w1 w') => HJ2.out w' (HB1.out.trans (hb.mono HB1.out.size)))
    clear hb hT1 hT2 hT3
    go_wp2_with fail
    generalize hG : w.heap.size = G at *
    refine wk.region_tailS 12 [.is (.pointer (some ⟨G, 0, none⟩)), .is (.slice A n c), .is (.pointer (some ⟨G + 1, 0, none⟩)), .is (.slice A2 n2 c2), .st (fun u x => IsV u x (joinf 71 p.1 q.1)) (fun u u2 x h hb => h.below hb), .is (.pointer (some ⟨G, 1, none⟩)), .is (.slice A' n' c'), .is (.pointer (some ⟨G + 1, 1, none⟩)), .is (.slice A2' n2' c2'), .st (fun u x => IsV u x (joinf 72 p.2 q.2)) (fun u u2 x h hb => h.below hb), .st (fun u x => IsX u x (joinf 71 p.1 q.1, joinf 72 p.2 q.2)) (fun u u2 x h hb => h.below hb), .st (fun u x => ∃ g, x = .pointer (some ⟨g, 0, none⟩) ∧ TwoX u g (.slice none 0 0) (.slice none 0 0) ∧ w1.heap.size ≤ g) (fun u u2 x h hb => by obtain ⟨g, h1, h2, h3⟩ := h; exact ⟨g, h1, h2.below hb, h3⟩)] [some 13, some 14, some 15, some 16, some 17, some 18, some 19, some 20, some 21, some 22, some 23, some 7] (by kernel_rfl) (by kernel_rfl) (by kernel_rfl) (by kernel_rfl) [] (by kernel_rfl) (by intro p hp; cases hp) (by kernel_rfl) (by kernel_rfl) ?hstep ?hdone
    case hstep =>
      intro i o ho hi hns E w4 hb4 D
      have hi2 : i = 0 ∨ i = 1 ∨ i = 2 ∨ i = 3 ∨ i = 4 ∨ i = 5 ∨ i = 6 ∨ i = 7 ∨ i = 8 ∨ i = 9 ∨ i = 10 ∨ i = 11 := by omega
      clear hi
      rcases hi2 with rfl | rfl | rfl | rfl | rfl | rfl | rfl | rfl | rfl | rfl | rfl | rfl
      ·
        have ho2 := (Array.getElem?_eq_some_iff.1 ho).2
        simp only [List.getElem_toArray, List.getElem_cons_zero] at ho2
        subst ho2
        clear ho
        have e2 := D.old 2 (by kernel_rfl)
        exact wk.does_run (by simp only [execOp]; rw [show E (.tmp 2) = .pointer (some ⟨G, 0, none⟩) by rw [e2]; rfl]; go_simp) rfl
      ·
        have ho2 := (Array.getElem?_eq_some_iff.1 ho).2
        simp only [List.getElem_toArray, List.getElem_cons_succ, List.getElem_cons_zero] at ho2
        subst ho2
        clear ho
        have e13 := D.is { on := 0, ground := .data } (by simp) rfl rfl 13 rfl
        exact wk.does_load1 rfl e13 ((HT1.out.below ((Below.refl _ _).drew.trans hb4)).c0) Try.underlying22 rfl rfl
      ·
        have ho2 := (Array.getElem?_eq_some_iff.1 ho).2
        simp only [List.getElem_toArray, List.getElem_cons_succ, List.getElem_cons_zero] at ho2
        subst ho2
        clear ho
        have e3 := D.old 3 (by kernel_rfl)
        exact wk.does_run (by simp only [execOp]; rw [show E (.tmp 3) = .pointer (some ⟨G + 1, 0, none⟩) by rw [e3]; rfl]; go_simp) rfl
      ·
        have ho2 := (Array.getElem?_eq_some_iff.1 ho).2
        simp only [List.getElem_toArray, List.getElem_cons_succ, List.getElem_cons_zero] at ho2
        subst ho2
        clear ho
        have e15 := D.is { on := 2, ground := .data } (by simp) rfl rfl 15 rfl
        exact wk.does_load1 rfl e15 ((HT2.out.below ((Below.refl _ _).drew.trans hb4)).c0) Try.underlying22 rfl rfl
      ·
        have ho2 := (Array.getElem?_eq_some_iff.1 ho).2
        simp only [List.getElem_toArray, List.getElem_cons_succ, List.getElem_cons_zero] at ho2
        subst ho2
        clear ho
        have e14 := D.is { on := 1, ground := .data } (by simp) rfl rfl 14 rfl
        have e16 := D.is { on := 3, ground := .data } (by simp) rfl rfl 16 rfl
        refine wk.does_fn (f := 70) (vs := #[.slice A n c, .slice A2 n2 c2, .func (.func 71) #[] #[]]) rfl (D.fn _) (by simp [e14, e16, D.fn _]) (by go_simp) ?_
        refine (HJ1.out w4 ((Below.refl _ _).drew.trans hb4)).mono ?_
        rintro e w7 ⟨v7, rfl, hI7, hb7⟩
        exact ⟨_, rfl, hb7, hI7⟩
      ·
        have ho2 := (Array.getElem?_eq_some_iff.1 ho).2
        simp only [List.getElem_toArray, List.getElem_cons_succ, List.getElem_cons_zero] at ho2
        subst ho2
        clear ho
        have e2 := D.old 2 (by kernel_rfl)
        exact wk.does_run (by simp only [execOp]; rw [show E (.tmp 2) = .pointer (some ⟨G, 0, none⟩) by rw [e2]; rfl]; go_simp) rfl
      ·
        have ho2 := (Array.getElem?_eq_some_iff.1 ho).2
        simp only [List.getElem_toArray, List.getElem_cons_succ, List.getElem_cons_zero] at ho2
        subst ho2
        clear ho
        have e18 := D.is { on := 5, ground := .data } (by simp) rfl rfl 18 rfl
        exact wk.does_load1 rfl e18 ((HT1.out.below ((Below.refl _ _).drew.trans hb4)).c1) Try.underlying22 rfl rfl
      ·
        have ho2 := (Array.getElem?_eq_some_iff.1 ho).2
        simp only [List.getElem_toArray, List.getElem_cons_succ, List.getElem_cons_zero] at ho2
        subst ho2
        clear ho
        have e3 := D.old 3 (by kernel_rfl)
        exact wk.does_run (by simp only [execOp]; rw [show E (.tmp 3) = .pointer (some ⟨G + 1, 0, none⟩) by rw [e3]; rfl]; go_simp) rfl
      ·
        have ho2 := (Array.getElem?_eq_some_iff.1 ho).2
        simp only [List.getElem_toArray, List.getElem_cons_succ, List.getElem_cons_zero] at ho2
        subst ho2
        clear ho
        have e20 := D.is { on := 7, ground := .data } (by simp) rfl rfl 20 rfl
        exact wk.does_load1 rfl e20 ((HT2.out.below ((Below.refl _ _).drew.trans hb4)).c1) Try.underlying22 rfl rfl
      ·
        have ho2 := (Array.getElem?_eq_some_iff.1 ho).2
        simp only [List.getElem_toArray, List.getElem_cons_succ, List.getElem_cons_zero] at ho2
        subst ho2
        clear ho
        have e19 := D.is { on := 6, ground := .data } (by simp) rfl rfl 19 rfl
        have e21 := D.is { on := 8, ground := .data } (by simp) rfl rfl 21 rfl
        refine wk.does_fn (f := 70) (vs := #[.slice A' n' c', .slice A2' n2' c2', .func (.func 72) #[] #[]]) rfl (D.fn _) (by simp [e19, e21, D.fn _]) (by go_simp) ?_
        refine (HJ2.out w4 ((Below.refl _ _).drew.trans hb4)).mono ?_
        rintro e w7 ⟨v7, rfl, hI7, hb7⟩
        exact ⟨_, rfl, hb7, hI7⟩
      ·
        have ho2 := (Array.getElem?_eq_some_iff.1 ho).2
        simp only [List.getElem_toArray, List.getElem_cons_succ, List.getElem_cons_zero] at ho2
        subst ho2
        clear ho
        have s17 := D.st { on := 4, ground := .data } (by simp) rfl rfl 17 rfl
        have s22 := D.st { on := 9, ground := .data } (by simp) rfl rfl 22 rfl
        obtain ⟨A7, n7, c7, e7, hI7⟩ := s17
        obtain ⟨A8, n8, c8, e8, hI8⟩ := s22
        exact wk.does_run (by simp only [execOp, List.map_toArray, List.map_cons, List.map_nil]; rw [show E (.tmp 17) = _ from e7, show E (.tmp 22) = _ from e8]; go_simp) ⟨A7, n7, c7, A8, n8, c8, rfl, hI7, hI8⟩
      ·
        have ho2 := (Array.getElem?_eq_some_iff.1 ho).2
        simp only [List.getElem_toArray, List.getElem_cons_succ, List.getElem_cons_zero] at ho2
        subst ho2
        clear ho
        exact wk.does_new (w' := w4.alloc (.cells #[.slice none 0 0, .slice none 0 0] 24)) (by simp only [execOp]; go_simp) (below_new _ _) ⟨_, rfl, TwoX.new _ _ _, hb4.size⟩
    case hdone =>
      intro vals w4 hb4 hv
      have h10 := hv 10 (by omega)
      have h11 := hv 11 (by omega)
      clear hv
      simp only [List.drop_succ_cons, List.drop_zero, wk.setL, List.setIfInBounds_toArray, List.set_cons_zero, List.set_cons_succ, Nat.zero_add, Nat.reduceAdd]
      generalize vals 0 = x0
      generalize vals 1 = x1
      generalize vals 2 = x2
      generalize vals 3 = x3
      generalize vals 4 = x4
      generalize vals 5 = x5
      generalize vals 6 = x6
      generalize vals 7 = x7
      generalize vals 8 = x8
      generalize vals 9 = x9
      generalize vals 10 = x10 at *
      generalize vals 11 = x11 at *
      obtain ⟨A7, n7, c7, A8, n8, c8, rfl, hI7, hI8⟩ := h10
      obtain ⟨g, rfl, hg, hgB⟩ := h11
      have hb5 := ((Below.refl _ _).drew.trans hb4 : Below w1.heap.size w1 w4)
      have hs3 := (Array.getElem?_eq_some_iff.1 HT3.out).1
      have hc0 := hg.two.c0
      have hc1 := hg.two.c1
      have hf0 := hg.f0 0
      have hf1 := hg.f0 1
      have hB5 := HB1.out.trans (hb5.mono (by rw [← hG]; exact HB1.out.size))
      have hGg : G ≤ g := by omega
      have HB6 := Lib.hid (below_set2 hB5 hGg (.slice A7 n7 c7) (.slice A8 n8 c8))
      have HT4 : Hid (TwoX ((w4.setCell ⟨g, 0, none⟩ (.slice A7 n7 c7)).setCell ⟨g, 1, none⟩ (.slice A8 n8 c8)) (G + 1 + 1) (.slice none 0 0) (.slice none 0 0)) := (set2_other w4 g _ _ (G + 1 + 1) (by omega)).trans (HT3.out.below hb5)
      have hX5 : IsX ((w4.setCell ⟨g, 0, none⟩ (.slice A7 n7 c7)).setCell ⟨g, 1, none⟩ (.slice A8 n8 c8)) (.agg #[.slice A7 n7 c7, .slice A8 n8 c8]) (meet p q) := ⟨_, _, _, _, _, _, rfl, isI_set2 hI7 hg _ _, isI_set2 hI8 hg _ _⟩
      have hg2 := hg.set (.slice A7 n7 c7) (.slice A8 n8 c8)
      clear hb4 hb5 hs3 hI7 hI8 hg hB5
      go_wp2_with fail
      generalize (w4.setCell ⟨g, 0, none⟩ (.slice A7 n7 c7)).setCell ⟨g, 1, none⟩ (.slice A8 n8 c8) = w5 at *
      clear hc0 hc1 hf0 hf1
      have hc0 := hg2.two.c0
      have hc1 := hg2.two.c1
      have HX5 := Lib.hid hX5
      have HG2 := Lib.hid hg2
      have HV := Lib.hid (valid_calls _ _ _ hX5)
      clear hX5 hg2
      go_wp2_with fail
      refine HV.out.mono ?_
      rintro e w6 ⟨rfl, hb⟩
      have hr := HR.out
      have HB7 := Lib.hid (HB6.out.trans (hb.mono (by rw [← hG]; exact HB6.out.size)))
      have hx3 := HT4.out.below hb
      have hc3 := hx3.two.c0
      have hc4 := hx3.two.c1
      have hf3 := hx3.f0 0
      have hf4 := hx3.f0 1
      cases hv : bvalid (meet p q)
      · rw [hv] at hr
        simp only [if_false, Bool.false_eq_true] at hr
        have HRR := Lib.hid hr
        have HX3 := Lib.hid (hx3.set (.slice none 0 0) (.slice none 0 0))
        clear hb hx3 hr
        go_wp2_with fail
        rw [HRR.out, hG]
        exact bodyPost_ret (v := .tuple #[.agg #[.slice none 0 0, .slice none 0 0], .bool false, .int .i64 0]) (res_x2 (fn := Try.f30) rfl _ _ (G + 1 + 1) _ _ rfl HX3.out) rfl ⟨_, rfl, isX_nil _, below_set2 HB7.out (by omega) _ _⟩
      · rw [hv] at hr
        simp only [if_true] at hr
        have HRR := Lib.hid hr
        have hg3 := HG2.out.below hb
        have hc5 := hg3.two.c0
        have hc6 := hg3.two.c1
        have HX3 := Lib.hid (hx3.set (.slice A7 n7 c7) (.slice A8 n8 c8))
        obtain ⟨_, _, _, _, _, _, he, hi1, hi2⟩ := HX5.out.below hb
        cases he
        have HX6 := Lib.hid (⟨_, _, _, _, _, _, rfl, isI_set2 hi1 hx3 _ _, isI_set2 hi2 hx3 _ _⟩ : IsX ((w6.setCell ⟨G + 1 + 1, 0, none⟩ (.slice A7 n7 c7)).setCell ⟨G + 1 + 1, 1, none⟩ (.slice A8 n8 c8)) (.agg #[.slice A7 n7 c7, .slice A8 n8 c8]) (meet p q))
        clear hb hx3 hr hg3 hi1 hi2
        go_wp2_with fail
        rw [HRR.out, hG]
        exact bodyPost_ret (v := .tuple #[.agg #[.slice A7 n7 c7, .slice A8 n8 c8], .bool true, .int .i64 0]) (res_x2 (fn := Try.f30) rfl _ _ (G + 1 + 1) _ _ rfl HX3.out) rfl ⟨_, rfl, HX6.out, below_set2 HB7.out (by omega) _ _⟩
  · have hal' : balike p q = false := by simpa using hal
    have hR : meetR p q = (([], []), false, 1) := by rw [meetR, if_neg hal]
    clear hi hi' hi2 hi2' hT1 hT2
    rw [hal'] at HA
    rw [hR]
    have HT3 := Lib.hid hT3
    clear hT3
    go_enter Try.func30, Try.ntmps30
    go_wp2_with fail
    refine (HA.out _ HB0.out).mono ?_
    rintro e w1 ⟨rfl, hb⟩
    have HB1 := Lib.hid (HB0.out.trans (hb.mono HB0.out.size))
    have hx3 := HT3.out.below hb
    have hc0 := hx3.two.c0
    have hc1 := hx3.two.c1
    have hf0 := hx3.f0 0
    have hf1 := hx3.f0 1
    have HX3 := Lib.hid hx3
    clear hb hx3
    go_wp2_with fail
    exact bodyPost_ret (v := .tuple #[.agg #[.slice none 0 0, .slice none 0 0], .bool false, .int .i64 1]) (res_x2 (fn := Try.f30) rfl _ _ (w.heap.size + 1 + 1) _ _ rfl (HX3.out.set _ _)) rfl ⟨_, rfl, isX_nil _, below_set2 HB1.out (by omega) _ _⟩
end Go.Proofs.Ytegoinkkcfbfaaa.bk
/- Boxes, plainly: keys of nearest and farthest vectors; bounds. No program here. -/
namespace Go.Proofs.Ytegoinkkcfbfaaa.bq

open Go.Proofs.Ytegoinkkcfbfaaa Go.Proofs.Ytegoinkkcfbfaaa.bk

set_option linter.unusedVariables false
theorem has_iff {p : Pair} {v : List Int} (hp : IsBox p) : has p v = true ↔ v.length = p.1.length ∧ ∀ i, i < p.1.length → at' p.1 i ≤ at' v i ∧ at' v i ≤ at' p.2 i := by
  have hl := hp.len
  simp only [has, inside, Bool.and_eq_true, balike_iff, le_iff]
  constructor
  · rintro ⟨⟨⟨h1, h2, h3⟩, h4⟩, h5⟩
    exact ⟨h1, fun i hi => ⟨h4 i hi, h5 i (h1.symm ▸ hi)⟩⟩
  · rintro ⟨h1, h2⟩
    have hv : vq.Vec v := vec_of (by have := hp.lo.pos; omega) (by have := hp.lo.le; omega) fun i hi => by
      have ha := h2 i (by omega)
      have hb := vec_at hp.lo (i := i) (by omega)
      have hc := vec_at hp.hi (i := i) (by omega)
      omega
    exact ⟨⟨⟨h1, ⟨hv, hv, rfl, fun i _ => Int.le_refl _⟩, hp⟩, fun i hi => (h2 i hi).1⟩, fun i hi => (h2 i (by rw [← h1]; exact hi)).2⟩
theorem asked_iff {m : Int} {p : Pair} {v : List Int} : asked m p (v, v) = true ↔ (m = 1 ∨ m = 2 ∨ m = 3) ∧ p.1.length = v.length ∧ IsBox p ∧ vq.Vec v := by
  simp only [asked, Bool.and_eq_true, metric_iff, balike_iff]
  exact ⟨fun ⟨h1, h2, h3, h4⟩ => ⟨h1, h2, h3, h4.lo⟩, fun ⟨h1, h2, h3, h4⟩ => ⟨h1, h2, h3, ⟨h4, h4, rfl, fun i _ => Int.le_refl _⟩⟩⟩
theorem nearest_length (p : Pair) (v : List Int) : (nearest p v).length = v.length := by simp [nearest]
theorem farthest_length (p : Pair) (v : List Int) : (farthest p v).length = v.length := by simp [farthest]
theorem inner_length (p : Pair) (pk : List Int) : (inner p pk).length = p.1.length := by simp [inner]
theorem nearest_at {p : Pair} {v : List Int} {i : Nat} (h : i < v.length) : at' (nearest p v) i = min (max (at' v i) (at' p.1 i)) (at' p.2 i) := map_at _ _ h
theorem farthest_at {p : Pair} {v : List Int} {i : Nat} (h : i < v.length) : at' (farthest p v) i = farf (at' p.1 i) (at' p.2 i) (at' v i) := map_at _ _ h
theorem inner_at {p : Pair} {pk : List Int} {i : Nat} (h : i < p.1.length) : at' (inner p pk) i = innf (at' p.1 i) (at' p.2 i) (at' pk i) := map_at _ _ h
theorem has_nearest {p : Pair} {v : List Int} (hp : IsBox p) (hl : v.length = p.1.length) : has p (nearest p v) = true :=
  (has_iff hp).2 ⟨by rw [nearest_length, hl], fun i hi => by rw [nearest_at (by omega)]; have := hp.le i hi; omega⟩
theorem has_farthest {p : Pair} {v : List Int} (hp : IsBox p) (hl : v.length = p.1.length) : has p (farthest p v) = true :=
  (has_iff hp).2 ⟨by rw [farthest_length, hl], fun i hi => by rw [farthest_at (by omega)]; have := hp.le i hi; unfold farf; split <;> omega⟩
theorem innf_bd {a b x : Int} (h : a ≤ b) : a ≤ innf a b x ∧ innf a b x ≤ b := by
  have h1 := Int.emod_nonneg x (show b - a + 1 ≠ 0 by omega)
  have h2 := Int.emod_lt_of_pos x (show 0 < b - a + 1 by omega)
  unfold innf
  omega
theorem has_inner {p : Pair} {pk : List Int} (hp : IsBox p) : has p (inner p pk) = true :=
  (has_iff hp).2 ⟨inner_length p pk, fun i hi => by rw [inner_at hi]; exact innf_bd (hp.le i hi)⟩
theorem map_congr' {n n' : Nat} {f g : Nat → Int} (hn : n = n') (h : ∀ i, i < n → f i = g i) : (List.range n).map f = (List.range n').map g := by
  subst hn
  exact List.map_congr_left fun i hi => h i (by simpa using hi)
theorem near_key {p : Pair} {v : List Int} (hp : IsBox p) (hl : v.length = p.1.length) : difs gap p (v, v) = dists v (nearest p v) :=
  map_congr' hl.symm fun i hi => by
    rw [nearest_at (by omega)]
    have := hp.le i hi
    simp only [gap]
    omega
theorem far_key {p : Pair} {v : List Int} (hp : IsBox p) (hl : v.length = p.1.length) : difs reach p (v, v) = dists v (farthest p v) :=
  map_congr' hl.symm fun i hi => by
    rw [farthest_at (by omega)]
    have := hp.le i hi
    simp only [reach, farf]
    split <;> omega
theorem key_ge {m : Int} {p : Pair} {v x : List Int} (hp : IsBox p) (hl : v.length = p.1.length) (hx : has p x = true) : keyf m (difs gap p (v, v)) ≤ keyf m (dists v x) := by
  obtain ⟨hx1, hx2⟩ := (has_iff hp).1 hx
  unfold difs dists
  rw [hl]
  exact keyf_mono m fun i hi => by
    have := hp.le i hi
    have := hx2 i hi
    simp only [gap]
    omega
theorem key_le {m : Int} {p : Pair} {v x : List Int} (hp : IsBox p) (hl : v.length = p.1.length) (hx : has p x = true) : keyf m (dists v x) ≤ keyf m (difs reach p (v, v)) := by
  obtain ⟨hx1, hx2⟩ := (has_iff hp).1 hx
  unfold difs dists
  rw [hl]
  exact keyf_mono m fun i hi => by
    have := hp.le i hi
    have := hx2 i hi
    simp only [reach]
    omega
theorem key_apart {m : Int} {p q : Pair} {x y : List Int} (hp : IsBox p) (hq : IsBox q) (hl : p.1.length = q.1.length) (hx : has p x = true) (hy : has q y = true) : keyf m (difs gap p q) ≤ keyf m (dists x y) := by
  obtain ⟨hx1, hx2⟩ := (has_iff hp).1 hx
  obtain ⟨hy1, hy2⟩ := (has_iff hq).1 hy
  unfold difs dists
  rw [hx1]
  exact keyf_mono m fun i hi => by
    have := hp.le i hi
    have := hx2 i hi
    have := hy2 i (by omega)
    simp only [gap]
    omega
theorem far_most {m : Int} {p : Pair} {v : List Int} (hp : IsBox p) (hv : vq.Vec v) (hl : v.length = p.1.length) : keyf m (difs reach p (v, v)) ≤ 134217728 := by
  have h := keyf_bd m (difs reach p (v, v)) fun d hd => by
    simp only [difs, List.mem_map, List.mem_range] at hd
    obtain ⟨i, hi, rfl⟩ := hd
    have h1 := vec_at hp.lo hi
    have h2 := vec_at hp.hi (i := i) (by have := hp.len; omega)
    have h3 := vec_at hv (i := i) (by omega)
    have := hp.le i hi
    simp only [reach]
    omega
  have h2 : (difs reach p (v, v)).length = p.1.length := by simp [difs]
  have := hp.lo.le
  omega
theorem step_pos {m s d : Int} (hs : 0 ≤ s) (hd : 0 ≤ d) : step m s d = 0 ↔ s = 0 ∧ d = 0 := by
  have h2 : 0 ≤ d * d := Int.mul_nonneg hd hd
  have h3 : d * d = 0 ↔ d = 0 := by constructor
                                    · intro h; rcases Int.mul_eq_zero.1 h with h | h <;> exact h
                                    · rintro rfl; rfl
  unfold step
  split
  · omega
  · split
    · constructor
      · intro h; exact ⟨by omega, h3.1 (by omega)⟩
      · rintro ⟨rfl, rfl⟩; rfl
    · omega
theorem keyf_zero (m : Int) {n : Nat} {f : Nat → Int} (h : ∀ i, i < n → 0 ≤ f i ∧ f i ≤ 2000) : keyf m ((List.range n).map f) = 0 ↔ ∀ i, i < n → f i = 0 := by
  induction n with
  | zero => simp [keyf]
  | succ n ih =>
    rw [List.range_succ, List.map_append, List.map_singleton, keyf_snoc]
    have h1 := keyf_bd m ((List.range n).map f) fun d hd => by
      simp only [List.mem_map, List.mem_range] at hd
      obtain ⟨i, hi, rfl⟩ := hd
      exact h i (by omega)
    rw [step_pos h1.1 (h n (by omega)).1, ih fun i hi => h i (by omega)]
    constructor
    · rintro ⟨h2, h3⟩ i hi
      rcases Nat.lt_or_ge i n with h4 | h4
      · exact h2 i h4
      · obtain rfl : i = n := by omega
        exact h3
    · intro h2
      exact ⟨fun i hi => h2 i (by omega), h2 n (by omega)⟩
theorem near_zero {m : Int} {p : Pair} {v : List Int} (hp : IsBox p) (hv : vq.Vec v) (hl : v.length = p.1.length) : keyf m (difs gap p (v, v)) = 0 ↔ has p v = true := by
  rw [has_iff hp, difs, keyf_zero m (fun i hi => by
    have h1 := vec_at hp.lo hi
    have h2 := vec_at hp.hi (i := i) (by have := hp.len; omega)
    have h3 := vec_at hv (i := i) (by omega)
    simp only [gap]
    omega)]
  simp only [gap]
  constructor
  · intro h; exact ⟨hl, fun i hi => by have := h i hi; omega⟩
  · rintro ⟨_, h⟩ i hi; have := h i hi; omega
theorem apart_zero {m : Int} {p q : Pair} (hp : IsBox p) (hq : IsBox q) (hl : p.1.length = q.1.length) : keyf m (difs gap p q) = 0 ↔ bvalid (meet p q) = true := by
  have l1 : (meet p q).1.length = p.1.length := by simp [meet, maxs]
  have l2 : (meet p q).2.length = p.1.length := by simp [meet, mins, hp.len]
  have hm : ∀ i, i < p.1.length → at' (meet p q).1 i = max (at' p.1 i) (at' q.1 i) ∧ at' (meet p q).2 i = min (at' p.2 i) (at' q.2 i) := fun i hi =>
    ⟨map_at _ _ hi, map_at _ _ (by rw [← hp.len]; exact hi)⟩
  have hb : ∀ i, i < p.1.length → (-1000 ≤ at' p.1 i ∧ at' p.1 i ≤ 1000) ∧ (-1000 ≤ at' p.2 i ∧ at' p.2 i ≤ 1000) ∧ (-1000 ≤ at' q.1 i ∧ at' q.1 i ≤ 1000) ∧ (-1000 ≤ at' q.2 i ∧ at' q.2 i ≤ 1000) ∧ at' p.1 i ≤ at' p.2 i ∧ at' q.1 i ≤ at' q.2 i := fun i hi =>
    ⟨vec_at hp.lo hi, vec_at hp.hi (by have := hp.len; omega), vec_at hq.lo (by omega), vec_at hq.hi (by have := hq.len; omega), hp.le i hi, hq.le i (by omega)⟩
  rw [bvalid_iff, difs, keyf_zero m (fun i hi => by have := hb i hi; simp only [gap]; omega)]
  constructor
  · intro h
    refine ⟨vec_of (by rw [l1]; exact hp.lo.pos) (by rw [l1]; exact hp.lo.le) fun i hi => ?_, vec_of (by rw [l2]; exact hp.lo.pos) (by rw [l2]; exact hp.lo.le) fun i hi => ?_, by rw [l1, l2], fun i hi => ?_⟩
    · rw [l1] at hi; rw [(hm i hi).1]; have := hb i hi; omega
    · rw [l2] at hi; rw [(hm i hi).2]; have := hb i hi; omega
    · rw [l1] at hi; rw [(hm i hi).1, (hm i hi).2]; have := hb i hi; have := h i hi; simp only [gap] at this; omega
  · intro h i hi
    have h1 := h.le i (by omega)
    rw [(hm i hi).1, (hm i hi).2] at h1
    have := hb i hi
    simp only [gap]
    omega
end Go.Proofs.Ytegoinkkcfbfaaa.bq
/- A region that draws its order, where what is said of the values rests on what has been done, and on the values that the slots hold. No program here. -/
namespace Go.Proofs.Ytegoinkkcfbfaaa.wk

open Go.RowKit

set_option linter.unusedVariables false

section

variable {P : Program} {ops : Array Oper} {Q : Exit → Act → World → Prop} {md : Region.Mode}
theorem linv_step2 {a0 : Act} {k : Nat} (R : (Nat → Bool) → Nat → World → Value → Prop) (hap : apart ops a0.tmps.size = true) (hg : noGuard ops k = true) {L : Nat → Bool} {a : Act} {w : World} {i : Nat} {o : Oper} (hik : i < k) (hI : LInv ops R a0 L a w) (ho : ops[i]? = some o) (hdep : ∀ e ∈ o.after, Region.binds .any e = true → L e.on = true)
    {S : World → Prop} (hstep : ∀ E, DueG ops (R L) a0 o E w → DoesT P Q o E w fun w' v => R (fun j => if j = i then true else L j) i w' v ∧ (∀ j u, L j = true → (∀ d, dstOf ops j = some d → E (.tmp d) = u) → R L j w u → R (fun j => if j = i then true else L j) j w' u) ∧ S w') :
    wpOp P ops Q i (fun a' w' => LInv ops R a0 (fun j => if j = i then true else L j) a' w' ∧ S w') a w := by
  have hio : i < ops.size := (Array.getElem?_eq_some_iff.1 ho).1
  have hdv : ∀ e ∈ o.after, Region.binds .any e = true → ∃ v, R L e.on w v ∧ ∀ d, dstOf ops e.on = some d → a.tmps[d]? = some v := fun e he hb => hI.vals e.on (hdep e he hb)
  have hgn : o.guard = none := by
    have h1 := List.all_eq_true.1 hg i (List.mem_range.2 hik)
    simp only [ho, Option.isNone_iff_eq_none] at h1
    exact h1
  refine wpOp_step ho fun K' hK => ?_
  rw [if_pos (by simp [Region.wanted, hgn])]
  refine hstep a.eval ⟨fun _ => rfl, fun _ => rfl, fun k hk => ?_, fun e he hb => ?_⟩ a K' rfl fun v w' hRT => ?_
  · show a.tmps.getD k undef = a0.tmps.getD k undef
    rw [Array.getD_eq_getD_getElem?, Array.getD_eq_getD_getElem?, hI.rest k fun j hj h => ?_]
    have := List.all_eq_true.1 hk j (List.mem_range.2 (dst_lt h))
    rw [h] at this
    simp at this
  · obtain ⟨v, hv, hd⟩ := hdv e he hb
    exact ⟨v, hv, fun d hdd => getD_of (hd d hdd)⟩
  · obtain ⟨hv, hT, hS⟩ := hRT
    have hdo : dstOf ops i = o.dst := by unfold dstOf; rw [ho]; rfl
    refine hK _ _ ⟨⟨?_, ?_, fun j hj => ?_, fun k hk => ?_⟩, hS⟩
    · cases hd : o.dst <;> exact hI.defers
    · cases hd : o.dst <;> simp only [Act.put, Array.size_setIfInBounds] <;> exact hI.size
    · by_cases hji : j = i
      · subst hji
        refine ⟨v, hv, fun d hd => ?_⟩
        rw [hdo] at hd
        have hlt := apart_lt hap hio (by rw [hdo]; exact hd)
        rw [hd]
        show (a.tmps.setIfInBounds d _)[d]? = some _
        rw [Array.getElem?_setIfInBounds, if_pos rfl, if_pos (by rw [hI.size]; exact hlt)]
      · rw [if_neg hji] at hj
        obtain ⟨u, hu, hud⟩ := hI.vals j hj
        refine ⟨u, hT j u hj (fun d hd => getD_of (hud d hd)) hu, fun d hd => ?_⟩
        cases hod : o.dst with
        | none => exact hud d hd
        | some d' =>
          have hne : d' ≠ d := fun e => hji (apart_ne hap (dst_lt hd) hio hd (by rw [hdo, hod, e]))
          show (a.tmps.setIfInBounds d' _)[d]? = _
          rw [Array.getElem?_setIfInBounds, if_neg hne]
          exact hud d hd
    · have hk' : ∀ j, L j = true → dstOf ops j ≠ some k := fun j hj => hk j (by by_cases h : j = i <;> simp [h, hj])
      have hki : o.dst ≠ some k := by rw [← hdo]; exact hk i (by simp)
      cases hod : o.dst with
      | none => exact hI.rest k hk'
      | some d' =>
        have hne : d' ≠ k := fun e => hki (by rw [hod, e])
        show (a.tmps.setIfInBounds d' _)[k]? = _
        rw [Array.getElem?_setIfInBounds, if_neg hne]
        exact hI.rest k hk'
/-- .. where what is said of the values rests on what has been done -/
theorem region_lev2 {id : Nat} {a0 : Act} {w0 : World} (k : Nat) (R : (Nat → Bool) → Nat → World → Value → Prop) (ds : List (Option Tmp)) (S : (Nat → Bool) → World → Prop) (h0 : S (fun _ => false) w0.drew) (hm : P.follows .mixedOrders = true) (hord : orderedB .any ops = true) (hap : apart ops a0.tmps.size = true) (hg : noGuard ops k = true) (hds : (List.range k).map (dstOf ops) = ds) (htl : tailed ops k = true)
    (hstep : ∀ i o, ops[i]? = some o → i < k → ∀ E L w, S L w → L i = false → (∀ e ∈ o.after, Region.binds .any e = true → L e.on = true) → DueG ops (R L) a0 o E w → DoesT P Q o E w (fun w' v => R (fun j => if j = i then true else L j) i w' v ∧ (∀ j u, L j = true → (∀ d, dstOf ops j = some d → E (.tmp d) = u) → R L j w u → R (fun j => if j = i then true else L j) j w' u) ∧ S (fun j => if j = i then true else L j) w'))
    (hdone : ∀ (vals : Nat → Value) L w, (∀ j, j < k → L j = true) → S L w → (∀ i, i < k → R L i w (vals i)) → wpList P ops Q (ops.toList.drop k) { a0 with tmps := setL ds vals 0 a0.tmps } w) : (Code.region id ops true).wp P Q a0 w0 := by
  unfold tailed at htl
  simp only [Bool.and_eq_true, decide_eq_true_eq] at htl
  obtain ⟨⟨hkn, hcov⟩, hch⟩ := htl
  have hchain : ∀ i, k ≤ i → i + 1 < ops.size → waitsFor ops (i + 1) i = true := fun i h1 h2 => by
    have := List.all_eq_true.1 hch i (List.mem_range.2 (by omega))
    simp only [Bool.or_eq_true, decide_eq_true_eq] at this
    rcases this with (h | h) | h
    · omega
    · omega
    · exact h
  have hcover : ∀ j, j < k → k < ops.size → ∃ i, j < i ∧ i ≤ k ∧ waitsFor ops i j = true := fun j h1 h2 => by
    have := List.all_eq_true.1 hcov j (List.mem_range.2 h1)
    simp only [Bool.or_eq_true, beq_iff_eq] at this
    rcases this with h | h
    · omega
    · obtain ⟨i, hi, h⟩ := List.any_eq_true.1 h
      simp only [Bool.and_eq_true, decide_eq_true_eq] at h
      exact ⟨i, h.1, by have := List.mem_range.1 hi; omega, h.2⟩
  have hfin : ∀ L a w, LInv ops R a0 L a w → S L w → (∀ j, j < k → L j = true) → (∀ j, k ≤ j → L j = false) → wpList P ops Q (ops.toList.drop k) a w := fun L a w hI hw hall hno => by
    have hv : ∀ i, ∃ v, i < k → R L i w v ∧ ∀ d, dstOf ops i = some d → a.tmps[d]? = some v := fun i => by
      by_cases hi : i < k
      · obtain ⟨v, h⟩ := hI.vals i (hall i hi); exact ⟨v, fun _ => h⟩
      · exact ⟨undef, fun h => absurd h hi⟩
    obtain ⟨vals, hvals⟩ := Classical.axiomOfChoice hv
    have ha : a = { a0 with tmps := setAll ops vals k a0.tmps } := by
      obtain ⟨tm, df⟩ := a
      have h1 : df = a0.defers := hI.defers
      have h2 : tm = setAll ops vals k a0.tmps := by
        refine Array.ext_getElem? fun s => ?_
        have hset := setAll_get vals hap s k a0.tmps hkn rfl
        by_cases hk : ∃ i, i < k ∧ dstOf ops i = some s
        · obtain ⟨i, hik, hi⟩ := hk
          rw [hset.2 i hik hi]
          exact (hvals i hik).2 s hi
        · rw [hset.1 fun i hi h => hk ⟨i, hi, h⟩]
          refine hI.rest s fun i hi h => ?_
          rcases Nat.lt_or_ge i k with hl | hl
          · exact hk ⟨i, hl, h⟩
          · rw [hno i hl] at hi; cases hi
      rw [h1, h2]
    rw [ha, setAll_eq, hds]
    exact hdone vals L w hall hw fun i hi => (hvals i hi).1
  refine region_invB (fun a0' B L a w => (LInv ops R a0 L a w ∧ S L w ∧ (∀ i, k ≤ i → L i = false) ∧ Closed ops L) ∨ ∃ m, k ≤ m ∧ m ≤ ops.size ∧ (∀ i, L i = decide (i < m)) ∧ wpList P ops Q (ops.toList.drop m) a w) hm hord
    (Or.inl ⟨⟨rfl, rfl, fun i h => (Bool.noConfusion h), fun k _ => rfl⟩, h0, fun _ _ => rfl, fun i o _ h => (Bool.noConfusion h)⟩) ?_ ?_
  · intro L a w hI i o ho hLi hdep
    have hio : i < ops.size := (Array.getElem?_eq_some_iff.1 ho).1
    rcases hI with ⟨hI, hSw, hno, hcl⟩ | ⟨m, hm1, hm2, hL, hwp⟩
    · by_cases hik : i < k
      · refine wpOp_mono (fun a' w' h => Or.inl ?_) (linv_step2 R hap hg hik hI ho hdep (S := S (fun j => if j = i then true else L j)) fun E hE => hstep i o ho hik E L w hSw hLi hdep hE)
        refine ⟨h.1, h.2, fun j hj => ?_, fun j o' ho' hj e he hb => ?_⟩
        · have hji : j ≠ i := by omega
          simp only [hji, if_false]
          exact hno j hj
        · by_cases hji : j = i
          · subst hji
            rw [ho] at ho'; cases ho'
            by_cases h2 : e.on = j
            · simp [h2]
            · simp only [h2, if_false]; exact hdep e he hb
          · simp only [hji, if_false] at hj
            by_cases h2 : e.on = i
            · simp [h2]
            · simp only [h2, if_false]; exact hcl j o' ho' hj e he hb
      · have hik' : i = k := by
          rcases Nat.lt_or_ge k i with h | h
          · have := waits_done (L := L) (hchain (i - 1) (by omega) (by omega)) (by rw [show i - 1 + 1 = i by omega]; exact ho) hdep
            rw [hno (i - 1) (by omega)] at this; cases this
          · omega
        subst hik'
        have hall : ∀ d j, i - j ≤ d → j < i → L j = true := by
          intro d
          induction d with
          | zero => intro j h1 h2; omega
          | succ d ih =>
            intro j h1 h2
            obtain ⟨q, hq1, hq2, hq3⟩ := hcover j h2 hio
            by_cases hqi : q = i
            · subst hqi; exact waits_done hq3 ho hdep
            · have hq : L q = true := ih q (by omega) (by omega)
              have hqo : ops[q]? = some ops[q] := Array.getElem?_eq_getElem (by omega)
              exact waits_done hq3 hqo (hcl q _ hqo hq)
        refine wpOp_mono (fun a' w' h => Or.inr ⟨i + 1, by omega, by omega, fun j => ?_, h⟩) (wpList_to_op ho (hfin L a w hI hSw (fun j hj => hall _ j (Nat.le_refl _) hj) hno))
        by_cases hji : j = i
        · subst hji; simp
        · simp only [hji, if_false]
          rcases Nat.lt_or_ge j i with h1 | h1
          · rw [hall _ j (Nat.le_refl _) h1]; simp; omega
          · rw [hno j h1]; simp; omega
    · have him : i = m := by
        have h1 : ¬ i < m := fun h => by rw [hL i] at hLi; simp [h] at hLi
        rcases Nat.lt_or_ge m i with h | h
        · have := waits_done (L := L) (hchain (i - 1) (by omega) (by omega)) (by rw [show i - 1 + 1 = i by omega]; exact ho) hdep
          rw [hL (i - 1)] at this
          simp at this; omega
        · omega
      subst him
      refine wpOp_mono (fun a' w' h => Or.inr ⟨i + 1, by omega, by omega, fun j => ?_, h⟩) (wpList_to_op ho hwp)
      by_cases hji : j = i
      · subst hji; simp
      · simp only [hji, if_false]
        rw [hL j]
        rcases Nat.lt_or_ge j i with h1 | h1
        · simp [h1]; omega
        · simp; omega
  · intro L a w hall hI
    rcases hI with ⟨hI, hSw, hno, hcl⟩ | ⟨m, hm1, hm2, hL, hwp⟩
    · have hk : k = ops.size := by
        rcases Nat.lt_or_ge k ops.size with h | h
        · have := hall k h; rw [hno k (Nat.le_refl _)] at this; cases this
        · omega
      have := hfin L a w hI hSw (fun j hj => hall j (by omega)) hno
      rw [hk, ← Array.length_toList, List.drop_length] at this
      exact this
    · have hk : m = ops.size := by
        rcases Nat.lt_or_ge m ops.size with h | h
        · have := hall m h; rw [hL m] at this; simp at this
        · omega
      rw [hk, ← Array.length_toList, List.drop_length] at hwp
      exact hwp
end

end Go.Proofs.Ytegoinkkcfbfaaa.wk
/- A region whose values are known and that turns the world at several places, in a round. No program here. -/
namespace Go.Proofs.Ytegoinkkcfbfaaa.wk

open Go.RowKit

set_option linter.unusedVariables false

section

variable {P : Program} {ops : Array Oper} {Q : Exit → Act → World → Prop}
theorem does_skip_t {o : Oper} {E : Operand → Value} {w w' : World} {R : World → Value → Prop} (hrun : (execOp E o).run P w = .ok .skip w') (hR : R w' undef) : DoesT P Q o E w R := fun a K hE hK => by
  unfold Oper.wp
  rw [hE, hrun, Oper.upon_skip]
  exact hK _ _ hR
theorem region_many_in {id n : Nat} {a0 : Act} {w0 : World} (l : Nat) (hnd : noDefer ops = true) (hq : ¬ LetsOut Q) (k : Nat) (vs : List Value) (ds : List (Option Tmp)) (S : (Nat → Bool) → World → Prop) (h0 : S (fun _ => false) w0.drew) (hk : k = vs.length) (hm : P.follows .mixedOrders = true) (hord : orderedB .any ops = true) (hap : apart ops a0.tmps.size = true) (hg : guarded ops (vs.map SP.is) k = true) (hds : (List.range k).map (dstOf ops) = ds) (htl : tailed ops k = true)
    (hstep : ∀ i o, ops[i]? = some o → i < k → ∀ E L w, S L w → L i = false → (∀ e ∈ o.after, Region.binds .any e = true → L e.on = true) → Due ops (vs.map SP.is) a0 o E w → DoesT P Q o E w (fun w' v => v = vs.getD i undef ∧ S (fun j => if j = i then true else L j) w'))
    (hdone : ∀ L w, (∀ j, j < k → L j = true) → S L w → wpList P ops Q (ops.toList.drop k) { a0 with tmps := setL ds (fun i => vs.getD i undef) 0 a0.tmps } w) : (Code.region id ops true).wpIn (Fence.wide.inRound l) n P Q a0 w0 := by
  unfold tailed at htl
  simp only [Bool.and_eq_true, decide_eq_true_eq] at htl
  obtain ⟨⟨hkn, hcov⟩, hch⟩ := htl
  have hchain : ∀ i, k ≤ i → i + 1 < ops.size → waitsFor ops (i + 1) i = true := fun i h1 h2 => by
    have := List.all_eq_true.1 hch i (List.mem_range.2 (by omega))
    simp only [Bool.or_eq_true, decide_eq_true_eq] at this
    rcases this with (h | h) | h
    · omega
    · omega
    · exact h
  have hcover : ∀ j, j < k → k < ops.size → ∃ i, j < i ∧ i ≤ k ∧ waitsFor ops i j = true := fun j h1 h2 => by
    have := List.all_eq_true.1 hcov j (List.mem_range.2 h1)
    simp only [Bool.or_eq_true, beq_iff_eq] at this
    rcases this with h | h
    · omega
    · obtain ⟨i, hi, h⟩ := List.any_eq_true.1 h
      simp only [Bool.and_eq_true, decide_eq_true_eq] at h
      exact ⟨i, h.1, by have := List.mem_range.1 hi; omega, h.2⟩
  have hfin : ∀ L a w, UInv ops vs a0 L a → S L w → (∀ j, j < k → L j = true) → (∀ j, k ≤ j → L j = false) → wpList P ops Q (ops.toList.drop k) a w := fun L a w hI hw hall hno => by
    have ha : a = { a0 with tmps := setAll ops (fun i => vs.getD i undef) k a0.tmps } := by
      obtain ⟨tm, df⟩ := a
      have h1 : df = a0.defers := hI.defers
      have h2 : tm = setAll ops (fun i => vs.getD i undef) k a0.tmps := by
        refine Array.ext_getElem? fun s => ?_
        have hset := setAll_get (fun i => vs.getD i undef) hap s k a0.tmps hkn rfl
        by_cases hk : ∃ i, i < k ∧ dstOf ops i = some s
        · obtain ⟨i, hik, hi⟩ := hk
          rw [hset.2 i hik hi]
          exact hI.vals i (hall i hik) s hi
        · rw [hset.1 fun i hi h => hk ⟨i, hi, h⟩]
          refine hI.rest s fun i hi h => ?_
          rcases Nat.lt_or_ge i k with hl | hl
          · exact hk ⟨i, hl, h⟩
          · rw [hno i hl] at hi; cases hi
      rw [h1, h2]
    rw [ha, setAll_eq, hds]
    exact hdone L w hall hw
  refine region_invB_in l hnd hq (fun a0' B L a w => (UInv ops vs a0 L a ∧ S L w ∧ (∀ i, k ≤ i → L i = false) ∧ Closed ops L) ∨ ∃ m, k ≤ m ∧ m ≤ ops.size ∧ (∀ i, L i = decide (i < m)) ∧ wpList P ops Q (ops.toList.drop m) a w) hm hord
    (Or.inl ⟨⟨rfl, rfl, fun i h => (Bool.noConfusion h), fun k _ => rfl⟩, h0, fun _ _ => rfl, fun i o _ h => (Bool.noConfusion h)⟩) ?_ ?_
  · intro L a w hI i o ho hLi hdep
    have hio : i < ops.size := (Array.getElem?_eq_some_iff.1 ho).1
    rcases hI with ⟨hI, hSw, hno, hcl⟩ | ⟨m, hm1, hm2, hL, hwp⟩
    · by_cases hik : i < k
      · have hdo : ∀ E, Due ops (vs.map SP.is) a0 o E w → DoesT P Q o E w fun w' v => v = vs.getD i undef ∧ S (fun j => if j = i then true else L j) w' := fun E hE => hstep i o ho hik E L w hSw hLi hdep hE
        refine wpOp_mono (fun a' w' h => Or.inl ?_) (uinv_stepB vs hk hord hap hg hik hI ho hdep hdo)
        refine ⟨h.1, h.2, fun j hj => ?_, fun j o' ho' hj e he hb => ?_⟩
        · have hji : j ≠ i := by omega
          simp only [hji, if_false]
          exact hno j hj
        · by_cases hji : j = i
          · subst hji
            rw [ho] at ho'; cases ho'
            by_cases h2 : e.on = j
            · simp [h2]
            · simp only [h2, if_false]; exact hdep e he hb
          · simp only [hji, if_false] at hj
            by_cases h2 : e.on = i
            · simp [h2]
            · simp only [h2, if_false]; exact hcl j o' ho' hj e he hb
      · have hik' : i = k := by
          rcases Nat.lt_or_ge k i with h | h
          · have := waits_done (L := L) (hchain (i - 1) (by omega) (by omega)) (by rw [show i - 1 + 1 = i by omega]; exact ho) hdep
            rw [hno (i - 1) (by omega)] at this; cases this
          · omega
        subst hik'
        have hall : ∀ d j, i - j ≤ d → j < i → L j = true := by
          intro d
          induction d with
          | zero => intro j h1 h2; omega
          | succ d ih =>
            intro j h1 h2
            obtain ⟨q, hq1, hq2, hq3⟩ := hcover j h2 hio
            by_cases hqi : q = i
            · subst hqi; exact waits_done hq3 ho hdep
            · have hq : L q = true := ih q (by omega) (by omega)
              have hqo : ops[q]? = some ops[q] := Array.getElem?_eq_getElem (by omega)
              exact waits_done hq3 hqo (hcl q _ hqo hq)
        refine wpOp_mono (fun a' w' h => Or.inr ⟨i + 1, by omega, by omega, fun j => ?_, h⟩) (wpList_to_op ho (hfin L a w hI hSw (fun j hj => hall _ j (Nat.le_refl _) hj) hno))
        by_cases hji : j = i
        · subst hji; simp
        · simp only [hji, if_false]
          rcases Nat.lt_or_ge j i with h1 | h1
          · rw [hall _ j (Nat.le_refl _) h1]; simp; omega
          · rw [hno j h1]; simp; omega
    · have him : i = m := by
        have h1 : ¬ i < m := fun h => by rw [hL i] at hLi; simp [h] at hLi
        rcases Nat.lt_or_ge m i with h | h
        · have := waits_done (L := L) (hchain (i - 1) (by omega) (by omega)) (by rw [show i - 1 + 1 = i by omega]; exact ho) hdep
          rw [hL (i - 1)] at this
          simp at this; omega
        · omega
      subst him
      refine wpOp_mono (fun a' w' h => Or.inr ⟨i + 1, by omega, by omega, fun j => ?_, h⟩) (wpList_to_op ho hwp)
      by_cases hji : j = i
      · subst hji; simp
      · simp only [hji, if_false]
        rw [hL j]
        rcases Nat.lt_or_ge j i with h1 | h1
        · simp [h1]; omega
        · simp; omega
  · intro L a w hall hI
    rcases hI with ⟨hI, hSw, hno, hcl⟩ | ⟨m, hm1, hm2, hL, hwp⟩
    · have hk : k = ops.size := by
        rcases Nat.lt_or_ge k ops.size with h | h
        · have := hall k h; rw [hno k (Nat.le_refl _)] at this; cases this
        · omega
      have := hfin L a w hI hSw (fun j hj => hall j (by omega)) hno
      rw [hk, ← Array.length_toList, List.drop_length] at this
      exact this
    · have hk : m = ops.size := by
        rcases Nat.lt_or_ge m ops.size with h | h
        · have := hall m h; rw [hL m] at this; simp at this
        · omega
      rw [hk, ← Array.length_toList, List.drop_length] at hwp
      exact hwp
end

end Go.Proofs.Ytegoinkkcfbfaaa.wk
/- clone, Cut. -/
namespace Go.Proofs.Ytegoinkkcfbfaaa.bk

open Go.ChangeShapes Go.WideShapes Go.ChangeAt Go.RowKit

open Go.Proofs.Ytegoinkkcfbfaaa.bq Go.Proofs.Ytegoinkkcfbfaaa.vk Go.Proofs.Ytegoinkkcfbfaaa.wk

set_option linter.unusedVariables false
def Owns (w : World) (g n c : Nat) (l : List Int) : Prop := w.ownsRow g 3 1 (.slice (some ⟨g, 0, none⟩) n c) n (iv l)
theorem Owns.lt {w : World} {g n c : Nat} {l : List Int} (h : Owns w g n c l) : g < w.heap.size := (World.ownsRow.lt h g rfl).2
theorem Owns.below {w w' : World} {g n c : Nat} {l : List Int} (h : Owns w g n c l) (hb : Below w.heap.size w w') : Owns w' g n c l :=
  World.ownsRow.kept h (grown_of hb) (.inr (by simp [Value.ownBlock]))
theorem Owns.at {w w' : World} {g n c : Nat} {l : List Int} (h : Owns w g n c l) (e : w'.heap[g]? = w.heap[g]?) : Owns w' g n c l := by
  refine ⟨h.1, ?_⟩
  rcases h.2 with ⟨q3, _⟩ | ⟨g', cap', cur, q3, q4, q5, q6⟩
  · cases q3
  · simp only [Value.slice.injEq, Option.some.injEq, Addr.mk.injEq, and_true, true_and] at q3
    obtain ⟨rfl, rfl⟩ := q3
    exact .inr ⟨g, c, cur, rfl, q4, e.trans q5, q6⟩
theorem Owns.set2 {w : World} {g n c k : Nat} {l : List Int} (h : Owns w g n c l) (hk : g ≠ k) (x y : Value) : Owns ((w.setCell ⟨k, 0, none⟩ x).setCell ⟨k, 1, none⟩ y) g n c l := h.at (set2_other w k x y g hk)
set_option maxRecDepth 100000 in
theorem sclone_calls (A : Option Addr) (n c : Nat) (l : List Int) (w : World) (h : wo.IsI w A n c l) (h1 : 1 ≤ n) (hn : n ≤ 1000) :
    Calls Try.prog 59 #[.slice A n c] w fun e w' => ∃ g c', e = .returned (.slice (some ⟨g, 0, none⟩) n c') ∧ Owns w' g n c' l ∧ w.heap.size ≤ g ∧ Below w.heap.size w w' := by
  obtain ⟨i0, hi, hz0, hz1, hz2⟩ := info_parts wi.infoI
  have hl := h.1
  have hm := h.2.2.1
  have hnc := h.2.1
  obtain ⟨b, o, rfl, hb, hcell⟩ := h.2.2.2.1 (by simp; omega)
  have HC : Hid (∀ j u, (iv l)[j]? = some u → (w.alloc (.cells #[] 3)).cell? ((⟨b, o, none⟩ : Addr).add j) = some u) := fun j u hu => by
    rw [wk.add_at, (below_new w (.cells #[] 3)).cell (p := ⟨b, o + j, none⟩) hb]
    exact hcell j u hu
  have HO : Hid ((w.alloc (.cells #[] 3)).ownsRow w.heap.size 3 1 (.slice (some ⟨w.heap.size, 0, none⟩) 0 0) 0 []) := World.ownsRow_lit (base := w.heap.size) w #[] 0 (Nat.le_refl _) (by unfold maxLen; omega) rfl
  have hnil := fun w' => Go.Lib.run_eql_slice_nil (P := Try.prog) w' 22 3 (some ⟨b, o, none⟩) n c 0 0 Try.underlying22
  clear h hcell
  go_enter Try.func59, Try.ntmps59
  go_wp2_with (at_builtin; refine wpList_append_own _ rfl _ _ 22 rfl w.heap.size 3 i0 (.int .i64 0) 1 8 Try.underlying22 hi hz0 hz1 hz2 rfl (by decide) _ _ _ rfl HO.out ⟨b, o, none⟩ n c (iv l) rfl ?c0 HC.out ?c2 ?c3 ?c4 ?c5 ?_)
  case c0 => simp [iv, hl]
  case c2 => intro u hu; simp [iv] at hu; obtain ⟨y, _, rfl⟩ := hu; rfl
  case c3 => unfold maxLen; omega
  case c4 => omega
  case c5 => rw [size_new]; omega
  intro v' w2 hown' hgrow _
  have hB : Below w.heap.size w w2 := (below_new w (.cells #[] 3)).grown hgrow (by rw [size_new]; omega) (fun g hg => (HO.out.lt g hg).1)
  have HB := Lib.hid hB
  obtain ⟨k, rfl⟩ : ∃ k, n = k + 1 := ⟨n - 1, by omega⟩
  obtain ⟨g, cap, rfl⟩ := ownsRow_succ hown'
  have hge := (World.ownsRow.lt hown' g rfl).1
  have HOW : Hid (Owns w2 g (k + 1) cap l) := by
    obtain ⟨q1, q2⟩ := hown'
    refine ⟨q1, ?_⟩
    rcases q2 with ⟨q3, _⟩ | ⟨g', cap', cur, q3, q4, q5⟩
    · cases q3
    · simp only [Value.slice.injEq, Option.some.injEq, Addr.mk.injEq, and_true, true_and] at q3
      obtain ⟨rfl, rfl⟩ := q3
      exact .inr ⟨g, cap, cur, rfl, Nat.le_refl _, q5⟩
  clear hB hown' hgrow
  go_wp2_with fail
  go_ret
  exact ⟨g, cap, rfl, HOW.out, hge, HB.out⟩
set_option maxRecDepth 100000 in
set_option maxHeartbeats 4000000 in
theorem clone_calls (v : Value) (p : Pair) (w : World) (h : IsX w v p) (hlen : p.1.length = p.2.length) (h1 : 1 ≤ p.1.length) (hn : p.1.length ≤ 1000) :
    Calls Try.prog 36 #[v] w fun e w' => ∃ g c g' c', e = .returned (.agg #[.slice (some ⟨g, 0, none⟩) p.1.length c, .slice (some ⟨g', 0, none⟩) p.1.length c']) ∧ Owns w' g p.1.length c p.1 ∧ Owns w' g' p.1.length c' p.2 ∧ w.heap.size ≤ g ∧ g < g' ∧ Below w.heap.size w w' := by
  obtain ⟨A, n, c, A', n', c', rfl, hi, hi'⟩ := h
  have hl := hi.1
  have hl' := hi'.1
  rw [hl]
  obtain rfl : n' = n := by omega
  have hb0 := Below.andThen (below_new w (.cells #[.slice A n' c, .slice A' n' c'] 24)) (below_new _ (.cells #[.slice none 0 0, .slice none 0 0] 24))
  have hb00 := hb0.trans ((Below.refl _ ((w.alloc (.cells #[.slice A n' c, .slice A' n' c'] 24)).alloc (.cells #[.slice none 0 0, .slice none 0 0] 24))).drew.mono hb0.size)
  have hs : ((w.alloc (.cells #[.slice A n' c, .slice A' n' c'] 24)).alloc (.cells #[.slice none 0 0, .slice none 0 0] 24)).drew.heap.size = w.heap.size + 2 := by show (_ : Nat) = _; exact (size_new _ _).trans (by rw [size_new])
  have hT1 := (TwoX.new w (.slice A n' c) (.slice A' n' c')).below (below_new _ (.cells #[.slice none 0 0, .slice none 0 0] 24))
  have hT2 := TwoX.new (w.alloc (.cells #[.slice A n' c, .slice A' n' c'] 24)) (.slice none 0 0) (.slice none 0 0)
  rw [size_new] at hT2
  have HC : Hid (Calls Try.prog 59 #[.slice A n' c] ((w.alloc (.cells #[.slice A n' c, .slice A' n' c'] 24)).alloc (.cells #[.slice none 0 0, .slice none 0 0] 24)).drew fun e w2 => ∃ g c2, e = .returned (.slice (some ⟨g, 0, none⟩) n' c2) ∧ w2.cell? ⟨w.heap.size, 0, none⟩ = some (.slice A n' c) ∧ w2.cell? ⟨w.heap.size, 1, none⟩ = some (.slice A' n' c') ∧
      Hid (Calls Try.prog 59 #[.slice A' n' c'] w2 fun e w3 => ∃ g' c3, e = .returned (.slice (some ⟨g', 0, none⟩) n' c3) ∧ w3.cell? ⟨w.heap.size + 1, 0, none⟩ = some (.slice none 0 0) ∧ w3.cell? ⟨w.heap.size + 1, 1, none⟩ = some (.slice none 0 0) ∧ w3.frozen? ⟨w.heap.size + 1, 0, none⟩ = false ∧ w3.frozen? ⟨w.heap.size + 1, 1, none⟩ = false ∧
        Hid (Owns w3 g n' c2 p.1 ∧ Owns w3 g' n' c3 p.2 ∧ w.heap.size + 2 ≤ g ∧ g < g' ∧ Below w.heap.size w w3 ∧ TwoX w3 (w.heap.size + 1) (.slice none 0 0) (.slice none 0 0)))) := by
    refine (sclone_calls A n' c p.1 _ (isI_below hi hb00) (by omega) (by omega)).mono ?_
    rintro e w2 ⟨g, c2, rfl, hO, hg, hb⟩
    have hT1' : TwoX w2 w.heap.size (.slice A n' c) (.slice A' n' c') := TwoX.below (w := ((w.alloc (.cells #[.slice A n' c, .slice A' n' c'] 24)).alloc (.cells #[.slice none 0 0, .slice none 0 0] 24)).drew) hT1 hb
    have hT2' : TwoX w2 (w.heap.size + 1) (.slice none 0 0) (.slice none 0 0) := TwoX.below (w := ((w.alloc (.cells #[.slice A n' c, .slice A' n' c'] 24)).alloc (.cells #[.slice none 0 0, .slice none 0 0] 24)).drew) hT2 hb
    refine ⟨g, c2, rfl, hT1'.two.c0, hT1'.two.c1, ?_⟩
    refine (sclone_calls A' n' c' p.2 w2 (isI_below hi' (hb00.trans (hb.mono hb00.size))) (by omega) (by omega)).mono ?_
    rintro e w3 ⟨g', c3, rfl, hO', hg', hb'⟩
    have hT3 := hT2'.below hb'
    exact ⟨g', c3, rfl, hT3.two.c0, hT3.two.c1, hT3.f0 0, hT3.f0 1, hO.below hb', hO', by omega, by have := hO.lt; omega, (hb00.trans (hb.mono hb00.size)).trans (hb'.mono (Nat.le_trans hb00.size hb.size)), hT3⟩
  clear hT1 hT2 hs
  have hn2 : 1 ≤ n' := by omega
  clear hi hi' hb0 hb00 hl hl' hlen h1 hn
  go_enter Try.func36, Try.ntmps36
  go_wp2_with fail
  go_region_with (first | (refine HC.out.mono ?_; rintro e w2 ⟨g, c2, rfl, hcA, hcB, hC2⟩) | (refine hC2.out.mono ?_; rintro e w3 ⟨g', c3, rfl, hcC, hcD, hfC, hfD, hO'⟩))
  all_goals
    go_wp2_with fail
    obtain ⟨hO1, hO2, hg1, hg2, hB, hT⟩ := hO'.out
    exact bodyPost_ret (results_cell_row (fn := Try.f36) rfl _ _ (w.heap.size + 1) 24 #[.slice (some ⟨g, 0, none⟩) n' c2, .slice (some ⟨g', 0, none⟩) n' c3] (0, 0) _ rfl (hT.set _ _) Try.underlying24 rfl (by kernel_rfl)) rfl
      ⟨g, c2, g', c3, rfl, hO1.set2 (by omega) _ _, hO2.set2 (by omega) _ _, by omega, hg2, below_set2 hB (by omega) _ _⟩
end Go.Proofs.Ytegoinkkcfbfaaa.bk
/- A region whose operations make new blocks: the blocks of different operations are different. No program here. -/
namespace Go.Proofs.Ytegoinkkcfbfaaa.wk

open Go.RowKit

set_option linter.unusedVariables false

section

variable {P : Program} {ops : Array Oper} {Q : Exit → Act → World → Prop}
/-- what is new of each operation lies in the heap, and apart from what is new of the others -/
def FInv (ops : Array Oper) (blk : Nat → Value → Nat → Prop) (L : Nat → Bool) (a : Act) (w : World) : Prop :=
  ∀ i, L i = true → ∀ d v, dstOf ops i = some d → a.tmps[d]? = some v → (∀ b, blk i v b → b < w.heap.size) ∧ ∀ j, L j = true → j ≠ i → ∀ d' v', dstOf ops j = some d' → a.tmps[d']? = some v' → ∀ b, blk i v b → ¬ blk j v' b
theorem does_old {o : Oper} {E : Operand → Value} {w : World} {R S : World → Value → Prop} (hS : ∀ w' v, S w' v) (h : Does P Q o E w R) : Does P Q o E w fun w' v => R w' v ∧ S w' v := fun a K hE hK => h a K hE fun v w' hb hr => hK v w' hb ⟨hr, hS _ _⟩
theorem vinv_stepF (blk : Nat → Value → Nat → Prop) (hbu : ∀ i b, ¬ blk i undef b) {a0 : Act} {B : World} {k : Nat} (R : List SP) (hap : apart ops a0.tmps.size = true) (hg : guardedS ops R k = true) (hsk : ∀ i, i < k → skips ops R i = true → R.getD i SP.any = .is undef) {L : Nat → Bool} {a : Act} {w : World} {i : Nat} {o : Oper} (hik : i < k) (hI : VInv ops R B a0 L a w) (ho : ops[i]? = some o) (hLi : L i = false) (hdep : ∀ e ∈ o.after, Region.binds .any e = true → L e.on = true) (hF : FInv ops blk L a w)
    (hstep : skips ops R i = false → ∀ E w, Below B.heap.size B w → Due ops R a0 o E w → Does P Q o E w fun w' v => (R.getD i SP.any).has w' v ∧ ∀ b, blk i v b → w.heap.size ≤ b ∧ b < w'.heap.size) :
    wpOp P ops Q i (fun a' w' => VInv ops R B a0 (fun j => if j = i then true else L j) a' w' ∧ FInv ops blk (fun j => if j = i then true else L j) a' w') a w := by
  have hio : i < ops.size := (Array.getElem?_eq_some_iff.1 ho).1
  have hdv : ∀ e ∈ o.after, Region.binds .any e = true → ∃ v, (R.getD e.on SP.any).has w v ∧ ∀ d, dstOf ops e.on = some d → a.tmps[d]? = some v := fun e he hb => hI.vals e.on (hdep e he hb)
  have hfin : ∀ v w', Below w.heap.size w w' → (R.getD i SP.any).has w' v → VInv ops R B a0 (fun j => if j = i then true else L j) (a.put o.dst v) w' := fun v w' hb hR => by
    have hB := hI.below.trans (hb.mono hI.below.size)
    have hdo : dstOf ops i = o.dst := by unfold dstOf; rw [ho]; rfl
    refine ⟨hB, ?_, ?_, fun j hj => ?_, fun k hk => ?_⟩
    · cases hd : o.dst <;> exact hI.defers
    · cases hd : o.dst <;> simp only [Act.put, Array.size_setIfInBounds] <;> exact hI.size
    · by_cases hji : j = i
      · subst hji
        refine ⟨v, hR, fun d hd => ?_⟩
        rw [hdo] at hd
        have hlt := apart_lt hap hio (by rw [hdo]; exact hd)
        rw [hd]
        show (a.tmps.setIfInBounds d v)[d]? = some v
        rw [Array.getElem?_setIfInBounds, if_pos rfl, if_pos (by rw [hI.size]; exact hlt)]
      · rw [if_neg hji] at hj
        obtain ⟨u, hu, hud⟩ := hI.vals j hj
        refine ⟨u, SP.has_below hu hb, fun d hd => ?_⟩
        cases hod : o.dst with
        | none => exact hud d hd
        | some d' =>
          have hne : d' ≠ d := fun e => hji (apart_ne hap (dst_lt hd) hio hd (by rw [hdo, hod, e]))
          show (a.tmps.setIfInBounds d' v)[d]? = some u
          rw [Array.getElem?_setIfInBounds, if_neg hne]
          exact hud d hd
    · have hk' : ∀ j, L j = true → dstOf ops j ≠ some k := fun j hj => hk j (by by_cases h : j = i <;> simp [h, hj])
      have hki : o.dst ≠ some k := by rw [← hdo]; exact hk i (by simp)
      cases hod : o.dst with
      | none => exact hI.rest k hk'
      | some d' =>
        have hne : d' ≠ k := fun e => hki (by rw [hod, e])
        show (a.tmps.setIfInBounds d' v)[k]? = _
        rw [Array.getElem?_setIfInBounds, if_neg hne]
        exact hI.rest k hk'
  have hff : ∀ v w', Below w.heap.size w w' → (∀ b, blk i v b → w.heap.size ≤ b ∧ b < w'.heap.size) → FInv ops blk (fun j => if j = i then true else L j) (a.put o.dst v) w' := fun v w' hb hR => by
    have hdo : dstOf ops i = o.dst := by unfold dstOf; rw [ho]; rfl
    have hold : ∀ x d u, x ≠ i → dstOf ops x = some d → (a.put o.dst v).tmps[d]? = some u → a.tmps[d]? = some u := fun x d u hx hd hu => by
      cases hod : o.dst with
      | none => rw [hod] at hu; exact hu
      | some d' =>
        have hne : d' ≠ d := fun e => hx (apart_ne hap (dst_lt hd) hio hd (by rw [hdo, hod, e]))
        rw [hod] at hu
        have hu' : (a.tmps.setIfInBounds d' v)[d]? = some u := hu
        rw [Array.getElem?_setIfInBounds, if_neg hne] at hu'
        exact hu'
    have hnew : ∀ d u, dstOf ops i = some d → (a.put o.dst v).tmps[d]? = some u → u = v := fun d u hd hu => by
      rw [hdo] at hd
      rw [hd] at hu
      have hu' : (a.tmps.setIfInBounds d v)[d]? = some u := hu
      rw [Array.getElem?_setIfInBounds, if_pos rfl] at hu'
      split at hu'
      · exact (Option.some.inj hu').symm
      · cases hu'
    intro x hx d u hd hu
    by_cases hxi : x = i
    · subst hxi
      obtain rfl := hnew d u hd hu
      refine ⟨fun b hbb => (hR b hbb).2, fun y hy hyx d' u' hd' hu' b hbb hbb' => ?_⟩
      replace hy : L y = true := by simpa [hyx] using hy
      have h1 := (hF y hy d' u' hd' (hold y d' u' hyx hd' hu')).1 b hbb'
      have h2 := (hR b hbb).1
      omega
    · replace hx : L x = true := by simpa [hxi] using hx
      have hu2 := hold x d u hxi hd hu
      have h0 := hF x hx d u hd hu2
      refine ⟨fun b hbb => Nat.lt_of_lt_of_le (h0.1 b hbb) hb.size, fun y hy hyx d' u' hd' hu' b hbb hbb' => ?_⟩
      by_cases hyi : y = i
      · subst hyi
        obtain rfl := hnew d' u' hd' hu'
        have h1 := h0.1 b hbb
        have h2 := (hR b hbb').1
        omega
      · replace hy : L y = true := by simpa [hyi] using hy
        exact h0.2 y hy hyx d' u' hd' (hold y d' u' hyi hd' hu') b hbb hbb'
  by_cases hs : skips ops R i = true
  · have hw : Region.wanted o (yielded ops a.tmps) = false := by
      have h1 := List.all_eq_true.1 hg i (List.mem_range.2 hik)
      unfold skips at hs
      simp only [ho] at h1 hs
      unfold Region.wanted
      cases hgd : o.guard with
      | none => rw [hgd] at hs; cases hs
      | some x =>
        obtain ⟨j, want⟩ := x
        simp only [hgd, Bool.and_eq_true] at h1 hs
        obtain ⟨⟨_, hsm⟩, h2⟩ := h1
        obtain ⟨ix, hix, h3⟩ := Array.any_eq_true.1 h2
        have he : o.after[ix] ∈ o.after := Array.getElem_mem hix
        generalize o.after[ix] = e at *
        simp only [Bool.and_eq_true, beq_iff_eq] at h3
        obtain ⟨h3, h4⟩ := h3
        obtain ⟨v, hv, hd⟩ := hdv e he h4
        rw [h3] at hv hd
        have hvb : v = .bool (!want) := by
          cases hr : R.getD j SP.any with
          | is x =>
            rw [hr] at hs hv
            cases x <;> simp only [SP.bool?, Bool.false_eq_true] at hs
            rename_i bb
            have hbb : bb = !want := by cases bb <;> cases want <;> simp_all
            rw [hbb] at hv
            exact hv
          | st p hp => rw [hr] at hs; simp [SP.bool?] at hs
        obtain ⟨d, hdj⟩ := Option.isSome_iff_exists.1 hsm
        have hy : yielded ops a.tmps j = some (!want) := by
          unfold yielded
          have e1 : (ops[j]?).bind (·.dst) = some d := hdj
          rw [e1]
          simp only [Option.bind_some, hd d hdj, hvb]
        simp only [hy]
        cases want <;> rfl
    refine wpOp_step ho fun K' hK => ?_
    rw [if_neg (by rw [hw]; exact Bool.false_ne_true)]
    exact hK _ _ ⟨hfin undef w (Below.refl _ _) (by rw [hsk i hik hs]; rfl), hff undef w (Below.refl _ _) (fun b hb => (hbu i b hb).elim)⟩
  have hw : Region.wanted o (yielded ops a.tmps) = true := by
    have h1 := List.all_eq_true.1 hg i (List.mem_range.2 hik)
    unfold skips at hs
    simp only [ho] at h1 hs
    unfold Region.wanted
    cases hgd : o.guard with
    | none => rfl
    | some x =>
      obtain ⟨j, want⟩ := x
      simp only [hgd, Bool.and_eq_true] at h1 hs
      obtain ⟨⟨⟨hbs, _⟩, hsm⟩, h2⟩ := h1
      obtain ⟨ix, hix, h3⟩ := Array.any_eq_true.1 h2
      have he : o.after[ix] ∈ o.after := Array.getElem_mem hix
      generalize o.after[ix] = e at *
      simp only [Bool.and_eq_true, beq_iff_eq] at h3
      obtain ⟨h3, h4⟩ := h3
      obtain ⟨v, hv, hd⟩ := hdv e he h4
      rw [h3] at hv hd
      have hvb : v = .bool want := by
        cases hr : R.getD j SP.any with
        | is x =>
          rw [hr] at hs hv hbs
          cases x <;> simp only [SP.bool?, Option.isSome_none, Bool.false_eq_true] at hbs
          rename_i bb
          simp only [SP.bool?] at hs
          have hbb : bb = want := by cases bb <;> cases want <;> simp_all
          rw [hbb] at hv
          exact hv
        | st p hp => rw [hr] at hbs; simp [SP.bool?] at hbs
      obtain ⟨d, hdj⟩ := Option.isSome_iff_exists.1 hsm
      have hy : yielded ops a.tmps j = some want := by
        unfold yielded
        have e1 : (ops[j]?).bind (·.dst) = some d := hdj
        rw [e1]
        simp only [Option.bind_some, hd d hdj, hvb]
      simp only [hy, beq_self_eq_true]
  refine wpOp_step ho fun K' hK => ?_
  rw [if_pos hw]
  refine hstep (by simpa using hs) a.eval w hI.below ⟨fun _ => rfl, fun _ => rfl, fun k hk => ?_, fun e he hb => ?_⟩ a K' rfl fun v w' hb hR => ?_
  · show a.tmps.getD k undef = a0.tmps.getD k undef
    rw [Array.getD_eq_getD_getElem?, Array.getD_eq_getD_getElem?, hI.rest k fun j hj h => ?_]
    have := List.all_eq_true.1 hk j (List.mem_range.2 (dst_lt h))
    rw [h] at this
    simp at this
  · obtain ⟨v, hv, hd⟩ := hdv e he hb
    exact ⟨v, hv, fun d hdd => getD_of (hd d hdd)⟩
  · exact hK _ _ ⟨hfin v w' hb hR.1, hff v w' hb hR.2⟩
theorem region_tailF (blk : Nat → Value → Nat → Prop) (hbu : ∀ i b, ¬ blk i undef b) {id : Nat} {a0 : Act} {w0 : World} (k : Nat) (R : List SP) (ds : List (Option Tmp)) (hm : P.follows .mixedOrders = true) (hord : orderedB .any ops = true) (hap : apart ops a0.tmps.size = true) (hg : guardedS ops R k = true) (sk : List Nat) (hskl : skipped ops R k = sk) (hsk0 : ∀ p ∈ sk, R.getD p SP.any = .is undef) (hds : (List.range k).map (dstOf ops) = ds) (htl : tailed ops k = true)
    (hstep : ∀ i o, ops[i]? = some o → i < k → skips ops R i = false → ∀ E w, Below w0.drew.heap.size w0.drew w → Due ops R a0 o E w → Does P Q o E w fun w' v => (R.getD i SP.any).has w' v ∧ ∀ b, blk i v b → w.heap.size ≤ b ∧ b < w'.heap.size)
    (hdone : ∀ (vals : Nat → Value) w, Below w0.drew.heap.size w0.drew w → (∀ i, i < k → (R.getD i SP.any).has w (vals i)) → (∀ i j, i < k → j < k → i ≠ j → (dstOf ops i).isSome = true → (dstOf ops j).isSome = true → ∀ b, blk i (vals i) b → ¬ blk j (vals j) b) → wpList P ops Q (ops.toList.drop k) { a0 with tmps := setL ds vals 0 a0.tmps } w) : (Code.region id ops true).wp P Q a0 w0 := by
  have hsk := skip_of hskl hsk0
  unfold tailed at htl
  simp only [Bool.and_eq_true, decide_eq_true_eq] at htl
  obtain ⟨⟨hkn, hcov⟩, hch⟩ := htl
  have hchain : ∀ i, k ≤ i → i + 1 < ops.size → waitsFor ops (i + 1) i = true := fun i h1 h2 => by
    have := List.all_eq_true.1 hch i (List.mem_range.2 (by omega))
    simp only [Bool.or_eq_true, decide_eq_true_eq] at this
    rcases this with (h | h) | h
    · omega
    · omega
    · exact h
  have hcover : ∀ j, j < k → k < ops.size → ∃ i, j < i ∧ i ≤ k ∧ waitsFor ops i j = true := fun j h1 h2 => by
    have := List.all_eq_true.1 hcov j (List.mem_range.2 h1)
    simp only [Bool.or_eq_true, beq_iff_eq] at this
    rcases this with h | h
    · omega
    · obtain ⟨i, hi, h⟩ := List.any_eq_true.1 h
      simp only [Bool.and_eq_true, decide_eq_true_eq] at h
      exact ⟨i, h.1, by have := List.mem_range.1 hi; omega, h.2⟩
  have hfin : ∀ L a w, VInv ops R w0.drew a0 L a w → FInv ops blk L a w → (∀ j, j < k → L j = true) → (∀ j, k ≤ j → L j = false) → wpList P ops Q (ops.toList.drop k) a w := fun L a w hI hFI hall hno => by
    have hv : ∀ i, ∃ v, i < k → (R.getD i SP.any).has w v ∧ ∀ d, dstOf ops i = some d → a.tmps[d]? = some v := fun i => by
      by_cases hi : i < k
      · obtain ⟨v, h⟩ := hI.vals i (hall i hi); exact ⟨v, fun _ => h⟩
      · exact ⟨undef, fun h => absurd h hi⟩
    obtain ⟨vals, hvals⟩ := Classical.axiomOfChoice hv
    have ha : a = { a0 with tmps := setAll ops vals k a0.tmps } := by
      obtain ⟨tm, df⟩ := a
      have h1 : df = a0.defers := hI.defers
      have h2 : tm = setAll ops vals k a0.tmps := by
        refine Array.ext_getElem? fun s => ?_
        have hset := setAll_get vals hap s k a0.tmps hkn rfl
        by_cases hk : ∃ i, i < k ∧ dstOf ops i = some s
        · obtain ⟨i, hik, hi⟩ := hk
          rw [hset.2 i hik hi]
          exact (hvals i hik).2 s hi
        · rw [hset.1 fun i hi h => hk ⟨i, hi, h⟩]
          refine hI.rest s fun i hi h => ?_
          rcases Nat.lt_or_ge i k with hl | hl
          · exact hk ⟨i, hl, h⟩
          · rw [hno i hl] at hi; cases hi
      rw [h1, h2]
    rw [ha, setAll_eq, hds]
    refine hdone vals w hI.below (fun i hi => (hvals i hi).1) fun i j hi hj hij hdi hdj b hb1 hb2 => ?_
    obtain ⟨d, hd⟩ := Option.isSome_iff_exists.1 hdi
    obtain ⟨d', hd'⟩ := Option.isSome_iff_exists.1 hdj
    exact (hFI i (hall i hi) d _ hd ((hvals i hi).2 d hd)).2 j (hall j hj) (Ne.symm hij) d' _ hd' ((hvals j hj).2 d' hd') b hb1 hb2
  refine region_invB (fun a0 B L a w => ((VInv ops R B a0 L a w ∧ FInv ops blk L a w) ∧ (∀ i, k ≤ i → L i = false) ∧ Closed ops L) ∨ ∃ m, k ≤ m ∧ m ≤ ops.size ∧ (∀ i, L i = decide (i < m)) ∧ wpList P ops Q (ops.toList.drop m) a w) hm hord
    (Or.inl ⟨⟨⟨Below.refl _ _, rfl, rfl, fun i h => (Bool.noConfusion h), fun k _ => rfl⟩, fun i h => (Bool.noConfusion h)⟩, fun _ _ => rfl, fun i o _ h => (Bool.noConfusion h)⟩) ?_ ?_
  · intro L a w hI i o ho hLi hdep
    have hio : i < ops.size := (Array.getElem?_eq_some_iff.1 ho).1
    rcases hI with ⟨hI, hno, hcl⟩ | ⟨m, hm1, hm2, hL, hwp⟩
    · by_cases hik : i < k
      · refine wpOp_mono (fun a' w' h => Or.inl ?_) (vinv_stepF blk hbu R hap hg hsk hik hI.1 ho hLi hdep hI.2 (hstep i o ho hik))
        refine ⟨h, fun j hj => ?_, fun j o' ho' hj e he hb => ?_⟩
        · have hji : j ≠ i := by omega
          simp only [hji, if_false]
          exact hno j hj
        · by_cases hji : j = i
          · subst hji
            rw [ho] at ho'; cases ho'
            by_cases h2 : e.on = j
            · simp [h2]
            · simp only [h2, if_false]; exact hdep e he hb
          · simp only [hji, if_false] at hj
            by_cases h2 : e.on = i
            · simp [h2]
            · simp only [h2, if_false]; exact hcl j o' ho' hj e he hb
      · have hik' : i = k := by
          rcases Nat.lt_or_ge k i with h | h
          · have := waits_done (L := L) (hchain (i - 1) (by omega) (by omega)) (by rw [show i - 1 + 1 = i by omega]; exact ho) hdep
            rw [hno (i - 1) (by omega)] at this; cases this
          · omega
        subst hik'
        have hall : ∀ d j, i - j ≤ d → j < i → L j = true := by
          intro d
          induction d with
          | zero => intro j h1 h2; omega
          | succ d ih =>
            intro j h1 h2
            obtain ⟨q, hq1, hq2, hq3⟩ := hcover j h2 hio
            by_cases hqi : q = i
            · subst hqi; exact waits_done hq3 ho hdep
            · have hq : L q = true := ih q (by omega) (by omega)
              have hqo : ops[q]? = some ops[q] := Array.getElem?_eq_getElem (by omega)
              exact waits_done hq3 hqo (hcl q _ hqo hq)
        refine wpOp_mono (fun a' w' h => Or.inr ⟨i + 1, by omega, by omega, fun j => ?_, h⟩) (wpList_to_op ho (hfin L a w hI.1 hI.2 (fun j hj => hall _ j (Nat.le_refl _) hj) hno))
        by_cases hji : j = i
        · subst hji; simp
        · simp only [hji, if_false]
          rcases Nat.lt_or_ge j i with h1 | h1
          · rw [hall _ j (Nat.le_refl _) h1]; simp; omega
          · rw [hno j h1]; simp; omega
    · have him : i = m := by
        have h1 : ¬ i < m := fun h => by rw [hL i] at hLi; simp [h] at hLi
        rcases Nat.lt_or_ge m i with h | h
        · have := waits_done (L := L) (hchain (i - 1) (by omega) (by omega)) (by rw [show i - 1 + 1 = i by omega]; exact ho) hdep
          rw [hL (i - 1)] at this
          simp at this; omega
        · omega
      subst him
      refine wpOp_mono (fun a' w' h => Or.inr ⟨i + 1, by omega, by omega, fun j => ?_, h⟩) (wpList_to_op ho hwp)
      by_cases hji : j = i
      · subst hji; simp
      · simp only [hji, if_false]
        rw [hL j]
        rcases Nat.lt_or_ge j i with h1 | h1
        · simp [h1]; omega
        · simp; omega
  · intro L a w hall hI
    rcases hI with ⟨hI, hno, hcl⟩ | ⟨m, hm1, hm2, hL, hwp⟩
    · have hk : k = ops.size := by
        rcases Nat.lt_or_ge k ops.size with h | h
        · have := hall k h; rw [hno k (Nat.le_refl _)] at this; cases this
        · omega
      have := hfin L a w hI.1 hI.2 (fun j hj => hall j (by omega)) hno
      rw [hk, ← Array.length_toList, List.drop_length] at this
      exact this
    · have hk : m = ops.size := by
        rcases Nat.lt_or_ge m ops.size with h | h
        · have := hall m h; rw [hL m] at this; simp at this
        · omega
      rw [hk, ← Array.length_toList, List.drop_length] at hwp
      exact hwp
end

end Go.Proofs.Ytegoinkkcfbfaaa.wk
