/- Keys of boxes. -/
import Derived.Test.YtlcdjabfkfmpdaaBi

import Derived.Laws.EntriesVeiled

namespace Go.Proofs.Ytlcdjabfkfmpdaa.bk

open Go.ChangeShapes Go.WideShapes Go.ChangeAt Go.RowKit

open Go.Proofs.Ytlcdjabfkfmpdaa.bq Go.Proofs.Ytlcdjabfkfmpdaa.vk Go.Proofs.Ytlcdjabfkfmpdaa.wk

set_option linter.unusedVariables false
attribute [local go_sem] Oper.semAt_some
def df (f : Nat) : Int → Int → Int → Int → Int := if f = 52 then bq.gap else bq.reach
theorem df_calls (f : Nat) (hf : f = 52 ∨ f = 53) (a b c d : Int) (h1 : -1000 ≤ a ∧ a ≤ 1000) (h2 : -1000 ≤ b ∧ b ≤ 1000) (h3 : -1000 ≤ c ∧ c ≤ 1000) (h4 : -1000 ≤ d ∧ d ≤ 1000) (w : World) :
    Calls Try.prog f #[rng a b, rng c d] w fun e w' => e = .returned (.int .i64 (df f a b c d)) ∧ Below w.heap.size w w' := by
  rcases hf with rfl | rfl
  · exact gap_calls a b c d w h1 h2 h3 h4
  · exact reach_calls a b c d w h1 h2 h3 h4
theorem df_enters (f : Nat) (hf : f = 52 ∨ f = 53) : ∀ args w, (callFunc f args).run Try.prog w = .ok (.enter f args) w := by
  rcases hf with rfl | rfl
  · intro args w; kernel_rfl
  · intro args w; kernel_rfl
theorem df_bd (f : Nat) (hf : f = 52 ∨ f = 53) {a b c d : Int} (h1 : -1000 ≤ a ∧ a ≤ 1000) (h2 : -1000 ≤ b ∧ b ≤ 1000) (h3 : -1000 ≤ c ∧ c ≤ 1000) (h4 : -1000 ≤ d ∧ d ≤ 1000) (h5 : a ≤ b) (h6 : c ≤ d) : 0 ≤ df f a b c d ∧ df f a b c d ≤ 2000 := by
  rcases hf with rfl | rfl
  · show 0 ≤ bq.gap a b c d ∧ bq.gap a b c d ≤ 2000
    unfold bq.gap; omega
  · show 0 ≤ bq.reach a b c d ∧ bq.reach a b c d ≤ 2000
    unfold bq.reach; omega
def asked (m : Int) (p q : Pair) : Bool := metric m && balike p q
set_option maxRecDepth 100000 in
set_option maxHeartbeats 8000000 in
theorem key_calls (m : Int) (v u : Value) (p q : Pair) (f : Nat) (hf : f = 52 ∨ f = 53) (w : World) (h : IsX w v p) (h2 : IsX w u q) :
    Calls Try.prog 51 #[.int .i64 m, v, u, .func (.func f) #[] #[]] w fun e w' => e = .returned (.tuple #[.int .i64 (if asked m p q then keyf m (difs (df f) p q) else 0), .int .i64 (if asked m p q then 0 else 1)]) ∧ Below w.heap.size w w' := by
  have HA := Lib.hid (fun w' hb => alike_calls v u p q w' (h.below hb) (h2.below hb))
  have HX := Lib.hid h
  have HX2 := Lib.hid h2
  have hFE := df_enters f hf
  have HDF := Lib.hid (df_calls f hf)
  have HDBD := Lib.hid (fun a b c d h1 h2 h3 h4 h5 h6 => @df_bd f hf a b c d h1 h2 h3 h4 h5 h6)
  obtain ⟨A, n, c, A', n', c', rfl, hi, hi'⟩ := h
  obtain ⟨A2, n2, c2, A2', n2', c2', rfl, hi2, hi2'⟩ := h2
  clear hi hi' hi2 hi2' hf
  obtain ⟨kv, hkv⟩ : ∃ kv : Int, (if asked m p q then keyf m (difs (df f) p q) else 0) = kv := ⟨_, rfl⟩
  obtain ⟨ke, hke⟩ : ∃ ke : Int, (if asked m p q then 0 else 1) = ke := ⟨_, rfl⟩
  rw [hkv, hke]
  have HKV := Lib.hid hkv
  have HKW := Lib.hid hke
  clear hkv hke
  refine enter_marks Try.func51 rfl ?_
  simp only [Try.ntmps51, List.size_toArray, List.length_cons, List.length_nil, Nat.reduceAdd, Nat.reduceSub, Array.replicate_succ, Array.replicate_zero, List.push_toArray, List.append_toArray, List.nil_append, List.cons_append]
  by_cases hmt : metric m = true
  · have hm := metric_iff.1 hmt
    have HAE := Lib.hid (add_enters m hm)
    have hQ := TwoX.new (w.alloc (.cells #[.slice A n c, .slice A' n' c'] 25)) (.slice A2 n2 c2) (.slice A2' n2' c2')
    have hP := (TwoX.new w (.slice A n c) (.slice A' n' c')).below (below_new _ (.cells #[.slice A2 n2 c2, .slice A2' n2' c2'] 25))
    have hF := One.new ((w.alloc (.cells #[.slice A n c, .slice A' n' c'] 25)).alloc (.cells #[.slice A2 n2 c2, .slice A2' n2' c2'] 25)) 81 (.func (.func f) #[] #[])
    have hb3 := below_new ((w.alloc (.cells #[.slice A n c, .slice A' n' c'] 25)).alloc (.cells #[.slice A2 n2 c2, .slice A2' n2' c2'] 25)) (.cells #[.func (.func f) #[] #[]] 81)
    have hP3 := hP.below hb3
    have hQ3 := hQ.below hb3
    have hB3 := Below.andThen (Below.andThen (below_new w (.cells #[.slice A n c, .slice A' n' c'] 25)) (below_new _ (.cells #[.slice A2 n2 c2, .slice A2' n2' c2'] 25))) hb3
    have hsz3 : (((w.alloc (.cells #[.slice A n c, .slice A' n' c'] 25)).alloc (.cells #[.slice A2 n2 c2, .slice A2' n2' c2'] 25)).alloc (.cells #[.func (.func f) #[] #[]] 81)).heap.size = w.heap.size + 3 := by simp only [size_new]
    simp only [size_new] at hQ3 hF
    clear hP hQ hb3
    generalize hw3 : ((w.alloc (.cells #[.slice A n c, .slice A' n' c'] 25)).alloc (.cells #[.slice A2 n2 c2, .slice A2' n2' c2'] 25)).alloc (.cells #[.func (.func f) #[] #[]] 81) = w3 at *
    have HW3 := Lib.hid hw3
    clear hw3
    have hb4 := below_new w3 (.cells #[.int .i64 0] 3)
    have hb5 := below_new (w3.alloc (.cells #[.int .i64 0] 3)) (.cells #[.func (.func (addf m)) #[] #[.pointer (some ⟨w.heap.size + 1 + 1 + 1, 0, none⟩)]] 87)
    have hS := (One.new w3 3 (.int .i64 0)).below hb5
    have hC := One.new (w3.alloc (.cells #[.int .i64 0] 3)) 87 (.func (.func (addf m)) #[] #[.pointer (some ⟨w.heap.size + 1 + 1 + 1, 0, none⟩)])
    rw [hsz3] at hS
    rw [size_new, hsz3] at hC
    have hbb := Below.andThen hb4 hb5
    have HP := Lib.hid (hP3.below hbb)
    have HQ := Lib.hid (hQ3.below hbb)
    have HF := Lib.hid (hF.below hbb)
    have HS0 := Lib.hid hS
    have HC := Lib.hid hC
    have HB := Lib.hid (hB3.trans (hbb.mono (by omega)))
    clear hP3 hQ3 hF hB3 hb4 hb5 hS hC hbb
    go_wp2_with fail
    refine (adder_calls m hm _).mono ?_
    rintro e w1 ⟨rfl, rfl⟩
    go_wp2_with fail
    simp only [HW3.out]
    by_cases hal : balike p q = true
    · have HASK : Hid (asked m p q = true) := by show _ = _; simp [asked, hmt, hal]
      obtain ⟨hl, hp, hq⟩ := balike_iff.1 hal
      rw [hal] at HA
      refine (HA.out _ HB.out).mono ?_
      rintro e w1 ⟨rfl, hb⟩
      replace HP := Lib.hid (HP.out.below hb)
      replace HQ := Lib.hid (HQ.out.below hb)
      replace HF := Lib.hid (HF.out.below hb)
      replace HS0 := Lib.hid (HS0.out.below hb)
      replace HC := Lib.hid (HC.out.below hb)
      replace HB := Lib.hid (HB.out.trans (hb.mono HB.out.size))
      clear hb hsz3 HW3
      have hbx := below_new w1 (.cells #[.int .i64 0] 3)
      have hP1 := HP.out.below hbx
      have hc0 := hP1.two.c0
      have hc1 := hP1.two.c1
      clear hP1 hbx
      go_wp2_with fail
      refine (sides_calls _ _ _).mono ?_
      rintro e w2 ⟨rfl, rfl⟩
      go_wp2_with fail
      obtain ⟨dk, hdk⟩ : ∃ dk : Nat → Int, dk = fun i => df f (at' p.1 i) (at' p.2 i) (at' q.1 i) (at' q.2 i) := ⟨_, rfl⟩
      have hdif : difs (df f) p q = (List.range p.1.length).map dk := by rw [hdk]; rfl
      have hplen := hp.len
      have hqlen := hq.len
      have hdb : ∀ i, i < p.1.length → 0 ≤ dk i ∧ dk i ≤ 2000 := fun i hi => by
        rw [hdk]
        exact HDBD.out _ _ _ _ (vec_at hp.lo hi) (vec_at hp.hi (by omega)) (vec_at hq.lo (by omega)) (vec_at hq.hi (by omega)) (hp.le i hi) (hq.le i (by omega))
      obtain ⟨K, hK⟩ : ∃ K : List (Nth p.1.length) → Int, K = fun pre => keyf m (pre.map fun y => dk y.1) := ⟨_, rfl⟩
      have hkb : ∀ pre : List (Nth p.1.length), pre.length < p.1.length → 0 ≤ K pre ∧ K pre ≤ 128000000 := fun pre hpre => by
        have h1 := keyf_bd m (pre.map fun y => dk y.1) (fun d hd => by obtain ⟨y, _, rfl⟩ := List.mem_map.1 hd; exact hdb y.1 y.2)
        rw [List.length_map] at h1
        have := hp.lo.le
        rw [hK]
        show 0 ≤ keyf m (pre.map fun y => dk y.1) ∧ keyf m (pre.map fun y => dk y.1) ≤ 128000000
        omega
      have HK0 : Hid (K [] = 0) := by show _ = _; rw [hK]; rfl
      have HKS : Hid (∀ pre x, K (pre ++ [x]) = bq.step m (K pre) (dk x.1)) := by
        intro pre x
        rw [hK]
        show keyf m ((pre ++ [x]).map fun y => dk y.1) = _
        rw [List.map_append, List.map_singleton, keyf_snoc]
      have HKE : Hid (∀ ys : List (Nth p.1.length), ys.map (·.1) = List.range p.1.length → K ys = keyf m (difs (df f) p q)) := by
        intro ys hys
        rw [hdif, ← hys, List.map_map, hK]; rfl
      clear hK
      have HKBA := Lib.hid hkb
      have HDBA := Lib.hid hdb
      have HDK := Lib.hid hdk
      clear hkb hdb hdk
      have HPV := Lib.hid hp
      have HQV := Lib.hid hq
      generalize hG : w.heap.size = G at *
      generalize hSS : w1.heap.size = S at *
      have hGS : G + 1 + 1 + 1 + 1 < S := by rw [← hSS]; exact HC.out.lt
      have hs2 : ∀ o1 o2, ((w1.alloc o1).alloc o2).heap.size = S + 2 := fun o1 o2 => by simp only [size_new, hSS]
      have hbx := below_new w1 (.cells #[.int .i64 0] 3)
      have hby := below_new (w1.alloc (.cells #[.int .i64 0] 3)) (.cells #[.slice A n c, .slice A' n' c'] 25)
      have hbz := Below.andThen hbx hby
      have hO2 := (One.new w1 3 (.int .i64 0)).below hby
      have hTw := Two.new (w1.alloc (.cells #[.int .i64 0] 3)) (.slice A n c) (.slice A' n' c') 25
      rw [hSS] at hO2
      simp only [size_new, hSS] at hTw
      replace HQ := Lib.hid (HQ.out.below hbz)
      replace HF := Lib.hid (HF.out.below hbz)
      replace HC := Lib.hid (HC.out.below hbz)
      have hO1 := HS0.out.below hbz
      have hB2 := HB.out.trans (hbz.mono (by omega))
      have hB2' : Below G w ((w1.alloc (.cells #[.int .i64 0] 3)).alloc (.cells #[.slice A n c, .slice A' n' c'] 25)) := hB2
      clear hbx hby hbz hB2 hc0 hc1
      refine range_sides' (some 13) 14 G (S + 1) [G + 1 + 1 + 1, S] p (.slice A n c) (.slice A' n' c') rfl ?c1 ?c2 ?c0 ?c3 ?c4 ?c5 ?c6 (fun pre W => One W (G + 1 + 1 + 1) 3 (.int .i64 (K pre)) ∧ One W S 3 (.int .i64 (K pre))) (fun c W => False) ?c7 ?c8 ?c9 ?rassign ?rbody ?rdone ?rstop
      case c0 => exact hTw
      case c1 => intro j hj; simp only [List.mem_cons, List.not_mem_nil, or_false] at hj; omega
      case c2 => rw [hs2]; omega
      case c3 => intro hj; simp only [List.mem_cons, List.not_mem_nil, or_false] at hj; omega
      case c4 => intro j hj; rw [hs2]; simp only [List.mem_cons, List.not_mem_nil, or_false] at hj; omega
      case c5 => omega
      case c6 =>
        intro w' hb
        exact HX.out.below (by rw [hG]; exact hB2'.trans hb)
      case c7 => exact OwnFrom.and (own_one (by rw [hs2]; omega)) (own_one (by rw [hs2]; omega))
      case c8 => intro c' s W W' row hs _ _; exact hs
      case c9 => rw [HK0.out]; exact ⟨hO1, hO2⟩
      case rassign =>
        intro l m i a b W K hK
        unfold rng at hK ⊢
        simp only [roundT, List.setIfInBounds_toArray, List.set_cons_succ, List.set_cons_zero] at hK ⊢
        gi_wp2
        exact hK
      case rbody =>
        rintro l m' pre x Bx W hBx hTB hx ⟨hO1, hO2⟩ hlen
        have HTB := Lib.hid hTB
        have HO1 := Lib.hid hO1
        have HO2 := Lib.hid hO2
        have hBG : Below G w W := hB2'.trans (hx.below (by rw [hs2]; omega) (by intro j hj; simp only [List.mem_cons, List.not_mem_nil, or_false] at hj; omega))
        have hxl := x.2
        have hblk : ∀ k, k < S → k ≠ G + 1 + 1 + 1 → W.heap[k]? = ((w1.alloc (.cells #[.int .i64 0] 3)).alloc (.cells #[.slice A n c, .slice A' n' c'] 25)).heap[k]? := fun k h1 h2 => hx.block k (by rw [hs2]; omega) (by simp only [List.mem_cons, List.not_mem_nil, or_false]; omega)
        replace HQ : Hid (TwoX W (G + 1) (.slice A2 n2 c2) (.slice A2' n2' c2')) := (hblk (G + 1) (by omega) (by omega)).trans HQ.out
        replace HF := Lib.hid (HF.out.at (hblk (G + 1 + 1) (by omega) (by omega)))
        replace HC := Lib.hid (HC.out.at (hblk (G + 1 + 1 + 1 + 1) (by omega) (by omega)))
        have HS := Lib.hid (fun w' (hb : Below W.heap.size W w') => side_calls _ q x.1 w' ((HX2.out.below (by rw [hG]; exact hBG)).below hb) (by omega) (by omega))
        have HD := Lib.hid (fun w' => HDF.out (at' p.1 x.1) (at' p.2 x.1) (at' q.1 x.1) (at' q.2 x.1) (vec_at HPV.out.lo hxl) (vec_at HPV.out.hi (by omega)) (vec_at HQV.out.lo (by omega)) (vec_at HQV.out.hi (by omega)) w')
        have HKB := Lib.hid (HKBA.out pre hlen)
        have HDB := Lib.hid (HDBA.out x.1 hxl)
        have HWB : Hid (S + 2 ≤ W.heap.size) := by have := hx.size; rw [hs2] at this; exact this
        have HSG : Hid (S ≠ G + 1 + 1 + 1) := by show _ ≠ _; omega
        have HDX : Hid (df f (at' p.1 x.1) (at' p.2 x.1) (at' q.1 x.1) (at' q.2 x.1) = dk x.1) := by show _ = _; rw [HDK.out]
        rw [HDX.out] at HD
        rw [hs2]
        clear hTB hO1 hO2 hx hBG hblk
        simp only [roundT, List.setIfInBounds_toArray, List.set_cons_succ, List.set_cons_zero]
        refine wpIn_block ?_
        refine wk.region_tailS_in l (by kernel_rfl) (fun ⟨_, _, h⟩ => h) 7 [.is (.func (.func (addf m)) #[] #[.pointer (some ⟨G + 1 + 1 + 1, 0, none⟩)]), .is (.func (.func f) #[] #[]), .is (rng (at' p.1 x.1) (at' p.2 x.1)), .is (.agg #[.slice A2 n2 c2, .slice A2' n2' c2']), .is (.int .i64 (x.1 : Int)), .is (rng (at' q.1 x.1) (at' q.2 x.1)), .is (.int .i64 (dk x.1))] [some 32, some 33, some 34, some 35, some 36, some 37, some 38] (by kernel_rfl) (by kernel_rfl) (by kernel_rfl) (by kernel_rfl) [] (by kernel_rfl) (by intro p hp; cases hp) (by kernel_rfl) (by kernel_rfl) ?hstep ?hdone
        case hstep =>
          intro i o ho hi hns E w4 hb4 D
          have hi2 : i = 0 ∨ i = 1 ∨ i = 2 ∨ i = 3 ∨ i = 4 ∨ i = 5 ∨ i = 6 := by omega
          clear hi
          rcases hi2 with rfl | rfl | rfl | rfl | rfl | rfl | rfl
          ·
            have ho2 := (Array.getElem?_eq_some_iff.1 ho).2
            simp only [List.getElem_toArray, List.getElem_cons_zero] at ho2
            subst ho2
            clear ho
            have e10 := D.old 10 (by kernel_rfl)
            exact wk.does_load1 rfl (by rw [e10]; rfl) (HC.out.below ((Below.refl _ _).drew.trans hb4)).cell Try.underlying87 rfl rfl
          ·
            have ho2 := (Array.getElem?_eq_some_iff.1 ho).2
            simp only [List.getElem_toArray, List.getElem_cons_succ, List.getElem_cons_zero] at ho2
            subst ho2
            clear ho
            have e7 := D.old 7 (by kernel_rfl)
            exact wk.does_load1 rfl (by rw [e7]; rfl) (HF.out.below ((Below.refl _ _).drew.trans hb4)).cell Try.underlying81 rfl rfl
          ·
            have ho2 := (Array.getElem?_eq_some_iff.1 ho).2
            simp only [List.getElem_toArray, List.getElem_cons_succ, List.getElem_cons_zero] at ho2
            subst ho2
            clear ho
            have e14 := D.old 14 (by kernel_rfl)
            obtain ⟨ty, hty⟩ := HTB.out.below ((Below.refl _ _).drew.trans hb4)
            exact wk.does_load_row rfl (by rw [e14]; rfl) hty Try.underlying78 rfl (by kernel_rfl) rfl
          ·
            have ho2 := (Array.getElem?_eq_some_iff.1 ho).2
            simp only [List.getElem_toArray, List.getElem_cons_succ, List.getElem_cons_zero] at ho2
            subst ho2
            clear ho
            have e6 := D.old 6 (by kernel_rfl)
            exact wk.does_load_row rfl (by rw [e6]; rfl) (HQ.out.below ((Below.refl _ _).drew.trans hb4)) Try.underlying25 rfl (by kernel_rfl) rfl
          ·
            have ho2 := (Array.getElem?_eq_some_iff.1 ho).2
            simp only [List.getElem_toArray, List.getElem_cons_succ, List.getElem_cons_zero] at ho2
            subst ho2
            clear ho
            have e13 := D.old 13 (by kernel_rfl)
            exact wk.does_move rfl (by rw [e13]; rfl)
          ·
            have ho2 := (Array.getElem?_eq_some_iff.1 ho).2
            simp only [List.getElem_toArray, List.getElem_cons_succ, List.getElem_cons_zero] at ho2
            subst ho2
            clear ho
            have e35 := D.is { on := 3, ground := .data } (by simp) rfl rfl 35 rfl
            have e36 := D.is { on := 4, ground := .data } (by simp) rfl rfl 36 rfl
            refine wk.does_fn (f := 50) (vs := #[.agg #[.slice A2 n2 c2, .slice A2' n2' c2'], .int .i64 (x.1 : Int)]) rfl (D.fn _) (by simp [e35, e36]) (by go_simp) ?_
            refine (HS.out w4 ((Below.refl _ _).drew.trans hb4)).mono ?_
            rintro e w7 ⟨rfl, hb7⟩
            exact ⟨_, rfl, hb7, rfl⟩
          ·
            have ho2 := (Array.getElem?_eq_some_iff.1 ho).2
            simp only [List.getElem_toArray, List.getElem_cons_succ, List.getElem_cons_zero] at ho2
            subst ho2
            clear ho
            have e33 := D.is { on := 1, ground := .data } (by simp) rfl rfl 33 rfl
            have e34 := D.is { on := 2, ground := .data } (by simp) rfl rfl 34 rfl
            have e37 := D.is { on := 5, ground := .data } (by simp) rfl rfl 37 rfl
            refine wk.does_fn (f := f) (vs := #[rng (at' p.1 x.1) (at' p.2 x.1), rng (at' q.1 x.1) (at' q.2 x.1)]) rfl e33 (by simp [e34, e37]) (hFE _ _) ?_
            refine (HD.out w4).mono ?_
            rintro e w7 ⟨rfl, hb7⟩
            exact ⟨_, rfl, hb7, rfl⟩
        case hdone =>
          intro vals w4 hb4 hv
          have h0 := hv 0 (by omega)
          have h6 := hv 6 (by omega)
          clear hv
          replace h0 : vals 0 = (.func (.func (addf m)) #[] #[.pointer (some ⟨G + 1 + 1 + 1, 0, none⟩)]) := h0
          replace h6 : vals 6 = (.int .i64 (dk x.1)) := h6
          simp only [List.drop_succ_cons, List.drop_zero, wk.setL, List.setIfInBounds_toArray, List.set_cons_zero, List.set_cons_succ, Nat.zero_add, Nat.reduceAdd, h0, h6]
          generalize vals 1 = x1
          generalize vals 2 = x2
          generalize vals 3 = x3
          generalize vals 4 = x4
          generalize vals 5 = x5
          have hb5 := ((Below.refl _ _).drew.trans hb4 : Below W.heap.size W w4)
          have hO5 := HO1.out.below hb5
          have hO6 := HO2.out.below hb5
          have hAD := Lib.hid (add_calls m hm (G + 1 + 1 + 1) (K pre) (dk x.1) w4 hO5 (HKB.out).1 (HKB.out).2 (HDB.out).1 (HDB.out).2)
          have hTU := Turn.of_below (M := [G + 1 + 1 + 1, S]) (B := S + 2) hb5 HWB.out
          have HTU := Lib.hid hTU
          have HO5 := Lib.hid hO5
          have HO6 := Lib.hid hO6
          clear hb4 hb5 hO5 hO6 hTU
          have hAE := HAE.out
          go_wp2_with fail
          refine hAD.out.mono ?_
          rintro e w5 ⟨rfl, rfl⟩
          have hO7 := HO6.out.other (.int .i64 (bq.step m (K pre) (dk x.1))) (k := G + 1 + 1 + 1) HSG.out
          have hc7 := hO7.cell
          have hf7 := hO7.frozen
          have HO7 := Lib.hid hO7
          clear hO7
          go_wp2_with fail
          refine ⟨(HTU.out.trans (Turn.setCell _ (by simp))).trans (Turn.setCell _ (by simp)), by rw [HKS.out]; exact (HO5.out.set _).other _ (Ne.symm HSG.out), by rw [HKS.out]; exact HO7.out.set _⟩
      case rdone =>
        rintro D ys W hD hys hx ⟨hO1, hO2⟩ hK
        have hO0 := hO2.cell
        rw [hs2] at hD
        have HKE2 := Lib.hid (HKE.out ys hys)
        generalize K ys = kk at *
        clear hplen hqlen hdif hys hl
        go_wp2_with fail
        refine leave_mark hK (results_tmp2 rfl _ _ _) ⟨?_, ?_⟩
        · rw [← HKV.out, ← HKW.out, HASK.out, if_pos rfl, if_pos rfl, ← HKE2.out]; rfl
        · rw [hG]; exact below_mark (hB2'.trans (hx.below (by rw [hs2]; omega) (by intro j hj; simp only [List.mem_cons, List.not_mem_nil, or_false] at hj; omega))) (by omega)
      case rstop =>
        rintro D c W hD hx hF hK
        exact hF.elim
    · have hal' : balike p q = false := by simpa using hal
      have HASK : Hid (asked m p q = false) := by show _ = _; simp [asked, hal']
      rw [hal'] at HA
      refine (HA.out _ HB.out).mono ?_
      rintro e w1 ⟨rfl, hb⟩
      replace HB := Lib.hid (HB.out.trans (hb.mono HB.out.size))
      clear hb
      go_wp2_with fail
      refine leave_bare (results_tmp2 rfl _ _ _) ⟨?_, HB.out⟩
      rw [← HKV.out, ← HKW.out, HASK.out]; rfl
  · have hmt' : metric m = false := by simpa using hmt
    have HASK : Hid (asked m p q = false) := by show _ = _; simp [asked, hmt']
    have HB := Lib.hid (Below.andThen (Below.andThen (Below.andThen (below_new w (.cells #[.slice A n c, .slice A' n' c'] 25)) (below_new _ (.cells #[.slice A2 n2 c2, .slice A2' n2' c2'] 25))) (below_new _ (.cells #[.func (.func f) #[] #[]] 81))) (below_new _ (.cells #[.int .i64 0] 3)))
    go_wp2_with fail
    refine (adder_no m hmt' _).mono ?_
    rintro e w1 ⟨rfl, rfl⟩
    go_wp2_with fail
    refine leave_bare (results_tmp2 rfl _ _ _) ⟨?_, ?_⟩
    · rw [← HKV.out, ← HKW.out, HASK.out]; rfl
    · exact Below.andThen HB.out (below_new _ _)
end Go.Proofs.Ytlcdjabfkfmpdaa.bk
