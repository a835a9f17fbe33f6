/- Joined: Kd Ke0 Val11 Ke Kf Kg Kh Ki. -/
import Derived.Test.YtieipbobijnmlaaG9

import Derived.OrdersIn

import Derived.OwnWalkIn
/- Has, Run, Encode, Decode. -/
namespace Go.Proofs.Ytieipbobijnmlaa.tk

open Go.ChangeShapes Go.WideShapes Go.ChangeAt Go.RowKit

open Go.Proofs.Ytieipbobijnmlaa.tq Go.Proofs.Ytieipbobijnmlaa.vk Go.Proofs.Ytieipbobijnmlaa.wk

set_option linter.unusedVariables false
attribute [local go_sem] Oper.semAt_some
set_option maxRecDepth 100000 in
set_option maxHeartbeats 4000000 in
theorem has_calls {l : List Int} {A : Option Addr} {n c : Nat} (x : Int) (w : World) (h : wo.IsI w A n c l) (ho : Ok l) : Calls Try.prog 18 #[.slice A n c, .int .i64 x] w fun e w' => e = .returned (.bool (has l x)) ∧ w' = w := by
  have HP := Lib.hid (passed_calls x w h ho.1 (by have := ok_len ho; have := h.1; omega))
  clear h ho
  go_enter Try.func18, Try.ntmps18
  go_wp2_with fail
  refine HP.out.mono ?_
  rintro e w' ⟨rfl, hw⟩
  rw [hw]
  clear hw
  go_wp2_with fail
  refine (inside_calls (cl l x) _).mono ?_
  rintro e w' ⟨rfl, hw⟩
  rw [hw]
  clear hw
  go_wp2_with fail
  go_ret
  exact ⟨rfl, rfl⟩
theorem has_two {a b : Int} (h : a < b) (x : Int) : has [a, b] x = decide (a ≤ x ∧ x < b) := by
  unfold has
  rw [cl_cons, cl_cons]
  have h0 : cl [] x = 0 := rfl
  rw [h0]
  by_cases h1 : a ≤ x
  · by_cases h2 : b ≤ x
    · rw [if_pos h1, if_pos h2, decide_eq_false (by omega)]; rfl
    · rw [if_pos h1, if_neg h2, decide_eq_true (by omega)]; rfl
  · rw [if_neg h1, if_neg (by omega), decide_eq_false (by omega)]; rfl
def runP (a b x : Int) : Bool := decide (a ≤ x ∧ x < b ∧ 0 ≤ x ∧ x < 4096)
theorem isS_nil (w : World) {p : Int → Bool} (h : ∀ x, p x = false) : IsS w none 0 0 p := ⟨[], vk.isI_nil w, ⟨List.Pairwise.nil, by simp, rfl⟩, fun x => by rw [h]; rfl⟩
set_option maxRecDepth 100000 in
set_option maxHeartbeats 4000000 in
theorem run_calls (a b : Int) (w : World) : Calls Try.prog 13 #[.int .i64 a, .int .i64 b] w fun e w' => ∃ A n c, e = .returned (.slice A n c) ∧ IsS w' A n c (runP a b) ∧ Below w.heap.size w w' := by
  obtain ⟨f, hf⟩ : ∃ f, max a 0 = f := ⟨_, rfl⟩
  obtain ⟨g, hg⟩ : ∃ g, min b 4096 = g := ⟨_, rfl⟩
  by_cases h : f < g
  · have HS : Hid (IsS (w.alloc (.cells #[.int .i64 f, .int .i64 g] 3)) (some ⟨w.heap.size, 0, none⟩) 2 2 (runP a b)) := by
      refine ⟨[f, g], vk.isI_new rfl [f, g] rfl 2 rfl (by omega) ?_ _, ⟨by simp [Asc]; exact h, ?_, by simp⟩, fun x => ?_⟩
      · intro x hx; simp at hx; omega
      · intro x hx; simp at hx; omega
      · rw [has_two h]
        show _ = decide (a ≤ x ∧ x < b ∧ 0 ≤ x ∧ x < 4096)
        by_cases h1 : f ≤ x ∧ x < g
        · rw [decide_eq_true h1, decide_eq_true (by omega)]
        · rw [decide_eq_false h1, decide_eq_false (by omega)]
    have hn : ¬ g ≤ f := by omega
    have HB := Lib.hid (below_new w (.cells #[.int .i64 f, .int .i64 g] 3))
    go_enter Try.func13, Try.ntmps13
    go_wp2_with fail
    go_ret
    exact ⟨_, _, _, rfl, HS.out, HB.out⟩
  · have hn : g ≤ f := by omega
    have HE : Hid (∀ x : Int, runP a b x = false) := fun x => decide_eq_false (by omega)
    go_enter Try.func13, Try.ntmps13
    go_wp2_with fail
    go_ret
    exact ⟨_, _, _, rfl, isS_nil _ HE.out, Below.refl _ _⟩
theorem dif_bd {l : List Int} (h : Ok l) : ∀ x ∈ dif 0 l, 0 ≤ x ∧ x ≤ 4096 := dif_in h.1 h.2.1 (by omega)
theorem dif_step {l D : List Int} {t x : Int} {k : Nat} (h : dif 0 l = D ++ dif t (l.drop k)) (hx : l[k]? = some x) : dif 0 l = (D ++ [x - t]) ++ dif x (l.drop (k + 1)) := by
  rw [h, drop_cons_at hx]; simp [dif]
theorem iv_append (a b : List Int) : iv (a ++ b) = iv a ++ iv b := by unfold iv; rw [List.map_append]
set_option maxRecDepth 100000 in
set_option maxHeartbeats 4000000 in
theorem encode_calls {l : List Int} {A : Option Addr} {n c : Nat} (w : World) (h : wo.IsI w A n c l) (ho : Ok l) : Calls Try.prog 36 #[.slice A n c] w fun e w' => ∃ A' c', e = .returned (.slice A' (wp.encIs (dif 0 l)).length c') ∧ wo.IsB w' A' (wp.encIs (dif 0 l)).length c' (wp.encIs (dif 0 l)) ∧ Below w.heap.size w w' := by
  obtain ⟨i0, hi, hz0, hz1, hz2⟩ := info_parts wi.infoI
  have hm := h.2.2.1
  have hnc := h.2.1
  have hn : n ≤ 4097 := by have := ok_len ho; have := h.1; omega
  have hnI : (i0.bytes : Nat) * n ≤ 281474976710656 := by rw [hz2]; omega
  obtain ⟨w1, hmk, hown, hgr⟩ := run_make_own (P := Try.prog) w w.heap.size 22 3 i0 (.int .i64 0) 1 Try.underlying22 hi hz0 hz1 .i64 .i64 n hnI (by unfold maxLen; omega) (Nat.le_refl _)
  have HB1 : Hid (Below w.heap.size w w1) := (Below.refl _ _).grown hgr (Nat.le_refl _) (fun k hk => by cases hk)
  have HO1 := Lib.hid hown
  have H := Lib.hid h
  have HL := Lib.hid h.1
  have HDI := Lib.hid (dif_bd ho)
  have HBD : Hid (∀ x ∈ dif 0 l, -9223372036854775808 ≤ x ∧ x ≤ 9223372036854775807) := fun x hx => by have := HDI.out x hx; omega
  have HLE := Lib.hid (vq.encIs_length (dif 0 l) HBD.out (by rw [dif_len]; have := h.1; omega))
  have HEL := Lib.hid (dif_len l 0)
  clear h ho hown hgr
  go_enter Try.func36, Try.ntmps36
  go_wp2_with fail
  clear hmk
  go_loopg [3, 4, 12] n (fun gg s la xk wr => ∃ (k : Nat) (v : Value) (t : Int) (D : List Int), k + gg = n ∧ v = s ∧ la = .int .i64 t ∧ xk = .int .i64 (k : Int) ∧ Below w.heap.size w wr ∧ wr.ownsRow w.heap.size 3 1 v k (iv D) ∧ dif 0 l = D ++ dif t (l.drop k))
  case atStart => exact ⟨0, _, 0, [], by omega, rfl, rfl, rfl, HB1.out, by simpa [iv] using HO1.out, rfl⟩
  case round =>
    obtain ⟨k, v, t, D, hk, rfl, rfl, rfl, hbel, hown, hdd⟩ := hrel
    have HK := Lib.hid hk
    have HBEL := Lib.hid hbel
    have HOW := Lib.hid hown
    have HDD := Lib.hid hdd
    have HBW : Hid (w.heap.size ≤ wr.heap.size) := hbel.size
    have hkn : k ≤ n := by omega
    clear hk hown hdd
    by_cases hlt : k < n
    · have hx : l[k]? = some (l[k]'(by rw [HL.out]; omega)) := List.getElem?_eq_getElem _
      generalize l[k]'(by rw [HL.out]; omega) = x at *
      obtain ⟨-, b, o, rfl, hcell⟩ := vk.isI_get (vk.isI_below H.out hbel) hx
      have HST := Lib.hid (dif_step HDD.out hx)
      have hxt := HDI.out (x - t) (by rw [HST.out]; simp)
      have hwr : IntKind.i64.wrap (x - t) = x - t := by rw [IntKind.wrap_i64]; omega
      have hlt0 : (k : Int) < (n : Int) := by omega
      clear hx hbel
      have HR2 := Lib.hid (below_new wr (.cells #[.int .i64 (x - t)] 3))
      have HO2 := Lib.hid (keptB HOW.out HR2.out)
      have HCI : Hid (∀ k u, (iv [(x - t)])[k]? = some u → (wr.alloc (.cells #[.int .i64 (x - t)] 3)).cell? ((⟨wr.heap.size, 0, none⟩ : Addr).add k) = some u) := fun k u hu => one_cell wr ((x - t)) k u hu
      have HB2 : Hid (Below w.heap.size w (wr.alloc (.cells #[.int .i64 (x - t)] 3))) := HBEL.out.trans (HR2.out.mono HBW.out)
      go_wp2_with (at_builtin; refine wpList_append_own _ rfl _ _ 22 rfl w.heap.size 3 i0 (.int .i64 0) 1 8 Try.underlying22 hi hz0 hz1 hz2 rfl (by decide) _ _ _ rfl HO2.out ⟨wr.heap.size, 0, none⟩ 1 1 (iv [(x - t)]) rfl rfl HCI.out (ones1 (x - t)) ?c3 ?c4 ?c5 ?_)
      case c3 => unfold maxLen; omega
      case c4 => omega
      case c5 => exact HB2.out.size
      intro v5 w5 hown5 hg5 _
      have HB5 := Lib.hid (HB2.out.grown hg5 HB2.out.size (fun g hg => (HO2.out.lt g hg).1))
      have HOW5 := Lib.hid hown5
      clear hown5 hg5
      go_wp2_with fail
      go_roundg (gk - 1)
      case measure => have := HK.out; omega
      case rel => exact ⟨k + 1, _, x, D ++ [x - t], by have := HK.out; omega, rfl, rfl, by go_num, HB5.out, by rw [iv_append]; exact HOW5.out, HST.out⟩
    · obtain rfl : n = k := by omega
      have hD : dif 0 l = D := by rw [HDD.out, List.drop_of_length_le (by rw [HL.out]; omega)]; simp [dif]
      have ho : wr.ownsRow w.heap.size 3 1 v n (iv (dif 0 l)) := by rw [hD]; exact HOW.out
      obtain ⟨A7, c7, rfl, hI⟩ := vk.isI_of_own ho HBD.out
      have HEN := Lib.hid ((wi.ints_out A7 n c7 (dif 0 l) wr hI.1 hI.2.1 hI.2.2.1 hI.2.2.2.1 hI.2.2.2.2 (by have := HLE.out; have := HEL.out; have := HL.out; omega)).mono fun e w' hh => isB_of_out hh)
      clear ho hI hbel hD
      go_wp2_with fail
      refine HEN.out.mono ?_
      rintro e w' ⟨A', c', rfl, hI2, hb⟩
      have HF := Lib.hid (And.intro hI2 (HBEL.out.trans (hb.mono HBW.out)))
      clear hI2 hb
      go_wp2_with fail
      go_ret
      exact ⟨A', c', rfl, HF.out⟩
theorem wr_eq (x : Int) : IntKind.i64.wrap x = tq.wr x := by rw [IntKind.wrap_i64]; unfold tq.wr; omega
theorem wr_bd (x : Int) : -9223372036854775808 ≤ tq.wr x ∧ tq.wr x ≤ 9223372036854775807 := by unfold tq.wr; omega
theorem wsm_step {N D : List Int} {t x : Int} {k : Nat} (h : wsm 0 N = D ++ wsm t (N.drop k)) (hx : N[k]? = some x) : wsm 0 N = (D ++ [tq.wr (t + x)]) ++ wsm (tq.wr (t + x)) (N.drop (k + 1)) := by
  rw [h, drop_cons_at hx]; simp [wsm]
theorem wsm_bd : ∀ (N : List Int) (t : Int), ∀ x ∈ wsm t N, -9223372036854775808 ≤ x ∧ x ≤ 9223372036854775807
  | [], _, x, h => by simp [wsm] at h
  | y :: N, t, x, h => by
    simp only [wsm, List.mem_cons] at h
    rcases h with rfl | h
    · exact wr_bd _
    · exact wsm_bd N _ x h
theorem wsm_len : ∀ (N : List Int) (t : Int), (wsm t N).length = N.length
  | [], _ => rfl
  | y :: N, t => by simp [wsm, wsm_len]
def decB (b : List UInt8) : List Int × Int :=
  if (wp.getL wp.getI 1 b).2.2 ≠ 0 then ([], 11) else if (wp.getL wp.getI 1 b).2.1 < b.length then ([], 11) else if steps (wp.getL wp.getI 1 b).1 && vs (sm 0 (wp.getL wp.getI 1 b).1) then (sm 0 (wp.getL wp.getI 1 b).1, 0) else ([], 11)
theorem used_le (l : List UInt8) (h : (wp.getL wp.getI 1 l).2.2 = 0) : 0 ≤ (wp.getL wp.getI 1 l).2.1 ∧ (wp.getL wp.getI 1 l).2.1 ≤ l.length := by
  have := wp.getL_canon (enc := wp.encI) wp.getI_one 1 (Nat.le_refl 1) l h
  exact ⟨this.2.1, this.2.2⟩
theorem getL_len (l : List UInt8) (h : (wp.getL wp.getI 1 l).2.2 = 0) : (wp.getL wp.getI 1 l).1.length ≤ l.length := by
  have h1 := (wp.getL_canon (enc := wp.encI) wp.getI_one 1 (Nat.le_refl 1) l h).1
  have h2 := vq.getL_bd l
  have h3 := congrArg List.length h1
  rw [List.length_take, List.length_append] at h3
  have h4 : ∀ N : List Int, (∀ x ∈ N, -9223372036854775808 ≤ x ∧ x ≤ 9223372036854775807) → N.length ≤ (N.flatMap wp.encI).length := by
    intro N
    induction N with
    | nil => simp
    | cons x N ih =>
      intro hN
      have h5 := wp.encI_pos x
      have h6 := ih fun y hy => hN y (by simp [hy])
      rw [List.flatMap_cons, List.length_append, List.length_cons]
      omega
  have h5 := h4 _ h2
  omega
theorem res2 {fn : Func} {u v : Tmp} (h : fn.results = #[.tmp u, .tmp v]) (tmps : Array Value) (w : World) : (results fn tmps).run Try.prog w = .ok (.tuple #[tmps.getD u undef, tmps.getD v undef]) w := by
  simp [results, h]
set_option maxRecDepth 100000 in
set_option maxHeartbeats 16000000 in
theorem decode_calls {b : List UInt8} {A : Option Addr} {n c : Nat} (w : World) (h : wo.IsB w A n c b) (hn : n ≤ 1000000) : Calls Try.prog 37 #[.slice A n c] w fun e w' => ∃ A' n' c', e = .returned (.tuple #[.slice A' n' c', .int .i64 (decB b).2]) ∧ wo.IsI w' A' n' c' (decB b).1 ∧ Below w.heap.size w w' := by
  obtain ⟨hln, hnc, hc, hR⟩ := h
  have H := Lib.hid (wi.getInts_any A n c b w hnc hc hln hR (by omega))
  have HBD := Lib.hid (vq.getL_bd b)
  have HLE := Lib.hid (getL_len b)
  have HLN : Hid (b.length ≤ 1000000) := by show _ ≤ _; omega
  have hE : decB b = if (wp.getL wp.getI 1 b).2.2 ≠ 0 then ([], 11) else if (wp.getL wp.getI 1 b).2.1 < (n : Int) then ([], 11) else if steps (wp.getL wp.getI 1 b).1 && vs (sm 0 (wp.getL wp.getI 1 b).1) then (sm 0 (wp.getL wp.getI 1 b).1, 0) else ([], 11) := by unfold decB; rw [hln]
  have HE := Lib.hid hE
  clear hE hR hln
  generalize decB b = D at *
  generalize wp.getL wp.getI 1 b = R at *
  obtain ⟨r1, r2, r3⟩ := R
  dsimp only at *
  go_enter Try.func37, Try.ntmps37
  go_wp2_with fail
  refine H.out.mono ?_
  rintro e w1 ⟨v, rfl, hown, hb⟩
  have HBB := Lib.hid hb
  by_cases h3 : r3 = 0
  · by_cases h2 : r2 < (n : Int)
    · have HE2 : Hid (D = ([], 11)) := by show _ = _; rw [HE.out, if_neg (by simpa using h3), if_pos h2]
      clear hown hb
      subst h3
      go_wp2_with fail
      exact bodyPost_ret (res2 rfl _ _) rfl ⟨none, 0, 0, by rw [HE2.out]; rfl, by rw [HE2.out]; exact vk.isI_nil _, HBB.out⟩
    · obtain ⟨A1, c1, rfl, hI⟩ := vk.isI_of_own hown HBD.out
      have HI := Lib.hid hI
      have hI2 := hI.2.1
      have hI3 := hI.2.2.1
      have hnb : r1.length ≤ 1000000 := by have := HLE.out h3; have := HLN.out; omega
      have HWV := Lib.hid (vs_wsm HBD.out (by omega))
      have HD2 : Hid (D = if vs (wsm 0 r1) then (wsm 0 r1, 0) else ([], 11)) := by
        show _ = _
        rw [HE.out, if_neg (by simpa using h3), if_neg h2]
        cases hv : vs (wsm 0 r1) with
        | true => have h4 := HWV.out.1.1 hv; rw [h4.1, h4.2, HWV.out.2 h4.1]; rfl
        | false =>
          have h5 : (steps r1 && vs (sm 0 r1)) = false := by
            cases hs : steps r1 with
            | false => rfl
            | true =>
              cases hz : vs (sm 0 r1) with
              | false => rfl
              | true => rw [HWV.out.1.2 ⟨hs, hz⟩] at hv; cases hv
          rw [h5]; rfl
      obtain ⟨i0, hi, hz0, hz1, hz2⟩ := info_parts wi.infoI
      have hmI : (i0.bytes : Nat) * r1.length ≤ 281474976710656 := by rw [hz2]; omega
      obtain ⟨w2, hmk, hown2, hgr⟩ := run_make_own (P := Try.prog) w1 w1.heap.size 23 3 i0 (.int .i64 0) 1 Try.underlying23 hi hz0 hz1 .i64 .i64 r1.length hmI (by unfold maxLen; omega) (Nat.le_refl _)
      have HB2 : Hid (Below w1.heap.size w1 w2) := (Below.refl _ _).grown hgr (Nat.le_refl _) (fun k hk => by cases hk)
      have HO2 := Lib.hid hown2
      clear hown hb hI hown2 hgr
      subst h3
      go_wp2_with fail
      clear hmk
      go_loopg [7, 8, 30] r1.length (fun gg s bo xk wr => ∃ (k : Nat) (v : Value) (t : Int) (D2 : List Int), k + gg = r1.length ∧ v = s ∧ bo = .int .i64 t ∧ xk = .int .i64 (k : Int) ∧ Below w1.heap.size w1 wr ∧ wr.ownsRow w1.heap.size 3 1 v k (iv D2) ∧ wsm 0 r1 = D2 ++ wsm t (r1.drop k))
      case atStart => exact ⟨0, _, 0, [], by omega, rfl, rfl, rfl, HB2.out, by simpa [iv] using HO2.out, rfl⟩
      case round =>
        obtain ⟨k, v, t, D2, hk, rfl, rfl, rfl, hbel, hown, hdd⟩ := hrel
        have HK := Lib.hid hk
        have HBEL := Lib.hid hbel
        have HOW := Lib.hid hown
        have HDD := Lib.hid hdd
        have HBW : Hid (w1.heap.size ≤ wr.heap.size) := hbel.size
        have hkn : k ≤ r1.length := by omega
        clear hk hown hdd HO2
        by_cases hlt : k < r1.length
        · have hx : r1[k]? = some (r1[k]'hlt) := List.getElem?_eq_getElem _
          generalize r1[k]'hlt = x at *
          obtain ⟨-, b, o, rfl, hcell⟩ := vk.isI_get (vk.isI_below HI.out hbel) hx
          have HST := Lib.hid (wsm_step HDD.out hx)
          have hwr := wr_eq (t + x)
          have hlt0 : (k : Int) < (r1.length : Int) := by omega
          clear hx hbel
          generalize tq.wr (t + x) = y at *
          have HR2 := Lib.hid (below_new wr (.cells #[.int .i64 y] 3))
          have HO2 := Lib.hid (keptB HOW.out HR2.out)
          have HCI : Hid (∀ k u, (iv [y])[k]? = some u → (wr.alloc (.cells #[.int .i64 y] 3)).cell? ((⟨wr.heap.size, 0, none⟩ : Addr).add k) = some u) := fun k u hu => one_cell wr (y) k u hu
          have HB2 : Hid (Below w1.heap.size w1 (wr.alloc (.cells #[.int .i64 y] 3))) := HBEL.out.trans (HR2.out.mono HBW.out)
          go_wp2_with (at_builtin; refine wpList_append_own _ rfl _ _ 23 rfl w1.heap.size 3 i0 (.int .i64 0) 1 8 Try.underlying23 hi hz0 hz1 hz2 rfl (by decide) _ _ _ rfl HO2.out ⟨wr.heap.size, 0, none⟩ 1 1 (iv [y]) rfl rfl HCI.out (ones1 y) ?c3 ?c4 ?c5 ?_)
          case c3 => unfold maxLen; omega
          case c4 => omega
          case c5 => exact HB2.out.size
          intro v5 w5 hown5 hg5 _
          have HB5 := Lib.hid (HB2.out.grown hg5 HB2.out.size (fun g hg => (HO2.out.lt g hg).1))
          have HOW5 := Lib.hid hown5
          clear hown5 hg5
          go_wp2_with fail
          go_roundg (gk - 1)
          case measure => have := HK.out; omega
          case rel => exact ⟨k + 1, _, y, D2 ++ [y], by have := HK.out; omega, rfl, rfl, by go_num, HB5.out, by rw [iv_append]; exact HOW5.out, HST.out⟩
        · obtain rfl : r1.length = k := by omega
          have hD : wsm 0 r1 = D2 := by rw [HDD.out, List.drop_of_length_le (by omega)]; simp [wsm]
          have ho : wr.ownsRow w1.heap.size 3 1 v r1.length (iv (wsm 0 r1)) := by rw [hD]; exact HOW.out
          obtain ⟨A7, c7, rfl, hI⟩ := vk.isI_of_own ho (wsm_bd r1 0)
          have HI7 := Lib.hid hI
          have HB7 := Lib.hid (HBB.out.trans (hbel.mono HBB.out.size))
          clear ho hI hbel hD
          go_wp2_with fail
          refine (valid_calls _ HI7.out).mono ?_
          rintro e w8 ⟨rfl, hw⟩
          rw [hw]
          clear hw w8
          cases hv : vs (wsm 0 r1) with
          | false =>
            have HE3 : Hid (D = ([], 11)) := by show _ = _; rw [HD2.out, hv]; rfl
            go_wp2_with fail
            exact bodyPost_ret (res2 rfl _ _) rfl ⟨none, 0, 0, by rw [HE3.out]; rfl, by rw [HE3.out]; exact vk.isI_nil _, HB7.out⟩
          | true =>
            have HE3 : Hid (D = (wsm 0 r1, 0)) := by show _ = _; rw [HD2.out, hv]; rfl
            go_wp2_with fail
            exact bodyPost_ret (res2 rfl _ _) rfl ⟨A7, r1.length, c7, by rw [HE3.out]; rfl, by rw [HE3.out]; exact HI7.out, HB7.out⟩
  · have HE2 : Hid (D = ([], 11)) := by show _ = _; rw [HE.out, if_pos h3]
    clear hown hb
    go_wp2_with fail
    exact bodyPost_ret (res2 rfl _ _) rfl ⟨none, 0, 0, by rw [HE2.out]; rfl, by rw [HE2.out]; exact vk.isI_nil _, HBB.out⟩
end Go.Proofs.Ytieipbobijnmlaa.tk
/- Runs of a set, plainly. -/
namespace Go.Proofs.Ytieipbobijnmlaa.tq

set_option linter.unusedVariables false
def rlo (b : List Int) (k : Nat) : Int := b.getD (2 * k) 0
def rhi (b : List Int) (k : Nat) : Int := b.getD (2 * k + 1) 0
theorem rlo_succ (a c : Int) (r : List Int) (k : Nat) : rlo (a :: c :: r) (k + 1) = rlo r k := by
  unfold rlo; rw [show 2 * (k + 1) = 2 * k + 1 + 1 by omega]; simp [List.getD]
theorem rhi_succ (a c : Int) (r : List Int) (k : Nat) : rhi (a :: c :: r) (k + 1) = rhi r k := by
  unfold rhi; rw [show 2 * (k + 1) + 1 = 2 * k + 1 + 1 + 1 by omega]; simp [List.getD]
def sumk (b : List Int) (k : Nat) : Int := ((List.range k).map fun k => rhi b k - rlo b k).sum
theorem sumk_zero (b : List Int) : sumk b 0 = 0 := rfl
theorem sumk_succ (b : List Int) (k : Nat) : sumk b (k + 1) = sumk b k + (rhi b k - rlo b k) := by
  unfold sumk; rw [List.range_succ, List.map_append, List.sum_append]; simp
theorem sumk_cons (a c : Int) (r : List Int) : ∀ (k : Nat), sumk (a :: c :: r) (k + 1) = (c - a) + sumk r k
  | 0 => by rw [sumk_succ, sumk_zero, sumk_zero]; simp [rhi, rlo]
  | k + 1 => by rw [sumk_succ, sumk_cons a c r k, sumk_succ, rlo_succ, rhi_succ]; omega
theorem sumk_all : ∀ {b : List Int}, Asc b → b.length % 2 = 0 → sumk b (b.length / 2) = ((slots b).length : Int)
  | [], _, _ => rfl
  | [a], _, h => by simp at h
  | a :: c :: r, hb, hl => by
    have h2 := List.pairwise_cons.1 hb
    have h3 := List.pairwise_cons.1 h2.2
    have hac := h2.1 c (by simp)
    simp only [List.length_cons] at hl ⊢
    rw [show (r.length + 1 + 1) / 2 = r.length / 2 + 1 by omega, sumk_cons, slots_two, List.length_append, rng_len, sumk_all h3.2 (by omega)]
    omega
theorem sumk_nn : ∀ {b : List Int} {k : Nat}, Asc b → k ≤ b.length / 2 → 0 ≤ sumk b k
  | _, 0, _, _ => by rw [sumk_zero]; omega
  | [], k + 1, _, h => by simp at h
  | [a], k + 1, _, h => by simp at h
  | a :: c :: r, k + 1, hb, h => by
    have h2 := List.pairwise_cons.1 hb
    have h3 := List.pairwise_cons.1 h2.2
    have hac := h2.1 c (by simp)
    rw [sumk_cons]
    have := sumk_nn (b := r) (k := k) h3.2 (by simp only [List.length_cons] at h; omega)
    omega
theorem sel_at : ∀ {b : List Int} {n : Int} {k : Nat}, Asc b → k < b.length / 2 → 0 ≤ n - sumk b k → n - sumk b k < rhi b k - rlo b k → sel b n = rlo b k + (n - sumk b k)
  | [], _, _, _, h, _, _ => by simp at h
  | [a], _, _, _, h, _, _ => by simp at h
  | a :: c :: r, n, 0, hb, _, h0, h1 => by
    rw [sumk_zero] at h0 h1 ⊢
    have e1 : rhi (a :: c :: r) 0 = c := rfl
    have e2 : rlo (a :: c :: r) 0 = a := rfl
    rw [e1, e2] at h1
    rw [e2, sel_here (by omega) (by omega)]; omega
  | a :: c :: r, n, k + 1, hb, hk, h0, h1 => by
    have h2 := List.pairwise_cons.1 hb
    have h3 := List.pairwise_cons.1 h2.2
    have hac := h2.1 c (by simp)
    have hk2 : k < r.length / 2 := by simp only [List.length_cons] at hk; omega
    have hnn := sumk_nn (b := r) (k := k) h3.2 (by omega)
    rw [sumk_cons] at h0 h1 ⊢
    rw [rlo_succ, rhi_succ] at h1
    rw [rlo_succ, sel_next (by omega) hac (by omega), sel_at h3.2 hk2 (by omega) (by omega)]
    omega
theorem sel_none {b : List Int} {n : Int} (hb : Asc b) (hl : b.length % 2 = 0) (h : sumk b (b.length / 2) ≤ n) : sel b n = -1 := by
  rw [sumk_all hb hl] at h
  unfold sel
  split
  · rfl
  · rw [List.getElem?_eq_none (by omega)]; rfl
theorem sel_neg {b : List Int} {n : Int} (h : n < 0) : sel b n = -1 := by unfold sel; rw [if_pos h]
theorem run_of {b : List Int} {k : Nat} (h : Ok b) (hk : k < b.length / 2) : b[2 * k]? = some (rlo b k) ∧ b[2 * k + 1]? = some (rhi b k) ∧ 0 ≤ rlo b k ∧ rlo b k < rhi b k ∧ rhi b k ≤ 4096 := by
  have e1 : b[2 * k]? = some (rlo b k) := by
    unfold rlo; rw [List.getD_eq_getElem?_getD, List.getElem?_eq_getElem (by omega)]; rfl
  have e2 : b[2 * k + 1]? = some (rhi b k) := by
    unfold rhi; rw [List.getD_eq_getElem?_getD, List.getElem?_eq_getElem (by omega)]; rfl
  exact ⟨e1, e2, (h.2.1 _ (List.mem_of_getElem? e1)).1, asc_at h.1 (by omega) e1 e2, (h.2.1 _ (List.mem_of_getElem? e2)).2⟩
end Go.Proofs.Ytieipbobijnmlaa.tq
/- A region that draws, whose tail calls what is yielded. No program here. -/
namespace Go.Proofs.Ytieipbobijnmlaa.wk

open Go.RowKit

set_option linter.unusedVariables false

section

variable {P : Program} {ops : Array Oper} {Q : Exit → Act → World → Prop}

section

variable {md : Region.Mode} {F : Fence} {n : Nat}
theorem any_invY (I : (Nat → Bool) → Act → World → Prop) (hord : orderedB md ops = true)
    (hstep : ∀ L a w, I L a w → ∀ i o, ops[i]? = some o → L i = false → (∀ e ∈ o.after, Region.binds md e = true → L e.on = true) → wpOpIn F n P ops Q i (fun a' w' => I (fun j => if j = i then true else L j) a' w') a w)
    (hdone : ∀ L a w, (∀ i, i < ops.size → L i = true) → I L a w → Q .normal a w) :
    ∀ (fuel : Nat) (listed : Array Bool) (a : Act) (w : World), listed.size = ops.size → (listed.toList.filter (!·)).length ≤ fuel → I (done listed) a w → wpAnyIn F n P md ops Q fuel listed a w
  | 0, listed, a, w, hs, hf, hI => by
    have hall : ∀ i, i < ops.size → done listed i = true := fun i hi => by
      have h0 : listed.toList.filter (!·) = [] := List.eq_nil_of_length_eq_zero (by omega)
      rw [List.filter_eq_nil_iff] at h0
      have := h0 listed[i] (by simp)
      unfold done
      rw [Array.getD_eq_getD_getElem?, Array.getElem?_eq_getElem (by omega)]
      simpa using this
    refine ⟨?_, hdone _ a w hall hI⟩
    cases hr : Region.ready md ops listed with
    | nil => rfl
    | cons i r =>
      obtain ⟨o, ho, h1, _⟩ := ready_mem (i := i) hs (by rw [hr]; exact List.mem_cons_self)
      have hi : i < ops.size := (Array.getElem?_eq_some_iff.1 ho).1
      rw [hall i hi] at h1
      cases h1
  | fuel + 1, listed, a, w, hs, hf, hI => by
    refine ⟨fun hr => hdone _ a w (ready_nilB hs hord hr) hI, fun i hi => ?_⟩
    obtain ⟨o, ho, h1, h2⟩ := ready_mem hs hi
    have hil : i < listed.size := by rw [hs]; exact (Array.getElem?_eq_some_iff.1 ho).1
    refine wpOpIn_mono (fun a' w' h => any_invY I hord hstep hdone fuel (listed.setIfInBounds i true) a' w' (by simpa using hs) ?_ ?_) (hstep (done listed) a w hI i o ho h1 h2)
    · have hl : listed.toList[i]? = some false := by
        unfold done at h1
        rw [Array.getD_eq_getD_getElem?, Array.getElem?_eq_getElem hil] at h1
        rw [Array.getElem?_toList, Array.getElem?_eq_getElem hil]
        simpa using h1
      have key : ∀ (l : List Bool) (i : Nat), l[i]? = some false → ((l.set i true).filter (!·)).length + 1 = (l.filter (!·)).length := by
        intro l
        induction l with
        | nil => intro i h; simp at h
        | cons b r ih =>
          intro i h
          cases i with
          | zero =>
            simp only [List.getElem?_cons_zero, Option.some.injEq] at h
            subst h
            simp
          | succ i =>
            have := ih i (by simpa using h)
            cases b <;> simp <;> omega
      have := key _ _ hl
      simp only [Array.toList_setIfInBounds]
      omega
    · have e : done (listed.setIfInBounds i true) = fun j => if j = i then true else done listed j := funext fun j => getD_set listed i j hil
      rw [e]
      exact h

end
theorem rows_inW {n : Nat} {row : String} {args : Array Value} {w : World} {R : Value → World → Prop} (h : Rows P row args w R) : RowsIn Fence.wide n P row args w R :=
  fun c cs _ => let ⟨v, w', r, s⟩ := h c cs; ⟨v, w', r, stepsIn_wide.2 s⟩
abbrev QF : Exit → Act → World → Prop := fun _ _ _ => False
theorem oper_inW {o : Oper} {a : Act} {w : World} {K : Act → World → Prop} {n : Nat} (hd : ∀ c, o.op ≠ .defer c) (h : o.wp P a w K QF) : o.wpIn Fence.wide n P a w K Q := by
  refine ⟨fun f _ => trivial, ?_⟩
  rw [Oper.semAt_eq _ _ _ hd]
  unfold Oper.wp at h
  generalize (execOp a.eval o).run P w = r at h
  cases r with
  | ok x w' =>
    cases x with
    | value v => exact h
    | skip => exact h
    | defer d => exact h
    | enter f args =>
      refine ⟨(fun hh => by cases hh), callsIn_wide.2 (Calls.mono h ?_)⟩
      intro e w1 hh
      cases e with
      | returned v => exact hh
      | panicked c => exact hh.elim
      | outgrown => obtain ⟨_, _, h1⟩ := hh; exact h1.elim
    | row row args => exact ⟨(fun hh => by cases hh), rows_inW h⟩
    | _ => exact h.elim
  | halt hlt w' =>
    cases hlt with
    | panic v => exact h.elim
    | _ => exact h.elim
theorem op_inW {i : Nat} {a : Act} {w : World} {K : Act → World → Prop} {n : Nat} (hd : noDefer ops = true) (h : wpOp P ops QF i K a w) : wpOpIn Fence.wide n P ops Q i K a w := by
  unfold wpOp at h
  unfold wpOpIn
  cases ho : ops[i]? with
  | none => rw [ho] at h; exact h
  | some o =>
    simp only [ho] at h ⊢
    by_cases hw : Region.wanted o (yielded ops a.tmps) = true
    · simp only [hw, if_true] at h ⊢
      rcases h with h | ⟨_, h⟩
      · exact oper_inW (noDefer_at hd ho) h
      · obtain ⟨_, _, h1⟩ := h; exact h1.elim
    · simp only [hw, if_false, Bool.false_eq_true] at h ⊢
      exact ⟨fun f _ => trivial, h⟩
theorem listIn_to_op {n i : Nat} {o : Oper} {a : Act} {w : World} (ho : ops[i]? = some o) (h : wpListIn Fence.wide n P ops Q (ops.toList.drop i) a w) : wpOpIn Fence.wide n P ops Q i (wpListIn Fence.wide n P ops Q (ops.toList.drop (i + 1))) a w := by
  obtain ⟨hi, rfl⟩ := Array.getElem?_eq_some_iff.1 ho
  have e : ops.toList.drop i = ops[i] :: ops.toList.drop (i + 1) := by
    rw [List.drop_eq_getElem_cons (by simpa using hi)]; simp
  rw [e] at h
  unfold wpOpIn
  rw [ho]
  exact h
theorem region_invY {id n : Nat} {a0 : Act} {w0 : World} (I : Act → World → (Nat → Bool) → Act → World → Prop) (hm : P.follows .mixedOrders = true) (hord : orderedB .any ops = true)
    (h0 : I a0 w0.drew (fun _ => false) a0 w0.drew)
    (hstep : ∀ L a w, I a0 w0.drew L a w → ∀ i o, ops[i]? = some o → L i = false → (∀ e ∈ o.after, Region.binds .any e = true → L e.on = true) → wpOpIn Fence.wide n P ops Q i (fun a' w' => I a0 w0.drew (fun j => if j = i then true else L j) a' w') a w)
    (hdone : ∀ L a w, (∀ i, i < ops.size → L i = true) → I a0 w0.drew L a w → Q .normal a w) : (Code.region id ops true).wpIn Fence.wide n P Q a0 w0 :=
  wpIn_region_any hm (any_invY (F := Fence.wide) (n := n) (I a0 w0.drew) hord hstep hdone _ _ a0 w0.drew (by simp) (Nat.le_trans (List.length_filter_le _ _) (by simp)) (by
    have e : done (Array.replicate ops.size false) = fun _ => false := funext fun j => by
      unfold done
      rw [Array.getD_eq_getD_getElem?, Array.getElem?_replicate]
      split <;> rfl
    rw [e]
    exact h0))
theorem region_tailY {id n : Nat} {a0 : Act} {w0 : World} (hnd : noDefer ops = true) (k : Nat) (R : List SP) (ds : List (Option Tmp)) (hm : P.follows .mixedOrders = true) (hord : orderedB .any ops = true) (hap : apart ops a0.tmps.size = true) (hg : guardedS ops R k = true) (sk : List Nat) (hskl : skipped ops R k = sk) (hsk0 : ∀ p ∈ sk, R.getD p SP.any = .is undef) (hds : (List.range k).map (dstOf ops) = ds) (htl : tailed ops k = true)
    (hstep : ∀ i o, ops[i]? = some o → i < k → skips ops R i = false → ∀ E w, Below w0.drew.heap.size w0.drew w → Due ops R a0 o E w → Does P QF o E w (R.getD i SP.any).has)
    (hdone : ∀ (vals : Nat → Value) w, Below w0.drew.heap.size w0.drew w → (∀ i, i < k → (R.getD i SP.any).has w (vals i)) → wpListIn Fence.wide n P ops Q (ops.toList.drop k) { a0 with tmps := setL ds vals 0 a0.tmps } w) : (Code.region id ops true).wpIn Fence.wide n P Q a0 w0 := by
  have hsk := skip_of hskl hsk0
  unfold tailed at htl
  simp only [Bool.and_eq_true, decide_eq_true_eq] at htl
  obtain ⟨⟨hkn, hcov⟩, hch⟩ := htl
  have hchain : ∀ i, k ≤ i → i + 1 < ops.size → waitsFor ops (i + 1) i = true := fun i h1 h2 => by
    have := List.all_eq_true.1 hch i (List.mem_range.2 (by omega))
    simp only [Bool.or_eq_true, decide_eq_true_eq] at this
    rcases this with (h | h) | h
    · omega
    · omega
    · exact h
  have hcover : ∀ j, j < k → k < ops.size → ∃ i, j < i ∧ i ≤ k ∧ waitsFor ops i j = true := fun j h1 h2 => by
    have := List.all_eq_true.1 hcov j (List.mem_range.2 h1)
    simp only [Bool.or_eq_true, beq_iff_eq] at this
    rcases this with h | h
    · omega
    · obtain ⟨i, hi, h⟩ := List.any_eq_true.1 h
      simp only [Bool.and_eq_true, decide_eq_true_eq] at h
      exact ⟨i, h.1, by have := List.mem_range.1 hi; omega, h.2⟩
  have hfin : ∀ L a w, VInv ops R w0.drew a0 L a w → (∀ j, j < k → L j = true) → (∀ j, k ≤ j → L j = false) → wpListIn Fence.wide n P ops Q (ops.toList.drop k) a w := fun L a w hI hall hno => by
    have hv : ∀ i, ∃ v, i < k → (R.getD i SP.any).has w v ∧ ∀ d, dstOf ops i = some d → a.tmps[d]? = some v := fun i => by
      by_cases hi : i < k
      · obtain ⟨v, h⟩ := hI.vals i (hall i hi); exact ⟨v, fun _ => h⟩
      · exact ⟨undef, fun h => absurd h hi⟩
    obtain ⟨vals, hvals⟩ := Classical.axiomOfChoice hv
    have ha : a = { a0 with tmps := setAll ops vals k a0.tmps } := by
      obtain ⟨tm, df⟩ := a
      have h1 : df = a0.defers := hI.defers
      have h2 : tm = setAll ops vals k a0.tmps := by
        refine Array.ext_getElem? fun s => ?_
        have hset := setAll_get vals hap s k a0.tmps hkn rfl
        by_cases hk : ∃ i, i < k ∧ dstOf ops i = some s
        · obtain ⟨i, hik, hi⟩ := hk
          rw [hset.2 i hik hi]
          exact (hvals i hik).2 s hi
        · rw [hset.1 fun i hi h => hk ⟨i, hi, h⟩]
          refine hI.rest s fun i hi h => ?_
          rcases Nat.lt_or_ge i k with hl | hl
          · exact hk ⟨i, hl, h⟩
          · rw [hno i hl] at hi; cases hi
      rw [h1, h2]
    rw [ha, setAll_eq, hds]
    exact hdone vals w hI.below fun i hi => (hvals i hi).1
  refine region_invY (fun a0 B L a w => (VInv ops R B a0 L a w ∧ (∀ i, k ≤ i → L i = false) ∧ Closed ops L) ∨ ∃ m, k ≤ m ∧ m ≤ ops.size ∧ (∀ i, L i = decide (i < m)) ∧ wpListIn Fence.wide n P ops Q (ops.toList.drop m) a w) hm hord
    (Or.inl ⟨⟨Below.refl _ _, rfl, rfl, fun i h => (Bool.noConfusion h), fun k _ => rfl⟩, fun _ _ => rfl, fun i o _ h => (Bool.noConfusion h)⟩) ?_ ?_
  · intro L a w hI i o ho hLi hdep
    have hio : i < ops.size := (Array.getElem?_eq_some_iff.1 ho).1
    rcases hI with ⟨hI, hno, hcl⟩ | ⟨m, hm1, hm2, hL, hwp⟩
    · by_cases hik : i < k
      · refine wpOpIn_mono (fun a' w' h => Or.inl ?_) (op_inW hnd (vinv_stepS R hap hg hsk hik hI ho hLi hdep (hstep i o ho hik)))
        refine ⟨h, fun j hj => ?_, fun j o' ho' hj e he hb => ?_⟩
        · have hji : j ≠ i := by omega
          simp only [hji, if_false]
          exact hno j hj
        · by_cases hji : j = i
          · subst hji
            rw [ho] at ho'; cases ho'
            by_cases h2 : e.on = j
            · simp [h2]
            · simp only [h2, if_false]; exact hdep e he hb
          · simp only [hji, if_false] at hj
            by_cases h2 : e.on = i
            · simp [h2]
            · simp only [h2, if_false]; exact hcl j o' ho' hj e he hb
      · have hik' : i = k := by
          rcases Nat.lt_or_ge k i with h | h
          · have := waits_done (L := L) (hchain (i - 1) (by omega) (by omega)) (by rw [show i - 1 + 1 = i by omega]; exact ho) hdep
            rw [hno (i - 1) (by omega)] at this; cases this
          · omega
        subst hik'
        have hall : ∀ d j, i - j ≤ d → j < i → L j = true := by
          intro d
          induction d with
          | zero => intro j h1 h2; omega
          | succ d ih =>
            intro j h1 h2
            obtain ⟨q, hq1, hq2, hq3⟩ := hcover j h2 hio
            by_cases hqi : q = i
            · subst hqi; exact waits_done hq3 ho hdep
            · have hq : L q = true := ih q (by omega) (by omega)
              have hqo : ops[q]? = some ops[q] := Array.getElem?_eq_getElem (by omega)
              exact waits_done hq3 hqo (hcl q _ hqo hq)
        refine wpOpIn_mono (fun a' w' h => Or.inr ⟨i + 1, by omega, by omega, fun j => ?_, h⟩) (listIn_to_op ho (hfin L a w hI (fun j hj => hall _ j (Nat.le_refl _) hj) hno))
        by_cases hji : j = i
        · subst hji; simp
        · simp only [hji, if_false]
          rcases Nat.lt_or_ge j i with h1 | h1
          · rw [hall _ j (Nat.le_refl _) h1]; simp; omega
          · rw [hno j h1]; simp; omega
    · have him : i = m := by
        have h1 : ¬ i < m := fun h => by rw [hL i] at hLi; simp [h] at hLi
        rcases Nat.lt_or_ge m i with h | h
        · have := waits_done (L := L) (hchain (i - 1) (by omega) (by omega)) (by rw [show i - 1 + 1 = i by omega]; exact ho) hdep
          rw [hL (i - 1)] at this
          simp at this; omega
        · omega
      subst him
      refine wpOpIn_mono (fun a' w' h => Or.inr ⟨i + 1, by omega, by omega, fun j => ?_, h⟩) (listIn_to_op ho hwp)
      by_cases hji : j = i
      · subst hji; simp
      · simp only [hji, if_false]
        rw [hL j]
        rcases Nat.lt_or_ge j i with h1 | h1
        · simp [h1]; omega
        · simp; omega
  · intro L a w hall hI
    rcases hI with ⟨hI, hno, hcl⟩ | ⟨m, hm1, hm2, hL, hwp⟩
    · have hk : k = ops.size := by
        rcases Nat.lt_or_ge k ops.size with h | h
        · have := hall k h; rw [hno k (Nat.le_refl _)] at this; cases this
        · omega
      have := hfin L a w hI (fun j hj => hall j (by omega)) hno
      rw [hk, ← Array.length_toList, List.drop_length] at this
      exact this
    · have hk : m = ops.size := by
        rcases Nat.lt_or_ge m ops.size with h | h
        · have := hall m h; rw [hL m] at this; simp at this
        · omega
      rw [hk, ← Array.length_toList, List.drop_length] at hwp
      exact hwp
end

end Go.Proofs.Ytieipbobijnmlaa.wk
/- The runs of a set, yielded; a range over them. -/
namespace Go.Proofs.Ytieipbobijnmlaa.tk

open Go.ChangeShapes Go.WideShapes Go.ChangeAt Go.RowKit

open Go.Proofs.Ytieipbobijnmlaa.tq Go.Proofs.Ytieipbobijnmlaa.uk Go.Proofs.Ytieipbobijnmlaa.bk Go.Proofs.Ytieipbobijnmlaa.vk Go.Proofs.Ytieipbobijnmlaa.wk

set_option linter.unusedVariables false
attribute [local go_sem] Oper.semAt_some
def encr (b : List Int) {m : Nat} (x : Nth m) : Array Value := #[.int .i64 (rlo b x.1), .int .i64 (rhi b x.1)]
set_option maxRecDepth 100000 in
set_option maxHeartbeats 4000000 in
theorem runs1_in (mm l Bc B : Nat) (M : List Nat) (A : Option Addr) (n c m : Nat) (b : List Int) (hok : Ok b) (hnm : n = 2 * m) (hBc : Bc < B) (hBcM : Bc ∉ M)
    (J Jx : List (Nth m) → World → Prop) (W : World) (hX : ∀ w', Exc M B W w' → wo.IsI w' A n c b) (hJ : AbidesFrom W.heap.size J)
    (hY : ∀ pre x W, J pre W → pre.length < m → YieldAt Fence.wide (mm - 1) Try.prog l (encr b x) W fun e W' =>
      (e = .returned (.bool true) ∧ J (pre ++ [x]) W' ∧ Exc M B W W') ∨ (e = .returned (.bool false) ∧ Jx (pre ++ [x]) W'))
    (hB : B ≤ W.heap.size) (h1 : Box W Bc (.slice A n c)) (h0 : J [] W) :
    CallsIn Fence.wide mm Try.prog 63 #[.func (.yield l) #[] #[], .pointer (some ⟨Bc, 0, none⟩)] W fun e W' => (∃ v, e = .returned v) ∧
      ((∃ ys, ys.map (·.1) = List.range m ∧ J ys W') ∨ (∃ pre, pre.map (·.1) = List.range pre.length ∧ Jx pre W')) := by
  refine callsIn_of_wp Try.func63 rfl trivial ?_ rfl
  simp only [Try.ntmps63, List.size_toArray, List.length_cons, List.length_nil, Nat.reduceAdd, Nat.reduceSub, Array.replicate_succ, Array.replicate_zero, List.push_toArray, List.append_toArray, List.nil_append, List.cons_append]
  have hi := hX W (Exc.refl _ _ _)
  have hln := hi.1
  have hmn := hi.2.2.1
  have hnc := hi.2.1
  have hm2 : m = b.length / 2 := by omega
  have hn4 : n ≤ 4097 := by have := ok_len hok; omega
  have HNM := Lib.hid (And.intro hnm (And.intro hm2 hln))
  have H1 := Lib.hid h1
  have HXX := Lib.hid hX
  have HOK := Lib.hid hok
  have hc1 := h1.cell
  clear h1 hX hi hok hnm hm2 hln
  gi_wp2
  gi_loopw [3] (fun i wr => ∃ (k : Nat) (pre : List (Nth m)), k ≤ m ∧ i = .int .i64 (2 * (k : Int) + 1) ∧ pre.map (·.1) = List.range k ∧ J pre wr ∧ Exc M B W wr)
    (fun i _ => n + 1 - (intOf i).toNat)
  case atStart => exact ⟨0, [], Nat.zero_le _, by simp, rfl, h0, Exc.refl _ _ _⟩
  case round =>
    obtain ⟨k, pre, hk, rfl, hpre, hJs, hx⟩ := hrel
    have HBw := Lib.hid (uk.Box.at H1.out (hx.block Bc hBc hBcM))
    have hq1 := HBw.out.cell
    have HJS := Lib.hid hJs
    have HPRE := Lib.hid hpre
    have HX := Lib.hid hx
    clear hJs hpre hx
    by_cases hlt : k < m
    · obtain ⟨hx0, hx1, hl0, hl1, hl2⟩ := run_of HOK.out (show k < b.length / 2 by have := HNM.out; omega)
      have hnm2 := HNM.out.1
      have hIr := HXX.out wr HX.out
      obtain ⟨-, b0, o0, eA, -⟩ := vk.isI_get hIr hx0
      subst eA
      have HC0 : Hid (∀ u, Below wr.heap.size wr u → u.cell? ⟨b0, o0 + 2 * k, none⟩ = some (.int .i64 (rlo b k))) := fun u hu => by
        obtain ⟨-, b', o', e, hc⟩ := vk.isI_get (vk.isI_below hIr hu) hx0; cases e; exact hc
      have HC1 : Hid (∀ u, Below wr.heap.size wr u → u.cell? ⟨b0, o0 + (2 * k + 1), none⟩ = some (.int .i64 (rhi b k))) := fun u hu => by
        obtain ⟨-, b', o', e, hc⟩ := vk.isI_get (vk.isI_below hIr hu) hx1; cases e; exact hc
      have hlt2 : 2 * (k : Int) + 1 < (n : Int) := by omega
      have hlt3 : 2 * (k : Int) < (n : Int) := by omega
      have h01 : (0 : Int) ≤ 2 * (k : Int) + 1 := by omega
      have h02 : (0 : Int) ≤ 2 * (k : Int) := by omega
      have ht1 : (2 * (k : Int) + 1).toNat = 2 * k + 1 := by omega
      have ht2 : (2 * (k : Int)).toNat = 2 * k := by omega
      have HMAX : Hid (max (rlo b k) 0 = rlo b k) := by show _ = _; omega
      have HMIN : Hid (min (rhi b k) 4096 = rhi b k) := by show _ = _; omega
      clear hIr hx0 hx1 hnm2
      gi_wp2
      refine wk.region_tailY (by kernel_rfl) 12 [.is (.func (.yield l) #[] #[]), .is (.slice (some ⟨b0, o0, none⟩) n c), .is (.int .i64 (2 * (k : Int) + 1)), .is (.int .i64 (2 * (k : Int))), .is (.pointer (some ⟨b0, o0 + 2 * k, none⟩)), .is (.int .i64 (rlo b k)), .is (.int .i64 (rlo b k)), .is (.slice (some ⟨b0, o0, none⟩) n c), .is (.int .i64 (2 * (k : Int) + 1)), .is (.pointer (some ⟨b0, o0 + (2 * k + 1), none⟩)), .is (.int .i64 (rhi b k)), .is (.int .i64 (rhi b k))] [some 10, some 11, some 12, some 13, some 14, some 15, some 16, some 17, some 18, some 19, some 20, some 21] (by kernel_rfl) (by kernel_rfl) (by kernel_rfl) (by kernel_rfl) [] (by kernel_rfl) (by intro p hp; cases hp) (by kernel_rfl) (by kernel_rfl) ?hstep ?hdone
      case hstep =>
        intro i o ho hi hns E w4 hb4 D
        have hi2 : i = 0 ∨ i = 1 ∨ i = 2 ∨ i = 3 ∨ i = 4 ∨ i = 5 ∨ i = 6 ∨ i = 7 ∨ i = 8 ∨ i = 9 ∨ i = 10 ∨ i = 11 := by omega
        clear hi
        rcases hi2 with rfl | rfl | rfl | rfl | rfl | rfl | rfl | rfl | rfl | rfl | rfl | rfl
        ·
          have ho2 := (Array.getElem?_eq_some_iff.1 ho).2
          simp only [List.getElem_toArray, List.getElem_cons_zero] at ho2
          subst ho2
          clear ho
          have e0 := D.old 0 (by kernel_rfl)
          exact wk.does_move rfl (by rw [e0]; rfl)
        ·
          have ho2 := (Array.getElem?_eq_some_iff.1 ho).2
          simp only [List.getElem_toArray, List.getElem_cons_succ, List.getElem_cons_zero] at ho2
          subst ho2
          clear ho
          have e1 := D.old 1 (by kernel_rfl)
          exact wk.does_load1 rfl (show E (.tmp 1) = .pointer (some ⟨Bc, 0, none⟩) by rw [e1]; rfl) ((HBw.out.below ((Below.refl _ _).drew.trans hb4)).cell) Try.underlying23 rfl rfl
        ·
          have ho2 := (Array.getElem?_eq_some_iff.1 ho).2
          simp only [List.getElem_toArray, List.getElem_cons_succ, List.getElem_cons_zero] at ho2
          subst ho2
          clear ho
          have e3 := D.old 3 (by kernel_rfl)
          exact wk.does_move rfl (by rw [e3]; rfl)
        ·
          have ho2 := (Array.getElem?_eq_some_iff.1 ho).2
          simp only [List.getElem_toArray, List.getElem_cons_succ, List.getElem_cons_zero] at ho2
          subst ho2
          clear ho
          have e12 := D.is { on := 2, ground := .data } (by simp) rfl rfl 12 rfl
          exact wk.does_run (by simp only [execOp]; rw [show E (.tmp 12) = _ from e12, show E (.const (.int .i64 1)) = .int .i64 1 from D.con _]; go_simp; try (rw [IntKind.wrap_i64]; omega)) rfl
        ·
          have ho2 := (Array.getElem?_eq_some_iff.1 ho).2
          simp only [List.getElem_toArray, List.getElem_cons_succ, List.getElem_cons_zero] at ho2
          subst ho2
          clear ho
          have e11 := D.is { on := 1, ground := .data } (by simp) rfl rfl 11 rfl
          have e13 := D.is { on := 3, ground := .data } (by simp) rfl rfl 13 rfl
          exact wk.does_run (by simp only [execOp]; rw [show E (.tmp 11) = _ from e11, show E (.tmp 13) = _ from e13]; go_simp; try (intro h0; omega)) rfl
        ·
          have ho2 := (Array.getElem?_eq_some_iff.1 ho).2
          simp only [List.getElem_toArray, List.getElem_cons_succ, List.getElem_cons_zero] at ho2
          subst ho2
          clear ho
          have e14 := D.is { on := 4, ground := .data } (by simp) rfl rfl 14 rfl
          exact wk.does_load1 rfl e14 (HC0.out _ ((Below.refl _ _).drew.trans hb4)) Try.underlying3 rfl rfl
        ·
          have ho2 := (Array.getElem?_eq_some_iff.1 ho).2
          simp only [List.getElem_toArray, List.getElem_cons_succ, List.getElem_cons_zero] at ho2
          subst ho2
          clear ho
          have e15 := D.is { on := 5, ground := .data } (by simp) rfl rfl 15 rfl
          exact wk.does_run (v := .int .i64 (rlo b k)) (by unfold execOp; simp only [resolve, invoke, builtin, Sem.run_bind, Sem.run_pure, Result.andThen_ok, List.map_toArray, List.map_cons, List.map_nil]; rw [show E (.tmp 15) = _ from e15, show E (.const (.int .i64 0)) = .int .i64 0 from D.con _]; go_simp; try rw [HMAX.out]) rfl
        ·
          have ho2 := (Array.getElem?_eq_some_iff.1 ho).2
          simp only [List.getElem_toArray, List.getElem_cons_succ, List.getElem_cons_zero] at ho2
          subst ho2
          clear ho
          have e1 := D.old 1 (by kernel_rfl)
          exact wk.does_load1 rfl (show E (.tmp 1) = .pointer (some ⟨Bc, 0, none⟩) by rw [e1]; rfl) ((HBw.out.below ((Below.refl _ _).drew.trans hb4)).cell) Try.underlying23 rfl rfl
        ·
          have ho2 := (Array.getElem?_eq_some_iff.1 ho).2
          simp only [List.getElem_toArray, List.getElem_cons_succ, List.getElem_cons_zero] at ho2
          subst ho2
          clear ho
          have e3 := D.old 3 (by kernel_rfl)
          exact wk.does_move rfl (by rw [e3]; rfl)
        ·
          have ho2 := (Array.getElem?_eq_some_iff.1 ho).2
          simp only [List.getElem_toArray, List.getElem_cons_succ, List.getElem_cons_zero] at ho2
          subst ho2
          clear ho
          have e17 := D.is { on := 7, ground := .data } (by simp) rfl rfl 17 rfl
          have e18 := D.is { on := 8, ground := .data } (by simp) rfl rfl 18 rfl
          exact wk.does_run (by simp only [execOp]; rw [show E (.tmp 17) = _ from e17, show E (.tmp 18) = _ from e18]; go_simp; try (intro h0; omega)) rfl
        ·
          have ho2 := (Array.getElem?_eq_some_iff.1 ho).2
          simp only [List.getElem_toArray, List.getElem_cons_succ, List.getElem_cons_zero] at ho2
          subst ho2
          clear ho
          have e19 := D.is { on := 9, ground := .data } (by simp) rfl rfl 19 rfl
          exact wk.does_load1 rfl e19 (HC1.out _ ((Below.refl _ _).drew.trans hb4)) Try.underlying3 rfl rfl
        ·
          have ho2 := (Array.getElem?_eq_some_iff.1 ho).2
          simp only [List.getElem_toArray, List.getElem_cons_succ, List.getElem_cons_zero] at ho2
          subst ho2
          clear ho
          have e20 := D.is { on := 10, ground := .data } (by simp) rfl rfl 20 rfl
          exact wk.does_run (v := .int .i64 (rhi b k)) (by unfold execOp; simp only [resolve, invoke, builtin, Sem.run_bind, Sem.run_pure, Result.andThen_ok, List.map_toArray, List.map_cons, List.map_nil]; rw [show E (.tmp 20) = _ from e20, show E (.const (.int .i64 4096)) = .int .i64 4096 from D.con _]; go_simp; try rw [HMIN.out]) rfl
      case hdone =>
        intro vals w4 hb4 hv
        have h0 := hv 0 (by omega)
        have h6 := hv 6 (by omega)
        have h11 := hv 11 (by omega)
        clear hv
        replace h0 : vals 0 = (.func (.yield l) #[] #[]) := h0
        replace h6 : vals 6 = (.int .i64 (rlo b k)) := h6
        replace h11 : vals 11 = (.int .i64 (rhi b k)) := h11
        simp only [List.drop_succ_cons, List.drop_zero, wk.setL, List.setIfInBounds_toArray, List.set_cons_zero, List.set_cons_succ, Nat.zero_add, Nat.reduceAdd, h0, h6, h11]
        generalize vals 1 = x1
        generalize vals 2 = x2
        generalize vals 3 = x3
        generalize vals 4 = x4
        generalize vals 5 = x5
        generalize vals 7 = x7
        generalize vals 8 = x8
        generalize vals 9 = x9
        generalize vals 10 = x10
        have hb5 := ((Below.refl _ _).drew.trans hb4)
        have hJ5 : J pre w4 := hJ _ _ _ none HJS.out (grown_of hb5) (by intro r hr; cases hr)
        obtain ⟨fn, tmps, assign, body, hy, hR⟩ := hY pre ⟨k, hlt⟩ w4 hJ5 (by rw [len_range HPRE.out]; exact hlt)
        have hcb1 := (HBw.out.below hb5).cell
        have HX5 := Lib.hid (HX.out.trans (Exc.of_below (hb5.mono (show B ≤ wr.heap.size from Nat.le_trans hB HX.out.size))))
        unfold encr at hy
        dsimp only at hy
        clear hb5 hb4 hJ5
        gi_wp2
        refine ⟨(fun hh => by cases hh), hR.mono ?_⟩
        rintro e W3 (⟨rfl, hJ3, hk4⟩ | ⟨rfl, hJx3⟩)
        · have hx6 := HX5.out.trans hk4
          have hz1 := (uk.Box.at H1.out (hx6.block Bc hBc hBcM)).cell
          have HX6 := Lib.hid hx6
          clear hx6
          gi_wp2
          go_roundw
          case rel => exact ⟨k + 1, _, by omega, by go_num, map_snoc pre ⟨k, hlt⟩ HPRE.out, hJ3, HX6.out⟩
          case measure => have := HNM.out; simp [intOf]; omega
        · gi_wp2
          refine bodyPost_ret (results_none rfl _ _ _) rfl ?_
          exact ⟨⟨_, rfl⟩, .inr ⟨_, by rw [List.length_append, List.length_singleton, len_range HPRE.out]; exact map_snoc pre ⟨k, hlt⟩ HPRE.out, hJx3⟩⟩
    · obtain rfl : m = k := by omega
      have hlt2 : ¬ 2 * (m : Int) + 1 < (n : Int) := by have := HNM.out; omega
      gi_wp2
      go_end0
      exact ⟨⟨_, rfl⟩, .inl ⟨_, HPRE.out, HJS.out⟩⟩
end Go.Proofs.Ytieipbobijnmlaa.tk
/- A range over the runs of a set; Count, Select. -/
namespace Go.Proofs.Ytieipbobijnmlaa.tk

open Go.ChangeShapes Go.WideShapes Go.ChangeAt Go.RowKit

open Go.Proofs.Ytieipbobijnmlaa.tq Go.Proofs.Ytieipbobijnmlaa.uk Go.Proofs.Ytieipbobijnmlaa.bk Go.Proofs.Ytieipbobijnmlaa.vk Go.Proofs.Ytieipbobijnmlaa.wk

set_option linter.unusedVariables false
attribute [local go_sem] Oper.semAt_some
def postR {α : Type} (M : List Nat) (B : Nat) (I Ix : List α → World → Prop) (xs : List α) (W : World) : Exit → Act → World → Prop
  | .normal, _, W' => Turn M B W W' ∧ I xs W'
  | .ret, _, W' => Turn M B W W' ∧ Ix xs W'
  | _, _, _ => False
theorem range_runs {g : Operand} {p1 p2 : Nat} {assign body : Code} {Q : Exit → Act → World → Prop} {T : Array Value} {w : World} (Bc : Nat) (M : List Nat) (A : Option Addr) (n c m : Nat) (b : List Int) (hok : Ok b) (hnm : n = 2 * m)
    (hg : Act.eval { tmps := T, defers := [] } g = .func (.func 63) #[] #[.pointer (some ⟨Bc, 0, none⟩)]) (hBc : Box w Bc (.slice A n c)) (hBcM : Bc ∉ M)
    (hX : ∀ w', Exc M w.heap.size w w' → wo.IsI w' A n c b)
    (I Ix : List (Nth m) → World → Prop) (hI : OwnFrom w.heap.size I) (hIx : OwnFrom w.heap.size Ix) (h0 : I [] w)
    (F : Nth m → Act)
    (hassign : ∀ (l mm : Nat) (x : Nth m) (W : World) (K : Act → World → Prop), K (F x) W →
      assign.wpIn (Fence.wide.inRound l) mm Try.prog (Exit.then K (fun _ _ _ => False)) { tmps := (T.setIfInBounds p1 (.int .i64 (rlo b x.1))).setIfInBounds p2 (.int .i64 (rhi b x.1)), defers := [] } W)
    (hbody : ∀ (l mm : Nat) (pre : List (Nth m)) (x : Nth m) (W : World), Exc M w.heap.size w W → I pre W → pre.length < m →
      body.wpIn (Fence.wide.inRound l) mm Try.prog (postR M w.heap.size I Ix (pre ++ [x]) W) (F x) W)
    (hdone : ∀ (D : Nat) (ys : List (Nth m)) (W : World), w.heap.size ≤ D → ys.map (·.1) = List.range m → Exc M w.heap.size w W → I ys W → W.heap[D]? = some (.deferred (some [])) → Q .normal { tmps := T, defers := [{ target := .collected D, args := #[] }] } W)
    (hstop : ∀ (D : Nat) (pre : List (Nth m)) (W : World), w.heap.size ≤ D → pre.map (·.1) = List.range pre.length → Exc M w.heap.size w W → Ix pre W → W.heap[D]? = some (.deferred (some [])) → Code.ret.wp Try.prog Q { tmps := T, defers := [{ target := .collected D, args := #[] }] } W) :
    (Code.rangeFunc g #[p1, p2] assign body).wp Try.prog Q { tmps := T, defers := [] } w := by
  refine wpIn_wide.1 (wpIn_rangeFunc_ownH (F := Fence.wide) (n := 4) (w := w) (w0 := w) rfl (by omega) hg trivial (fun args w' => by kernel_rfl)
    (encs := encr b) (Kp := Exc M w.heap.size) (S := fun ys => ys.map (·.1) = List.range m) (Sp := fun pre => pre.map (·.1) = List.range pre.length) (N := m) ?seq
    (fun h k => h.trans k) (fun W l o o' hl _ _ _ => Exc.put _ hl) (Below.refl _ _) (fun x => by simp [encr])
    (fun pre W => I pre W ∧ Exc M w.heap.size w W) (fun c pre W => (c = .ret ∧ Ix pre W) ∧ Exc M w.heap.size w W)
    (OwnFrom.and hI (Exc.own (Nat.le_refl _))) (fun c => OwnFrom.and (fun s W W' row hs hg' hr => ⟨hs.1, hIx s W W' row hs.2 hg' hr⟩) (Exc.own (Nat.le_refl _))) ⟨h0, Exc.refl _ _ _⟩
    (fun x a' W => a' = F x) ?hAx ?hassign ?hbody ?hdone ?hstop)
  case seq =>
    intro l J Jx W hW hJ hJx hY hJ0
    have hXW : ∀ w', Exc M w.heap.size W w' → wo.IsI w' A n c b := fun w' hb => hX w' ((Exc.of_below hW).trans hb)
    refine (runs1_in 3 l Bc w.heap.size M A n c m b hok hnm hBc.lt hBcM J Jx W hXW hJ hY hW.size (uk.Box.at hBc (hW.block _ hBc.lt)) hJ0).mono ?_
    rintro e W' ⟨he, h⟩
    exact ⟨he, h⟩
  case hAx =>
    rintro x a' u W W' row h1 hg' hr
    exact h1
  case hassign =>
    rintro l pre x W K ⟨hi, hx⟩ hK
    have e : (#[p1, p2].zip (encr b x)).foldl (fun t (q : Nat × Value) => t.setIfInBounds q.1 q.2) T = (T.setIfInBounds p1 (.int .i64 (rlo b x.1))).setIfInBounds p2 (.int .i64 (rhi b x.1)) := by simp [encr]
    have := hassign l (4 - 1 - 1) x W K (hK _ _ (KeepsFrom.refl _ _) (Exc.refl _ _ _) ⟨hi, hx⟩ rfl)
    rw [← e] at this
    exact this
  case hbody =>
    rintro l pre x a' W hl hr ⟨hi, hx⟩ rfl hlen'
    refine wpIn_mono (hbody l _ pre x W hx hi hlen') ?_
    intro e a3 W3 hp
    cases e with
    | normal => exact ⟨hp.1.keeps, hp.1.exc, hp.2, hx.trans hp.1.exc⟩
    | ret => exact ⟨hp.1.keeps, ⟨rfl, hp.2⟩, hx.trans hp.1.exc⟩
    | exit id => exact hp.elim
    | goto t => exact hp.elim
    | panic c => exact hp.elim
    | outgrown => exact hp.elim
  case hdone => rintro D ys W hD hy ⟨hi, hx⟩ hK; exact hdone D ys W hD hy hx hi hK
  case hstop => rintro D c pre W hD hs ⟨⟨rfl, hi⟩, hx⟩ hK; exact wpIn_wide.2 (hstop D pre W hD hs hx hi hK)
theorem not_outR {α : Type} {M : List Nat} {B : Nat} {I Ix : List α → World → Prop} {xs : List α} {W : World} : ¬ LetsOut (postR M B I Ix xs W) := fun ⟨_, _, h⟩ => h
def sump (b : List Int) {m : Nat} (pre : List (Nth m)) : Int := (pre.map fun x => rhi b x.1 - rlo b x.1).sum
theorem sump_snoc (b : List Int) {m : Nat} (pre : List (Nth m)) (x : Nth m) : sump b (pre ++ [x]) = sump b pre + (rhi b x.1 - rlo b x.1) := by
  unfold sump; rw [List.map_append, List.sum_append]; simp
theorem sump_of (b : List Int) {m k : Nat} {pre : List (Nth m)} (h : pre.map (·.1) = List.range k) : sump b pre = sumk b k := by
  unfold sump sumk
  rw [← h, List.map_map]; rfl
theorem sump_bd {b : List Int} (hok : Ok b) {m : Nat} (hm : m = b.length / 2) : ∀ (pre : List (Nth m)), 0 ≤ sump b pre ∧ sump b pre ≤ 4096 * pre.length
  | [] => by simp [sump]
  | x :: pre => by
    have ih := sump_bd hok hm pre
    have hr := run_of hok (show x.1 < b.length / 2 by have := x.2; omega)
    have e : sump b (x :: pre) = (rhi b x.1 - rlo b x.1) + sump b pre := by unfold sump; simp
    rw [e, List.length_cons]
    omega
theorem isI_exc {w w' : World} {M : List Nat} {B : Nat} {A : Option Addr} {n c : Nat} {l : List Int} (h : wo.IsI w A n c l) (hx : Exc M B w w') (hB : w.heap.size ≤ B) (hM : ∀ j ∈ M, w.heap.size ≤ j) : wo.IsI w' A n c l :=
  vk.isI_below h (hx.below hB hM)
set_option maxRecDepth 100000 in
set_option maxHeartbeats 4000000 in
theorem runs_calls {A : Option Addr} {n c : Nat} (w : World) : Calls Try.prog 48 #[.slice A n c] w fun e w' => e = .returned (.func (.func 63) #[] #[.pointer (some ⟨w.heap.size, 0, none⟩)]) ∧ w' = w.alloc (.cells #[.slice A n c] 23) := by
  go_enter Try.func48, Try.ntmps48
  go_wp2_with fail
  go_ret
  exact ⟨rfl, rfl⟩
set_option maxRecDepth 100000 in
set_option maxHeartbeats 4000000 in
theorem count_calls {l : List Int} {A : Option Addr} {n c : Nat} (w : World) (h : wo.IsI w A n c l) (ho : Ok l) : Calls Try.prog 20 #[.slice A n c] w fun e w' => e = .returned (.int .i64 ((slots l).length : Int)) ∧ Below w.heap.size w w' := by
  have hln := h.1
  have hn4 := ok_len ho
  have hev := ho.2.2
  obtain ⟨m, hm⟩ : ∃ m, n = 2 * m := ⟨n / 2, by omega⟩
  have hm2 : m = l.length / 2 := by omega
  have HSL := Lib.hid (sumk_all ho.1 ho.2.2)
  have HO := Lib.hid ho
  have HM := Lib.hid (And.intro hm (And.intro hm2 hn4))
  have HR := Lib.hid (fun w' => runs_calls (A := A) (n := n) (c := c) w')
  have hb2 := Below.andThen (below_new w (.cells #[.int .i64 0] 3)) (below_new (w.alloc (.cells #[.int .i64 0] 3)) (.cells #[.slice A n c] 23))
  have hO := (One.new w 3 (.int .i64 0)).below (below_new _ (.cells #[.slice A n c] 23))
  have hBox := Box.new (w.alloc (.cells #[.int .i64 0] 3)) (.slice A n c) 23
  rw [size_new] at hBox
  have HHG : Hid (∀ u, Below w.heap.size ((w.alloc (.cells #[.int .i64 0] 3)).alloc (.cells #[.slice A n c] 23)) u → wo.IsI u A n c l) := fun u hu => vk.isI_below h (hb2.trans hu)
  have HB2 := Lib.hid hb2
  have HOO := Lib.hid hO
  have HBX := Lib.hid hBox
  clear h ho hln hn4 hev hm hm2 hb2 hO hBox
  refine enter_marks Try.func20 rfl ?_
  simp only [Try.ntmps20, List.size_toArray, List.length_cons, List.length_nil, Nat.reduceAdd, Nat.reduceSub, Array.replicate_succ, Array.replicate_zero, List.push_toArray, List.append_toArray, List.nil_append, List.cons_append]
  go_wp2_with fail
  refine (HR.out _).mono ?_
  rintro e w' ⟨rfl, rfl⟩
  go_wp2_with fail
  have hs2 : ((w.alloc (.cells #[.int .i64 0] 3)).alloc (.cells #[.slice A n c] 23)).heap.size = w.heap.size + 2 := by simp only [size_new]
  generalize hw2 : (w.alloc (.cells #[.int .i64 0] 3)).alloc (.cells #[.slice A n c] 23) = w2 at *
  clear hw2
  generalize hG : w.heap.size = G at *
  refine range_runs (G + 1) [G] A n c m l HO.out HM.out.1 rfl HBX.out (by simp) ?hX (fun pre W => One W G 3 (.int .i64 (sump l pre))) (fun _ _ => False) ?hI ?hIx ?h0 (fun x => { tmps := #[.slice A n c, undef, .int .i64 0, .pointer (some ⟨G, 0, none⟩), .int .i64 (rlo l x.1), .int .i64 (rhi l x.1), .slice A n c, .func (.func 63) #[] #[.pointer (some ⟨G + 1, 0, none⟩)], .int .i64 (rlo l x.1), .int .i64 (rhi l x.1), undef, undef, undef, undef, undef, undef], defers := [] }) ?hassign ?hbody ?hdone ?hstop
  case hX =>
    intro w' hx
    have := hx.below (n := G) (by rw [hs2]; omega) (by simp)
    rw [← hG] at this
    exact HHG.out _ (by rw [hG] at this; exact this)
  case hI => exact own_one (by rw [hs2]; omega)
  case hIx => intro s W W' row hs _ _; exact hs.elim
  case h0 => exact HOO.out
  case hassign =>
    intro l2 mm x W K hK
    simp only [List.setIfInBounds_toArray, List.set_cons_succ, List.set_cons_zero] at hK ⊢
    gi_wp2
    exact hK
  case hbody =>
    rintro l2 mm pre x W hx hO hlen
    have hO0 := hO.cell
    have hO1 := hO.frozen
    have hbd := sump_bd HO.out HM.out.2.1 pre
    have hrr := run_of HO.out (show x.1 < l.length / 2 by have := x.2; have := HM.out.2.1; omega)
    have hm5 := HM.out
    have hw1 : IntKind.i64.wrap (rhi l x.1 - rlo l x.1) = rhi l x.1 - rlo l x.1 := by rw [IntKind.wrap_i64]; omega
    have hw2 : IntKind.i64.wrap (sump l pre + (rhi l x.1 - rlo l x.1)) = sump l pre + (rhi l x.1 - rlo l x.1) := by rw [IntKind.wrap_i64]; omega
    have HOS := Lib.hid (hO.set (.int .i64 (sump l (pre ++ [x]))))
    have HSN := Lib.hid (sump_snoc l pre x)
    clear hbd hrr hm5 hO
    gi_wp2
    rw [← HSN.out]
    exact ⟨Turn.setCell _ (by simp), HOS.out⟩
  case hdone =>
    rintro D ys W hD hys hx hO hK
    have hO0 := hO.cell
    rw [hs2] at hD
    have HE : Hid (sump l ys = ((slots l).length : Int)) := by show _ = _; rw [sump_of l hys, HM.out.2.1]; exact HSL.out
    have HBW := Lib.hid (below_mark (o := .deferred none) (HB2.out.trans (by have := hx.below (n := G) (by rw [hs2]; omega) (by simp); rw [← hG] at this; rw [hG] at this; exact this)) (by omega : G ≤ D))
    clear hx hO
    go_wp2_with fail
    exact leave_mark hK (results_tmp rfl _ _ _) ⟨by rw [← HE.out]; rfl, by first | exact HBW.out | (rw [hG]; exact HBW.out)⟩
  case hstop =>
    rintro D pre W hD hs hx hf hK
    exact hf.elim
end Go.Proofs.Ytieipbobijnmlaa.tk
/- Select, Rank. -/
namespace Go.Proofs.Ytieipbobijnmlaa.tk

open Go.ChangeShapes Go.WideShapes Go.ChangeAt Go.RowKit

open Go.Proofs.Ytieipbobijnmlaa.tq Go.Proofs.Ytieipbobijnmlaa.uk Go.Proofs.Ytieipbobijnmlaa.bk Go.Proofs.Ytieipbobijnmlaa.vk Go.Proofs.Ytieipbobijnmlaa.wk

set_option linter.unusedVariables false
attribute [local go_sem] Oper.semAt_some
theorem last_run {m : Nat} {pre : List (Nth m)} {x : Nth m} (h : (pre ++ [x]).map (·.1) = List.range (pre ++ [x]).length) : pre.map (·.1) = List.range x.1 := by
  rw [List.length_append, List.length_singleton, List.range_succ, List.map_append] at h
  have h2 := List.append_inj' h (by simp)
  have h3 : x.1 = pre.length := by simpa using h2.2
  rw [h3]; exact h2.1
set_option maxRecDepth 100000 in
set_option maxHeartbeats 4000000 in
theorem select_calls {l : List Int} {A : Option Addr} {n c : Nat} (k : Int) (w : World) (hk : -9223372036854775808 ≤ k ∧ k ≤ 9223372036854775807) (h : wo.IsI w A n c l) (ho : Ok l) : Calls Try.prog 27 #[.slice A n c, .int .i64 k] w fun e w' => e = .returned (.int .i64 (sel l k)) ∧ Below w.heap.size w w' := by
  have hln := h.1
  have hn4 := ok_len ho
  have hev := ho.2.2
  obtain ⟨m, hm⟩ : ∃ m, n = 2 * m := ⟨n / 2, by omega⟩
  have hm2 : m = l.length / 2 := by omega
  have HO := Lib.hid ho
  have HM := Lib.hid (And.intro hm (And.intro hm2 hn4))
  have HR := Lib.hid (fun w' => runs_calls (A := A) (n := n) (c := c) w')
  have hb1 := Below.andThen (below_new w (.cells #[.int .i64 k] 3)) (below_new (w.alloc (.cells #[.int .i64 k] 3)) (.cells #[.int .i64 0] 3))
  have hb2 := hb1.trans ((below_new ((w.alloc (.cells #[.int .i64 k] 3)).alloc (.cells #[.int .i64 0] 3)) (.cells #[.slice A n c] 23)).mono hb1.size)
  have hO0 := (One.new w 3 (.int .i64 k)).below (below_new _ (.cells #[.int .i64 0] 3))
  have hO1 := One.new (w.alloc (.cells #[.int .i64 k] 3)) 3 (.int .i64 0)
  rw [size_new] at hO1
  have hP0 := hO0.below (below_new _ (.cells #[.slice A n c] 23))
  have hP1 := hO1.below (below_new _ (.cells #[.slice A n c] 23))
  have hBox := Box.new ((w.alloc (.cells #[.int .i64 k] 3)).alloc (.cells #[.int .i64 0] 3)) (.slice A n c) 23
  simp only [size_new] at hBox
  have HHG : Hid (∀ u, Below w.heap.size (((w.alloc (.cells #[.int .i64 k] 3)).alloc (.cells #[.int .i64 0] 3)).alloc (.cells #[.slice A n c] 23)) u → wo.IsI u A n c l) := fun u hu => vk.isI_below h (hb2.trans hu)
  have HB1 := Lib.hid hb1
  have HB2 := Lib.hid hb2
  have HO0 := Lib.hid hO0
  have HO1 := Lib.hid hO1
  have HP0 := Lib.hid hP0
  have HP1 := Lib.hid hP1
  have HBX := Lib.hid hBox
  have hc0 := hO0.cell
  clear h ho hln hn4 hev hm hm2 hb2 hO0 hO1 hP0 hP1 hBox hb1
  refine enter_marks Try.func27 rfl ?_
  simp only [Try.ntmps27, List.size_toArray, List.length_cons, List.length_nil, Nat.reduceAdd, Nat.reduceSub, Array.replicate_succ, Array.replicate_zero, List.push_toArray, List.append_toArray, List.nil_append, List.cons_append]
  by_cases hneg : k < 0
  · have HS : Hid (sel l k = -1) := sel_neg hneg
    have hf1 := HO1.out.frozen
    go_wp2_with fail
    have hset := One.new (w.alloc (.cells #[.int .i64 k] 3)) 3 (.int .i64 (-1))
    rw [size_new] at hset
    have hbb := Below.andThen (below_new w (.cells #[.int .i64 k] 3)) (below_new (w.alloc (.cells #[.int .i64 k] 3)) (.cells #[.int .i64 (-1)] 3))
    exact leave_bool0 (fn := Try.f27) rfl rfl rfl Try.underlying3 hset ⟨by rw [HS.out], hbb⟩
  · go_wp2_with fail
    refine (HR.out _).mono ?_
    rintro e w' ⟨rfl, rfl⟩
    go_wp2_with fail
    have hs2 : (((w.alloc (.cells #[.int .i64 k] 3)).alloc (.cells #[.int .i64 0] 3)).alloc (.cells #[.slice A n c] 23)).heap.size = w.heap.size + 3 := by simp only [size_new]
    have hsz : ((w.alloc (.cells #[.int .i64 k] 3)).alloc (.cells #[.int .i64 0] 3)).heap.size = w.heap.size + 2 := by simp only [size_new]
    clear hc0
    try rw [hsz]
    generalize hw2 : ((w.alloc (.cells #[.int .i64 k] 3)).alloc (.cells #[.int .i64 0] 3)).alloc (.cells #[.slice A n c] 23) = w2 at *
    clear hw2 HO0 HO1 HB1 hsz
    generalize hG : w.heap.size = G at *
    refine range_runs (G + 2) [G, G + 1] A n c m l HO.out HM.out.1 rfl HBX.out (by simp) ?hX (fun pre W => (One W G 3 (.int .i64 (k - sump l pre)) ∧ One W (G + 1) 3 (.int .i64 0)) ∧ 0 ≤ k - sump l pre) (fun pr W => One W (G + 1) 3 (.int .i64 (sel l k)) ∨ ¬ pr.map (·.1) = List.range pr.length) ?hI ?hIx ?h0 (fun x => { tmps := #[.slice A n c, .int .i64 k, undef, .pointer (some ⟨G, 0, none⟩), .pointer (some ⟨G + 1, 0, none⟩), .int .i64 (rlo l x.1), .int .i64 (rhi l x.1), .int .i64 k, .bool false, .slice A n c, .func (.func 63) #[] #[.pointer (some ⟨G + 2, 0, none⟩)], .int .i64 (rlo l x.1), .int .i64 (rhi l x.1), undef, undef, undef, undef, undef, undef, undef, undef, undef, undef, undef, undef, undef], defers := [] }) ?hassign ?hbody ?hdone ?hstop
    case hX =>
      intro w' hx
      exact HHG.out _ (hx.below (n := G) (by rw [hs2]; omega) (by intro j hj; simp at hj; omega))
    case hI => exact OwnFrom.and (OwnFrom.and (own_one (by rw [hs2]; omega)) (own_one (by rw [hs2]; omega))) own_pure
    case hIx =>
      intro s W W' row hs hg hr
      rcases hs with hs | hs
      · exact .inl (hs.at (hg.block _ hs.lt fun e => by have := (hr _ e.symm).1; rw [hs2] at this; omega))
      · exact .inr hs
    case h0 => exact ⟨⟨by rw [show sump l ([] : List (Nth m)) = 0 from rfl, Int.sub_zero]; exact HP0.out, HP1.out⟩, by rw [show sump l ([] : List (Nth m)) = 0 from rfl]; omega⟩
    case hassign =>
      intro l2 mm x W K hK
      simp only [List.setIfInBounds_toArray, List.set_cons_succ, List.set_cons_zero] at hK ⊢
      gi_wp2
      exact hK
    case hbody =>
      rintro l2 mm pre x W hx ⟨⟨hA, hB⟩, hnn⟩ hlen
      have hA0 := hA.cell
      have hA1 := hA.frozen
      have hB0 := hB.cell
      have hB1 := hB.frozen
      have hbd := sump_bd HO.out HM.out.2.1 pre
      have hxl : x.1 < l.length / 2 := by have := x.2; have := HM.out.2.1; omega
      have hrr := run_of HO.out hxl
      have hm5 := HM.out
      have hw1 : IntKind.i64.wrap (rhi l x.1 - rlo l x.1) = rhi l x.1 - rlo l x.1 := by rw [IntKind.wrap_i64]; omega
      by_cases hin : k - sump l pre < rhi l x.1 - rlo l x.1
      · have hw2 : IntKind.i64.wrap (rlo l x.1 + (k - sump l pre)) = rlo l x.1 + (k - sump l pre) := by rw [IntKind.wrap_i64]; omega
        have HSET := Lib.hid (hB.set (.int .i64 (rlo l x.1 + (k - sump l pre))))
        have HSEL : Hid ((pre ++ [x]).map (·.1) = List.range (pre ++ [x]).length → rlo l x.1 + (k - sump l pre) = sel l k) := fun hp => by
          rw [sump_of l (last_run hp)] at hnn hin ⊢
          exact (sel_at HO.out.1 hxl hnn hin).symm
        clear hbd hrr hm5 hA hB hnn hxl
        gi_wp2
        refine ⟨Turn.setCell _ (by simp), ?_⟩
        by_cases hp : (pre ++ [x]).map (·.1) = List.range (pre ++ [x]).length
        · have := HSET.out
          rw [HSEL.out hp] at this ⊢
          exact .inl this
        · exact .inr hp
      · have hw2 : IntKind.i64.wrap (k - sump l pre - (rhi l x.1 - rlo l x.1)) = k - sump l pre - (rhi l x.1 - rlo l x.1) := by rw [IntKind.wrap_i64]; omega
        have HSN : Hid (k - sump l (pre ++ [x]) = k - sump l pre - (rhi l x.1 - rlo l x.1)) := by show _ = _; rw [sump_snoc]; omega
        have HSET := Lib.hid (hA.set (.int .i64 (k - sump l pre - (rhi l x.1 - rlo l x.1))))
        have HOT := Lib.hid (hB.other (k := G) (.int .i64 (k - sump l pre - (rhi l x.1 - rlo l x.1))) (by omega))
        have HNN : Hid (0 ≤ k - sump l (pre ++ [x])) := by show _ ≤ _; rw [sump_snoc]; omega
        clear hbd hrr hm5 hA hB hnn hxl
        gi_wp2
        refine ⟨Turn.setCell _ (by simp), ⟨?_, HOT.out⟩, by have := HNN.out; omega⟩
        rw [HSN.out]; exact HSET.out
    case hdone =>
      rintro D ys W hD hys hx ⟨⟨hA, hB⟩, hnn⟩ hK
      have hf := hB.frozen
      have hf0 := hB.cell
      rw [hs2] at hD
      have HE : Hid (sel l k = -1) := by
        rw [sump_of l hys, HM.out.2.1] at hnn
        exact sel_none HO.out.1 HO.out.2.2 (by omega)
      have HBW := Lib.hid ((HB2.out.trans (hx.below (n := G) (by rw [hs2]; omega) (by intro j hj; simp at hj; omega))).setCell (p := ⟨G + 1, 0, none⟩) (by show G ≤ G + 1; omega) (.int .i64 (-1)))
      have HSET := Lib.hid (hB.set (.int .i64 (-1)))
      clear hx hA hB hnn
      go_wp2_with fail
      refine leave_bool (fn := Try.f27) rfl rfl rfl Try.underlying3 HSET.out ?_ (by omega) ⟨by rw [HE.out], ?_⟩
      · exact (Below.heap_setCell _ _ _ _ (by show D ≠ G + 1; omega)).trans hK
      · rw [hG]; exact below_mark HBW.out (by omega)
    case hstop =>
      rintro D pre W hD hs hx hf hK
      rw [hs2] at hD
      have hone : One W (G + 1) 3 (.int .i64 (sel l k)) := by
        rcases hf with h | h
        · exact h
        · exact absurd hs h
      have HBW := Lib.hid (HB2.out.trans (hx.below (n := G) (by rw [hs2]; omega) (by intro j hj; simp at hj; omega)))
      have HONE := Lib.hid hone
      clear hx hf hone
      go_wp2_with fail
      exact leave_bool (fn := Try.f27) rfl rfl rfl Try.underlying3 HONE.out hK (by omega) ⟨rfl, by rw [hG]; exact below_mark HBW.out (by omega)⟩
theorem isI_take {w : World} {A : Option Addr} {n c k : Nat} {l : List Int} (h : wo.IsI w A n c l) (hk : k ≤ n) : wo.IsI w A k c (l.take k) := by
  refine ⟨by rw [List.length_take, h.1]; omega, by have := h.2.1; omega, h.2.2.1, ?_, fun r hr => h.2.2.2.2 r (List.mem_of_mem_take hr)⟩
  rw [List.map_take]
  intro hlt
  obtain ⟨b, o, rfl, hb, hc⟩ := h.2.2.2.1 (by rw [List.length_take] at hlt; omega)
  refine ⟨b, o, rfl, hb, fun j u hu => hc j u ?_⟩
  rw [List.getElem?_take] at hu
  split at hu
  · exact hu
  · cases hu
theorem ok_take {l : List Int} (h : Ok l) {k : Nat} (hk : k % 2 = 0) (hl : k ≤ l.length) : Ok (l.take k) := ⟨h.1.sublist (List.take_sublist k l), fun x hx => h.2.1 x (List.mem_of_mem_take hx), by rw [List.length_take]; omega⟩
theorem infoI1 : (Try.prog.info? 3).map (·.size) = some 1 := by kernel_rfl
theorem run_preB (w' : World) (A : Option Addr) (n c k : Nat) (hk : k ≤ n) (hc : n ≤ c) : (Instr.slice 23 (.slice A n c) none (some (.int .i64 (k : Int))) none).run Try.prog w' = .ok (.slice A k c) w' := by
  have ht : Try.prog.underlying 23 = some (.slice (Try.prog.elem 23)) := by simp [Program.elem, Try.underlying23]
  have he : Try.prog.elem 23 = 3 := by simp [Program.elem, Try.underlying23]
  rw [run_slice_h w' 23 A n c ht .i64 (k : Int) (by omega) (by omega), he, wk.run_sizeOf w' 3 1 infoI1]
  cases A with
  | none =>
    simp [Result.andThen, sliced]
  | some a =>
    obtain ⟨b, o, s⟩ := a
    simp [Result.andThen, sliced, Addr.add]
end Go.Proofs.Ytieipbobijnmlaa.tk
/- Rank. -/
namespace Go.Proofs.Ytieipbobijnmlaa.tk

open Go.ChangeShapes Go.WideShapes Go.ChangeAt Go.RowKit

open Go.Proofs.Ytieipbobijnmlaa.tq Go.Proofs.Ytieipbobijnmlaa.uk Go.Proofs.Ytieipbobijnmlaa.bk Go.Proofs.Ytieipbobijnmlaa.vk Go.Proofs.Ytieipbobijnmlaa.wk

set_option linter.unusedVariables false
attribute [local go_sem] Oper.semAt_some
set_option maxRecDepth 100000 in
set_option maxHeartbeats 4000000 in
theorem rank_calls {l : List Int} {A : Option Addr} {n c : Nat} (x : Int) (w : World) (h : wo.IsI w A n c l) (ho : Ok l) : Calls Try.prog 25 #[.slice A n c, .int .i64 x] w fun e w' => e = .returned (.int .i64 (rk l x : Int)) ∧ Below w.heap.size w w' := by
  have hln := h.1
  have hnc := h.2.1
  have hnm := h.2.2.1
  have hn4 := ok_len ho
  have hcl := cl_le l x
  have hrk := rank_cl (x := x) ho.1 ho.2.2
  have hhas : odd (cl l x) = true → 0 ≤ x ∧ x < 4096 := fun hh => Decidable.byContradiction fun hn => by
    have := has_out ho hn
    unfold has at this
    rw [this] at hh; cases hh
  have HP := passed_calls x w h ho.1 (by omega)
  have H := Lib.hid h
  have HO := Lib.hid ho
  generalize hq : cl l x = q at *
  cases hodd : odd q with
  | false =>
    have hq2 := odd_false.1 hodd
    have HOT := Lib.hid (ok_take ho hq2 (by omega : q ≤ l.length))
    have HRK := Lib.hid (hrk.1 hodd)
    have HI := Lib.hid (odd_false.2 hq2)
    have hqn : q ≤ n := by omega
    have hsl := fun w' => run_preB w' A n c q (by omega) hnc
    have HPH := Lib.hid HP
    clear h ho hln hrk hhas hq HP hodd hn4
    go_enter Try.func25, Try.ntmps25
    go_wp2_with fail
    refine HPH.out.mono ?_
    rintro e w' ⟨rfl, hw⟩
    rw [hw]
    clear hw w'
    go_wp2_with fail
    refine (inside_calls q _).mono ?_
    rintro e w' ⟨rfl, hw⟩
    rw [hw, HI.out]
    clear hw w'
    go_wp2_with fail
    refine (count_calls _ (isI_take H.out (by omega)) HOT.out).mono ?_
    rintro e w' ⟨rfl, hb⟩
    have HB := Lib.hid hb
    clear hb
    rw [HRK.out]
    go_wp2_with fail
    go_ret
    exact ⟨rfl, HB.out⟩
  | true =>
    obtain ⟨y, hy, hq1, hyx, hsum⟩ := hrk.2 hodd
    obtain ⟨hx0, hx1⟩ := hhas hodd
    obtain ⟨p, rfl⟩ : ∃ p, q = p + 1 := ⟨q - 1, by omega⟩
    rw [Nat.add_sub_cancel] at hy hsum
    have hq2 := odd_iff.1 hodd
    have HOT := Lib.hid (ok_take ho (k := p) (by omega) (by omega))
    have HI := Lib.hid hodd
    have hyr := ho.2.1 y (List.mem_of_getElem? hy)
    have hsl4 := slots_len HOT.out
    obtain ⟨-, b0, o0, rfl, -⟩ := vk.isI_get h hy
    have HCY : Hid (∀ u, Below w.heap.size w u → u.cell? ⟨b0, o0 + p, none⟩ = some (.int .i64 y)) := fun u hu => by
      obtain ⟨-, b', o', e, hc⟩ := vk.isI_get (vk.isI_below H.out hu) hy; cases e; exact hc
    have hpn : p < n := by omega
    have hpn2 : (p : Int) < (n : Int) := by omega
    have HSUM : Hid (IntKind.i64.wrap (((slots (l.take p)).length : Int) + x - y) = (rk l x : Int)) := by show _ = _; rw [← hsum, IntKind.wrap_i64]; omega
    have HPH := Lib.hid HP
    clear h ho hln hrk hhas hq HP hodd hn4 hy hsum hq2
    go_enter Try.func25, Try.ntmps25
    go_wp2_with fail
    refine HPH.out.mono ?_
    rintro e w' ⟨rfl, hw⟩
    rw [hw]
    clear hw w'
    go_wp2_with fail
    refine (inside2 (p + 1) _ (by omega)).mono ?_
    rintro e w' ⟨rfl, hw⟩
    rw [hw, HI.out]
    clear hw w'
    go_wp2_with fail
    refine wk.region_tailS 14 [.is (.slice (some ⟨b0, o0, none⟩) n c), .is (.int .i64 ((p : Int) + 1)), .is (.int .i64 (p : Int)), .is (.slice (some ⟨b0, o0, none⟩) p c), .is (.int .i64 ((slots (l.take p)).length : Int)), .is (.int .i64 x), .is (.int .i64 (((slots (l.take p)).length : Int) + x)), .is (.slice (some ⟨b0, o0, none⟩) n c), .is (.int .i64 ((p : Int) + 1)), .is (.int .i64 (p : Int)), .is (.pointer (some ⟨b0, o0 + p, none⟩)), .is (.int .i64 y), .is (.int .i64 (rk l x : Int)), .is (.int .i64 (rk l x : Int))] [some 16, some 17, some 18, some 19, some 20, some 21, some 22, some 23, some 24, some 25, some 26, some 27, some 28, some 4] (by kernel_rfl) (by kernel_rfl) (by kernel_rfl) (by kernel_rfl) [] (by kernel_rfl) (by intro p hp; cases hp) (by kernel_rfl) (by kernel_rfl) ?hstep ?hdone
    case hstep =>
      intro i o ho hi hns E w4 hb4 D
      have hi2 : i = 0 ∨ i = 1 ∨ i = 2 ∨ i = 3 ∨ i = 4 ∨ i = 5 ∨ i = 6 ∨ i = 7 ∨ i = 8 ∨ i = 9 ∨ i = 10 ∨ i = 11 ∨ i = 12 ∨ i = 13 := by omega
      clear hi
      rcases hi2 with rfl | rfl | rfl | rfl | rfl | rfl | rfl | rfl | rfl | rfl | rfl | rfl | rfl | rfl
      ·
        have ho2 := (Array.getElem?_eq_some_iff.1 ho).2
        simp only [List.getElem_toArray, List.getElem_cons_zero] at ho2
        subst ho2
        clear ho
        have e0 := D.old 0 (by kernel_rfl)
        exact wk.does_move rfl (by rw [e0]; rfl)
      ·
        have ho2 := (Array.getElem?_eq_some_iff.1 ho).2
        simp only [List.getElem_toArray, List.getElem_cons_succ, List.getElem_cons_zero] at ho2
        subst ho2
        clear ho
        have e5 := D.old 5 (by kernel_rfl)
        exact wk.does_move rfl (by rw [e5]; rfl)
      ·
        have ho2 := (Array.getElem?_eq_some_iff.1 ho).2
        simp only [List.getElem_toArray, List.getElem_cons_succ, List.getElem_cons_zero] at ho2
        subst ho2
        clear ho
        have e17 := D.is { on := 1, ground := .data } (by simp) rfl rfl 17 rfl
        exact wk.does_run (by simp only [execOp]; rw [show E (.tmp 17) = _ from e17, show E (.const (.int .i64 1)) = .int .i64 1 from D.con _]; go_simp; try (rw [IntKind.wrap_i64]; omega)) rfl
      ·
        have ho2 := (Array.getElem?_eq_some_iff.1 ho).2
        simp only [List.getElem_toArray, List.getElem_cons_succ, List.getElem_cons_zero] at ho2
        subst ho2
        clear ho
        have e16 := D.is { on := 0, ground := .data } (by simp) rfl rfl 16 rfl
        have e18 := D.is { on := 2, ground := .data } (by simp) rfl rfl 18 rfl
        exact wk.does_run (wk.op_slice (LO := none) (HI := some (.int .i64 (p : Int))) (MX := none) rfl e16 rfl (by show some (E (.tmp 18)) = _; rw [e18]) rfl (by rw [run_sliceAt_slice _ 23 _ _ _ _ (by simp [Program.elem, Try.underlying23])]; exact run_preB w4 _ n c p (by omega) hnc)) rfl
      ·
        have ho2 := (Array.getElem?_eq_some_iff.1 ho).2
        simp only [List.getElem_toArray, List.getElem_cons_succ, List.getElem_cons_zero] at ho2
        subst ho2
        clear ho
        have e19 := D.is { on := 3, ground := .data } (by simp) rfl rfl 19 rfl
        refine wk.does_fn (f := 20) (vs := #[.slice (some ⟨b0, o0, none⟩) p c]) rfl (D.fn _) (by simp [e19]) (by go_simp) ?_
        refine (count_calls _ (isI_take (vk.isI_below H.out ((Below.refl _ _).drew.trans hb4)) (by omega)) HOT.out).mono ?_
        rintro e w7 ⟨rfl, hb7⟩
        exact ⟨_, rfl, hb7, rfl⟩
      ·
        have ho2 := (Array.getElem?_eq_some_iff.1 ho).2
        simp only [List.getElem_toArray, List.getElem_cons_succ, List.getElem_cons_zero] at ho2
        subst ho2
        clear ho
        have e1 := D.old 1 (by kernel_rfl)
        exact wk.does_move rfl (by rw [e1]; rfl)
      ·
        have ho2 := (Array.getElem?_eq_some_iff.1 ho).2
        simp only [List.getElem_toArray, List.getElem_cons_succ, List.getElem_cons_zero] at ho2
        subst ho2
        clear ho
        have e20 := D.is { on := 4, ground := .data } (by simp) rfl rfl 20 rfl
        have e21 := D.is { on := 5, ground := .data } (by simp) rfl rfl 21 rfl
        exact wk.does_run (by simp only [execOp]; rw [show E (.tmp 20) = _ from e20, show E (.tmp 21) = _ from e21]; go_simp; try (rw [IntKind.wrap_i64]; omega)) rfl
      ·
        have ho2 := (Array.getElem?_eq_some_iff.1 ho).2
        simp only [List.getElem_toArray, List.getElem_cons_succ, List.getElem_cons_zero] at ho2
        subst ho2
        clear ho
        have e0 := D.old 0 (by kernel_rfl)
        exact wk.does_move rfl (by rw [e0]; rfl)
      ·
        have ho2 := (Array.getElem?_eq_some_iff.1 ho).2
        simp only [List.getElem_toArray, List.getElem_cons_succ, List.getElem_cons_zero] at ho2
        subst ho2
        clear ho
        have e5 := D.old 5 (by kernel_rfl)
        exact wk.does_move rfl (by rw [e5]; rfl)
      ·
        have ho2 := (Array.getElem?_eq_some_iff.1 ho).2
        simp only [List.getElem_toArray, List.getElem_cons_succ, List.getElem_cons_zero] at ho2
        subst ho2
        clear ho
        have e24 := D.is { on := 8, ground := .data } (by simp) rfl rfl 24 rfl
        exact wk.does_run (by simp only [execOp]; rw [show E (.tmp 24) = _ from e24, show E (.const (.int .i64 1)) = .int .i64 1 from D.con _]; go_simp; try (rw [IntKind.wrap_i64]; omega)) rfl
      ·
        have ho2 := (Array.getElem?_eq_some_iff.1 ho).2
        simp only [List.getElem_toArray, List.getElem_cons_succ, List.getElem_cons_zero] at ho2
        subst ho2
        clear ho
        have e23 := D.is { on := 7, ground := .data } (by simp) rfl rfl 23 rfl
        have e25 := D.is { on := 9, ground := .data } (by simp) rfl rfl 25 rfl
        exact wk.does_run (by simp only [execOp]; rw [show E (.tmp 23) = _ from e23, show E (.tmp 25) = _ from e25]; go_simp; try (intro h0; omega)) rfl
      ·
        have ho2 := (Array.getElem?_eq_some_iff.1 ho).2
        simp only [List.getElem_toArray, List.getElem_cons_succ, List.getElem_cons_zero] at ho2
        subst ho2
        clear ho
        have e26 := D.is { on := 10, ground := .data } (by simp) rfl rfl 26 rfl
        exact wk.does_load1 rfl e26 (HCY.out _ ((Below.refl _ _).drew.trans hb4)) Try.underlying3 rfl rfl
      ·
        have ho2 := (Array.getElem?_eq_some_iff.1 ho).2
        simp only [List.getElem_toArray, List.getElem_cons_succ, List.getElem_cons_zero] at ho2
        subst ho2
        clear ho
        have e22 := D.is { on := 6, ground := .data } (by simp) rfl rfl 22 rfl
        have e27 := D.is { on := 11, ground := .data } (by simp) rfl rfl 27 rfl
        exact wk.does_run (by simp only [execOp]; rw [show E (.tmp 22) = _ from e22, show E (.tmp 27) = _ from e27]; go_simp; try rw [HSUM.out]) rfl
      ·
        have ho2 := (Array.getElem?_eq_some_iff.1 ho).2
        simp only [List.getElem_toArray, List.getElem_cons_succ, List.getElem_cons_zero] at ho2
        subst ho2
        clear ho
        have e28 := D.is { on := 12, ground := .data } (by simp) rfl rfl 28 rfl
        exact wk.does_assign rfl e28
    case hdone =>
      intro vals w4 hb4 hv
      have h13 := hv 13 (by omega)
      clear hv
      replace h13 : vals 13 = (.int .i64 (rk l x : Int)) := h13
      simp only [List.drop_succ_cons, List.drop_zero, wpList, wk.setL, List.setIfInBounds_toArray, List.set_cons_zero, List.set_cons_succ, Nat.zero_add, Nat.reduceAdd, h13]
      generalize vals 0 = x0
      generalize vals 1 = x1
      generalize vals 2 = x2
      generalize vals 3 = x3
      generalize vals 4 = x4
      generalize vals 5 = x5
      generalize vals 6 = x6
      generalize vals 7 = x7
      generalize vals 8 = x8
      generalize vals 9 = x9
      generalize vals 10 = x10
      generalize vals 11 = x11
      generalize vals 12 = x12
      have HB4 := Lib.hid ((Below.refl _ _).drew.trans hb4)
      clear hb4
      go_wp2_with fail
      go_ret
      exact ⟨rfl, HB4.out⟩
end Go.Proofs.Ytieipbobijnmlaa.tk
/- A range over an iterator that holds ranges itself. -/
namespace Go.Proofs.Ytieipbobijnmlaa.tk

open Go.ChangeShapes Go.WideShapes Go.ChangeAt Go.RowKit

open Go.Proofs.Ytieipbobijnmlaa.tq Go.Proofs.Ytieipbobijnmlaa.uk Go.Proofs.Ytieipbobijnmlaa.bk Go.Proofs.Ytieipbobijnmlaa.vk Go.Proofs.Ytieipbobijnmlaa.wk

set_option linter.unusedVariables false
attribute [local go_sem] Oper.semAt_some
/-- an iterator that yields a list, whatever it lays behind the caller's memory -/
def SeqO {α : Type} (gfn : Nat) (lb : Array Value) (enc : α → Value) (Kp : World → World → Prop) (S : List α → Prop) (N : Nat) (w : World) : Prop :=
  ∀ (l : Nat) (J : List α → World → Prop) (W : World), Below w.heap.size w W → w.heap.size + 2 ≤ W.heap.size → OwnFrom W.heap.size J →
    (∀ pre x W1, J pre W1 → pre.length < N → YieldAt Fence.wide 2 Try.prog l #[enc x] W1 fun e W' => e = .returned (.bool true) ∧ J (pre ++ [x]) W' ∧ Kp W1 W') → J [] W →
    CallsIn Fence.wide 3 Try.prog gfn (#[.func (.yield l) #[] #[]] ++ lb) W fun e W' => (∃ v, e = .returned v) ∧ ∃ xs, S xs ∧ J xs W'
/-- a round that goes on -/
def postO {α : Type} (B : Nat) (Kp : World → World → Prop) (I : List α → World → Prop) (xs : List α) (W : World) : Exit → Act → World → Prop
  | .normal, _, W' => KeepsFrom B W W' ∧ Kp W W' ∧ I xs W'
  | _, _, _ => False
theorem range_all {α : Type} {g : Operand} {p : Nat} {assign body : Code} {Q : Exit → Act → World → Prop} {T : Array Value} {w : World} {gfn : Nat} {lb : Array Value} (enc : α → Value) (N : Nat) (S : List α → Prop) (Kp : World → World → Prop)
    (hg : Act.eval { tmps := T, defers := [] } g = .func (.func gfn) #[] lb) (eg : ∀ args w', (callFunc gfn args).run Try.prog w' = .ok (.enter gfn args) w')
    (hseq : SeqO gfn lb enc Kp S N w) (hKt : ∀ {A B C : World}, Kp A B → Kp B C → Kp A C) (hKb : ∀ (W : World) (o' : Obj) (o : Obj), W.heap[w.heap.size + 1]? = some o → o.isCells = false → Kp W (W.putObj (w.heap.size + 1) o'))
    (I : List α → World → Prop) (hI : OwnFrom w.heap.size I) (h0 : I [] w) (F : α → Act)
    (hassign : ∀ (l m : Nat) (x : α) (W : World) (K : Act → World → Prop), K (F x) W → assign.wpIn (Fence.wide.inRound l) m Try.prog (Exit.then K (fun _ _ _ => False)) { tmps := T.setIfInBounds p (enc x), defers := [] } W)
    (hbody : ∀ (l m : Nat) (pre : List α) (x : α) (W : World), I pre W → w.heap.size ≤ W.heap.size → pre.length < N → body.wpIn (Fence.wide.inRound l) m Try.prog (postO w.heap.size Kp I (pre ++ [x]) W) (F x) W)
    (hdone : ∀ (D : Nat) (ys : List α) (W : World), w.heap.size ≤ D → S ys → I ys W → W.heap[D]? = some (.deferred (some [])) → Q .normal { tmps := T, defers := [{ target := .collected D, args := #[] }] } W) :
    (Code.rangeFunc g #[p] assign body).wp Try.prog Q { tmps := T, defers := [] } w := by
  refine (wpIn_wide (n := 4)).1 (wpIn_rangeFunc fun fn hfn => ?_)
  let rc : LoopState → Loop := fun st => { state := st, pending := none, fn, tmps := T, params := #[p], assign, body, defers := w.heap.size }
  have hrc : rc = fun st => { state := st, pending := none, fn, tmps := T, params := #[p], assign, body, defers := w.heap.size } := rfl
  clear_value rc
  obtain ⟨W1, hW1⟩ : ∃ W1, W1 = (w.alloc (.deferred (some []))).alloc (.loop (rc .ready)) := ⟨_, rfl⟩
  have hsz : W1.heap.size = w.heap.size + 2 := by rw [hW1]; simp only [World.size_alloc]
  have hl1 : W1.heap[w.heap.size + 1]? = some (.loop (rc .ready)) := by
    have h := World.alloc_heap_new (w.alloc (.deferred (some []))) (.loop (rc .ready))
    rw [World.size_alloc] at h; rw [hW1]; exact h
  have hd1 : W1.heap[w.heap.size]? = some (.deferred (some [])) := by
    rw [hW1]; exact (Below.heap_alloc _ _ _ (by simp)).trans (World.alloc_heap_new w _)
  have hb1 : Below w.heap.size w W1 := by
    rw [hW1]; exact ((Below.refl _ w).alloc (Nat.le_refl _) _).trans (((Below.refl _ _).alloc (Nat.le_refl _) _).mono (by simp))
  have hi1 : I [] W1 := by rw [hW1]; exact hI.alloc _ (hI.alloc _ h0)
  obtain ⟨J, hJ⟩ : ∃ J : List α → World → Prop, J = fun xs W => I xs W ∧ W.heap[w.heap.size + 1]? = some (.loop (rc .ready)) ∧ W.heap[w.heap.size]? = some (.deferred (some [])) := ⟨_, rfl⟩
  have hown : OwnFrom W1.heap.size J := by
    subst hJ
    intro s A B row hs hgr hr
    have hlA := (Array.getElem?_eq_some_iff.1 hs.2.1).1
    have hdA := (Array.getElem?_eq_some_iff.1 hs.2.2).1
    refine ⟨hI s A B row hs.1 hgr (fun r e => ⟨by have := (hr r e).1; omega, (hr r e).2⟩), (hgr.block _ hlA fun e => ?_).trans hs.2.1, (hgr.block _ hdA fun e => ?_).trans hs.2.2⟩
    · have := (hr _ e.symm).1; omega
    · have := (hr _ e.symm).1; omega
  have hcall := hseq (w.heap.size + 1) J W1 hb1 (by omega) hown ?round (by subst hJ; exact ⟨hi1, hl1, hd1⟩)
  case round =>
    intro pre x W hjw hlen
    subst hJ
    obtain ⟨hi, hl, hd⟩ := hjw
    have hlt := (Array.getElem?_eq_some_iff.1 hl).1
    have hy := run_yield (P := Try.prog) (args := #[enc x]) hl (by rw [hrc]; rfl)
    rw [hrc] at hy
    refine ⟨fn, _, assign, body, hy, roundIn_of_wpIn hfn ?_⟩
    have e : ((#[p] : Array Tmp).zip #[enc x]).foldl (fun t (q : Tmp × Value) => t.setIfInBounds q.1 q.2) T = T.setIfInBounds p (enc x) := by simp
    have hb := run_beginRound (P := Try.prog) hl (by rw [hrc])
    have hl2 : (W.putObj (w.heap.size + 1) (.loop { rc .ready with state := .busy })).heap[w.heap.size + 1]? = some (.loop { rc .ready with state := .busy }) := World.putObj_heap_same hlt
    have hd2 : (W.putObj (w.heap.size + 1) (.loop { rc .ready with state := .busy })).heap[w.heap.size]? = some (.deferred (some [])) := (World.putObj_heap_other (by omega)).trans hd
    have hk2 := hKb W (.loop { rc .ready with state := .busy }) _ hl rfl
    have hi2 : I pre (W.putObj (w.heap.size + 1) (.loop { rc .ready with state := .busy })) := hI.putObj _ hi (by omega) hl rfl
    have hs2 : w.heap.size ≤ (W.putObj (w.heap.size + 1) (.loop { rc .ready with state := .busy })).heap.size := by simp; omega
    have key : ∀ K : Act → World → Prop, K (F x) W → assign.wpIn (Fence.wide.inRound (w.heap.size + 1)) 2 Try.prog (Exit.then K (fun _ _ _ => False)) { tmps := ((#[p] : Array Tmp).zip #[enc x]).foldl (fun t (q : Tmp × Value) => t.setIfInBounds q.1 q.2) T, defers := [] } W := fun K hK => by
      have := hassign (w.heap.size + 1) 2 x W K hK
      rw [← e] at this
      exact this
    refine key _ ?_
    refine ⟨_, hb, wpIn_mono (hbody (w.heap.size + 1) _ pre x _ hi2 hs2 hlen) ?_⟩
    intro e2 a3 W3 hp
    cases e2 with
    | normal =>
      obtain ⟨hk3, hkp3, hi3⟩ := hp
      have hl3 := hk3.same _ _ (by omega) hl2 rfl
      have hd3 := hk3.same _ _ (Nat.le_refl _) hd2 rfl
      have hlt3 := (Array.getElem?_eq_some_iff.1 hl3).1
      have he := run_endRound (P := Try.prog) none hl3
      have hre : ({ { rc .ready with state := .busy } with state := if (none : Option Code).isNone then .ready else .done, pending := none } : Loop) = rc .ready := by rw [hrc]; rfl
      rw [hre] at he
      refine ⟨_, _, he, rfl, ⟨hI.putObj _ hi3 (by omega) hl3 rfl, World.putObj_heap_same hlt3, (World.putObj_heap_other (by omega)).trans hd3⟩, hKt hk2 (hKt hkp3 (hKb _ _ _ hl3 rfl))⟩
    | ret => exact hp.elim
    | exit id => exact hp.elim
    | goto t => exact hp.elim
    | panic c => exact hp.elim
    | outgrown => exact hp.elim
  refine ⟨w.heap.size + 1, [{ target := .collected w.heap.size, args := #[] }], W1, { target := .fn (.func gfn) lb, args := #[.func (.yield (w.heap.size + 1)) #[] #[]] }, W1, gfn, #[.func (.yield (w.heap.size + 1)) #[] #[]] ++ lb, W1, ?_, ?_, (fun _ _ => trivial), ?_, (fun hh => by cases hh), ?_⟩
  · rw [hW1, hrc]; exact run_enterLoop_outer _ _ _ _ _
  · simp only [resolve, hg]
    simp [go_sem]
  · simp [invoke, go_sem, eg]
  · refine hcall.mono ?_
    rintro e W2 ⟨⟨v, rfl⟩, xs, hS, hj⟩
    subst hJ
    obtain ⟨hi, hl, hd⟩ := hj
    have he := run_endLoop (P := Try.prog) hl (by rw [hrc]; simp)
    refine ⟨_, _, he, ?_⟩
    have hp : (rc .ready).pending = none := by rw [hrc]
    rw [hp]
    exact hdone _ xs _ (Nat.le_refl _) hS (hI.putObj _ hi (by omega) hl rfl) ((World.putObj_heap_other (by omega)).trans hd)
end Go.Proofs.Ytieipbobijnmlaa.tk
