/- BestMergesAnyParts: the walk. -/
import Derived.Test.YtckipafciomklaaIy

namespace Go.Proofs.Ytckipafciomklaa.bestMergesAnyParts

open Go.ChangeShapes Go.WideShapes Go.ChangeAt Go.RowKit

open Go.Proofs.Ytckipafciomklaa.bk Go.Proofs.Ytckipafciomklaa.bq Go.Proofs.Ytckipafciomklaa.vk Go.Proofs.Ytckipafciomklaa.wk

set_option linter.unusedVariables false
attribute [local go_sem] Oper.semAt_some
theorem putN {a : List H} {x : H} {A : Option Addr} {n c : Nat} (k : Int) (w : World) (h : IsH w A n c a) (hx : Wd x) (hn : n ≤ 900) (hl : Lst a) : Calls Try.prog 21 #[.slice A n c, .int .i64 k, .agg #[.int .i64 x.1, .int .i64 x.2.1, .int .i64 x.2.2]] w fun e w' => ∃ A2 n2 c2, e = .returned (.slice A2 n2 c2) ∧ IsH w' A2 n2 c2 (ofL (a ++ [x]) k.toNat) ∧ Below w.heap.size w w' ∧ New w.heap.size A2 := by
  refine (put_callsN k w h hx hn).mono ?_
  rintro e w' ⟨A2, n2, c2, rfl, h2, hb, hn⟩
  rw [mergeL_eq hl (lst_one x)] at h2
  exact ⟨_, _, _, rfl, h2, hb, hn⟩
theorem ofL_ne {l : List H} {K : Nat} (hl : l ≠ []) (hK : 1 ≤ K) : ofL l K ≠ [] := by
  obtain ⟨m, hm⟩ := List.exists_mem_of_ne_nil l hl
  obtain ⟨g, hg, _⟩ := rep hm
  intro h
  unfold ofL at h
  have h1 : 0 < (bst l).length := List.length_pos_of_mem hg
  have h2 := congrArg List.length h
  rw [List.length_take] at h2
  simp at h2
  rcases h2 with h2 | h2
  · omega
  · rw [h2] at h1; simp at h1
theorem ofL_nil (K : Nat) : ofL [] K = [] := by simp [ofL, bst, srt]
theorem own_shape {w : World} {B n size : Nat} {e : TypeId} {v : Value} {xs : List Value} (h : w.ownsRow B e size v n xs) : ∃ A c, v = .slice A n c := by
  rcases h.2 with ⟨hv, hn⟩ | ⟨g, cap, cur, hv, _⟩
  · exact ⟨none, 0, by rw [hv, hn]⟩
  · exact ⟨_, _, hv⟩
def tw (p : Nat → List H) : Nat → List H
  | 0 => []
  | m + 1 => p (3 - m) ++ tw p m
theorem tw_step (p : Nat → List H) (m K : Nat) : ofL (ofL (p (3 - m)) K ++ ofL (tw p m) K) K = ofL (tw p (m + 1)) K := by rw [ofL_left, ofL_right]; rfl
theorem mem_tw {p : Nat → List H} {x : H} : x ∈ tw p 4 ↔ ∃ j, j < 4 ∧ x ∈ p j := by
  simp only [tw, List.mem_append, List.not_mem_nil, or_false]
  constructor
  · rintro (h | h | h | h)
    · exact ⟨0, by omega, h⟩
    · exact ⟨1, by omega, h⟩
    · exact ⟨2, by omega, h⟩
    · exact ⟨3, by omega, h⟩
  · rintro ⟨j, hj, h⟩
    rcases j4 hj with rfl | rfl | rfl | rfl
    · exact .inl h
    · exact .inr (.inl h)
    · exact .inr (.inr (.inl h))
    · exact .inr (.inr (.inr h))
def SN (B : Nat) (L : List H) (u : World) (x : Value) : Prop := ∃ A n c, x = .slice A n c ∧ IsH u A n c L ∧ New B A
theorem SN.below {B : Nat} {L : List H} {w w' : World} {x : Value} (h : SN B L w x) (hb : Below w.heap.size w w') : SN B L w' x := by
  obtain ⟨A, n, c, e, h1, h2⟩ := h; exact ⟨A, n, c, e, h1.below hb, h2⟩
theorem row_is {u : World} {P : Nat} {v : Nat → Value} {p : Nat → List H} (h : Q4 u P v p) (hw : ∀ j, j < 4 → ∀ r ∈ p j, Wd r) {j : Nat} (hj : j < 4) : ∃ A c, v j = .slice A (p j).length c ∧ IsH u A (p j).length c (p j) := isH_of_own (h.row j hj) (hw j hj)
theorem putS {a L : List H} {x : H} {A : Option Addr} {n c B : Nat} (k : Int) (w : World) (h : IsH w A n c a) (hx : Wd x) (hn : n ≤ 900) (hl : Lst a) (e : ofL (a ++ [x]) k.toNat = L) (hB : B ≤ w.heap.size) : Calls Try.prog 21 #[.slice A n c, .int .i64 k, .agg #[.int .i64 x.1, .int .i64 x.2.1, .int .i64 x.2.2]] w fun e w' => ∃ A2 n2 c2, e = .returned (.slice A2 n2 c2) ∧ IsH w' A2 n2 c2 L ∧ New B A2 ∧ Below w.heap.size w w' := by
  refine (putN k w h hx hn hl).mono ?_
  rintro e' w' ⟨A2, n2, c2, rfl, h2, hb, hn⟩
  rw [e] at h2
  exact ⟨_, _, _, rfl, h2, hn.mono hB, hb⟩
set_option maxRecDepth 100000 in
set_option maxHeartbeats 16000000 in
theorem walk (w : World) {A A9 : Option Addr} {n c n9 c9 : Nat} {l : List H} {k : Int} {part : List UInt8} (w0 : IsH w A n c l) (w1 : (Lit.int .i64 k).wf = true) (w2 : wo.IsB w A9 n9 c9 part) :
    Calls Try.prog 5 #[.slice A n c, .int .i64 k, .slice A9 n9 c9] w fun e w' => e = .returned (.bool true) ∧ Below w.heap.size w w' := by
  obtain ⟨i0, hi, hz0, hz1, hz2⟩ := info_parts infoHt
  have hnc1 := w0.2.1
  have hnm1 := w0.2.2.1
  have hnc2 := w2.2.1
  have hnm2 := w2.2.2.1
  have HA := Lib.hid w0
  have HC := Lib.hid w2
  have HB : Hid (Below w.heap.size w w) := Below.refl _ _
  have HN1 := Lib.hid w0.1
  have HWD := Lib.hid w0.2.2.2.2.1
  clear w0 w2
  go_enter Try.func5, Try.ntmps5
  by_cases h40 : (40 : Int) < (n : Int)
  ·
    go_wp2_with fail
    refine (san10_calls _).mono ?_
    rintro e w9 ⟨rfl, hb⟩
    replace HB := Lib.hid (HB.out.trans (hb.mono HB.out.size))
    clear hb
    go_wp2_with fail
    go_ret
    exact ⟨rfl, HB.out⟩
  ·
    go_wp2_with fail
    refine (rall_calls _ HA.out).mono ?_
    rintro e w5 ⟨rfl, hb⟩
    replace HA := Lib.hid (HA.out.below hb)
    replace HC := Lib.hid (vk.isB_below HC.out hb)
    replace HB := Lib.hid (HB.out.trans (hb.mono HB.out.size))
    clear hb
    cases hall : l.all right with
    | false =>
      go_wp2_with fail
      refine (san10_calls _).mono ?_
      rintro e w9 ⟨rfl, hb⟩
      replace HB := Lib.hid (HB.out.trans (hb.mono HB.out.size))
      clear hb
      go_wp2_with fail
      go_ret
      exact ⟨rfl, HB.out⟩
    | true =>
      go_wp2_with fail
      refine (rk_calls k _).mono ?_
      rintro e wx ⟨rfl, hwx⟩
      rw [hwx]
      clear hwx wx
      cases hok : okK k with
      | false =>
        go_wp2_with fail
        refine (san10_calls _).mono ?_
        rintro e w9 ⟨rfl, hb⟩
        replace HB := Lib.hid (HB.out.trans (hb.mono HB.out.size))
        clear hb
        go_wp2_with fail
        go_ret
        exact ⟨rfl, HB.out⟩
      | true =>
        have HKP : Hid (1 ≤ k ∧ k ≤ 64) := by unfold okK at hok; rw [decide_eq_true_eq] at hok; exact hok
        clear hok hall
        go_wp2_with fail
        refine (of_calls k _ HA.out (by omega)).mono ?_
        rintro e w7 ⟨A0, n0, c0, rfl, hh, hb⟩
        replace HA := Lib.hid (HA.out.below hb)
        replace HC := Lib.hid (vk.isB_below HC.out hb)
        replace HB := Lib.hid (HB.out.trans (hb.mono HB.out.size))
        clear hb
        have H7 := Lib.hid HA.out
        have HALL := Lib.hid hh
        clear hh
        have HQ0 : Hid (Q4 (w7.alloc (.cells #[.slice none 0 0, .slice none 0 0, .slice none 0 0, .slice none 0 0] 40)) w7.heap.size (fun _ => .slice none 0 0) (fun _ => [])) := ⟨heap_alloc_new w7 _, fun j _ => World.ownsRow_nil _ _ _ _, fun i j _ _ _ => .inl rfl⟩
        have HB0 := Lib.hid (below_new w7 (.cells #[.slice none 0 0, .slice none 0 0, .slice none 0 0, .slice none 0 0] 40))
        go_wp2_with fail
        generalize w7.alloc (.cells #[.slice none 0 0, .slice none 0 0, .slice none 0 0, .slice none 0 0] 40) = wB at *
        go_loopg [9, 10, 36] n (fun g s9 s10 xx wr => ∃ (q : Nat) (v : Nat → Value) (p : Nat → List H) (A3 : Option Addr) (n3 c3 : Nat) (A4 : Option Addr) (n4 c4 : Nat), q + g = n ∧ s9 = .slice A3 n3 c3 ∧ s10 = .slice A4 n4 c4 ∧ xx = .int .i64 (q : Int) ∧ Below w7.heap.size w7 wr ∧ Q4 wr w7.heap.size v p ∧ Free wr w7.heap.size v A3 n3 c3 (ofL (l.take q) k.toNat) ∧ Free wr w7.heap.size v A4 n4 c4 (ofL (l.drop (n - q)) k.toNat) ∧ (∀ y, y ∈ l.take q ↔ ∃ j, j < 4 ∧ y ∈ p j) ∧ ∀ j, j < 4 → (p j).length ≤ q)
        case atStart =>
          refine ⟨0, _, _, none, 0, 0, none, 0, 0, by omega, rfl, rfl, rfl, HB0.out, HQ0.out, ?_, ?_, by simp, by simp⟩
          · rw [List.take_zero, ofL_nil]; exact free_nil _ _ _
          · rw [Nat.sub_zero, List.drop_of_length_le (by rw [HN1.out]; omega), ofL_nil]; exact free_nil _ _ _
        case round =>
          obtain ⟨q, v, p, A3, n3, c3, A4, n4, c4, hq, rfl, rfl, rfl, hbel, hq4, hf1, hf2, hmem, hpl⟩ := hrel
          have HK := Lib.hid hq
          have HBC0 := Lib.hid hbel
          have HQ1 := Lib.hid hq4
          have HP01 := Lib.hid hf1
          have HP02 := Lib.hid hf2
          have HMEM := Lib.hid hmem
          have HPL := Lib.hid hpl
          have hqn : q ≤ n := by omega
          clear hq hbel hq4 hf1 hf2 hmem hpl
          by_cases hlt : q < n
          · obtain ⟨b, o, x, rfl, hx1, hx2, hx3, -, hX, hwx⟩ := isH_get (H7.out.below HBC0.out) hlt
            have hlt0 : (q : Int) < (n : Int) := by omega
            have hlty : ((n - 1 - q : Nat) : Int) < (n : Int) := by omega
            obtain ⟨y, hY⟩ : ∃ y, l[n - 1 - q]? = some y := ⟨l[n - 1 - q]'(by rw [HN1.out]; omega), List.getElem?_eq_getElem _⟩
            have HY := Lib.hid hY
            have HX := Lib.hid hX
            have HWX := Lib.hid hwx
            have HWY := Lib.hid (HWD.out y (List.mem_of_getElem? hY))
            have HS1 := Lib.hid (put_step (K := k.toNat) hX)
            have HS2 := Lib.hid (turn_step (K := k.toNat) hY hlt)
            have HN3 : Hid (n3 ≤ 900) := by have h1 := HP01.out.is.1; have h2 := ofL_len (l.take q) k.toNat; have := HKP.out; show _ ≤ _; omega
            have HN4 : Hid (n4 ≤ 900) := by have h1 := HP02.out.is.1; have h2 := ofL_len (l.drop (n - q)) k.toNat; have := HKP.out; show _ ≤ _; omega
            have HNE1 : Hid (ofL (l.take (q + 1)) k.toNat ≠ []) := ofL_ne (by rw [take_succ' hX]; simp) (by have := HKP.out; omega)
            have HNE2 : Hid (ofL (l.drop (n - (q + 1))) k.toNat ≠ []) := ofL_ne (fun e => by have := congrArg List.length e; rw [List.length_drop, HN1.out] at this; simp at this; omega) (by have := HKP.out; omega)
            have hbx := below_new wr (.cells #[.int .i64 x.1, .int .i64 x.2.1, .int .i64 x.2.2] 27)
            have HRX0 := Lib.hid (RowH.new wr x)
            have HGX0 : Hid (∀ j, j < 4 → (v j).ownBlock ≠ some wr.heap.size) := fun j hj e => by have := HQ1.out.bd hj e; omega
            have HGP0 : Hid (wr.heap.size ≠ w7.heap.size) := by have := HQ1.out.lt; show _ ≠ _; omega
            have HBC := Lib.hid (HBC0.out.trans (hbx.mono HBC0.out.size))
            have HQ := Lib.hid (HQ1.out.below hbx)
            have HP1 := Lib.hid (HP01.out.below hbx)
            have HP2 := Lib.hid (HP02.out.below hbx)
            have HCB := Lib.hid (vk.isB_below HC.out HBC.out)
            clear hX hY hwx hbx HBC0 HQ1 HP01 HP02
            by_cases hp0 : n9 = 0
            · have hp1 : ¬ (0 : Int) < (n9 : Int) := by omega
              clear hp0
              obtain ⟨k4, hk4⟩ : ∃ k4, k4 = 0 := ⟨_, rfl⟩
              have HK4 : Hid (k4 < 4) := by show _ < _; omega
              go_wp2_with fail
              generalize wr.alloc (.cells #[.int .i64 x.1, .int .i64 x.2.1, .int .i64 x.2.2] 27) = wr2 at *
              generalize wr.heap.size = gx at *
              have HRX : Hid (RowH wr2 gx x) := HRX0.out
              have HGX : Hid (∀ j, j < 4 → (v j).ownBlock ≠ some gx) := HGX0.out
              have HGP : Hid (gx ≠ w7.heap.size) := HGP0.out
              clear hx1 hx2 hx3
              subst hk4
              refine wk.region_lev2W 8 (AR w7.heap.size (w7.heap.size + 1) 0 v (p 0) x wr2.heap.size) [some 53, some 54, some 55, some 56, some 57, some 58, some 59, some 60] (fun Lv u => AS wr2 (v 0).ownBlock Lv u) ?hstart (by kernel_rfl) (by kernel_rfl) (by kernel_rfl) (by kernel_rfl) (by kernel_rfl) (by kernel_rfl) ?hstep ?hdone
              case hstart => exact ⟨grown_below (World.grownBy.refl _ _) (Below.refl _ _).drew, fun _ => (Below.refl _ _).drew⟩
              case hstep =>
                intro i o ho hi9 E Lv w4 hS4 hL hdeps DG hold
                have hi2 : i = 0 ∨ i = 1 ∨ i = 2 ∨ i = 3 ∨ i = 4 ∨ i = 5 ∨ i = 6 ∨ i = 7 := by omega
                clear hi9
                rcases hi2 with rfl | rfl | rfl | rfl | rfl | rfl | rfl | rfl
                ·
                  have ho2 := (Array.getElem?_eq_some_iff.1 ho).2
                  simp only [List.getElem_toArray, List.getElem_cons_zero] at ho2
                  subst ho2
                  clear ho
                  refine wk.Does.weak (R := fun w' x' => x' = .int .i64 0) ?_ (fun w' v' hb hr => ⟨hr, fun j u _ _ hj => AR.next hb hj, AS.next 0 hb hS4⟩)
                  exact wk.does_move rfl ((DG.old 13 (by kernel_rfl)).trans rfl)
                ·
                  have ho2 := (Array.getElem?_eq_some_iff.1 ho).2
                  simp only [List.getElem_toArray, List.getElem_cons_succ, List.getElem_cons_zero] at ho2
                  subst ho2
                  clear ho
                  refine wk.Does.weak (R := fun w' x' => x' = .int .i64 0) ?_ (fun w' v' hb hr => ⟨hr, fun j u _ _ hj => AR.next hb hj, AS.next 1 hb hS4⟩)
                  exact wk.does_move rfl ((DG.old 13 (by kernel_rfl)).trans rfl)
                ·
                  have ho2 := (Array.getElem?_eq_some_iff.1 ho).2
                  simp only [List.getElem_toArray, List.getElem_cons_succ, List.getElem_cons_zero] at ho2
                  subst ho2
                  clear ho
                  have e54 := DG.is { on := 1, ground := .data } (by simp) rfl 54 rfl
                  replace e54 : E (.tmp 54) = .int .i64 0 := e54
                  refine wk.Does.weak (R := fun w' x' => x' = .pointer (some ⟨w7.heap.size, 0, none⟩)) ?_ (fun w' v' hb hr => ⟨hr, fun j u _ _ hj => AR.next hb hj, AS.next 2 hb hS4⟩)
                  exact wk.does_run (by simp only [execOp]; rw [show E (.tmp 8) = .pointer (some ⟨w7.heap.size, 0, none⟩) from (DG.old 8 (by kernel_rfl)).trans rfl, e54]; go_simp) rfl
                ·
                  have ho2 := (Array.getElem?_eq_some_iff.1 ho).2
                  simp only [List.getElem_toArray, List.getElem_cons_succ, List.getElem_cons_zero] at ho2
                  subst ho2
                  clear ho
                  have e55 := DG.is { on := 2, ground := .data } (by simp) rfl 55 rfl
                  replace e55 : E (.tmp 55) = .pointer (some ⟨w7.heap.size, 0, none⟩) := e55
                  refine wk.Does.weak (R := fun w' x' => x' = v 0) ?_ (fun w' v' hb hr => ⟨hr, fun j u _ _ hj => AR.next hb hj, AS.next 3 hb hS4⟩)
                  exact wk.does_load1 rfl e55 ((hS4.1.cell (a := ⟨w7.heap.size, 0, none⟩) (HQ.out.cell HK4.out) (fun e2 => Nat.not_succ_le_self _ (HQ.out.bd HK4.out e2.symm).1))) Try.underlying22 rfl rfl
                ·
                  have ho2 := (Array.getElem?_eq_some_iff.1 ho).2
                  simp only [List.getElem_toArray, List.getElem_cons_succ, List.getElem_cons_zero] at ho2
                  subst ho2
                  clear ho
                  refine wk.Does.weak (R := fun w' x' => x' = .agg #[.int .i64 x.1, .int .i64 x.2.1, .int .i64 x.2.2]) ?_ (fun w' v' hb hr => ⟨hr, fun j u _ _ hj => AR.next hb hj, AS.next 4 hb hS4⟩)
                  exact wk.does_load_agg rfl ((DG.old 12 (by kernel_rfl)).trans rfl) (cs := rv x) (RowH.cells ((hS4.1.block gx HRX.out.lt (fun e2 => HGX.out 0 HK4.out e2.symm)).trans HRX.out)) Try.underlying27 rfl (by kernel_rfl) rfl
                ·
                  have ho2 := (Array.getElem?_eq_some_iff.1 ho).2
                  simp only [List.getElem_toArray, List.getElem_cons_succ, List.getElem_cons_zero] at ho2
                  subst ho2
                  clear ho
                  have e57 := DG.is { on := 4, ground := .data } (by simp) rfl 57 rfl
                  replace e57 : E (.tmp 57) = .agg #[.int .i64 x.1, .int .i64 x.2.1, .int .i64 x.2.2] := e57
                  refine wk.Does.weak (R := fun w' x' => ∃ g, x' = .slice (some ⟨g, 0, none⟩) 1 1 ∧ RowH w' g x) ?_ (fun w' v' hb hr => ⟨by obtain ⟨g, h1, h2⟩ := hr; exact ⟨g, h1, fun _ => h2⟩, fun j u _ _ hj => AR.next hb hj, AS.next 5 hb hS4⟩)
                  exact wk.does_new (v := .slice (some ⟨w4.heap.size, 0, none⟩) 1 1) (w' := w4.alloc (.cells #[.int .i64 x.1, .int .i64 x.2.1, .int .i64 x.2.2] 27)) (by simp only [execOp, List.map_toArray, List.map_cons, List.map_nil]; rw [e57]; go_simp) (below_new _ _) ⟨_, rfl, RowH.new _ _⟩
                ·
                  have ho2 := (Array.getElem?_eq_some_iff.1 ho).2
                  simp only [List.getElem_toArray, List.getElem_cons_succ, List.getElem_cons_zero] at ho2
                  subst ho2
                  clear ho
                  have e56 := DG.is { on := 3, ground := .data } (by simp) rfl 56 rfl
                  have e58 := DG.is { on := 5, ground := .data } (by simp) rfl 58 rfl
                  replace e56 : E (.tmp 56) = v 0 := e56
                  obtain ⟨g, eg, hone⟩ := e58
                  have hbw := hS4.2 hL
                  have hown := keptB (HQ.out.row 0 HK4.out) hbw
                  exact does_append_t (.tmp 56) (.tmp 58) 22 rfl (w7.heap.size + 1) 27 i0 (.agg #[.int .i64 0, .int .i64 0, .int .i64 0]) 3 24 Try.underlying22 hi hz0 hz1 hz2 rfl (by decide) (v 0) (p 0).length (fl (p 0)) e56 hown ⟨g, 0, none⟩ 1 (rv x) eg rfl (hone hL).cells ones3 (by have := HPL.out 0 HK4.out; omega) (by omega) (by have := HQ.out.lt; have := hS4.1.size; omega) (fun v' w' h5 h6 h7 => ⟨⟨h5, h7.imp id fun h8 => ⟨_, h8, hS4.1.size⟩⟩, fun j' u hLj _ hj => AR.app (by rintro rfl; rw [hL] at hLj; cases hLj) hj, AS.app (grown_trans hS4.1 h6)⟩)
                ·
                  have ho2 := (Array.getElem?_eq_some_iff.1 ho).2
                  simp only [List.getElem_toArray, List.getElem_cons_succ, List.getElem_cons_zero] at ho2
                  subst ho2
                  clear ho
                  have e53 := DG.is { on := 0, ground := .data } (by simp) rfl 53 rfl
                  replace e53 : E (.tmp 53) = .int .i64 0 := e53
                  refine wk.Does.weak (R := fun w' x' => x' = .pointer (some ⟨w7.heap.size, 0, none⟩)) ?_ (fun w' v' hb hr => ⟨hr, fun j u _ _ hj => AR.next hb hj, AS.next 7 hb hS4⟩)
                  exact wk.does_run (by simp only [execOp]; rw [show E (.tmp 8) = .pointer (some ⟨w7.heap.size, 0, none⟩) from (DG.old 8 (by kernel_rfl)).trans rfl, e53]; go_simp) rfl
              case hdone =>
                intro vals Lv w4 hall hS4 hv
                obtain ⟨h6, h66⟩ : w4.ownsRow (w7.heap.size + 1) 27 3 (vals 6) ((p 0).length + 1) (fl (p 0) ++ rv x) ∧ ((vals 6).ownBlock = (v 0).ownBlock ∨ ∃ q, (vals 6).ownBlock = some q ∧ wr2.heap.size ≤ q) := hv 6 (by omega)
                have h7 : vals 7 = .pointer (some ⟨w7.heap.size, 0, none⟩) := hv 7 (by omega)
                have hgr := hS4.1
                clear hv hall hS4
                simp only [List.drop_succ_cons, List.drop_zero, wk.setL, List.setIfInBounds_toArray, List.set_cons_zero, List.set_cons_succ, Nat.zero_add, Nat.reduceAdd, h7]
                clear h7
                generalize vals 0 = x0 at *
                generalize vals 1 = x1 at *
                generalize vals 2 = x2 at *
                generalize vals 3 = x3 at *
                generalize vals 4 = x4 at *
                generalize vals 5 = x5 at *
                generalize vals 6 = z6 at *
                obtain ⟨A8, c8, hz6⟩ := own_shape h6
                subst hz6
                have hPb : some w7.heap.size ≠ (v 0).ownBlock := fun e2 => by have := HQ.out.bd HK4.out e2.symm; omega
                have hcP := hgr.cell (a := ⟨w7.heap.size, 0, none⟩) (HQ.out.cell HK4.out) hPb
                have hfP : w4.frozen? ⟨w7.heap.size, 0, none⟩ = false := by
                  have h8 := (hgr.block _ HQ.out.lt hPb).trans HQ.out.arr
                  exact frozen_of_row _ _ _ _ _ h8
                have HQ5 := Lib.hid (HQ.out.grow HK4.out hgr h6 h66)
                have HF1 := Lib.hid (HP1.out.grow HK4.out hgr h66)
                have HF2 := Lib.hid (HP2.out.grow HK4.out hgr h66)
                have HRX5 : Hid (RowH (w4.setCell ⟨w7.heap.size, 0, none⟩ (.slice A8 ((p 0).length + 1) c8)) gx x) := by
                  show _ = _
                  rw [Below.heap_setCell _ _ _ _ HGP.out]
                  exact (hgr.block gx HRX.out.lt (fun e2 => HGX.out 0 HK4.out e2.symm)).trans HRX.out
                have HB5 : Hid (Below w7.heap.size w7 (w4.setCell ⟨w7.heap.size, 0, none⟩ (.slice A8 ((p 0).length + 1) c8))) := (HBC.out.grown hgr HBC.out.size (fun q hq => by have := HQ.out.bd HK4.out hq; omega)).setCell (p := ⟨w7.heap.size, 0, none⟩) (Nat.le_refl _) _
                have HMM : Hid (∀ y, y ∈ l.take (q + 1) ↔ ∃ j, j < 4 ∧ y ∈ upd p 0 (p 0 ++ [x]) j) := fun y => by
                  rw [mem_upd HK4.out, ← HMEM.out y, take_succ' HX.out]
                  simp
                have HPL5 : Hid (∀ j, j < 4 → (upd p 0 (p 0 ++ [x]) j).length ≤ q + 1) := fun j hj => by
                  by_cases e : j = 0
                  · rw [e, upd_same, List.length_append, List.length_singleton]; have := HPL.out 0 HK4.out; omega
                  · rw [upd_ne _ _ e]; have := HPL.out j hj; omega
                obtain ⟨w5, hw5⟩ : ∃ w5, w5 = w4.setCell ⟨w7.heap.size, 0, none⟩ (.slice A8 ((p 0).length + 1) c8) := ⟨_, rfl⟩
                rw [← hw5] at HQ5 HF1 HF2 HRX5 HB5
                have HW5 := Lib.hid hw5
                generalize hvv : upd v 0 (.slice A8 ((p 0).length + 1) c8) = v5 at *
                generalize hpp : upd p 0 (p 0 ++ [x]) = p5 at *
                clear hgr h6 h66 hPb hvv hpp hw5
                go_wp2_with fail
                rw [← HW5.out]
                clear hcP hfP
                refine wk.region_tailK 15 [.is (.slice A3 n3 c3), .is (.int .i64 k), .is (.agg #[.int .i64 x.1, .int .i64 x.2.1, .int .i64 x.2.2]), .st (SN w5.heap.size (ofL (l.take (q + 1)) k.toNat)) (fun u u2 x h hb => h.below hb), .is (.slice A4 n4 c4), .is (.int .i64 k), .is (.slice (some ⟨b, o, none⟩) n c), .is (.slice (some ⟨b, o, none⟩) n c), .is (.int .i64 (n : Int)), .is (.int .i64 ((n : Int) - 1)), .is (.int .i64 (q : Int)), .is (.int .i64 ((n - 1 - q : Nat) : Int)), .is (.pointer (some ⟨b, o + (n - 1 - q) * 3, none⟩)), .is (.agg #[.int .i64 y.1, .int .i64 y.2.1, .int .i64 y.2.2]), .st (SN w5.heap.size (ofL (l.drop (n - (q + 1))) k.toNat)) (fun u u2 x h hb => h.below hb)] [some 61, some 62, some 63, some 64, some 65, some 66, some 67, some 68, some 69, some 70, some 71, some 72, some 73, some 74, some 75] (by kernel_rfl) (by kernel_rfl) (by kernel_rfl) (by kernel_rfl) [] (by kernel_rfl) (by intro p hp; cases hp) (by kernel_rfl) (by kernel_rfl) ?hstep ?hdone
                case hstep =>
                  intro i o ho hi hns E w4 hb4 D hold
                  have hi2 : i = 0 ∨ i = 1 ∨ i = 2 ∨ i = 3 ∨ i = 4 ∨ i = 5 ∨ i = 6 ∨ i = 7 ∨ i = 8 ∨ i = 9 ∨ i = 10 ∨ i = 11 ∨ i = 12 ∨ i = 13 ∨ i = 14 := by omega
                  clear hi
                  rcases hi2 with rfl | rfl | rfl | rfl | rfl | rfl | rfl | rfl | rfl | rfl | rfl | rfl | rfl | rfl | rfl
                  ·
                    have ho2 := (Array.getElem?_eq_some_iff.1 ho).2
                    simp only [List.getElem_toArray, List.getElem_cons_zero] at ho2
                    subst ho2
                    clear ho
                    have e9 := hold 9 (by kernel_rfl)
                    exact wk.does_move rfl (by rw [e9]; rfl)
                  ·
                    have ho2 := (Array.getElem?_eq_some_iff.1 ho).2
                    simp only [List.getElem_toArray, List.getElem_cons_succ, List.getElem_cons_zero] at ho2
                    subst ho2
                    clear ho
                    have e1 := D.old 1 (by kernel_rfl)
                    exact wk.does_move rfl (by rw [e1]; rfl)
                  ·
                    have ho2 := (Array.getElem?_eq_some_iff.1 ho).2
                    simp only [List.getElem_toArray, List.getElem_cons_succ, List.getElem_cons_zero] at ho2
                    subst ho2
                    clear ho
                    have e12 := D.old 12 (by kernel_rfl)
                    exact wk.does_load_agg rfl (show E (.tmp 12) = .pointer (some ⟨gx, 0, none⟩) by rw [e12]; rfl) (cs := rv x) (RowH.cells (HRX5.out.below ((Below.refl _ _).drew.trans hb4))) Try.underlying27 rfl (by kernel_rfl) rfl
                  ·
                    have ho2 := (Array.getElem?_eq_some_iff.1 ho).2
                    simp only [List.getElem_toArray, List.getElem_cons_succ, List.getElem_cons_zero] at ho2
                    subst ho2
                    clear ho
                    have e61 := D.is { on := 0, ground := .data } (by simp) rfl rfl 61 rfl
                    have e62 := D.is { on := 1, ground := .data } (by simp) rfl rfl 62 rfl
                    have e63 := D.is { on := 2, ground := .data } (by simp) rfl rfl 63 rfl
                    refine wk.does_fn (f := 21) (vs := #[.slice A3 n3 c3, .int .i64 k, .agg #[.int .i64 x.1, .int .i64 x.2.1, .int .i64 x.2.2]]) rfl (D.fn _) (by simp [e61, e62, e63]) (by go_simp) ?_
                    refine (putS k _ (HF1.out.is.below ((Below.refl _ _).drew.trans hb4)) HWX.out HN3.out (lst_ofL _ _) HS1.out ((Below.refl _ _).drew.trans hb4).size).mono ?_
                    rintro e w7 ⟨A9, n9, c9, rfl, hs, hn, hb7⟩
                    exact ⟨_, rfl, hb7, ⟨A9, n9, c9, rfl, hs, hn⟩⟩
                  ·
                    have ho2 := (Array.getElem?_eq_some_iff.1 ho).2
                    simp only [List.getElem_toArray, List.getElem_cons_succ, List.getElem_cons_zero] at ho2
                    subst ho2
                    clear ho
                    have e10 := hold 10 (by kernel_rfl)
                    exact wk.does_move rfl (by rw [e10]; rfl)
                  ·
                    have ho2 := (Array.getElem?_eq_some_iff.1 ho).2
                    simp only [List.getElem_toArray, List.getElem_cons_succ, List.getElem_cons_zero] at ho2
                    subst ho2
                    clear ho
                    have e1 := D.old 1 (by kernel_rfl)
                    exact wk.does_move rfl (by rw [e1]; rfl)
                  ·
                    have ho2 := (Array.getElem?_eq_some_iff.1 ho).2
                    simp only [List.getElem_toArray, List.getElem_cons_succ, List.getElem_cons_zero] at ho2
                    subst ho2
                    clear ho
                    have e0 := D.old 0 (by kernel_rfl)
                    exact wk.does_move rfl (by rw [e0]; rfl)
                  ·
                    have ho2 := (Array.getElem?_eq_some_iff.1 ho).2
                    simp only [List.getElem_toArray, List.getElem_cons_succ, List.getElem_cons_zero] at ho2
                    subst ho2
                    clear ho
                    have e0 := D.old 0 (by kernel_rfl)
                    exact wk.does_move rfl (by rw [e0]; rfl)
                  ·
                    have ho2 := (Array.getElem?_eq_some_iff.1 ho).2
                    simp only [List.getElem_toArray, List.getElem_cons_succ, List.getElem_cons_zero] at ho2
                    subst ho2
                    clear ho
                    have e68 := D.is { on := 7, ground := .data } (by simp) rfl rfl 68 rfl
                    exact wk.does_run (by simp only [execOp, resolve, invoke, builtin, Sem.run_bind, Sem.run_pure, Result.andThen_ok, List.map_toArray, List.map_cons, List.map_nil]; rw [show E (.tmp 68) = _ from e68]; go_simp) rfl
                  ·
                    have ho2 := (Array.getElem?_eq_some_iff.1 ho).2
                    simp only [List.getElem_toArray, List.getElem_cons_succ, List.getElem_cons_zero] at ho2
                    subst ho2
                    clear ho
                    have e69 := D.is { on := 8, ground := .data } (by simp) rfl rfl 69 rfl
                    exact wk.does_run (by simp only [execOp]; rw [show E (.tmp 69) = _ from e69, show E (.const (.int .i64 1)) = .int .i64 1 from D.con _]; go_simp; try (rw [IntKind.wrap_i64]; omega)) rfl
                  ·
                    have ho2 := (Array.getElem?_eq_some_iff.1 ho).2
                    simp only [List.getElem_toArray, List.getElem_cons_succ, List.getElem_cons_zero] at ho2
                    subst ho2
                    clear ho
                    have e11 := D.old 11 (by kernel_rfl)
                    exact wk.does_move rfl (by rw [e11]; rfl)
                  ·
                    have ho2 := (Array.getElem?_eq_some_iff.1 ho).2
                    simp only [List.getElem_toArray, List.getElem_cons_succ, List.getElem_cons_zero] at ho2
                    subst ho2
                    clear ho
                    have e70 := D.is { on := 9, ground := .data } (by simp) rfl rfl 70 rfl
                    have e71 := D.is { on := 10, ground := .data } (by simp) rfl rfl 71 rfl
                    exact wk.does_run (by simp only [execOp]; rw [show E (.tmp 70) = _ from e70, show E (.tmp 71) = _ from e71]; go_simp; try (rw [IntKind.wrap_i64]; omega)) rfl
                  ·
                    have ho2 := (Array.getElem?_eq_some_iff.1 ho).2
                    simp only [List.getElem_toArray, List.getElem_cons_succ, List.getElem_cons_zero] at ho2
                    subst ho2
                    clear ho
                    have e67 := D.is { on := 6, ground := .data } (by simp) rfl rfl 67 rfl
                    have e72 := D.is { on := 11, ground := .data } (by simp) rfl rfl 72 rfl
                    exact wk.does_run (by simp only [execOp]; rw [show E (.tmp 67) = _ from e67, show E (.tmp 72) = _ from e72]; go_simp; try (intro h0; omega)) rfl
                  ·
                    have ho2 := (Array.getElem?_eq_some_iff.1 ho).2
                    simp only [List.getElem_toArray, List.getElem_cons_succ, List.getElem_cons_zero] at ho2
                    subst ho2
                    clear ho
                    have e73 := D.is { on := 12, ground := .data } (by simp) rfl rfl 73 rfl
                    exact wk.does_load_agg rfl e73 (cs := rv y) (isH_at ((H7.out.below HB5.out).below ((Below.refl _ _).drew.trans hb4)) HY.out) Try.underlying27 rfl (by kernel_rfl) rfl
                  ·
                    have ho2 := (Array.getElem?_eq_some_iff.1 ho).2
                    simp only [List.getElem_toArray, List.getElem_cons_succ, List.getElem_cons_zero] at ho2
                    subst ho2
                    clear ho
                    have e65 := D.is { on := 4, ground := .data } (by simp) rfl rfl 65 rfl
                    have e66 := D.is { on := 5, ground := .data } (by simp) rfl rfl 66 rfl
                    have e74 := D.is { on := 13, ground := .data } (by simp) rfl rfl 74 rfl
                    refine wk.does_fn (f := 21) (vs := #[.slice A4 n4 c4, .int .i64 k, .agg #[.int .i64 y.1, .int .i64 y.2.1, .int .i64 y.2.2]]) rfl (D.fn _) (by simp [e65, e66, e74]) (by go_simp) ?_
                    refine (putS k _ (HF2.out.is.below ((Below.refl _ _).drew.trans hb4)) HWY.out HN4.out (lst_ofL _ _) HS2.out ((Below.refl _ _).drew.trans hb4).size).mono ?_
                    rintro e w7 ⟨A9, n9, c9, rfl, hs, hn, hb7⟩
                    exact ⟨_, rfl, hb7, ⟨A9, n9, c9, rfl, hs, hn⟩⟩
                case hdone =>
                  intro vals w4 hb4 hv
                  have h3 := hv 3 (by omega)
                  have h14 := hv 14 (by omega)
                  clear hv
                  simp only [List.drop_succ_cons, List.drop_zero, wk.setL, List.setIfInBounds_toArray, List.set_cons_zero, List.set_cons_succ, Nat.zero_add, Nat.reduceAdd]
                  generalize vals 0 = x0
                  generalize vals 1 = x1
                  generalize vals 2 = x2
                  generalize vals 3 = x3 at *
                  generalize vals 4 = x4
                  generalize vals 5 = x5
                  generalize vals 6 = x6
                  generalize vals 7 = x7
                  generalize vals 8 = x8
                  generalize vals 9 = x9
                  generalize vals 10 = x10
                  generalize vals 11 = x11
                  generalize vals 12 = x12
                  generalize vals 13 = x13
                  generalize vals 14 = x14 at *
                  obtain ⟨A5, n5, c5, rfl, hs5, hn5⟩ := h3
                  obtain ⟨A6, n6, c6, rfl, hs6, hn6⟩ := h14
                  have hbb := (Below.refl w5.heap.size w5).drew.trans hb4
                  have HQ6 := Lib.hid (HQ5.out.below hbb)
                  have HG1 := Lib.hid (free_new HQ5.out hs5 hn5 (lt_of_isH hs5 HNE1.out))
                  have HG2 := Lib.hid (free_new HQ5.out hs6 hn6 (lt_of_isH hs6 HNE2.out))
                  have HB6 := Lib.hid (HB5.out.trans (hbb.mono HB5.out.size))
                  clear hbb hb4 hs5 hs6 hn5 hn6
                  go_wp2_with fail
                  go_roundg (n - (q + 1))
                  case measure => have := HK.out; omega
                  case rel => exact ⟨q + 1, v5, p5, A5, n5, c5, A6, n6, c6, by have := HK.out; omega, rfl, rfl, by go_num, HB6.out, HQ6.out, HG1.out, HG2.out, HMM.out, HPL5.out⟩
            · have hp1 : (0 : Int) < (n9 : Int) := by omega
              have hp2 : (n9 : Int) ≠ 0 := by omega
              obtain ⟨j9, hj9⟩ : ∃ j9, q % n9 = j9 := ⟨_, rfl⟩
              have hj9n : j9 < n9 := by rw [← hj9]; exact Nat.mod_lt _ (by omega)
              have htm : (q : Int).tmod (n9 : Int) = (j9 : Int) := by rw [Int.tmod_eq_emod_of_nonneg (by omega), ← hj9]; omega
              obtain ⟨b9, o9, eA9, -, hcb⟩ := HCB.out.2.2.2 (by rw [HCB.out.1]; omega)
              subst eA9
              have hb8 : part[j9]? = some (part[j9]'(by rw [HCB.out.1]; exact hj9n)) := List.getElem?_eq_getElem _
              generalize part[j9]'(by rw [HCB.out.1]; exact hj9n) = y8 at *
              have hcb8 := hcb _ _ hb8
              have hj9i : (j9 : Int) < (n9 : Int) := by omega
              obtain ⟨k4, hk4⟩ : ∃ k4, y8.toNat % 4 = k4 := ⟨_, rfl⟩
              have HK4 : Hid (k4 < 4) := by show _ < _; omega
              have hk4i : (k4 : Int) < 4 := by have := HK4.out; omega
              have htm4 : (y8.toNat : Int).tmod 4 = (k4 : Int) := by rw [Int.tmod_eq_emod_of_nonneg (by omega), ← hk4]; omega
              have hy8 : y8.toNat < 256 := UInt8.toNat_lt y8
              have hw8 : wrap64 (y8.toNat : Int) = (y8.toNat : Int) := by unfold wrap64; omega
              clear hcb hb8 hp0 hj9 hk4 hy8
              go_wp2_with fail
              generalize wr.alloc (.cells #[.int .i64 x.1, .int .i64 x.2.1, .int .i64 x.2.2] 27) = wr2 at *
              generalize wr.heap.size = gx at *
              have HRX : Hid (RowH wr2 gx x) := HRX0.out
              have HGX : Hid (∀ j, j < 4 → (v j).ownBlock ≠ some gx) := HGX0.out
              have HGP : Hid (gx ≠ w7.heap.size) := HGP0.out
              clear hx1 hx2 hx3 hcb8
              refine wk.region_lev2W 8 (AR w7.heap.size (w7.heap.size + 1) k4 v (p k4) x wr2.heap.size) [some 53, some 54, some 55, some 56, some 57, some 58, some 59, some 60] (fun Lv u => AS wr2 (v k4).ownBlock Lv u) ?hstart (by kernel_rfl) (by kernel_rfl) (by kernel_rfl) (by kernel_rfl) (by kernel_rfl) (by kernel_rfl) ?hstep ?hdone
              case hstart => exact ⟨grown_below (World.grownBy.refl _ _) (Below.refl _ _).drew, fun _ => (Below.refl _ _).drew⟩
              case hstep =>
                intro i o ho hi9 E Lv w4 hS4 hL hdeps DG hold
                have hi2 : i = 0 ∨ i = 1 ∨ i = 2 ∨ i = 3 ∨ i = 4 ∨ i = 5 ∨ i = 6 ∨ i = 7 := by omega
                clear hi9
                rcases hi2 with rfl | rfl | rfl | rfl | rfl | rfl | rfl | rfl
                ·
                  have ho2 := (Array.getElem?_eq_some_iff.1 ho).2
                  simp only [List.getElem_toArray, List.getElem_cons_zero] at ho2
                  subst ho2
                  clear ho
                  refine wk.Does.weak (R := fun w' x' => x' = .int .i64 (k4 : Int)) ?_ (fun w' v' hb hr => ⟨hr, fun j u _ _ hj => AR.next hb hj, AS.next 0 hb hS4⟩)
                  exact wk.does_move rfl ((DG.old 13 (by kernel_rfl)).trans rfl)
                ·
                  have ho2 := (Array.getElem?_eq_some_iff.1 ho).2
                  simp only [List.getElem_toArray, List.getElem_cons_succ, List.getElem_cons_zero] at ho2
                  subst ho2
                  clear ho
                  refine wk.Does.weak (R := fun w' x' => x' = .int .i64 (k4 : Int)) ?_ (fun w' v' hb hr => ⟨hr, fun j u _ _ hj => AR.next hb hj, AS.next 1 hb hS4⟩)
                  exact wk.does_move rfl ((DG.old 13 (by kernel_rfl)).trans rfl)
                ·
                  have ho2 := (Array.getElem?_eq_some_iff.1 ho).2
                  simp only [List.getElem_toArray, List.getElem_cons_succ, List.getElem_cons_zero] at ho2
                  subst ho2
                  clear ho
                  have e54 := DG.is { on := 1, ground := .data } (by simp) rfl 54 rfl
                  replace e54 : E (.tmp 54) = .int .i64 (k4 : Int) := e54
                  refine wk.Does.weak (R := fun w' x' => x' = .pointer (some ⟨w7.heap.size, k4, none⟩)) ?_ (fun w' v' hb hr => ⟨hr, fun j u _ _ hj => AR.next hb hj, AS.next 2 hb hS4⟩)
                  exact wk.does_run (by simp only [execOp]; rw [show E (.tmp 8) = .pointer (some ⟨w7.heap.size, 0, none⟩) from (DG.old 8 (by kernel_rfl)).trans rfl, e54]; go_simp) rfl
                ·
                  have ho2 := (Array.getElem?_eq_some_iff.1 ho).2
                  simp only [List.getElem_toArray, List.getElem_cons_succ, List.getElem_cons_zero] at ho2
                  subst ho2
                  clear ho
                  have e55 := DG.is { on := 2, ground := .data } (by simp) rfl 55 rfl
                  replace e55 : E (.tmp 55) = .pointer (some ⟨w7.heap.size, k4, none⟩) := e55
                  refine wk.Does.weak (R := fun w' x' => x' = v k4) ?_ (fun w' v' hb hr => ⟨hr, fun j u _ _ hj => AR.next hb hj, AS.next 3 hb hS4⟩)
                  exact wk.does_load1 rfl e55 ((hS4.1.cell (a := ⟨w7.heap.size, k4, none⟩) (HQ.out.cell HK4.out) (fun e2 => Nat.not_succ_le_self _ (HQ.out.bd HK4.out e2.symm).1))) Try.underlying22 rfl rfl
                ·
                  have ho2 := (Array.getElem?_eq_some_iff.1 ho).2
                  simp only [List.getElem_toArray, List.getElem_cons_succ, List.getElem_cons_zero] at ho2
                  subst ho2
                  clear ho
                  refine wk.Does.weak (R := fun w' x' => x' = .agg #[.int .i64 x.1, .int .i64 x.2.1, .int .i64 x.2.2]) ?_ (fun w' v' hb hr => ⟨hr, fun j u _ _ hj => AR.next hb hj, AS.next 4 hb hS4⟩)
                  exact wk.does_load_agg rfl ((DG.old 12 (by kernel_rfl)).trans rfl) (cs := rv x) (RowH.cells ((hS4.1.block gx HRX.out.lt (fun e2 => HGX.out k4 HK4.out e2.symm)).trans HRX.out)) Try.underlying27 rfl (by kernel_rfl) rfl
                ·
                  have ho2 := (Array.getElem?_eq_some_iff.1 ho).2
                  simp only [List.getElem_toArray, List.getElem_cons_succ, List.getElem_cons_zero] at ho2
                  subst ho2
                  clear ho
                  have e57 := DG.is { on := 4, ground := .data } (by simp) rfl 57 rfl
                  replace e57 : E (.tmp 57) = .agg #[.int .i64 x.1, .int .i64 x.2.1, .int .i64 x.2.2] := e57
                  refine wk.Does.weak (R := fun w' x' => ∃ g, x' = .slice (some ⟨g, 0, none⟩) 1 1 ∧ RowH w' g x) ?_ (fun w' v' hb hr => ⟨by obtain ⟨g, h1, h2⟩ := hr; exact ⟨g, h1, fun _ => h2⟩, fun j u _ _ hj => AR.next hb hj, AS.next 5 hb hS4⟩)
                  exact wk.does_new (v := .slice (some ⟨w4.heap.size, 0, none⟩) 1 1) (w' := w4.alloc (.cells #[.int .i64 x.1, .int .i64 x.2.1, .int .i64 x.2.2] 27)) (by simp only [execOp, List.map_toArray, List.map_cons, List.map_nil]; rw [e57]; go_simp) (below_new _ _) ⟨_, rfl, RowH.new _ _⟩
                ·
                  have ho2 := (Array.getElem?_eq_some_iff.1 ho).2
                  simp only [List.getElem_toArray, List.getElem_cons_succ, List.getElem_cons_zero] at ho2
                  subst ho2
                  clear ho
                  have e56 := DG.is { on := 3, ground := .data } (by simp) rfl 56 rfl
                  have e58 := DG.is { on := 5, ground := .data } (by simp) rfl 58 rfl
                  replace e56 : E (.tmp 56) = v k4 := e56
                  obtain ⟨g, eg, hone⟩ := e58
                  have hbw := hS4.2 hL
                  have hown := keptB (HQ.out.row k4 HK4.out) hbw
                  exact does_append_t (.tmp 56) (.tmp 58) 22 rfl (w7.heap.size + 1) 27 i0 (.agg #[.int .i64 0, .int .i64 0, .int .i64 0]) 3 24 Try.underlying22 hi hz0 hz1 hz2 rfl (by decide) (v k4) (p k4).length (fl (p k4)) e56 hown ⟨g, 0, none⟩ 1 (rv x) eg rfl (hone hL).cells ones3 (by have := HPL.out k4 HK4.out; omega) (by omega) (by have := HQ.out.lt; have := hS4.1.size; omega) (fun v' w' h5 h6 h7 => ⟨⟨h5, h7.imp id fun h8 => ⟨_, h8, hS4.1.size⟩⟩, fun j' u hLj _ hj => AR.app (by rintro rfl; rw [hL] at hLj; cases hLj) hj, AS.app (grown_trans hS4.1 h6)⟩)
                ·
                  have ho2 := (Array.getElem?_eq_some_iff.1 ho).2
                  simp only [List.getElem_toArray, List.getElem_cons_succ, List.getElem_cons_zero] at ho2
                  subst ho2
                  clear ho
                  have e53 := DG.is { on := 0, ground := .data } (by simp) rfl 53 rfl
                  replace e53 : E (.tmp 53) = .int .i64 (k4 : Int) := e53
                  refine wk.Does.weak (R := fun w' x' => x' = .pointer (some ⟨w7.heap.size, k4, none⟩)) ?_ (fun w' v' hb hr => ⟨hr, fun j u _ _ hj => AR.next hb hj, AS.next 7 hb hS4⟩)
                  exact wk.does_run (by simp only [execOp]; rw [show E (.tmp 8) = .pointer (some ⟨w7.heap.size, 0, none⟩) from (DG.old 8 (by kernel_rfl)).trans rfl, e53]; go_simp) rfl
              case hdone =>
                intro vals Lv w4 hall hS4 hv
                obtain ⟨h6, h66⟩ : w4.ownsRow (w7.heap.size + 1) 27 3 (vals 6) ((p k4).length + 1) (fl (p k4) ++ rv x) ∧ ((vals 6).ownBlock = (v k4).ownBlock ∨ ∃ q, (vals 6).ownBlock = some q ∧ wr2.heap.size ≤ q) := hv 6 (by omega)
                have h7 : vals 7 = .pointer (some ⟨w7.heap.size, k4, none⟩) := hv 7 (by omega)
                have hgr := hS4.1
                clear hv hall hS4
                simp only [List.drop_succ_cons, List.drop_zero, wk.setL, List.setIfInBounds_toArray, List.set_cons_zero, List.set_cons_succ, Nat.zero_add, Nat.reduceAdd, h7]
                clear h7
                generalize vals 0 = x0 at *
                generalize vals 1 = x1 at *
                generalize vals 2 = x2 at *
                generalize vals 3 = x3 at *
                generalize vals 4 = x4 at *
                generalize vals 5 = x5 at *
                generalize vals 6 = z6 at *
                obtain ⟨A8, c8, hz6⟩ := own_shape h6
                subst hz6
                have hPb : some w7.heap.size ≠ (v k4).ownBlock := fun e2 => by have := HQ.out.bd HK4.out e2.symm; omega
                have hcP := hgr.cell (a := ⟨w7.heap.size, k4, none⟩) (HQ.out.cell HK4.out) hPb
                have hfP : w4.frozen? ⟨w7.heap.size, k4, none⟩ = false := by
                  have h8 := (hgr.block _ HQ.out.lt hPb).trans HQ.out.arr
                  exact frozen_of_row _ _ _ _ _ h8
                have HQ5 := Lib.hid (HQ.out.grow HK4.out hgr h6 h66)
                have HF1 := Lib.hid (HP1.out.grow HK4.out hgr h66)
                have HF2 := Lib.hid (HP2.out.grow HK4.out hgr h66)
                have HRX5 : Hid (RowH (w4.setCell ⟨w7.heap.size, k4, none⟩ (.slice A8 ((p k4).length + 1) c8)) gx x) := by
                  show _ = _
                  rw [Below.heap_setCell _ _ _ _ HGP.out]
                  exact (hgr.block gx HRX.out.lt (fun e2 => HGX.out k4 HK4.out e2.symm)).trans HRX.out
                have HB5 : Hid (Below w7.heap.size w7 (w4.setCell ⟨w7.heap.size, k4, none⟩ (.slice A8 ((p k4).length + 1) c8))) := (HBC.out.grown hgr HBC.out.size (fun q hq => by have := HQ.out.bd HK4.out hq; omega)).setCell (p := ⟨w7.heap.size, k4, none⟩) (Nat.le_refl _) _
                have HMM : Hid (∀ y, y ∈ l.take (q + 1) ↔ ∃ j, j < 4 ∧ y ∈ upd p k4 (p k4 ++ [x]) j) := fun y => by
                  rw [mem_upd HK4.out, ← HMEM.out y, take_succ' HX.out]
                  simp
                have HPL5 : Hid (∀ j, j < 4 → (upd p k4 (p k4 ++ [x]) j).length ≤ q + 1) := fun j hj => by
                  by_cases e : j = k4
                  · rw [e, upd_same, List.length_append, List.length_singleton]; have := HPL.out k4 HK4.out; omega
                  · rw [upd_ne _ _ e]; have := HPL.out j hj; omega
                obtain ⟨w5, hw5⟩ : ∃ w5, w5 = w4.setCell ⟨w7.heap.size, k4, none⟩ (.slice A8 ((p k4).length + 1) c8) := ⟨_, rfl⟩
                rw [← hw5] at HQ5 HF1 HF2 HRX5 HB5
                have HW5 := Lib.hid hw5
                generalize hvv : upd v k4 (.slice A8 ((p k4).length + 1) c8) = v5 at *
                generalize hpp : upd p k4 (p k4 ++ [x]) = p5 at *
                clear hgr h6 h66 hPb hvv hpp hw5
                go_wp2_with fail
                rw [← HW5.out]
                clear hcP hfP
                refine wk.region_tailK 15 [.is (.slice A3 n3 c3), .is (.int .i64 k), .is (.agg #[.int .i64 x.1, .int .i64 x.2.1, .int .i64 x.2.2]), .st (SN w5.heap.size (ofL (l.take (q + 1)) k.toNat)) (fun u u2 x h hb => h.below hb), .is (.slice A4 n4 c4), .is (.int .i64 k), .is (.slice (some ⟨b, o, none⟩) n c), .is (.slice (some ⟨b, o, none⟩) n c), .is (.int .i64 (n : Int)), .is (.int .i64 ((n : Int) - 1)), .is (.int .i64 (q : Int)), .is (.int .i64 ((n - 1 - q : Nat) : Int)), .is (.pointer (some ⟨b, o + (n - 1 - q) * 3, none⟩)), .is (.agg #[.int .i64 y.1, .int .i64 y.2.1, .int .i64 y.2.2]), .st (SN w5.heap.size (ofL (l.drop (n - (q + 1))) k.toNat)) (fun u u2 x h hb => h.below hb)] [some 61, some 62, some 63, some 64, some 65, some 66, some 67, some 68, some 69, some 70, some 71, some 72, some 73, some 74, some 75] (by kernel_rfl) (by kernel_rfl) (by kernel_rfl) (by kernel_rfl) [] (by kernel_rfl) (by intro p hp; cases hp) (by kernel_rfl) (by kernel_rfl) ?hstep ?hdone
                case hstep =>
                  intro i o ho hi hns E w4 hb4 D hold
                  have hi2 : i = 0 ∨ i = 1 ∨ i = 2 ∨ i = 3 ∨ i = 4 ∨ i = 5 ∨ i = 6 ∨ i = 7 ∨ i = 8 ∨ i = 9 ∨ i = 10 ∨ i = 11 ∨ i = 12 ∨ i = 13 ∨ i = 14 := by omega
                  clear hi
                  rcases hi2 with rfl | rfl | rfl | rfl | rfl | rfl | rfl | rfl | rfl | rfl | rfl | rfl | rfl | rfl | rfl
                  ·
                    have ho2 := (Array.getElem?_eq_some_iff.1 ho).2
                    simp only [List.getElem_toArray, List.getElem_cons_zero] at ho2
                    subst ho2
                    clear ho
                    have e9 := hold 9 (by kernel_rfl)
                    exact wk.does_move rfl (by rw [e9]; rfl)
                  ·
                    have ho2 := (Array.getElem?_eq_some_iff.1 ho).2
                    simp only [List.getElem_toArray, List.getElem_cons_succ, List.getElem_cons_zero] at ho2
                    subst ho2
                    clear ho
                    have e1 := D.old 1 (by kernel_rfl)
                    exact wk.does_move rfl (by rw [e1]; rfl)
                  ·
                    have ho2 := (Array.getElem?_eq_some_iff.1 ho).2
                    simp only [List.getElem_toArray, List.getElem_cons_succ, List.getElem_cons_zero] at ho2
                    subst ho2
                    clear ho
                    have e12 := D.old 12 (by kernel_rfl)
                    exact wk.does_load_agg rfl (show E (.tmp 12) = .pointer (some ⟨gx, 0, none⟩) by rw [e12]; rfl) (cs := rv x) (RowH.cells (HRX5.out.below ((Below.refl _ _).drew.trans hb4))) Try.underlying27 rfl (by kernel_rfl) rfl
                  ·
                    have ho2 := (Array.getElem?_eq_some_iff.1 ho).2
                    simp only [List.getElem_toArray, List.getElem_cons_succ, List.getElem_cons_zero] at ho2
                    subst ho2
                    clear ho
                    have e61 := D.is { on := 0, ground := .data } (by simp) rfl rfl 61 rfl
                    have e62 := D.is { on := 1, ground := .data } (by simp) rfl rfl 62 rfl
                    have e63 := D.is { on := 2, ground := .data } (by simp) rfl rfl 63 rfl
                    refine wk.does_fn (f := 21) (vs := #[.slice A3 n3 c3, .int .i64 k, .agg #[.int .i64 x.1, .int .i64 x.2.1, .int .i64 x.2.2]]) rfl (D.fn _) (by simp [e61, e62, e63]) (by go_simp) ?_
                    refine (putS k _ (HF1.out.is.below ((Below.refl _ _).drew.trans hb4)) HWX.out HN3.out (lst_ofL _ _) HS1.out ((Below.refl _ _).drew.trans hb4).size).mono ?_
                    rintro e w7 ⟨A9, n9, c9, rfl, hs, hn, hb7⟩
                    exact ⟨_, rfl, hb7, ⟨A9, n9, c9, rfl, hs, hn⟩⟩
                  ·
                    have ho2 := (Array.getElem?_eq_some_iff.1 ho).2
                    simp only [List.getElem_toArray, List.getElem_cons_succ, List.getElem_cons_zero] at ho2
                    subst ho2
                    clear ho
                    have e10 := hold 10 (by kernel_rfl)
                    exact wk.does_move rfl (by rw [e10]; rfl)
                  ·
                    have ho2 := (Array.getElem?_eq_some_iff.1 ho).2
                    simp only [List.getElem_toArray, List.getElem_cons_succ, List.getElem_cons_zero] at ho2
                    subst ho2
                    clear ho
                    have e1 := D.old 1 (by kernel_rfl)
                    exact wk.does_move rfl (by rw [e1]; rfl)
                  ·
                    have ho2 := (Array.getElem?_eq_some_iff.1 ho).2
                    simp only [List.getElem_toArray, List.getElem_cons_succ, List.getElem_cons_zero] at ho2
                    subst ho2
                    clear ho
                    have e0 := D.old 0 (by kernel_rfl)
                    exact wk.does_move rfl (by rw [e0]; rfl)
                  ·
                    have ho2 := (Array.getElem?_eq_some_iff.1 ho).2
                    simp only [List.getElem_toArray, List.getElem_cons_succ, List.getElem_cons_zero] at ho2
                    subst ho2
                    clear ho
                    have e0 := D.old 0 (by kernel_rfl)
                    exact wk.does_move rfl (by rw [e0]; rfl)
                  ·
                    have ho2 := (Array.getElem?_eq_some_iff.1 ho).2
                    simp only [List.getElem_toArray, List.getElem_cons_succ, List.getElem_cons_zero] at ho2
                    subst ho2
                    clear ho
                    have e68 := D.is { on := 7, ground := .data } (by simp) rfl rfl 68 rfl
                    exact wk.does_run (by simp only [execOp, resolve, invoke, builtin, Sem.run_bind, Sem.run_pure, Result.andThen_ok, List.map_toArray, List.map_cons, List.map_nil]; rw [show E (.tmp 68) = _ from e68]; go_simp) rfl
                  ·
                    have ho2 := (Array.getElem?_eq_some_iff.1 ho).2
                    simp only [List.getElem_toArray, List.getElem_cons_succ, List.getElem_cons_zero] at ho2
                    subst ho2
                    clear ho
                    have e69 := D.is { on := 8, ground := .data } (by simp) rfl rfl 69 rfl
                    exact wk.does_run (by simp only [execOp]; rw [show E (.tmp 69) = _ from e69, show E (.const (.int .i64 1)) = .int .i64 1 from D.con _]; go_simp; try (rw [IntKind.wrap_i64]; omega)) rfl
                  ·
                    have ho2 := (Array.getElem?_eq_some_iff.1 ho).2
                    simp only [List.getElem_toArray, List.getElem_cons_succ, List.getElem_cons_zero] at ho2
                    subst ho2
                    clear ho
                    have e11 := D.old 11 (by kernel_rfl)
                    exact wk.does_move rfl (by rw [e11]; rfl)
                  ·
                    have ho2 := (Array.getElem?_eq_some_iff.1 ho).2
                    simp only [List.getElem_toArray, List.getElem_cons_succ, List.getElem_cons_zero] at ho2
                    subst ho2
                    clear ho
                    have e70 := D.is { on := 9, ground := .data } (by simp) rfl rfl 70 rfl
                    have e71 := D.is { on := 10, ground := .data } (by simp) rfl rfl 71 rfl
                    exact wk.does_run (by simp only [execOp]; rw [show E (.tmp 70) = _ from e70, show E (.tmp 71) = _ from e71]; go_simp; try (rw [IntKind.wrap_i64]; omega)) rfl
                  ·
                    have ho2 := (Array.getElem?_eq_some_iff.1 ho).2
                    simp only [List.getElem_toArray, List.getElem_cons_succ, List.getElem_cons_zero] at ho2
                    subst ho2
                    clear ho
                    have e67 := D.is { on := 6, ground := .data } (by simp) rfl rfl 67 rfl
                    have e72 := D.is { on := 11, ground := .data } (by simp) rfl rfl 72 rfl
                    exact wk.does_run (by simp only [execOp]; rw [show E (.tmp 67) = _ from e67, show E (.tmp 72) = _ from e72]; go_simp; try (intro h0; omega)) rfl
                  ·
                    have ho2 := (Array.getElem?_eq_some_iff.1 ho).2
                    simp only [List.getElem_toArray, List.getElem_cons_succ, List.getElem_cons_zero] at ho2
                    subst ho2
                    clear ho
                    have e73 := D.is { on := 12, ground := .data } (by simp) rfl rfl 73 rfl
                    exact wk.does_load_agg rfl e73 (cs := rv y) (isH_at ((H7.out.below HB5.out).below ((Below.refl _ _).drew.trans hb4)) HY.out) Try.underlying27 rfl (by kernel_rfl) rfl
                  ·
                    have ho2 := (Array.getElem?_eq_some_iff.1 ho).2
                    simp only [List.getElem_toArray, List.getElem_cons_succ, List.getElem_cons_zero] at ho2
                    subst ho2
                    clear ho
                    have e65 := D.is { on := 4, ground := .data } (by simp) rfl rfl 65 rfl
                    have e66 := D.is { on := 5, ground := .data } (by simp) rfl rfl 66 rfl
                    have e74 := D.is { on := 13, ground := .data } (by simp) rfl rfl 74 rfl
                    refine wk.does_fn (f := 21) (vs := #[.slice A4 n4 c4, .int .i64 k, .agg #[.int .i64 y.1, .int .i64 y.2.1, .int .i64 y.2.2]]) rfl (D.fn _) (by simp [e65, e66, e74]) (by go_simp) ?_
                    refine (putS k _ (HF2.out.is.below ((Below.refl _ _).drew.trans hb4)) HWY.out HN4.out (lst_ofL _ _) HS2.out ((Below.refl _ _).drew.trans hb4).size).mono ?_
                    rintro e w7 ⟨A9, n9, c9, rfl, hs, hn, hb7⟩
                    exact ⟨_, rfl, hb7, ⟨A9, n9, c9, rfl, hs, hn⟩⟩
                case hdone =>
                  intro vals w4 hb4 hv
                  have h3 := hv 3 (by omega)
                  have h14 := hv 14 (by omega)
                  clear hv
                  simp only [List.drop_succ_cons, List.drop_zero, wk.setL, List.setIfInBounds_toArray, List.set_cons_zero, List.set_cons_succ, Nat.zero_add, Nat.reduceAdd]
                  generalize vals 0 = x0
                  generalize vals 1 = x1
                  generalize vals 2 = x2
                  generalize vals 3 = x3 at *
                  generalize vals 4 = x4
                  generalize vals 5 = x5
                  generalize vals 6 = x6
                  generalize vals 7 = x7
                  generalize vals 8 = x8
                  generalize vals 9 = x9
                  generalize vals 10 = x10
                  generalize vals 11 = x11
                  generalize vals 12 = x12
                  generalize vals 13 = x13
                  generalize vals 14 = x14 at *
                  obtain ⟨A5, n5, c5, rfl, hs5, hn5⟩ := h3
                  obtain ⟨A6, n6, c6, rfl, hs6, hn6⟩ := h14
                  have hbb := (Below.refl w5.heap.size w5).drew.trans hb4
                  have HQ6 := Lib.hid (HQ5.out.below hbb)
                  have HG1 := Lib.hid (free_new HQ5.out hs5 hn5 (lt_of_isH hs5 HNE1.out))
                  have HG2 := Lib.hid (free_new HQ5.out hs6 hn6 (lt_of_isH hs6 HNE2.out))
                  have HB6 := Lib.hid (HB5.out.trans (hbb.mono HB5.out.size))
                  clear hbb hb4 hs5 hs6 hn5 hn6
                  go_wp2_with fail
                  go_roundg (n - (q + 1))
                  case measure => have := HK.out; omega
                  case rel => exact ⟨q + 1, v5, p5, A5, n5, c5, A6, n6, c6, by have := HK.out; omega, rfl, rfl, by go_num, HB6.out, HQ6.out, HG1.out, HG2.out, HMM.out, HPL5.out⟩
          · obtain rfl : n = q := by omega
            have HPU : Hid (IsH wr A3 n3 c3 (ofL l k.toNat)) := by have h := HP01.out.is; rw [List.take_of_length_le (by rw [HN1.out]; omega)] at h; exact h
            have HTU : Hid (IsH wr A4 n4 c4 (ofL l k.toNat)) := by have h := HP02.out.is; rw [Nat.sub_self, List.drop_zero] at h; exact h
            have HMM : Hid (∀ y, y ∈ l ↔ ∃ j, j < 4 ∧ y ∈ p j) := fun y => by have h := HMEM.out y; rw [List.take_of_length_le (by rw [HN1.out]; omega)] at h; exact h
            have HWP : Hid (∀ j, j < 4 → ∀ r ∈ p j, Wd r) := fun j hj r hr => HWD.out r ((HMM.out r).2 ⟨j, hj, hr⟩)
            have HAL := Lib.hid (HALL.out.below HBC0.out)
            have HBR := Lib.hid (HB.out.trans (HBC0.out.mono HB.out.size))
            have HONE : Hid (ofL (cup p 4) k.toNat = ofL l k.toNat) := ofL_congr _ fun y => by rw [mem_cup, HMM.out]
            have HTWO : Hid (ofL (tw p 4) k.toNat = ofL l k.toNat) := ofL_congr _ fun y => by rw [mem_tw, HMM.out]
            have hk64 := HKP.out
            clear HP01 HP02 HBC0
            go_wp2_with fail
            go_loopg [14, 15, 77] 4 (fun g s14 s15 xx wi => ∃ (m : Nat) (A5 : Option Addr) (n5 c5 : Nat) (A6 : Option Addr) (n6 c6 : Nat), m + g = 4 ∧ s14 = .slice A5 n5 c5 ∧ s15 = .slice A6 n6 c6 ∧ xx = .int .i64 (m : Int) ∧ Below wr.heap.size wr wi ∧ IsH wi A5 n5 c5 (ofL (cup p m) k.toNat) ∧ IsH wi A6 n6 c6 (ofL (tw p m) k.toNat))
            case atStart => exact ⟨0, none, 0, 0, none, 0, 0, by omega, rfl, rfl, rfl, Below.refl _ _, by rw [show cup p 0 = [] from rfl, ofL_nil]; exact isH_nil _, by rw [show tw p 0 = [] from rfl, ofL_nil]; exact isH_nil _⟩
            case round =>
              obtain ⟨m, A5, n5, c5, A6, n6, c6, hm, rfl, rfl, rfl, hbel2, hi5, hi6⟩ := hrel
              have HM := Lib.hid hm
              have HBL := Lib.hid hbel2
              have H5 := Lib.hid hi5
              have H6 := Lib.hid hi6
              have hmn : m ≤ 4 := by omega
              clear hm hbel2 hi5 hi6
              by_cases hlt : m < 4
              · obtain ⟨m3, hm3⟩ : ∃ m3, 3 - m = m3 := ⟨_, rfl⟩
                have HQ9 := Lib.hid (HQ1.out.below HBL.out)
                have hm3l : m3 < 4 := by omega
                obtain ⟨Am, cm, evm, him⟩ := row_is HQ9.out HWP.out hlt
                obtain ⟨Ak, ck, evk, hik⟩ := row_is HQ9.out HWP.out hm3l
                have HIM := Lib.hid him
                have HIK := Lib.hid hik
                have HCM : Hid (∀ u, Below _ _ u → u.cell? ⟨w7.heap.size, m, none⟩ = some (.slice Am (p m).length cm)) := fun u hu => by rw [← evm]; exact (HQ9.out.below hu).cell hlt
                have HCK : Hid (∀ u, Below _ _ u → u.cell? ⟨w7.heap.size, m3, none⟩ = some (.slice Ak (p m3).length ck)) := fun u hu => by rw [← evk]; exact (HQ9.out.below hu).cell hm3l
                have HS1 := Lib.hid (one_step p m k.toNat)
                have HS2 : Hid (ofL (ofL (p m3) k.toNat ++ ofL (tw p m) k.toNat) k.toNat = ofL (tw p (m + 1)) k.toNat) := by rw [← hm3]; exact tw_step p m k.toNat
                have HN5 : Hid (n5 ≤ 64) := by have h1 := H5.out.1; have h2 := ofL_len (cup p m) k.toNat; have := HKP.out; show _ ≤ _; omega
                have HN6 : Hid (n6 ≤ 64) := by have h1 := H6.out.1; have h2 := ofL_len (tw p m) k.toNat; have := HKP.out; show _ ≤ _; omega
                have hmi : (m : Int) < 4 := by omega
                have hmk : (m3 : Int) < 4 := by omega
                have hm3i : (3 : Int) - (m : Int) = (m3 : Int) := by omega
                have HPM : Hid ((p m).length ≤ 1000000 ∧ (p m3).length ≤ 1000000) := by have := HPL.out m hlt; have := HPL.out m3 hm3l; show _ ∧ _; omega
                clear him hik evm evk hm3
                go_wp2_with fail
                refine wk.region_tailK 17 [.is (.slice A5 n5 c5), .is (.int .i64 (m : Int)), .is (.pointer (some ⟨w7.heap.size, m, none⟩)), .is (.slice Am (p m).length cm), .is (.int .i64 k), .st (SH (ofL (p m) k.toNat)) (fun u u2 x h hb => h.below hb), .is (.int .i64 k), .st (SH (ofL (cup p (m + 1)) k.toNat)) (fun u u2 x h hb => h.below hb), .is (.int .i64 (m : Int)), .is (.int .i64 (m3 : Int)), .is (.pointer (some ⟨w7.heap.size, m3, none⟩)), .is (.slice Ak (p m3).length ck), .is (.int .i64 k), .st (SH (ofL (p m3) k.toNat)) (fun u u2 x h hb => h.below hb), .is (.slice A6 n6 c6), .is (.int .i64 k), .st (SH (ofL (tw p (m + 1)) k.toNat)) (fun u u2 x h hb => h.below hb)] [some 80, some 81, some 82, some 83, some 84, some 85, some 86, some 87, some 88, some 89, some 90, some 91, some 92, some 93, some 94, some 95, some 96] (by kernel_rfl) (by kernel_rfl) (by kernel_rfl) (by kernel_rfl) [] (by kernel_rfl) (by intro p hp; cases hp) (by kernel_rfl) (by kernel_rfl) ?hstep ?hdone
                case hstep =>
                  intro i o ho hi hns E w4 hb4 D hold
                  have hi2 : i = 0 ∨ i = 1 ∨ i = 2 ∨ i = 3 ∨ i = 4 ∨ i = 5 ∨ i = 6 ∨ i = 7 ∨ i = 8 ∨ i = 9 ∨ i = 10 ∨ i = 11 ∨ i = 12 ∨ i = 13 ∨ i = 14 ∨ i = 15 ∨ i = 16 := by omega
                  clear hi
                  rcases hi2 with rfl | rfl | rfl | rfl | rfl | rfl | rfl | rfl | rfl | rfl | rfl | rfl | rfl | rfl | rfl | rfl | rfl
                  ·
                    have ho2 := (Array.getElem?_eq_some_iff.1 ho).2
                    simp only [List.getElem_toArray, List.getElem_cons_zero] at ho2
                    subst ho2
                    clear ho
                    have e14 := hold 14 (by kernel_rfl)
                    exact wk.does_move rfl (by rw [e14]; rfl)
                  ·
                    have ho2 := (Array.getElem?_eq_some_iff.1 ho).2
                    simp only [List.getElem_toArray, List.getElem_cons_succ, List.getElem_cons_zero] at ho2
                    subst ho2
                    clear ho
                    have e16 := D.old 16 (by kernel_rfl)
                    exact wk.does_move rfl (by rw [e16]; rfl)
                  ·
                    have ho2 := (Array.getElem?_eq_some_iff.1 ho).2
                    simp only [List.getElem_toArray, List.getElem_cons_succ, List.getElem_cons_zero] at ho2
                    subst ho2
                    clear ho
                    have e8 := D.old 8 (by kernel_rfl)
                    have e81 := D.is { on := 1, ground := .data } (by simp) rfl rfl 81 rfl
                    exact wk.does_run (by simp only [execOp]; rw [show E (.tmp 8) = .pointer (some ⟨w7.heap.size, 0, none⟩) by rw [e8]; rfl, show E (.tmp 81) = _ from e81]; go_simp; try (intro h0; omega)) rfl
                  ·
                    have ho2 := (Array.getElem?_eq_some_iff.1 ho).2
                    simp only [List.getElem_toArray, List.getElem_cons_succ, List.getElem_cons_zero] at ho2
                    subst ho2
                    clear ho
                    have e82 := D.is { on := 2, ground := .data } (by simp) rfl rfl 82 rfl
                    exact wk.does_load1 rfl e82 (HCM.out _ ((Below.refl _ _).drew.trans hb4)) Try.underlying22 rfl rfl
                  ·
                    have ho2 := (Array.getElem?_eq_some_iff.1 ho).2
                    simp only [List.getElem_toArray, List.getElem_cons_succ, List.getElem_cons_zero] at ho2
                    subst ho2
                    clear ho
                    have e1 := D.old 1 (by kernel_rfl)
                    exact wk.does_move rfl (by rw [e1]; rfl)
                  ·
                    have ho2 := (Array.getElem?_eq_some_iff.1 ho).2
                    simp only [List.getElem_toArray, List.getElem_cons_succ, List.getElem_cons_zero] at ho2
                    subst ho2
                    clear ho
                    have e83 := D.is { on := 3, ground := .data } (by simp) rfl rfl 83 rfl
                    have e84 := D.is { on := 4, ground := .data } (by simp) rfl rfl 84 rfl
                    refine wk.does_fn (f := 18) (vs := #[.slice Am (p m).length cm, .int .i64 k]) rfl (D.fn _) (by simp [e83, e84]) (by go_simp) ?_
                    refine (of_calls k _ (HIM.out.below ((Below.refl _ _).drew.trans hb4)) HPM.out.1).mono ?_
                    rintro e w7 ⟨A11, n11, c11, rfl, hs, hb7⟩
                    exact ⟨_, rfl, hb7, ⟨A11, n11, c11, rfl, hs⟩⟩
                  ·
                    have ho2 := (Array.getElem?_eq_some_iff.1 ho).2
                    simp only [List.getElem_toArray, List.getElem_cons_succ, List.getElem_cons_zero] at ho2
                    subst ho2
                    clear ho
                    have e1 := D.old 1 (by kernel_rfl)
                    exact wk.does_move rfl (by rw [e1]; rfl)
                  ·
                    have ho2 := (Array.getElem?_eq_some_iff.1 ho).2
                    simp only [List.getElem_toArray, List.getElem_cons_succ, List.getElem_cons_zero] at ho2
                    subst ho2
                    clear ho
                    have e80 := D.is { on := 0, ground := .data } (by simp) rfl rfl 80 rfl
                    have s85 := D.st { on := 5, ground := .data } (by simp) rfl rfl 85 rfl
                    have e86 := D.is { on := 6, ground := .data } (by simp) rfl rfl 86 rfl
                    obtain ⟨A8, n8, c8, e85, h8⟩ := s85
                    refine wk.does_fn (f := 25) (vs := #[.slice A5 n5 c5, .slice A8 n8 c8, .int .i64 k]) rfl (D.fn _) (by simp [e80, e85, e86]) (by go_simp) ?_
                    refine (mrg_calls k _ (H5.out.below ((Below.refl _ _).drew.trans hb4)) h8 (lst_ofL _ _) (lst_ofL _ _) (by have h1 := h8.1; have h2 := ofL_len (p m) k.toNat; have := HN5.out; omega)).mono ?_
                    rintro e w8 ⟨A11, n11, c11, rfl, h11, hb7⟩
                    rw [HS1.out] at h11
                    exact ⟨_, rfl, hb7, A11, n11, c11, rfl, h11⟩
                  ·
                    have ho2 := (Array.getElem?_eq_some_iff.1 ho).2
                    simp only [List.getElem_toArray, List.getElem_cons_succ, List.getElem_cons_zero] at ho2
                    subst ho2
                    clear ho
                    have e16 := D.old 16 (by kernel_rfl)
                    exact wk.does_move rfl (by rw [e16]; rfl)
                  ·
                    have ho2 := (Array.getElem?_eq_some_iff.1 ho).2
                    simp only [List.getElem_toArray, List.getElem_cons_succ, List.getElem_cons_zero] at ho2
                    subst ho2
                    clear ho
                    have e88 := D.is { on := 8, ground := .data } (by simp) rfl rfl 88 rfl
                    exact wk.does_run (by simp only [execOp]; rw [show E (.const (.int .i64 3)) = .int .i64 3 from D.con _, show E (.tmp 88) = _ from e88]; go_simp; try (rw [IntKind.wrap_i64]; omega)) rfl
                  ·
                    have ho2 := (Array.getElem?_eq_some_iff.1 ho).2
                    simp only [List.getElem_toArray, List.getElem_cons_succ, List.getElem_cons_zero] at ho2
                    subst ho2
                    clear ho
                    have e8 := D.old 8 (by kernel_rfl)
                    have e89 := D.is { on := 9, ground := .data } (by simp) rfl rfl 89 rfl
                    exact wk.does_run (by simp only [execOp]; rw [show E (.tmp 8) = .pointer (some ⟨w7.heap.size, 0, none⟩) by rw [e8]; rfl, show E (.tmp 89) = _ from e89]; go_simp; try (intro h0; omega)) rfl
                  ·
                    have ho2 := (Array.getElem?_eq_some_iff.1 ho).2
                    simp only [List.getElem_toArray, List.getElem_cons_succ, List.getElem_cons_zero] at ho2
                    subst ho2
                    clear ho
                    have e90 := D.is { on := 10, ground := .data } (by simp) rfl rfl 90 rfl
                    exact wk.does_load1 rfl e90 (HCK.out _ ((Below.refl _ _).drew.trans hb4)) Try.underlying22 rfl rfl
                  ·
                    have ho2 := (Array.getElem?_eq_some_iff.1 ho).2
                    simp only [List.getElem_toArray, List.getElem_cons_succ, List.getElem_cons_zero] at ho2
                    subst ho2
                    clear ho
                    have e1 := D.old 1 (by kernel_rfl)
                    exact wk.does_move rfl (by rw [e1]; rfl)
                  ·
                    have ho2 := (Array.getElem?_eq_some_iff.1 ho).2
                    simp only [List.getElem_toArray, List.getElem_cons_succ, List.getElem_cons_zero] at ho2
                    subst ho2
                    clear ho
                    have e91 := D.is { on := 11, ground := .data } (by simp) rfl rfl 91 rfl
                    have e92 := D.is { on := 12, ground := .data } (by simp) rfl rfl 92 rfl
                    refine wk.does_fn (f := 18) (vs := #[.slice Ak (p m3).length ck, .int .i64 k]) rfl (D.fn _) (by simp [e91, e92]) (by go_simp) ?_
                    refine (of_calls k _ (HIK.out.below ((Below.refl _ _).drew.trans hb4)) HPM.out.2).mono ?_
                    rintro e w7 ⟨A11, n11, c11, rfl, hs, hb7⟩
                    exact ⟨_, rfl, hb7, ⟨A11, n11, c11, rfl, hs⟩⟩
                  ·
                    have ho2 := (Array.getElem?_eq_some_iff.1 ho).2
                    simp only [List.getElem_toArray, List.getElem_cons_succ, List.getElem_cons_zero] at ho2
                    subst ho2
                    clear ho
                    have e15 := hold 15 (by kernel_rfl)
                    exact wk.does_move rfl (by rw [e15]; rfl)
                  ·
                    have ho2 := (Array.getElem?_eq_some_iff.1 ho).2
                    simp only [List.getElem_toArray, List.getElem_cons_succ, List.getElem_cons_zero] at ho2
                    subst ho2
                    clear ho
                    have e1 := D.old 1 (by kernel_rfl)
                    exact wk.does_move rfl (by rw [e1]; rfl)
                  ·
                    have ho2 := (Array.getElem?_eq_some_iff.1 ho).2
                    simp only [List.getElem_toArray, List.getElem_cons_succ, List.getElem_cons_zero] at ho2
                    subst ho2
                    clear ho
                    have s93 := D.st { on := 13, ground := .data } (by simp) rfl rfl 93 rfl
                    have e94 := D.is { on := 14, ground := .data } (by simp) rfl rfl 94 rfl
                    have e95 := D.is { on := 15, ground := .data } (by simp) rfl rfl 95 rfl
                    obtain ⟨A8, n8, c8, e93, h8⟩ := s93
                    refine wk.does_fn (f := 25) (vs := #[.slice A8 n8 c8, .slice A6 n6 c6, .int .i64 k]) rfl (D.fn _) (by simp [e94, e93, e95]) (by go_simp) ?_
                    refine (mrg_calls k _ h8 (H6.out.below ((Below.refl _ _).drew.trans hb4)) (lst_ofL _ _) (lst_ofL _ _) (by have h1 := h8.1; have h2 := ofL_len (p m3) k.toNat; have := HN6.out; omega)).mono ?_
                    rintro e w8 ⟨A11, n11, c11, rfl, h11, hb7⟩
                    rw [HS2.out] at h11
                    exact ⟨_, rfl, hb7, A11, n11, c11, rfl, h11⟩
                case hdone =>
                  intro vals w4 hb4 hv
                  have h7 := hv 7 (by omega)
                  have h16 := hv 16 (by omega)
                  clear hv
                  simp only [List.drop_succ_cons, List.drop_zero, wk.setL, List.setIfInBounds_toArray, List.set_cons_zero, List.set_cons_succ, Nat.zero_add, Nat.reduceAdd]
                  generalize vals 0 = x0
                  generalize vals 1 = x1
                  generalize vals 2 = x2
                  generalize vals 3 = x3
                  generalize vals 4 = x4
                  generalize vals 5 = x5
                  generalize vals 6 = x6
                  generalize vals 7 = x7 at *
                  generalize vals 8 = x8
                  generalize vals 9 = x9
                  generalize vals 10 = x10
                  generalize vals 11 = x11
                  generalize vals 12 = x12
                  generalize vals 13 = x13
                  generalize vals 14 = x14
                  generalize vals 15 = x15
                  generalize vals 16 = x16 at *
                  obtain ⟨A11, n11, c11, rfl, hs7⟩ := h7
                  obtain ⟨A12, n12, c12, rfl, hs16⟩ := h16
                  have H7b := Lib.hid hs7
                  have H16 := Lib.hid hs16
                  have HB4 := Lib.hid (HBL.out.trans (((Below.refl _ _).drew.trans hb4).mono HBL.out.size))
                  clear hb4 hs7 hs16
                  go_wp2_with fail
                  go_roundg (4 - (m + 1))
                  case measure => have := HM.out; omega
                  case rel => exact ⟨m + 1, A11, n11, c11, A12, n12, c12, by have := HM.out; omega, rfl, rfl, by go_num, HB4.out, H7b.out, H16.out⟩
              · obtain rfl : 4 = m := by omega
                have h5 := H5.out
                rw [HONE.out] at h5
                have H5b := Lib.hid h5
                have h6 := H6.out
                rw [HTWO.out] at h6
                have H6b := Lib.hid h6
                clear h5 h6 H5 H6
                replace HAL := Lib.hid (HAL.out.below HBL.out)
                replace HPU := Lib.hid (HPU.out.below HBL.out)
                replace HTU := Lib.hid (HTU.out.below HBL.out)
                replace HB := Lib.hid (HBR.out.trans (HBL.out.mono HBR.out.size))
                go_wp2_with fail
                refine (san10_calls _).mono ?_
                rintro e w8 ⟨rfl, hb⟩
                replace HAL := Lib.hid (HAL.out.below hb)
                replace HPU := Lib.hid (HPU.out.below hb)
                replace HTU := Lib.hid (HTU.out.below hb)
                replace H5b := Lib.hid (H5b.out.below hb)
                replace H6b := Lib.hid (H6b.out.below hb)
                replace HB := Lib.hid (HB.out.trans (hb.mono HB.out.size))
                clear hb
                go_wp2_with fail
                refine (same_calls _ HAL.out HPU.out rfl).mono ?_
                rintro e w9 ⟨rfl, hb⟩
                replace HAL := Lib.hid (HAL.out.below hb)
                replace HPU := Lib.hid (HPU.out.below hb)
                replace HTU := Lib.hid (HTU.out.below hb)
                replace H5b := Lib.hid (H5b.out.below hb)
                replace H6b := Lib.hid (H6b.out.below hb)
                replace HB := Lib.hid (HB.out.trans (hb.mono HB.out.size))
                clear hb
                go_wp2_with fail
                refine (same_calls _ HAL.out HTU.out rfl).mono ?_
                rintro e w10 ⟨rfl, hb⟩
                replace HAL := Lib.hid (HAL.out.below hb)
                replace HPU := Lib.hid (HPU.out.below hb)
                replace HTU := Lib.hid (HTU.out.below hb)
                replace H5b := Lib.hid (H5b.out.below hb)
                replace H6b := Lib.hid (H6b.out.below hb)
                replace HB := Lib.hid (HB.out.trans (hb.mono HB.out.size))
                clear hb
                go_wp2_with fail
                refine (same_calls _ HAL.out H5b.out rfl).mono ?_
                rintro e w11 ⟨rfl, hb⟩
                replace HAL := Lib.hid (HAL.out.below hb)
                replace HPU := Lib.hid (HPU.out.below hb)
                replace HTU := Lib.hid (HTU.out.below hb)
                replace H5b := Lib.hid (H5b.out.below hb)
                replace H6b := Lib.hid (H6b.out.below hb)
                replace HB := Lib.hid (HB.out.trans (hb.mono HB.out.size))
                clear hb
                go_wp2_with fail
                refine (same_calls _ HAL.out H6b.out rfl).mono ?_
                rintro e w12 ⟨rfl, hb⟩
                replace HB := Lib.hid (HB.out.trans (hb.mono HB.out.size))
                clear hb
                go_wp2_with fail
                go_ret
                exact ⟨rfl, HB.out⟩

end Go.Proofs.Ytckipafciomklaa.bestMergesAnyParts
