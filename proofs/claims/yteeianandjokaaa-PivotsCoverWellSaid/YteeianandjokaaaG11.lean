/- Joined: Pm Pu Po. -/
import Derived.Test.YteeianandjokaaaG10
/- The reference: what fits, what is few, what is the same. -/
namespace Go.Proofs.Yteeianandjokaaa.pk

open Go.ChangeShapes Go.WideShapes Go.ChangeAt Go.RowKit

open Go.Proofs.Yteeianandjokaaa.pq Go.Proofs.Yteeianandjokaaa.cq Go.Proofs.Yteeianandjokaaa.vk Go.Proofs.Yteeianandjokaaa.bk Go.Proofs.Yteeianandjokaaa.wk Go.Proofs.Yteeianandjokaaa.uk

set_option linter.unusedVariables false
theorem samew {P : Program} {f : FuncId} {args : Array Value} {w : World} {e0 : Ending} (h : Calls P f args w fun e w' => e = e0 ∧ w' = w) : Calls P f args w fun e w' => e = e0 ∧ Below w.heap.size w w' :=
  h.mono fun e w' hh => ⟨hh.1, by rw [hh.2]; exact Below.refl _ _⟩
theorem drew_below {w : World} {q : Nat} : Below w.heap.size w (w.drewN q) := ⟨rfl, rfl, rfl, Nat.le_refl _, fun k hk => rfl⟩
set_option maxRecDepth 100000 in
theorem rmetric_calls (m : Int) (w : World) : Calls Try.prog 37 #[.int .i64 m] w fun e w' => e = .returned (.bool (isM m)) ∧ w' = w := by
  unfold isM
  by_cases h1 : 1 ≤ m
  · by_cases h3 : m ≤ 3
    · rw [decide_eq_true ⟨h1, h3⟩]
      go_enter Try.func37, Try.ntmps37
      go_wp2_with fail
      go_ret
      exact ⟨rfl, rfl⟩
    · rw [decide_eq_false (fun h => h3 h.2)]
      go_enter Try.func37, Try.ntmps37
      go_wp2_with fail
      go_ret
      exact ⟨rfl, rfl⟩
  · rw [decide_eq_false (fun h => h1 h.1)]
    go_enter Try.func37, Try.ntmps37
    go_wp2_with fail
    go_ret
    exact ⟨rfl, rfl⟩
def few1 (l : List Int) : Bool := decide (l.length ≤ 40)
def few (q : Int) (L : VV) : Bool := decide ((L.length : Int) ≤ q) && L.all few1
set_option maxRecDepth 100000 in
set_option maxHeartbeats 1000000 in
theorem rfew_calls {q : Int} {A : Option Addr} {n c : Nat} {L : VV} (w : World) (h : IsVV w A n c L) :
    Calls Try.prog 9 #[.slice A n c, .int .i64 q] w fun e w' => e = .returned (.bool (few q L)) ∧ w' = w := by
  have hm := h.2.2.1
  have hnc := h.2.1
  unfold few
  rw [h.1]
  have H := Lib.hid h
  clear h
  by_cases hq : (n : Int) ≤ q
  · rw [decide_eq_true hq, Bool.true_and]
    go_enter Try.func9, Try.ntmps9
    go_wp2_with fail
    go_loopg [5] n (fun gk x wr => ∃ k : Nat, k + gk = n ∧ x = .int .i64 (k : Int) ∧ wr = w ∧ (L.take k).all few1 = true)
    case atStart => exact ⟨0, by omega, rfl, rfl, by simp⟩
    case round =>
      obtain ⟨k, hk, rfl, rfl, hall⟩ := hrel
      have HK := Lib.hid hk
      have HALL := Lib.hid hall
      have hkn : k ≤ n := by omega
      clear hk hall
      by_cases hlt : k < n
      · obtain ⟨b, o, A', n', c', l, rfl, hb, hc, hI, hX⟩ := isVV_get H.out hlt
        have hlt0 : (k : Int) < (n : Int) := by omega
        have HTA := Lib.hid (take_all (p := few1) hX)
        have HMEM := Lib.hid (List.mem_of_getElem? hX)
        have HF1 : Hid (few1 l = decide (n' ≤ 40)) := by show _ = _; unfold few1; rw [hI.1]
        have hn' := hI.2.1
        have hm' := hI.2.2.1
        clear hI hX
        by_cases h40 : n' ≤ 40
        · have h40' : ¬ 40 < (n' : Int) := by omega
          go_wp2_with fail
          go_roundg (gk - 1)
          case measure => have := HK.out; omega
          case rel => exact ⟨k + 1, by have := HK.out; omega, by go_num, rfl, by rw [HTA.out, HALL.out, HF1.out, decide_eq_true h40]; rfl⟩
        · have h40' : 40 < (n' : Int) := by omega
          go_wp2_with fail
          go_ret
          exact ⟨by rw [all_no HMEM.out (by rw [HF1.out, decide_eq_false h40])]; rfl, rfl⟩
      · obtain rfl : k = n := by omega
        have ho := HALL.out
        rw [List.take_of_length_le (by have := H.out.1; omega)] at ho
        have HO := Lib.hid ho
        clear ho
        go_wp2_with fail
        go_ret
        exact ⟨by rw [HO.out]; rfl, rfl⟩
  · rw [decide_eq_false hq, Bool.false_and]
    go_enter Try.func9, Try.ntmps9
    go_wp2_with fail
    go_ret
    exact ⟨rfl, rfl⟩
def fok (d : Nat) (l : List Int) : Bool := vq.valid l && decide (l.length = d)
theorem fit_fok (most : Nat) (L : VV) : fit most L = (L.all (fok (L.headD []).length) && (decide (1 ≤ L.length) && decide (L.length ≤ most))) := by
  rw [Bool.eq_iff_iff, fit_iff]
  simp only [Bool.and_eq_true, decide_eq_true_eq, List.all_eq_true, fok, vq.valid_iff]
  exact ⟨fun ⟨a, b, c⟩ => ⟨fun v hv => ⟨(c v hv).2, (c v hv).1⟩, a, b⟩, fun ⟨c, a, b⟩ => ⟨a, b, fun v hv => ⟨(c v hv).2, (c v hv).1⟩⟩⟩
set_option maxRecDepth 100000 in
set_option maxHeartbeats 4000000 in
theorem rfit_calls {A : Option Addr} {n c : Nat} {L : VV} (w : World) (h : IsVV w A n c L) :
    Calls Try.prog 38 #[.slice A n c] w fun e w' => e = .returned (.bool (fit 4096 L)) ∧ Below w.heap.size w w' := by
  have hm := h.2.2.1
  have hnc := h.2.1
  rw [fit_fok, h.1]
  have H := Lib.hid h
  clear h
  go_enter Try.func38, Try.ntmps38
  go_wp2_with fail
  go_loopg [3] n (fun gk x wr => ∃ k : Nat, k + gk = n ∧ x = .int .i64 (k : Int) ∧ Below w.heap.size w wr ∧ (L.take k).all (fok (L.headD []).length) = true)
  case atStart => exact ⟨0, by omega, rfl, Below.refl _ _, by simp⟩
  case round =>
    obtain ⟨k, hk, rfl, hbel, hall⟩ := hrel
    have HK := Lib.hid hk
    have HALL := Lib.hid hall
    have HBEL := Lib.hid hbel
    have hkn : k ≤ n := by omega
    clear hk hall
    by_cases hlt : k < n
    · obtain ⟨b, o, A', n', c', l, rfl, hb, hc, hI, hX⟩ := isVV_get (isVV_below H.out hbel) hlt
      obtain ⟨b0, o0, A0, n0, c0, l0, e0, hb0, hc0, hI0, hX0⟩ := isVV_get (isVV_below H.out hbel) (k := 0) (by omega)
      cases e0
      rw [Nat.add_zero] at hc0
      have hl0 : (L.headD []).length = n0 := by
        cases L with
        | nil => simp at hX0
        | cons y l => simp at hX0; subst hX0; exact hI0.1
      have hlt0 : (k : Int) < (n : Int) := by omega
      have hlt1 : (0 : Int) < (n : Int) := by omega
      have hn1 : 1 ≤ n := by omega
      have HTA := Lib.hid (take_all (p := fok (L.headD []).length) hX)
      have HMEM := Lib.hid (List.mem_of_getElem? hX)
      have HF1 : Hid (fok (L.headD []).length l = (vq.valid l && decide (n' = n0))) := by show _ = _; unfold fok; rw [hl0, hI.1]
      have HV := Lib.hid (fun w' (hb : Below wr.heap.size wr w') => samew (rvalid_calls A' n' c' l w' (isI_below hI hb)))
      clear hI hX hI0 hX0 hl0 hbel
      cases hv : vq.valid l
      · rw [hv] at HV
        go_wp2_with fail
        refine wk.region_tailS 18 [.is (.slice (some ⟨b, o, none⟩) n c), .is (.int .i64 (k : Int)), .is (.pointer (some ⟨b, o + k, none⟩)), .is (.slice A' n' c'), .is (.bool false), .is (.bool true), .is (.bool true), .is undef, .is undef, .is undef, .is undef, .is undef, .is undef, .is undef, .is undef, .is undef, .is undef, .is (Value.bool true)] [some 10, some 11, some 12, some 13, some 14, some 15, some 16, some 17, some 18, some 19, some 20, some 21, some 22, some 23, some 24, some 25, some 26, some 27] (by kernel_rfl) (by kernel_rfl) (by kernel_rfl) (by kernel_rfl) [7, 8, 9, 10, 11, 12, 13, 14, 15, 16] (by kernel_rfl) (by intro p hp; simp only [List.mem_cons, List.not_mem_nil, or_false] at hp; rcases hp with rfl | rfl | rfl | rfl | rfl | rfl | rfl | rfl | rfl | rfl <;> rfl) (by kernel_rfl) (by kernel_rfl) ?hstep ?hdone
        case hstep =>
          intro i o ho hi hns E w4 hb4 D
          have hi2 : i = 0 ∨ i = 1 ∨ i = 2 ∨ i = 3 ∨ i = 4 ∨ i = 5 ∨ i = 6 ∨ i = 7 ∨ i = 8 ∨ i = 9 ∨ i = 10 ∨ i = 11 ∨ i = 12 ∨ i = 13 ∨ i = 14 ∨ i = 15 ∨ i = 16 ∨ i = 17 := by omega
          clear hi
          rcases hi2 with rfl | rfl | rfl | rfl | rfl | rfl | rfl | rfl | rfl | rfl | rfl | rfl | rfl | rfl | rfl | rfl | rfl | rfl
          ·
            have ho2 := (Array.getElem?_eq_some_iff.1 ho).2
            simp only [List.getElem_toArray, List.getElem_cons_zero] at ho2
            subst ho2
            clear ho
            have e0 := D.old 0 (by kernel_rfl)
            exact wk.does_move rfl (by rw [e0]; rfl)
          ·
            have ho2 := (Array.getElem?_eq_some_iff.1 ho).2
            simp only [List.getElem_toArray, List.getElem_cons_succ, List.getElem_cons_zero] at ho2
            subst ho2
            clear ho
            have e3 := D.old 3 (by kernel_rfl)
            exact wk.does_move rfl (by rw [e3]; rfl)
          ·
            have ho2 := (Array.getElem?_eq_some_iff.1 ho).2
            simp only [List.getElem_toArray, List.getElem_cons_succ, List.getElem_cons_zero] at ho2
            subst ho2
            clear ho
            have e10 := D.is { on := 0, ground := .data } (by simp) rfl rfl 10 rfl
            have e11 := D.is { on := 1, ground := .data } (by simp) rfl rfl 11 rfl
            exact wk.does_run (by simp only [execOp]; rw [show E (.tmp 10) = _ from e10, show E (.tmp 11) = _ from e11]; go_simp) rfl
          ·
            have ho2 := (Array.getElem?_eq_some_iff.1 ho).2
            simp only [List.getElem_toArray, List.getElem_cons_succ, List.getElem_cons_zero] at ho2
            subst ho2
            clear ho
            have e12 := D.is { on := 2, ground := .data } (by simp) rfl rfl 12 rfl
            exact wk.does_load1 rfl e12 ((((Below.refl _ _).drew.trans hb4).cell (p := ⟨b, o + k, none⟩) hb).trans hc) Try.underlying23 rfl rfl
          ·
            have ho2 := (Array.getElem?_eq_some_iff.1 ho).2
            simp only [List.getElem_toArray, List.getElem_cons_succ, List.getElem_cons_zero] at ho2
            subst ho2
            clear ho
            have e13 := D.is { on := 3, ground := .data } (by simp) rfl rfl 13 rfl
            refine wk.does_fn (f := 74) (vs := #[.slice A' n' c']) rfl (D.fn _) (by simp [e13]) (by go_simp) ?_
            refine (HV.out w4 ((Below.refl _ _).drew.trans hb4)).mono ?_
            rintro e w7 ⟨rfl, hb7⟩
            exact ⟨_, rfl, hb7, rfl⟩
          ·
            have ho2 := (Array.getElem?_eq_some_iff.1 ho).2
            simp only [List.getElem_toArray, List.getElem_cons_succ, List.getElem_cons_zero] at ho2
            subst ho2
            clear ho
            have e14 := D.is { on := 4, ground := .data } (by simp) rfl rfl 14 rfl
            exact wk.does_un rfl (by rw [show E (.tmp 14) = _ from e14]; go_simp) rfl
          ·
            have ho2 := (Array.getElem?_eq_some_iff.1 ho).2
            simp only [List.getElem_toArray, List.getElem_cons_succ, List.getElem_cons_zero] at ho2
            subst ho2
            clear ho
            have e15 := D.is { on := 5, ground := .data } (by simp) rfl rfl 15 rfl
            exact wk.does_move rfl e15
          · cases (show false = true from hns.symm.trans (by kernel_rfl))
          · cases (show false = true from hns.symm.trans (by kernel_rfl))
          · cases (show false = true from hns.symm.trans (by kernel_rfl))
          · cases (show false = true from hns.symm.trans (by kernel_rfl))
          · cases (show false = true from hns.symm.trans (by kernel_rfl))
          · cases (show false = true from hns.symm.trans (by kernel_rfl))
          · cases (show false = true from hns.symm.trans (by kernel_rfl))
          · cases (show false = true from hns.symm.trans (by kernel_rfl))
          · cases (show false = true from hns.symm.trans (by kernel_rfl))
          · cases (show false = true from hns.symm.trans (by kernel_rfl))
          ·
            have ho2 := (Array.getElem?_eq_some_iff.1 ho).2
            simp only [List.getElem_toArray, List.getElem_cons_succ, List.getElem_cons_zero] at ho2
            subst ho2
            clear ho
            have e16 := D.is { on := 6, ground := .data } (by simp) rfl rfl 16 rfl
            have e26 := D.is { on := 16, ground := .data } (by simp) rfl rfl 26 rfl
            exact wk.does_pick rfl e16 (D.con _)
        case hdone =>
          intro vals w4 hb4 hv
          have h17 := hv 17 (by omega)
          clear hv
          replace h17 : vals 17 = (Value.bool true) := h17
          simp only [List.drop_succ_cons, List.drop_zero, wpList, wk.setL, List.setIfInBounds_toArray, List.set_cons_zero, List.set_cons_succ, Nat.zero_add, Nat.reduceAdd, h17]
          generalize vals 0 = x0
          generalize vals 1 = x1
          generalize vals 2 = x2
          generalize vals 3 = x3
          generalize vals 4 = x4
          generalize vals 5 = x5
          generalize vals 6 = x6
          generalize vals 7 = x7
          generalize vals 8 = x8
          generalize vals 9 = x9
          generalize vals 10 = x10
          generalize vals 11 = x11
          generalize vals 12 = x12
          generalize vals 13 = x13
          generalize vals 14 = x14
          generalize vals 15 = x15
          generalize vals 16 = x16
          have hb5 : Below wr.heap.size wr w4 := (Below.refl _ _).drew.trans hb4
          have HB5 := Lib.hid (HBEL.out.trans (hb5.mono HBEL.out.size))
          clear hb4 hb5
          go_wp2_with fail
          go_ret
          exact ⟨by rw [all_no HMEM.out (by rw [HF1.out, hv]; rfl)]; rfl, HB5.out⟩
      · rw [hv] at HV
        obtain ⟨vb, hvb⟩ : ∃ vb, ((n' : Int) != (n0 : Int)) = vb := ⟨_, rfl⟩
        have HNE := Lib.hid hvb
        clear hvb
        go_wp2_with fail
        refine wk.region_tailS 18 [.is (.slice (some ⟨b, o, none⟩) n c), .is (.int .i64 (k : Int)), .is (.pointer (some ⟨b, o + k, none⟩)), .is (.slice A' n' c'), .is (.bool true), .is (.bool false), .is (.bool false), .is (.slice (some ⟨b, o, none⟩) n c), .is (.int .i64 (k : Int)), .is (.pointer (some ⟨b, o + k, none⟩)), .is (.slice A' n' c'), .is (.int .i64 (n' : Int)), .is (.slice (some ⟨b, o, none⟩) n c), .is (.pointer (some ⟨b, o, none⟩)), .is (.slice A0 n0 c0), .is (.int .i64 (n0 : Int)), .is (.bool vb), .is (.bool vb)] [some 10, some 11, some 12, some 13, some 14, some 15, some 16, some 17, some 18, some 19, some 20, some 21, some 22, some 23, some 24, some 25, some 26, some 27] (by kernel_rfl) (by kernel_rfl) (by kernel_rfl) (by kernel_rfl) [] (by kernel_rfl) (by intro p hp; cases hp) (by kernel_rfl) (by kernel_rfl) ?hstep ?hdone
        case hstep =>
          intro i o ho hi hns E w4 hb4 D
          have hi2 : i = 0 ∨ i = 1 ∨ i = 2 ∨ i = 3 ∨ i = 4 ∨ i = 5 ∨ i = 6 ∨ i = 7 ∨ i = 8 ∨ i = 9 ∨ i = 10 ∨ i = 11 ∨ i = 12 ∨ i = 13 ∨ i = 14 ∨ i = 15 ∨ i = 16 ∨ i = 17 := by omega
          clear hi
          rcases hi2 with rfl | rfl | rfl | rfl | rfl | rfl | rfl | rfl | rfl | rfl | rfl | rfl | rfl | rfl | rfl | rfl | rfl | rfl
          ·
            have ho2 := (Array.getElem?_eq_some_iff.1 ho).2
            simp only [List.getElem_toArray, List.getElem_cons_zero] at ho2
            subst ho2
            clear ho
            have e0 := D.old 0 (by kernel_rfl)
            exact wk.does_move rfl (by rw [e0]; rfl)
          ·
            have ho2 := (Array.getElem?_eq_some_iff.1 ho).2
            simp only [List.getElem_toArray, List.getElem_cons_succ, List.getElem_cons_zero] at ho2
            subst ho2
            clear ho
            have e3 := D.old 3 (by kernel_rfl)
            exact wk.does_move rfl (by rw [e3]; rfl)
          ·
            have ho2 := (Array.getElem?_eq_some_iff.1 ho).2
            simp only [List.getElem_toArray, List.getElem_cons_succ, List.getElem_cons_zero] at ho2
            subst ho2
            clear ho
            have e10 := D.is { on := 0, ground := .data } (by simp) rfl rfl 10 rfl
            have e11 := D.is { on := 1, ground := .data } (by simp) rfl rfl 11 rfl
            exact wk.does_run (by simp only [execOp]; rw [show E (.tmp 10) = _ from e10, show E (.tmp 11) = _ from e11]; go_simp) rfl
          ·
            have ho2 := (Array.getElem?_eq_some_iff.1 ho).2
            simp only [List.getElem_toArray, List.getElem_cons_succ, List.getElem_cons_zero] at ho2
            subst ho2
            clear ho
            have e12 := D.is { on := 2, ground := .data } (by simp) rfl rfl 12 rfl
            exact wk.does_load1 rfl e12 ((((Below.refl _ _).drew.trans hb4).cell (p := ⟨b, o + k, none⟩) hb).trans hc) Try.underlying23 rfl rfl
          ·
            have ho2 := (Array.getElem?_eq_some_iff.1 ho).2
            simp only [List.getElem_toArray, List.getElem_cons_succ, List.getElem_cons_zero] at ho2
            subst ho2
            clear ho
            have e13 := D.is { on := 3, ground := .data } (by simp) rfl rfl 13 rfl
            refine wk.does_fn (f := 74) (vs := #[.slice A' n' c']) rfl (D.fn _) (by simp [e13]) (by go_simp) ?_
            refine (HV.out w4 ((Below.refl _ _).drew.trans hb4)).mono ?_
            rintro e w7 ⟨rfl, hb7⟩
            exact ⟨_, rfl, hb7, rfl⟩
          ·
            have ho2 := (Array.getElem?_eq_some_iff.1 ho).2
            simp only [List.getElem_toArray, List.getElem_cons_succ, List.getElem_cons_zero] at ho2
            subst ho2
            clear ho
            have e14 := D.is { on := 4, ground := .data } (by simp) rfl rfl 14 rfl
            exact wk.does_un rfl (by rw [show E (.tmp 14) = _ from e14]; go_simp) rfl
          ·
            have ho2 := (Array.getElem?_eq_some_iff.1 ho).2
            simp only [List.getElem_toArray, List.getElem_cons_succ, List.getElem_cons_zero] at ho2
            subst ho2
            clear ho
            have e15 := D.is { on := 5, ground := .data } (by simp) rfl rfl 15 rfl
            exact wk.does_move rfl e15
          ·
            have ho2 := (Array.getElem?_eq_some_iff.1 ho).2
            simp only [List.getElem_toArray, List.getElem_cons_succ, List.getElem_cons_zero] at ho2
            subst ho2
            clear ho
            have e0 := D.old 0 (by kernel_rfl)
            exact wk.does_move rfl (by rw [e0]; rfl)
          ·
            have ho2 := (Array.getElem?_eq_some_iff.1 ho).2
            simp only [List.getElem_toArray, List.getElem_cons_succ, List.getElem_cons_zero] at ho2
            subst ho2
            clear ho
            have e3 := D.old 3 (by kernel_rfl)
            exact wk.does_move rfl (by rw [e3]; rfl)
          ·
            have ho2 := (Array.getElem?_eq_some_iff.1 ho).2
            simp only [List.getElem_toArray, List.getElem_cons_succ, List.getElem_cons_zero] at ho2
            subst ho2
            clear ho
            have e17 := D.is { on := 7, ground := .data } (by simp) rfl rfl 17 rfl
            have e18 := D.is { on := 8, ground := .data } (by simp) rfl rfl 18 rfl
            exact wk.does_run (by simp only [execOp]; rw [show E (.tmp 17) = _ from e17, show E (.tmp 18) = _ from e18]; go_simp) rfl
          ·
            have ho2 := (Array.getElem?_eq_some_iff.1 ho).2
            simp only [List.getElem_toArray, List.getElem_cons_succ, List.getElem_cons_zero] at ho2
            subst ho2
            clear ho
            have e19 := D.is { on := 9, ground := .data } (by simp) rfl rfl 19 rfl
            exact wk.does_load1 rfl e19 ((((Below.refl _ _).drew.trans hb4).cell (p := ⟨b, o + k, none⟩) hb).trans hc) Try.underlying23 rfl rfl
          ·
            have ho2 := (Array.getElem?_eq_some_iff.1 ho).2
            simp only [List.getElem_toArray, List.getElem_cons_succ, List.getElem_cons_zero] at ho2
            subst ho2
            clear ho
            have e20 := D.is { on := 10, ground := .data } (by simp) rfl rfl 20 rfl
            exact wk.does_run (by simp only [execOp, resolve, invoke, builtin, Sem.run_bind, Sem.run_pure, Result.andThen_ok, List.map_toArray, List.map_cons, List.map_nil]; rw [show E (.tmp 20) = _ from e20]; go_simp) rfl
          ·
            have ho2 := (Array.getElem?_eq_some_iff.1 ho).2
            simp only [List.getElem_toArray, List.getElem_cons_succ, List.getElem_cons_zero] at ho2
            subst ho2
            clear ho
            have e0 := D.old 0 (by kernel_rfl)
            exact wk.does_move rfl (by rw [e0]; rfl)
          ·
            have ho2 := (Array.getElem?_eq_some_iff.1 ho).2
            simp only [List.getElem_toArray, List.getElem_cons_succ, List.getElem_cons_zero] at ho2
            subst ho2
            clear ho
            have e22 := D.is { on := 12, ground := .data } (by simp) rfl rfl 22 rfl
            exact wk.does_run (by simp only [execOp]; rw [show E (.tmp 22) = _ from e22, show E (.const (.int .i64 0)) = .int .i64 0 from D.con _]; go_simp; try (intro h0; omega)) rfl
          ·
            have ho2 := (Array.getElem?_eq_some_iff.1 ho).2
            simp only [List.getElem_toArray, List.getElem_cons_succ, List.getElem_cons_zero] at ho2
            subst ho2
            clear ho
            have e23 := D.is { on := 13, ground := .data } (by simp) rfl rfl 23 rfl
            exact wk.does_load1 rfl e23 ((((Below.refl _ _).drew.trans hb4).cell (p := ⟨b, o, none⟩) hb0).trans hc0) Try.underlying23 rfl rfl
          ·
            have ho2 := (Array.getElem?_eq_some_iff.1 ho).2
            simp only [List.getElem_toArray, List.getElem_cons_succ, List.getElem_cons_zero] at ho2
            subst ho2
            clear ho
            have e24 := D.is { on := 14, ground := .data } (by simp) rfl rfl 24 rfl
            exact wk.does_run (by simp only [execOp, resolve, invoke, builtin, Sem.run_bind, Sem.run_pure, Result.andThen_ok, List.map_toArray, List.map_cons, List.map_nil]; rw [show E (.tmp 24) = _ from e24]; go_simp) rfl
          ·
            have ho2 := (Array.getElem?_eq_some_iff.1 ho).2
            simp only [List.getElem_toArray, List.getElem_cons_succ, List.getElem_cons_zero] at ho2
            subst ho2
            clear ho
            have e21 := D.is { on := 11, ground := .data } (by simp) rfl rfl 21 rfl
            have e25 := D.is { on := 15, ground := .data } (by simp) rfl rfl 25 rfl
            exact wk.does_run (by simp only [execOp]; rw [show E (.tmp 21) = _ from e21, show E (.tmp 25) = _ from e25]; go_simp; try rw [HNE.out]) rfl
          ·
            have ho2 := (Array.getElem?_eq_some_iff.1 ho).2
            simp only [List.getElem_toArray, List.getElem_cons_succ, List.getElem_cons_zero] at ho2
            subst ho2
            clear ho
            have e16 := D.is { on := 6, ground := .data } (by simp) rfl rfl 16 rfl
            have e26 := D.is { on := 16, ground := .data } (by simp) rfl rfl 26 rfl
            exact wk.does_pick rfl e16 e26
        case hdone =>
          intro vals w4 hb4 hv
          have h17 := hv 17 (by omega)
          clear hv
          replace h17 : vals 17 = (.bool vb) := h17
          simp only [List.drop_succ_cons, List.drop_zero, wpList, wk.setL, List.setIfInBounds_toArray, List.set_cons_zero, List.set_cons_succ, Nat.zero_add, Nat.reduceAdd, h17]
          generalize vals 0 = x0
          generalize vals 1 = x1
          generalize vals 2 = x2
          generalize vals 3 = x3
          generalize vals 4 = x4
          generalize vals 5 = x5
          generalize vals 6 = x6
          generalize vals 7 = x7
          generalize vals 8 = x8
          generalize vals 9 = x9
          generalize vals 10 = x10
          generalize vals 11 = x11
          generalize vals 12 = x12
          generalize vals 13 = x13
          generalize vals 14 = x14
          generalize vals 15 = x15
          generalize vals 16 = x16
          have hb5 : Below wr.heap.size wr w4 := (Below.refl _ _).drew.trans hb4
          have HB5 := Lib.hid (HBEL.out.trans (hb5.mono HBEL.out.size))
          clear hb4 hb5
          cases vb
          · have hnn : n' = n0 := by have := HNE.out; simp at this; omega
            go_wp2_with fail
            go_roundg (gk - 1)
            case measure => have := HK.out; omega
            case rel => exact ⟨k + 1, by have := HK.out; omega, by go_num, HB5.out, by rw [HTA.out, HALL.out, HF1.out, hv, decide_eq_true hnn]; rfl⟩
          · have hnn : ¬ n' = n0 := by have := HNE.out; simp at this; omega
            go_wp2_with fail
            go_ret
            exact ⟨by rw [all_no HMEM.out (by rw [HF1.out, hv, decide_eq_false hnn]; rfl)]; rfl, HB5.out⟩
    · obtain rfl : k = n := by omega
      have ho := HALL.out
      rw [List.take_of_length_le (by have := H.out.1; omega)] at ho
      have HO := Lib.hid ho
      clear ho hbel
      by_cases h1 : 1 ≤ k
      · have h1' : (1 : Int) ≤ (k : Int) := by omega
        go_wp2_with fail
        go_ret
        exact ⟨by rw [HO.out, decide_eq_true h1]; show _ = Ending.returned (.bool (true && (true && decide (k ≤ 4096)))); congr 2; simp; try omega, HBEL.out⟩
      · have h1' : ¬ (1 : Int) ≤ (k : Int) := by omega
        go_wp2_with fail
        go_ret
        exact ⟨by first | rfl | (rw [HO.out, decide_eq_false h1]; rfl), HBEL.out⟩
theorem fit8_eq (P : VV) : fit 8 P = (fit 4096 P && decide (P.length ≤ 8)) := by
  rw [Bool.eq_iff_iff]
  simp only [Bool.and_eq_true, decide_eq_true_eq, fit_iff]
  exact ⟨fun ⟨a, b, c⟩ => ⟨⟨a, by omega, c⟩, b⟩, fun ⟨⟨a, _, c⟩, b⟩ => ⟨a, b, c⟩⟩
set_option maxRecDepth 100000 in
theorem rpivots_calls {m : Int} {A : Option Addr} {n c : Nat} {P : VV} (w : World) (h : IsVV w A n c P) :
    Calls Try.prog 52 #[.int .i64 m, .slice A n c] w fun e w' => e = .returned (.bool (isM m && fit 8 P)) ∧ Below w.heap.size w w' := by
  have HM := Lib.hid (rmetric_calls m w)
  have HF := Lib.hid (rfit_calls w h)
  have hm := h.2.2.1
  have hnc := h.2.1
  rw [fit8_eq, h.1]
  clear h
  cases h1 : isM m
  · rw [h1] at HM
    rw [Bool.false_and]
    go_enter Try.func52, Try.ntmps52
    go_wp2_with fail
    refine HM.out.mono ?_
    rintro e w' ⟨rfl, rfl⟩
    go_wp2_with fail
    go_ret
    exact ⟨rfl, Below.refl _ _⟩
  · rw [h1] at HM
    rw [Bool.true_and]
    cases h2 : fit 4096 P
    · rw [h2] at HF
      rw [Bool.false_and]
      go_enter Try.func52, Try.ntmps52
      go_wp2_with fail
      refine HM.out.mono ?_
      rintro e w' ⟨rfl, rfl⟩
      go_wp2_with fail
      refine HF.out.mono ?_
      rintro e w2 ⟨rfl, hb⟩
      have HB := Lib.hid hb
      clear hb
      go_wp2_with fail
      go_ret
      exact ⟨rfl, HB.out⟩
    · rw [h2] at HF
      rw [Bool.true_and]
      go_enter Try.func52, Try.ntmps52
      go_wp2_with fail
      refine HM.out.mono ?_
      rintro e w' ⟨rfl, rfl⟩
      go_wp2_with fail
      refine HF.out.mono ?_
      rintro e w2 ⟨rfl, hb⟩
      have HB := Lib.hid hb
      clear hb
      by_cases h8 : n ≤ 8
      · have h8' : (n : Int) ≤ 8 := by omega
        go_wp2_with fail
        go_ret
        exact ⟨by rw [decide_eq_true h8]; first | rfl | simp, HB.out⟩
      · have h8' : ¬ (n : Int) ≤ 8 := by omega
        go_wp2_with fail
        go_ret
        exact ⟨by rw [decide_eq_false h8]; first | rfl | (simp; omega), HB.out⟩
theorem haveK_eq (m : Int) (P L : VV) : haveK m P L = ((isM m && fit 8 P) && (fit 4096 L && decide ((L.headD []).length = (P.headD []).length))) := by
  rw [Bool.eq_iff_iff]
  simp only [haveK, Bool.and_eq_true, decide_eq_true_eq]
  constructor
  · rintro ⟨h1, h2, h3, h4⟩
    exact ⟨⟨h1, h2⟩, h3, ((vq.alike_iff.1 h4).1).symm⟩
  · rintro ⟨⟨h1, h2⟩, h3, h4⟩
    exact ⟨h1, h2, h3, vq.alike_iff.2 ⟨h4.symm, ((fit_of h2).head).2, ((fit_of h3).head).2⟩⟩
set_option maxRecDepth 100000 in
set_option maxHeartbeats 4000000 in
theorem rboth_calls {m : Int} {A A' : Option Addr} {n c n' c' : Nat} {P L : VV} (w : World) (h : IsVV w A n c P) (h' : IsVV w A' n' c' L) :
    Calls Try.prog 34 #[.int .i64 m, .slice A n c, .slice A' n' c'] w fun e w' => e = .returned (.bool (haveK m P L)) ∧ Below w.heap.size w w' := by
  have HP := Lib.hid (fun w' (hb : Below w.heap.size w w') => rpivots_calls (m := m) w' (isVV_below h hb))
  have HL := Lib.hid (fun w' (hb : Below w.heap.size w w') => rfit_calls w' (isVV_below h' hb))
  have hmm := h.2.2.1
  have hnc := h.2.1
  have hmm' := h'.2.2.1
  have hnc' := h'.2.1
  have HPF : Hid ((isM m && fit 8 P) = true → 1 ≤ n) := fun hh => by have := (fit_of (Bool.and_eq_true_iff.1 hh).2).n1; have := h.1; omega
  have HLF : Hid (fit 4096 L = true → 1 ≤ n') := fun hh => by have := (fit_of hh).n1; have := h'.1; omega
  rw [haveK_eq]
  have HH := Lib.hid h
  have HH' := Lib.hid h'
  clear h h'
  cases h2 : (isM m && fit 8 P)
  · rw [h2] at HP
    rw [Bool.false_and]
    go_enter Try.func34, Try.ntmps34
    go_wp2_with fail
    refine wk.region_tailS 19 [.is (.int .i64 m), .is (.slice A n c), .is (.bool false), .is (.bool false), .is undef, .is undef, .is (Value.bool false), .is (.bool false), .is undef, .is undef, .is undef, .is undef, .is undef, .is undef, .is undef, .is undef, .is undef, .is (Value.bool false), .is (.bool false)] [some 7, some 8, some 9, some 10, some 11, some 12, some 13, some 14, some 15, some 16, some 17, some 18, some 19, some 20, some 21, some 22, some 23, some 24, some 6] (by kernel_rfl) (by kernel_rfl) (by kernel_rfl) (by kernel_rfl) [4, 5, 8, 9, 10, 11, 12, 13, 14, 15, 16] (by kernel_rfl) (by intro p hp; simp only [List.mem_cons, List.not_mem_nil, or_false] at hp; rcases hp with rfl | rfl | rfl | rfl | rfl | rfl | rfl | rfl | rfl | rfl | rfl <;> rfl) (by kernel_rfl) (by kernel_rfl) ?hstep ?hdone
    case hstep =>
      intro i o ho hi hns E w4 hb4 D
      have hi2 : i = 0 ∨ i = 1 ∨ i = 2 ∨ i = 3 ∨ i = 4 ∨ i = 5 ∨ i = 6 ∨ i = 7 ∨ i = 8 ∨ i = 9 ∨ i = 10 ∨ i = 11 ∨ i = 12 ∨ i = 13 ∨ i = 14 ∨ i = 15 ∨ i = 16 ∨ i = 17 ∨ i = 18 := by omega
      clear hi
      rcases hi2 with rfl | rfl | rfl | rfl | rfl | rfl | rfl | rfl | rfl | rfl | rfl | rfl | rfl | rfl | rfl | rfl | rfl | rfl | rfl
      ·
        have ho2 := (Array.getElem?_eq_some_iff.1 ho).2
        simp only [List.getElem_toArray, List.getElem_cons_zero] at ho2
        subst ho2
        clear ho
        have e0 := D.old 0 (by kernel_rfl)
        exact wk.does_move rfl (by rw [e0]; rfl)
      ·
        have ho2 := (Array.getElem?_eq_some_iff.1 ho).2
        simp only [List.getElem_toArray, List.getElem_cons_succ, List.getElem_cons_zero] at ho2
        subst ho2
        clear ho
        have e1 := D.old 1 (by kernel_rfl)
        exact wk.does_move rfl (by rw [e1]; rfl)
      ·
        have ho2 := (Array.getElem?_eq_some_iff.1 ho).2
        simp only [List.getElem_toArray, List.getElem_cons_succ, List.getElem_cons_zero] at ho2
        subst ho2
        clear ho
        have e7 := D.is { on := 0, ground := .data } (by simp) rfl rfl 7 rfl
        have e8 := D.is { on := 1, ground := .data } (by simp) rfl rfl 8 rfl
        refine wk.does_fn (f := 52) (vs := #[.int .i64 m, .slice A n c]) rfl (D.fn _) (by simp [e7, e8]) (by go_simp) ?_
        refine (HP.out w4 ((Below.refl _ _).drew.trans hb4)).mono ?_
        rintro e w7 ⟨rfl, hb7⟩
        exact ⟨_, rfl, hb7, rfl⟩
      ·
        have ho2 := (Array.getElem?_eq_some_iff.1 ho).2
        simp only [List.getElem_toArray, List.getElem_cons_succ, List.getElem_cons_zero] at ho2
        subst ho2
        clear ho
        have e9 := D.is { on := 2, ground := .data } (by simp) rfl rfl 9 rfl
        exact wk.does_move rfl e9
      · cases (show false = true from hns.symm.trans (by kernel_rfl))
      · cases (show false = true from hns.symm.trans (by kernel_rfl))
      ·
        have ho2 := (Array.getElem?_eq_some_iff.1 ho).2
        simp only [List.getElem_toArray, List.getElem_cons_succ, List.getElem_cons_zero] at ho2
        subst ho2
        clear ho
        have e10 := D.is { on := 3, ground := .data } (by simp) rfl rfl 10 rfl
        have e12 := D.is { on := 5, ground := .data } (by simp) rfl rfl 12 rfl
        exact wk.does_pick rfl e10 (D.con _)
      ·
        have ho2 := (Array.getElem?_eq_some_iff.1 ho).2
        simp only [List.getElem_toArray, List.getElem_cons_succ, List.getElem_cons_zero] at ho2
        subst ho2
        clear ho
        have e13 := D.is { on := 6, ground := .data } (by simp) rfl rfl 13 rfl
        exact wk.does_move rfl e13
      · cases (show false = true from hns.symm.trans (by kernel_rfl))
      · cases (show false = true from hns.symm.trans (by kernel_rfl))
      · cases (show false = true from hns.symm.trans (by kernel_rfl))
      · cases (show false = true from hns.symm.trans (by kernel_rfl))
      · cases (show false = true from hns.symm.trans (by kernel_rfl))
      · cases (show false = true from hns.symm.trans (by kernel_rfl))
      · cases (show false = true from hns.symm.trans (by kernel_rfl))
      · cases (show false = true from hns.symm.trans (by kernel_rfl))
      · cases (show false = true from hns.symm.trans (by kernel_rfl))
      ·
        have ho2 := (Array.getElem?_eq_some_iff.1 ho).2
        simp only [List.getElem_toArray, List.getElem_cons_succ, List.getElem_cons_zero] at ho2
        subst ho2
        clear ho
        have e14 := D.is { on := 7, ground := .data } (by simp) rfl rfl 14 rfl
        have e23 := D.is { on := 16, ground := .data } (by simp) rfl rfl 23 rfl
        exact wk.does_pick rfl e14 (D.con _)
      ·
        have ho2 := (Array.getElem?_eq_some_iff.1 ho).2
        simp only [List.getElem_toArray, List.getElem_cons_succ, List.getElem_cons_zero] at ho2
        subst ho2
        clear ho
        have e24 := D.is { on := 17, ground := .data } (by simp) rfl rfl 24 rfl
        exact wk.does_assign rfl e24
    case hdone =>
      intro vals w4 hb4 hv
      have h18 := hv 18 (by omega)
      clear hv
      replace h18 : vals 18 = (.bool false) := h18
      simp only [List.drop_succ_cons, List.drop_zero, wpList, wk.setL, List.setIfInBounds_toArray, List.set_cons_zero, List.set_cons_succ, Nat.zero_add, Nat.reduceAdd, h18]
      generalize vals 0 = x0
      generalize vals 1 = x1
      generalize vals 2 = x2
      generalize vals 3 = x3
      generalize vals 4 = x4
      generalize vals 5 = x5
      generalize vals 6 = x6
      generalize vals 7 = x7
      generalize vals 8 = x8
      generalize vals 9 = x9
      generalize vals 10 = x10
      generalize vals 11 = x11
      generalize vals 12 = x12
      generalize vals 13 = x13
      generalize vals 14 = x14
      generalize vals 15 = x15
      generalize vals 16 = x16
      generalize vals 17 = x17
      have hb : Below w.heap.size w w4 := (Below.refl _ _).drew.trans hb4
      clear hb4
      go_wp2_with fail
      go_ret
      exact ⟨rfl, hb⟩
  · have hn1 := HPF.out h2
    rw [h2] at HP
    rw [Bool.true_and]
    cases h3 : fit 4096 L
    · rw [h3] at HL
      rw [Bool.false_and]
      go_enter Try.func34, Try.ntmps34
      go_wp2_with fail
      refine wk.region_tailS 19 [.is (.int .i64 m), .is (.slice A n c), .is (.bool true), .is (.bool true), .is (.slice A' n' c'), .is (.bool false), .is (.bool false), .is (.bool false), .is undef, .is undef, .is undef, .is undef, .is undef, .is undef, .is undef, .is undef, .is undef, .is (Value.bool false), .is (.bool false)] [some 7, some 8, some 9, some 10, some 11, some 12, some 13, some 14, some 15, some 16, some 17, some 18, some 19, some 20, some 21, some 22, some 23, some 24, some 6] (by kernel_rfl) (by kernel_rfl) (by kernel_rfl) (by kernel_rfl) [8, 9, 10, 11, 12, 13, 14, 15, 16] (by kernel_rfl) (by intro p hp; simp only [List.mem_cons, List.not_mem_nil, or_false] at hp; rcases hp with rfl | rfl | rfl | rfl | rfl | rfl | rfl | rfl | rfl <;> rfl) (by kernel_rfl) (by kernel_rfl) ?hstep ?hdone
      case hstep =>
        intro i o ho hi hns E w4 hb4 D
        have hi2 : i = 0 ∨ i = 1 ∨ i = 2 ∨ i = 3 ∨ i = 4 ∨ i = 5 ∨ i = 6 ∨ i = 7 ∨ i = 8 ∨ i = 9 ∨ i = 10 ∨ i = 11 ∨ i = 12 ∨ i = 13 ∨ i = 14 ∨ i = 15 ∨ i = 16 ∨ i = 17 ∨ i = 18 := by omega
        clear hi
        rcases hi2 with rfl | rfl | rfl | rfl | rfl | rfl | rfl | rfl | rfl | rfl | rfl | rfl | rfl | rfl | rfl | rfl | rfl | rfl | rfl
        ·
          have ho2 := (Array.getElem?_eq_some_iff.1 ho).2
          simp only [List.getElem_toArray, List.getElem_cons_zero] at ho2
          subst ho2
          clear ho
          have e0 := D.old 0 (by kernel_rfl)
          exact wk.does_move rfl (by rw [e0]; rfl)
        ·
          have ho2 := (Array.getElem?_eq_some_iff.1 ho).2
          simp only [List.getElem_toArray, List.getElem_cons_succ, List.getElem_cons_zero] at ho2
          subst ho2
          clear ho
          have e1 := D.old 1 (by kernel_rfl)
          exact wk.does_move rfl (by rw [e1]; rfl)
        ·
          have ho2 := (Array.getElem?_eq_some_iff.1 ho).2
          simp only [List.getElem_toArray, List.getElem_cons_succ, List.getElem_cons_zero] at ho2
          subst ho2
          clear ho
          have e7 := D.is { on := 0, ground := .data } (by simp) rfl rfl 7 rfl
          have e8 := D.is { on := 1, ground := .data } (by simp) rfl rfl 8 rfl
          refine wk.does_fn (f := 52) (vs := #[.int .i64 m, .slice A n c]) rfl (D.fn _) (by simp [e7, e8]) (by go_simp) ?_
          refine (HP.out w4 ((Below.refl _ _).drew.trans hb4)).mono ?_
          rintro e w7 ⟨rfl, hb7⟩
          exact ⟨_, rfl, hb7, rfl⟩
        ·
          have ho2 := (Array.getElem?_eq_some_iff.1 ho).2
          simp only [List.getElem_toArray, List.getElem_cons_succ, List.getElem_cons_zero] at ho2
          subst ho2
          clear ho
          have e9 := D.is { on := 2, ground := .data } (by simp) rfl rfl 9 rfl
          exact wk.does_move rfl e9
        ·
          have ho2 := (Array.getElem?_eq_some_iff.1 ho).2
          simp only [List.getElem_toArray, List.getElem_cons_succ, List.getElem_cons_zero] at ho2
          subst ho2
          clear ho
          have e2 := D.old 2 (by kernel_rfl)
          exact wk.does_move rfl (by rw [e2]; rfl)
        ·
          have ho2 := (Array.getElem?_eq_some_iff.1 ho).2
          simp only [List.getElem_toArray, List.getElem_cons_succ, List.getElem_cons_zero] at ho2
          subst ho2
          clear ho
          have e11 := D.is { on := 4, ground := .data } (by simp) rfl rfl 11 rfl
          refine wk.does_fn (f := 38) (vs := #[.slice A' n' c']) rfl (D.fn _) (by simp [e11]) (by go_simp) ?_
          refine (HL.out w4 ((Below.refl _ _).drew.trans hb4)).mono ?_
          rintro e w7 ⟨rfl, hb7⟩
          exact ⟨_, rfl, hb7, rfl⟩
        ·
          have ho2 := (Array.getElem?_eq_some_iff.1 ho).2
          simp only [List.getElem_toArray, List.getElem_cons_succ, List.getElem_cons_zero] at ho2
          subst ho2
          clear ho
          have e10 := D.is { on := 3, ground := .data } (by simp) rfl rfl 10 rfl
          have e12 := D.is { on := 5, ground := .data } (by simp) rfl rfl 12 rfl
          exact wk.does_pick rfl e10 e12
        ·
          have ho2 := (Array.getElem?_eq_some_iff.1 ho).2
          simp only [List.getElem_toArray, List.getElem_cons_succ, List.getElem_cons_zero] at ho2
          subst ho2
          clear ho
          have e13 := D.is { on := 6, ground := .data } (by simp) rfl rfl 13 rfl
          exact wk.does_move rfl e13
        · cases (show false = true from hns.symm.trans (by kernel_rfl))
        · cases (show false = true from hns.symm.trans (by kernel_rfl))
        · cases (show false = true from hns.symm.trans (by kernel_rfl))
        · cases (show false = true from hns.symm.trans (by kernel_rfl))
        · cases (show false = true from hns.symm.trans (by kernel_rfl))
        · cases (show false = true from hns.symm.trans (by kernel_rfl))
        · cases (show false = true from hns.symm.trans (by kernel_rfl))
        · cases (show false = true from hns.symm.trans (by kernel_rfl))
        · cases (show false = true from hns.symm.trans (by kernel_rfl))
        ·
          have ho2 := (Array.getElem?_eq_some_iff.1 ho).2
          simp only [List.getElem_toArray, List.getElem_cons_succ, List.getElem_cons_zero] at ho2
          subst ho2
          clear ho
          have e14 := D.is { on := 7, ground := .data } (by simp) rfl rfl 14 rfl
          have e23 := D.is { on := 16, ground := .data } (by simp) rfl rfl 23 rfl
          exact wk.does_pick rfl e14 (D.con _)
        ·
          have ho2 := (Array.getElem?_eq_some_iff.1 ho).2
          simp only [List.getElem_toArray, List.getElem_cons_succ, List.getElem_cons_zero] at ho2
          subst ho2
          clear ho
          have e24 := D.is { on := 17, ground := .data } (by simp) rfl rfl 24 rfl
          exact wk.does_assign rfl e24
      case hdone =>
        intro vals w4 hb4 hv
        have h18 := hv 18 (by omega)
        clear hv
        replace h18 : vals 18 = (.bool false) := h18
        simp only [List.drop_succ_cons, List.drop_zero, wpList, wk.setL, List.setIfInBounds_toArray, List.set_cons_zero, List.set_cons_succ, Nat.zero_add, Nat.reduceAdd, h18]
        generalize vals 0 = x0
        generalize vals 1 = x1
        generalize vals 2 = x2
        generalize vals 3 = x3
        generalize vals 4 = x4
        generalize vals 5 = x5
        generalize vals 6 = x6
        generalize vals 7 = x7
        generalize vals 8 = x8
        generalize vals 9 = x9
        generalize vals 10 = x10
        generalize vals 11 = x11
        generalize vals 12 = x12
        generalize vals 13 = x13
        generalize vals 14 = x14
        generalize vals 15 = x15
        generalize vals 16 = x16
        generalize vals 17 = x17
        have hb : Below w.heap.size w w4 := (Below.refl _ _).drew.trans hb4
        clear hb4
        go_wp2_with fail
        go_ret
        exact ⟨rfl, hb⟩
    · have hn1' := HLF.out h3
      rw [h3] at HL
      rw [Bool.true_and]
      obtain ⟨b, o, A1, n1, c1, l1, rfl, hbl, hc, hI1, hX1⟩ := isVV_get HH.out (k := 0) (by omega)
      obtain ⟨b2, o2, A2, n2, c2, l2, rfl, hbl2, hc2, hI2, hX2⟩ := isVV_get HH'.out (k := 0) (by omega)
      rw [Nat.add_zero] at hc hc2
      have e1 : P.headD [] = l1 := by cases P with
        | nil => simp at hX1
        | cons y l => simpa using hX1
      have e2 : L.headD [] = l2 := by cases L with
        | nil => simp at hX2
        | cons y l => simpa using hX2
      rw [e1, e2, hI1.1, hI2.1]
      have hlt1 : (0 : Int) < (n : Int) := by omega
      have hlt2 : (0 : Int) < (n' : Int) := by omega
      obtain ⟨vb, hvb⟩ : ∃ vb, ((n2 : Int) == (n1 : Int)) = vb := ⟨_, rfl⟩
      have HNE := Lib.hid hvb
      have hvv : decide (n2 = n1) = vb := by rw [← hvb, Bool.eq_iff_iff]; simp; omega
      rw [hvv]
      clear hI1 hI2 hX1 hX2 e1 e2 h2 h3 HPF HLF HH HH' hvb hvv
      go_enter Try.func34, Try.ntmps34
      go_wp2_with fail
      refine wk.region_tailS 19 [.is (.int .i64 m), .is (.slice (some ⟨b, o, none⟩) n c), .is (.bool true), .is (.bool true), .is (.slice (some ⟨b2, o2, none⟩) n' c'), .is (.bool true), .is (.bool true), .is (.bool true), .is (.slice (some ⟨b2, o2, none⟩) n' c'), .is (.pointer (some ⟨b2, o2, none⟩)), .is (.slice A2 n2 c2), .is (.int .i64 (n2 : Int)), .is (.slice (some ⟨b, o, none⟩) n c), .is (.pointer (some ⟨b, o, none⟩)), .is (.slice A1 n1 c1), .is (.int .i64 (n1 : Int)), .is (.bool vb), .is (.bool vb), .is (.bool vb)] [some 7, some 8, some 9, some 10, some 11, some 12, some 13, some 14, some 15, some 16, some 17, some 18, some 19, some 20, some 21, some 22, some 23, some 24, some 6] (by kernel_rfl) (by kernel_rfl) (by kernel_rfl) (by kernel_rfl) [] (by kernel_rfl) (by intro p hp; cases hp) (by kernel_rfl) (by kernel_rfl) ?hstep ?hdone
      case hstep =>
        intro i o ho hi hns E w4 hb4 D
        have hi2 : i = 0 ∨ i = 1 ∨ i = 2 ∨ i = 3 ∨ i = 4 ∨ i = 5 ∨ i = 6 ∨ i = 7 ∨ i = 8 ∨ i = 9 ∨ i = 10 ∨ i = 11 ∨ i = 12 ∨ i = 13 ∨ i = 14 ∨ i = 15 ∨ i = 16 ∨ i = 17 ∨ i = 18 := by omega
        clear hi
        rcases hi2 with rfl | rfl | rfl | rfl | rfl | rfl | rfl | rfl | rfl | rfl | rfl | rfl | rfl | rfl | rfl | rfl | rfl | rfl | rfl
        ·
          have ho2 := (Array.getElem?_eq_some_iff.1 ho).2
          simp only [List.getElem_toArray, List.getElem_cons_zero] at ho2
          subst ho2
          clear ho
          have e0 := D.old 0 (by kernel_rfl)
          exact wk.does_move rfl (by rw [e0]; rfl)
        ·
          have ho2 := (Array.getElem?_eq_some_iff.1 ho).2
          simp only [List.getElem_toArray, List.getElem_cons_succ, List.getElem_cons_zero] at ho2
          subst ho2
          clear ho
          have e1 := D.old 1 (by kernel_rfl)
          exact wk.does_move rfl (by rw [e1]; rfl)
        ·
          have ho2 := (Array.getElem?_eq_some_iff.1 ho).2
          simp only [List.getElem_toArray, List.getElem_cons_succ, List.getElem_cons_zero] at ho2
          subst ho2
          clear ho
          have e7 := D.is { on := 0, ground := .data } (by simp) rfl rfl 7 rfl
          have e8 := D.is { on := 1, ground := .data } (by simp) rfl rfl 8 rfl
          refine wk.does_fn (f := 52) (vs := #[.int .i64 m, .slice (some ⟨b, o, none⟩) n c]) rfl (D.fn _) (by simp [e7, e8]) (by go_simp) ?_
          refine (HP.out w4 ((Below.refl _ _).drew.trans hb4)).mono ?_
          rintro e w7 ⟨rfl, hb7⟩
          exact ⟨_, rfl, hb7, rfl⟩
        ·
          have ho2 := (Array.getElem?_eq_some_iff.1 ho).2
          simp only [List.getElem_toArray, List.getElem_cons_succ, List.getElem_cons_zero] at ho2
          subst ho2
          clear ho
          have e9 := D.is { on := 2, ground := .data } (by simp) rfl rfl 9 rfl
          exact wk.does_move rfl e9
        ·
          have ho2 := (Array.getElem?_eq_some_iff.1 ho).2
          simp only [List.getElem_toArray, List.getElem_cons_succ, List.getElem_cons_zero] at ho2
          subst ho2
          clear ho
          have e2 := D.old 2 (by kernel_rfl)
          exact wk.does_move rfl (by rw [e2]; rfl)
        ·
          have ho2 := (Array.getElem?_eq_some_iff.1 ho).2
          simp only [List.getElem_toArray, List.getElem_cons_succ, List.getElem_cons_zero] at ho2
          subst ho2
          clear ho
          have e11 := D.is { on := 4, ground := .data } (by simp) rfl rfl 11 rfl
          refine wk.does_fn (f := 38) (vs := #[.slice (some ⟨b2, o2, none⟩) n' c']) rfl (D.fn _) (by simp [e11]) (by go_simp) ?_
          refine (HL.out w4 ((Below.refl _ _).drew.trans hb4)).mono ?_
          rintro e w7 ⟨rfl, hb7⟩
          exact ⟨_, rfl, hb7, rfl⟩
        ·
          have ho2 := (Array.getElem?_eq_some_iff.1 ho).2
          simp only [List.getElem_toArray, List.getElem_cons_succ, List.getElem_cons_zero] at ho2
          subst ho2
          clear ho
          have e10 := D.is { on := 3, ground := .data } (by simp) rfl rfl 10 rfl
          have e12 := D.is { on := 5, ground := .data } (by simp) rfl rfl 12 rfl
          exact wk.does_pick rfl e10 e12
        ·
          have ho2 := (Array.getElem?_eq_some_iff.1 ho).2
          simp only [List.getElem_toArray, List.getElem_cons_succ, List.getElem_cons_zero] at ho2
          subst ho2
          clear ho
          have e13 := D.is { on := 6, ground := .data } (by simp) rfl rfl 13 rfl
          exact wk.does_move rfl e13
        ·
          have ho2 := (Array.getElem?_eq_some_iff.1 ho).2
          simp only [List.getElem_toArray, List.getElem_cons_succ, List.getElem_cons_zero] at ho2
          subst ho2
          clear ho
          have e2 := D.old 2 (by kernel_rfl)
          exact wk.does_move rfl (by rw [e2]; rfl)
        ·
          have ho2 := (Array.getElem?_eq_some_iff.1 ho).2
          simp only [List.getElem_toArray, List.getElem_cons_succ, List.getElem_cons_zero] at ho2
          subst ho2
          clear ho
          have e15 := D.is { on := 8, ground := .data } (by simp) rfl rfl 15 rfl
          exact wk.does_run (by simp only [execOp]; rw [show E (.tmp 15) = _ from e15, show E (.const (.int .i64 0)) = .int .i64 0 from D.con _]; go_simp; try (intro h0; omega)) rfl
        ·
          have ho2 := (Array.getElem?_eq_some_iff.1 ho).2
          simp only [List.getElem_toArray, List.getElem_cons_succ, List.getElem_cons_zero] at ho2
          subst ho2
          clear ho
          have e16 := D.is { on := 9, ground := .data } (by simp) rfl rfl 16 rfl
          exact wk.does_load1 rfl e16 ((((Below.refl _ _).drew.trans hb4).cell (p := ⟨b2, o2, none⟩) hbl2).trans hc2) Try.underlying23 rfl rfl
        ·
          have ho2 := (Array.getElem?_eq_some_iff.1 ho).2
          simp only [List.getElem_toArray, List.getElem_cons_succ, List.getElem_cons_zero] at ho2
          subst ho2
          clear ho
          have e17 := D.is { on := 10, ground := .data } (by simp) rfl rfl 17 rfl
          exact wk.does_run (by simp only [execOp, resolve, invoke, builtin, Sem.run_bind, Sem.run_pure, Result.andThen_ok, List.map_toArray, List.map_cons, List.map_nil]; rw [show E (.tmp 17) = _ from e17]; go_simp) rfl
        ·
          have ho2 := (Array.getElem?_eq_some_iff.1 ho).2
          simp only [List.getElem_toArray, List.getElem_cons_succ, List.getElem_cons_zero] at ho2
          subst ho2
          clear ho
          have e1 := D.old 1 (by kernel_rfl)
          exact wk.does_move rfl (by rw [e1]; rfl)
        ·
          have ho2 := (Array.getElem?_eq_some_iff.1 ho).2
          simp only [List.getElem_toArray, List.getElem_cons_succ, List.getElem_cons_zero] at ho2
          subst ho2
          clear ho
          have e19 := D.is { on := 12, ground := .data } (by simp) rfl rfl 19 rfl
          exact wk.does_run (by simp only [execOp]; rw [show E (.tmp 19) = _ from e19, show E (.const (.int .i64 0)) = .int .i64 0 from D.con _]; go_simp; try (intro h0; omega)) rfl
        ·
          have ho2 := (Array.getElem?_eq_some_iff.1 ho).2
          simp only [List.getElem_toArray, List.getElem_cons_succ, List.getElem_cons_zero] at ho2
          subst ho2
          clear ho
          have e20 := D.is { on := 13, ground := .data } (by simp) rfl rfl 20 rfl
          exact wk.does_load1 rfl e20 ((((Below.refl _ _).drew.trans hb4).cell (p := ⟨b, o, none⟩) hbl).trans hc) Try.underlying23 rfl rfl
        ·
          have ho2 := (Array.getElem?_eq_some_iff.1 ho).2
          simp only [List.getElem_toArray, List.getElem_cons_succ, List.getElem_cons_zero] at ho2
          subst ho2
          clear ho
          have e21 := D.is { on := 14, ground := .data } (by simp) rfl rfl 21 rfl
          exact wk.does_run (by simp only [execOp, resolve, invoke, builtin, Sem.run_bind, Sem.run_pure, Result.andThen_ok, List.map_toArray, List.map_cons, List.map_nil]; rw [show E (.tmp 21) = _ from e21]; go_simp) rfl
        ·
          have ho2 := (Array.getElem?_eq_some_iff.1 ho).2
          simp only [List.getElem_toArray, List.getElem_cons_succ, List.getElem_cons_zero] at ho2
          subst ho2
          clear ho
          have e18 := D.is { on := 11, ground := .data } (by simp) rfl rfl 18 rfl
          have e22 := D.is { on := 15, ground := .data } (by simp) rfl rfl 22 rfl
          exact wk.does_run (by simp only [execOp]; rw [show E (.tmp 18) = _ from e18, show E (.tmp 22) = _ from e22]; go_simp; try rw [HNE.out]) rfl
        ·
          have ho2 := (Array.getElem?_eq_some_iff.1 ho).2
          simp only [List.getElem_toArray, List.getElem_cons_succ, List.getElem_cons_zero] at ho2
          subst ho2
          clear ho
          have e14 := D.is { on := 7, ground := .data } (by simp) rfl rfl 14 rfl
          have e23 := D.is { on := 16, ground := .data } (by simp) rfl rfl 23 rfl
          exact wk.does_pick rfl e14 e23
        ·
          have ho2 := (Array.getElem?_eq_some_iff.1 ho).2
          simp only [List.getElem_toArray, List.getElem_cons_succ, List.getElem_cons_zero] at ho2
          subst ho2
          clear ho
          have e24 := D.is { on := 17, ground := .data } (by simp) rfl rfl 24 rfl
          exact wk.does_assign rfl e24
      case hdone =>
        intro vals w4 hb4 hv
        have h18 := hv 18 (by omega)
        clear hv
        replace h18 : vals 18 = (.bool vb) := h18
        simp only [List.drop_succ_cons, List.drop_zero, wpList, wk.setL, List.setIfInBounds_toArray, List.set_cons_zero, List.set_cons_succ, Nat.zero_add, Nat.reduceAdd, h18]
        generalize vals 0 = x0
        generalize vals 1 = x1
        generalize vals 2 = x2
        generalize vals 3 = x3
        generalize vals 4 = x4
        generalize vals 5 = x5
        generalize vals 6 = x6
        generalize vals 7 = x7
        generalize vals 8 = x8
        generalize vals 9 = x9
        generalize vals 10 = x10
        generalize vals 11 = x11
        generalize vals 12 = x12
        generalize vals 13 = x13
        generalize vals 14 = x14
        generalize vals 15 = x15
        generalize vals 16 = x16
        generalize vals 17 = x17
        have hb : Below w.heap.size w w4 := (Below.refl _ _).drew.trans hb4
        clear hb4
        go_wp2_with fail
        go_ret
        exact ⟨rfl, hb⟩
set_option maxRecDepth 100000 in
set_option maxHeartbeats 4000000 in
theorem rsame_calls {A A' : Option Addr} {n c n' c' : Nat} {a b' : List Int} (w : World) (h : wo.IsI w A n c a) (h' : wo.IsI w A' n' c' b') :
    Calls Try.prog 19 #[.slice A n c, .slice A' n' c'] w fun e w' => e = .returned (.bool (decide (a = b'))) ∧ Below w.heap.size w w' := by
  have hm := h.2.2.1
  have hnc := h.2.1
  have hm2 := h'.2.2.1
  have hnc2 := h'.2.1
  by_cases hnn : n = n'
  · subst hnn
    have H := Lib.hid h
    have H' := Lib.hid h'
    clear h h'
    go_enter Try.func19, Try.ntmps19
    go_wp2_with fail
    go_loopg [5] n (fun gk x wr => ∃ k : Nat, k + gk = n ∧ x = .int .i64 (k : Int) ∧ Below w.heap.size w wr ∧ a.take k = b'.take k)
    case atStart => exact ⟨0, by omega, rfl, Below.refl _ _, rfl⟩
    case round =>
      obtain ⟨k, hk, rfl, hbel, hr⟩ := hrel
      have HK := Lib.hid hk
      have HR := Lib.hid hr
      have HBEL := Lib.hid hbel
      have hkn : k ≤ n := by omega
      clear hk hr
      by_cases hlt : k < n
      · obtain ⟨b1, o1, z1, rfl, hc1, hX1, -, -⟩ := isI_at (isI_below H.out hbel) hlt
        obtain ⟨b2, o2, z2, rfl, hc2, hX2, -, -⟩ := isI_at (isI_below H'.out hbel) hlt
        have hb1 := block_lt_of_cell hc1
        have hb2 := block_lt_of_cell hc2
        have hlt0 : (k : Int) < (n : Int) := by omega
        have HTK : Hid (z1 = z2 → a.take (k + 1) = b'.take (k + 1)) := fun he => by rw [List.take_add_one, List.take_add_one, HR.out, hX1, hX2, he]
        have HTN : Hid (z1 ≠ z2 → decide (a = b') = false) := fun he => by
          refine decide_eq_false fun hh => he ?_
          rw [hh, hX2] at hX1
          injection hX1 with hX1
          exact hX1.symm
        obtain ⟨vb, hvb⟩ : ∃ vb, decide (z1 = z2) = vb := ⟨_, rfl⟩
        skip
        clear hX1 hX2 hbel
        have HVB := Lib.hid hvb
        clear hvb
        go_wp2_with fail
        refine wk.region_tailS 9 [.is (.slice (some ⟨b1, o1, none⟩) n c), .is (.int .i64 (k : Int)), .is (.pointer (some ⟨b1, o1 + k, none⟩)), .is (.int .i64 z1), .is (.slice (some ⟨b2, o2, none⟩) n c'), .is (.int .i64 (k : Int)), .is (.pointer (some ⟨b2, o2 + k, none⟩)), .is (.int .i64 z2), .is (.bool (!vb))] [some 17, some 18, some 19, some 20, some 21, some 22, some 23, some 24, some 25] (by kernel_rfl) (by kernel_rfl) (by kernel_rfl) (by kernel_rfl) [] (by kernel_rfl) (by intro p hp; cases hp) (by kernel_rfl) (by kernel_rfl) ?hstep ?hdone
        case hstep =>
          intro i o ho hi hns E w4 hb4 D
          have hi2 : i = 0 ∨ i = 1 ∨ i = 2 ∨ i = 3 ∨ i = 4 ∨ i = 5 ∨ i = 6 ∨ i = 7 ∨ i = 8 := by omega
          clear hi
          rcases hi2 with rfl | rfl | rfl | rfl | rfl | rfl | rfl | rfl | rfl
          ·
            have ho2 := (Array.getElem?_eq_some_iff.1 ho).2
            simp only [List.getElem_toArray, List.getElem_cons_zero] at ho2
            subst ho2
            clear ho
            have e0 := D.old 0 (by kernel_rfl)
            exact wk.does_move rfl (by rw [e0]; rfl)
          ·
            have ho2 := (Array.getElem?_eq_some_iff.1 ho).2
            simp only [List.getElem_toArray, List.getElem_cons_succ, List.getElem_cons_zero] at ho2
            subst ho2
            clear ho
            have e5 := D.old 5 (by kernel_rfl)
            exact wk.does_move rfl (by rw [e5]; rfl)
          ·
            have ho2 := (Array.getElem?_eq_some_iff.1 ho).2
            simp only [List.getElem_toArray, List.getElem_cons_succ, List.getElem_cons_zero] at ho2
            subst ho2
            clear ho
            have e17 := D.is { on := 0, ground := .data } (by simp) rfl rfl 17 rfl
            have e18 := D.is { on := 1, ground := .data } (by simp) rfl rfl 18 rfl
            exact wk.does_run (by simp only [execOp]; rw [show E (.tmp 17) = _ from e17, show E (.tmp 18) = _ from e18]; go_simp) rfl
          ·
            have ho2 := (Array.getElem?_eq_some_iff.1 ho).2
            simp only [List.getElem_toArray, List.getElem_cons_succ, List.getElem_cons_zero] at ho2
            subst ho2
            clear ho
            have e19 := D.is { on := 2, ground := .data } (by simp) rfl rfl 19 rfl
            exact wk.does_load1 rfl e19 ((((Below.refl _ _).drew.trans hb4).cell (p := ⟨b1, o1 + k, none⟩) hb1).trans hc1) Try.underlying3 rfl rfl
          ·
            have ho2 := (Array.getElem?_eq_some_iff.1 ho).2
            simp only [List.getElem_toArray, List.getElem_cons_succ, List.getElem_cons_zero] at ho2
            subst ho2
            clear ho
            have e1 := D.old 1 (by kernel_rfl)
            exact wk.does_move rfl (by rw [e1]; rfl)
          ·
            have ho2 := (Array.getElem?_eq_some_iff.1 ho).2
            simp only [List.getElem_toArray, List.getElem_cons_succ, List.getElem_cons_zero] at ho2
            subst ho2
            clear ho
            have e5 := D.old 5 (by kernel_rfl)
            exact wk.does_move rfl (by rw [e5]; rfl)
          ·
            have ho2 := (Array.getElem?_eq_some_iff.1 ho).2
            simp only [List.getElem_toArray, List.getElem_cons_succ, List.getElem_cons_zero] at ho2
            subst ho2
            clear ho
            have e21 := D.is { on := 4, ground := .data } (by simp) rfl rfl 21 rfl
            have e22 := D.is { on := 5, ground := .data } (by simp) rfl rfl 22 rfl
            exact wk.does_run (by simp only [execOp]; rw [show E (.tmp 21) = _ from e21, show E (.tmp 22) = _ from e22]; go_simp) rfl
          ·
            have ho2 := (Array.getElem?_eq_some_iff.1 ho).2
            simp only [List.getElem_toArray, List.getElem_cons_succ, List.getElem_cons_zero] at ho2
            subst ho2
            clear ho
            have e23 := D.is { on := 6, ground := .data } (by simp) rfl rfl 23 rfl
            exact wk.does_load1 rfl e23 ((((Below.refl _ _).drew.trans hb4).cell (p := ⟨b2, o2 + k, none⟩) hb2).trans hc2) Try.underlying3 rfl rfl
          ·
            have ho2 := (Array.getElem?_eq_some_iff.1 ho).2
            simp only [List.getElem_toArray, List.getElem_cons_succ, List.getElem_cons_zero] at ho2
            subst ho2
            clear ho
            have e20 := D.is { on := 3, ground := .data } (by simp) rfl rfl 20 rfl
            have e24 := D.is { on := 7, ground := .data } (by simp) rfl rfl 24 rfl
            exact wk.does_run (by simp only [execOp]; rw [show E (.tmp 20) = _ from e20, show E (.tmp 24) = _ from e24]; go_simp; try (rw [← HVB.out]; simp [bne, BEq.beq])) rfl
        case hdone =>
          intro vals w4 hb4 hv
          have h8 := hv 8 (by omega)
          clear hv
          replace h8 : vals 8 = (.bool (!vb)) := h8
          simp only [List.drop_succ_cons, List.drop_zero, wpList, wk.setL, List.setIfInBounds_toArray, List.set_cons_zero, List.set_cons_succ, Nat.zero_add, Nat.reduceAdd, h8]
          generalize vals 0 = x0
          generalize vals 1 = x1
          generalize vals 2 = x2
          generalize vals 3 = x3
          generalize vals 4 = x4
          generalize vals 5 = x5
          generalize vals 6 = x6
          generalize vals 7 = x7
          have hb5 : Below wr.heap.size wr w4 := (Below.refl _ _).drew.trans hb4
          have HB5 := Lib.hid (HBEL.out.trans (hb5.mono HBEL.out.size))
          clear hb4 hb5
          cases vb
          · have hne : z1 ≠ z2 := by have := HVB.out; simpa using this
            go_wp2_with fail
            go_ret
            exact ⟨by rw [HTN.out hne]; rfl, HB5.out⟩
          · have heq : z1 = z2 := by have := HVB.out; simpa using this
            have HT2 := Lib.hid (HTK.out heq)
            clear heq HTK
            go_wp2_with fail
            go_roundg (gk - 1)
            case measure => have := HK.out; omega
            case rel => exact ⟨k + 1, by have := HK.out; omega, by go_num, HB5.out, HT2.out⟩
      · obtain rfl : k = n := by omega
        have HE : Hid (decide (a = b') = true) := by
          have h1 := HR.out
          rw [List.take_of_length_le (by have := H.out.1; omega), List.take_of_length_le (by have := H'.out.1; omega)] at h1
          exact decide_eq_true h1
        clear hbel
        go_wp2_with fail
        go_ret
        exact ⟨by rw [HE.out]; rfl, HBEL.out⟩
  · have hne : ((n : Int) != (n' : Int)) = true := by simp; omega
    have hE : decide (a = b') = false := decide_eq_false fun hh => hnn (by rw [← h.1, ← h'.1, hh])
    rw [hE]
    clear h h' hE
    go_enter Try.func19, Try.ntmps19
    go_wp2_with fail
    go_ret
    exact ⟨rfl, Below.refl _ _⟩
set_option maxRecDepth 100000 in
set_option maxHeartbeats 4000000 in
theorem rsameRows_calls {A A' : Option Addr} {n c n' c' : Nat} {a b' : VV} (w : World) (h : IsVV w A n c a) (h' : IsVV w A' n' c' b') :
    Calls Try.prog 20 #[.slice A n c, .slice A' n' c'] w fun e w' => e = .returned (.bool (decide (a = b'))) ∧ Below w.heap.size w w' := by
  have hm := h.2.2.1
  have hnc := h.2.1
  have hm2 := h'.2.2.1
  have hnc2 := h'.2.1
  by_cases hnn : n = n'
  · subst hnn
    have H := Lib.hid h
    have H' := Lib.hid h'
    clear h h'
    go_enter Try.func20, Try.ntmps20
    go_wp2_with fail
    go_loopg [5] n (fun gk x wr => ∃ k : Nat, k + gk = n ∧ x = .int .i64 (k : Int) ∧ Below w.heap.size w wr ∧ a.take k = b'.take k)
    case atStart => exact ⟨0, by omega, rfl, Below.refl _ _, rfl⟩
    case round =>
      obtain ⟨k, hk, rfl, hbel, hr⟩ := hrel
      have HK := Lib.hid hk
      have HR := Lib.hid hr
      have HBEL := Lib.hid hbel
      have hkn : k ≤ n := by omega
      clear hk hr
      by_cases hlt : k < n
      · obtain ⟨b1, o1, A1, n1, c1, z1, rfl, hb1, hc1, hI1, hX1⟩ := isVV_get (isVV_below H.out hbel) hlt
        obtain ⟨b2, o2, A2, n2, c2, z2, rfl, hb2, hc2, hI2, hX2⟩ := isVV_get (isVV_below H'.out hbel) hlt
        have hlt0 : (k : Int) < (n : Int) := by omega
        have HTK : Hid (z1 = z2 → a.take (k + 1) = b'.take (k + 1)) := fun he => by rw [List.take_add_one, List.take_add_one, HR.out, hX1, hX2, he]
        have HTN : Hid (z1 ≠ z2 → decide (a = b') = false) := fun he => by
          refine decide_eq_false fun hh => he ?_
          rw [hh, hX2] at hX1
          injection hX1 with hX1
          exact hX1.symm
        obtain ⟨vb, hvb⟩ : ∃ vb, decide (z1 = z2) = vb := ⟨_, rfl⟩
        have HSC := Lib.hid (fun w' (hb : Below wr.heap.size wr w') => rsame_calls w' (isI_below hI1 hb) (isI_below hI2 hb))
        rw [hvb] at HSC
        clear hI1 hI2
        clear hX1 hX2 hbel
        have HVB := Lib.hid hvb
        clear hvb
        go_wp2_with fail
        refine wk.region_tailS 10 [.is (.slice (some ⟨b1, o1, none⟩) n c), .is (.int .i64 (k : Int)), .is (.pointer (some ⟨b1, o1 + k, none⟩)), .is (.slice A1 n1 c1), .is (.slice (some ⟨b2, o2, none⟩) n c'), .is (.int .i64 (k : Int)), .is (.pointer (some ⟨b2, o2 + k, none⟩)), .is (.slice A2 n2 c2), .is (.bool vb), .is (.bool (!vb))] [some 17, some 18, some 19, some 20, some 21, some 22, some 23, some 24, some 25, some 26] (by kernel_rfl) (by kernel_rfl) (by kernel_rfl) (by kernel_rfl) [] (by kernel_rfl) (by intro p hp; cases hp) (by kernel_rfl) (by kernel_rfl) ?hstep ?hdone
        case hstep =>
          intro i o ho hi hns E w4 hb4 D
          have hi2 : i = 0 ∨ i = 1 ∨ i = 2 ∨ i = 3 ∨ i = 4 ∨ i = 5 ∨ i = 6 ∨ i = 7 ∨ i = 8 ∨ i = 9 := by omega
          clear hi
          rcases hi2 with rfl | rfl | rfl | rfl | rfl | rfl | rfl | rfl | rfl | rfl
          ·
            have ho2 := (Array.getElem?_eq_some_iff.1 ho).2
            simp only [List.getElem_toArray, List.getElem_cons_zero] at ho2
            subst ho2
            clear ho
            have e0 := D.old 0 (by kernel_rfl)
            exact wk.does_move rfl (by rw [e0]; rfl)
          ·
            have ho2 := (Array.getElem?_eq_some_iff.1 ho).2
            simp only [List.getElem_toArray, List.getElem_cons_succ, List.getElem_cons_zero] at ho2
            subst ho2
            clear ho
            have e5 := D.old 5 (by kernel_rfl)
            exact wk.does_move rfl (by rw [e5]; rfl)
          ·
            have ho2 := (Array.getElem?_eq_some_iff.1 ho).2
            simp only [List.getElem_toArray, List.getElem_cons_succ, List.getElem_cons_zero] at ho2
            subst ho2
            clear ho
            have e17 := D.is { on := 0, ground := .data } (by simp) rfl rfl 17 rfl
            have e18 := D.is { on := 1, ground := .data } (by simp) rfl rfl 18 rfl
            exact wk.does_run (by simp only [execOp]; rw [show E (.tmp 17) = _ from e17, show E (.tmp 18) = _ from e18]; go_simp) rfl
          ·
            have ho2 := (Array.getElem?_eq_some_iff.1 ho).2
            simp only [List.getElem_toArray, List.getElem_cons_succ, List.getElem_cons_zero] at ho2
            subst ho2
            clear ho
            have e19 := D.is { on := 2, ground := .data } (by simp) rfl rfl 19 rfl
            exact wk.does_load1 rfl e19 ((((Below.refl _ _).drew.trans hb4).cell (p := ⟨b1, o1 + k, none⟩) hb1).trans hc1) Try.underlying23 rfl rfl
          ·
            have ho2 := (Array.getElem?_eq_some_iff.1 ho).2
            simp only [List.getElem_toArray, List.getElem_cons_succ, List.getElem_cons_zero] at ho2
            subst ho2
            clear ho
            have e1 := D.old 1 (by kernel_rfl)
            exact wk.does_move rfl (by rw [e1]; rfl)
          ·
            have ho2 := (Array.getElem?_eq_some_iff.1 ho).2
            simp only [List.getElem_toArray, List.getElem_cons_succ, List.getElem_cons_zero] at ho2
            subst ho2
            clear ho
            have e5 := D.old 5 (by kernel_rfl)
            exact wk.does_move rfl (by rw [e5]; rfl)
          ·
            have ho2 := (Array.getElem?_eq_some_iff.1 ho).2
            simp only [List.getElem_toArray, List.getElem_cons_succ, List.getElem_cons_zero] at ho2
            subst ho2
            clear ho
            have e21 := D.is { on := 4, ground := .data } (by simp) rfl rfl 21 rfl
            have e22 := D.is { on := 5, ground := .data } (by simp) rfl rfl 22 rfl
            exact wk.does_run (by simp only [execOp]; rw [show E (.tmp 21) = _ from e21, show E (.tmp 22) = _ from e22]; go_simp) rfl
          ·
            have ho2 := (Array.getElem?_eq_some_iff.1 ho).2
            simp only [List.getElem_toArray, List.getElem_cons_succ, List.getElem_cons_zero] at ho2
            subst ho2
            clear ho
            have e23 := D.is { on := 6, ground := .data } (by simp) rfl rfl 23 rfl
            exact wk.does_load1 rfl e23 ((((Below.refl _ _).drew.trans hb4).cell (p := ⟨b2, o2 + k, none⟩) hb2).trans hc2) Try.underlying23 rfl rfl
          ·
            have ho2 := (Array.getElem?_eq_some_iff.1 ho).2
            simp only [List.getElem_toArray, List.getElem_cons_succ, List.getElem_cons_zero] at ho2
            subst ho2
            clear ho
            have e20 := D.is { on := 3, ground := .data } (by simp) rfl rfl 20 rfl
            have e24 := D.is { on := 7, ground := .data } (by simp) rfl rfl 24 rfl
            refine wk.does_fn (f := 19) (vs := #[.slice A1 n1 c1, .slice A2 n2 c2]) rfl (D.fn _) (by simp [e20, e24]) (by go_simp) ?_
            refine (HSC.out w4 ((Below.refl _ _).drew.trans hb4)).mono ?_
            rintro e w7 ⟨rfl, hb7⟩
            exact ⟨_, rfl, hb7, rfl⟩
          ·
            have ho2 := (Array.getElem?_eq_some_iff.1 ho).2
            simp only [List.getElem_toArray, List.getElem_cons_succ, List.getElem_cons_zero] at ho2
            subst ho2
            clear ho
            have e25 := D.is { on := 8, ground := .data } (by simp) rfl rfl 25 rfl
            exact wk.does_un rfl (by rw [show E (.tmp 25) = _ from e25]; go_simp) rfl
        case hdone =>
          intro vals w4 hb4 hv
          have h9 := hv 9 (by omega)
          clear hv
          replace h9 : vals 9 = (.bool (!vb)) := h9
          simp only [List.drop_succ_cons, List.drop_zero, wpList, wk.setL, List.setIfInBounds_toArray, List.set_cons_zero, List.set_cons_succ, Nat.zero_add, Nat.reduceAdd, h9]
          generalize vals 0 = x0
          generalize vals 1 = x1
          generalize vals 2 = x2
          generalize vals 3 = x3
          generalize vals 4 = x4
          generalize vals 5 = x5
          generalize vals 6 = x6
          generalize vals 7 = x7
          generalize vals 8 = x8
          have hb5 : Below wr.heap.size wr w4 := (Below.refl _ _).drew.trans hb4
          have HB5 := Lib.hid (HBEL.out.trans (hb5.mono HBEL.out.size))
          clear hb4 hb5
          cases vb
          · have hne : z1 ≠ z2 := by have := HVB.out; simpa using this
            go_wp2_with fail
            go_ret
            exact ⟨by rw [HTN.out hne]; rfl, HB5.out⟩
          · have heq : z1 = z2 := by have := HVB.out; simpa using this
            have HT2 := Lib.hid (HTK.out heq)
            clear heq HTK
            go_wp2_with fail
            go_roundg (gk - 1)
            case measure => have := HK.out; omega
            case rel => exact ⟨k + 1, by have := HK.out; omega, by go_num, HB5.out, HT2.out⟩
      · obtain rfl : k = n := by omega
        have HE : Hid (decide (a = b') = true) := by
          have h1 := HR.out
          rw [List.take_of_length_le (by have := H.out.1; omega), List.take_of_length_le (by have := H'.out.1; omega)] at h1
          exact decide_eq_true h1
        clear hbel
        go_wp2_with fail
        go_ret
        exact ⟨by rw [HE.out]; rfl, HBEL.out⟩
  · have hne : ((n : Int) != (n' : Int)) = true := by simp; omega
    have hE : decide (a = b') = false := decide_eq_false fun hh => hnn (by rw [← h.1, ← h'.1, hh])
    rw [hE]
    clear h h' hE
    go_enter Try.func20, Try.ntmps20
    go_wp2_with fail
    go_ret
    exact ⟨rfl, Below.refl _ _⟩
theorem g1s : Try.prog.eqGuardType Try.prog.depth 65 = false := by kernel_rfl
theorem g3s : Try.prog.stoodInHeld 65 = false := by kernel_rfl
theorem g2s : Try.prog.underlying 65 = some (.struct (Try.prog.fieldsOf 65)) := by kernel_rfl
theorem eq_sh (w : World) (x1 x2 y1 y2 : Int) : (Op.equalIn 10000 65 (.agg #[.int .i64 x1, .int .i64 x2]) (.agg #[.int .i64 y1, .int .i64 y2])).run Try.prog w = .ok (decide (x1 = y1 ∧ x2 = y2)) w := by
  rw [show (10000 : Nat) = 9999 + 1 from rfl, run_equalIn_agg w 9999 _ _ _ g2s g3s]
  simp only [Program.fieldsOf, Try.underlying65]
  go_simp
  by_cases h1 : x1 = y1 <;> by_cases h2 : x2 = y2 <;> simp [h1, h2]
theorem run_eqGuard_neq {P : Program} {w : World} {t : TypeId} {x y : Operand} {xs ys : Array Value} (hg : P.eqGuardType P.depth t = false) : (eqGuard .neq t x y (.agg xs) (.agg ys)).run P w = .ok () w := by
  unfold eqGuard
  simp [hg, Sem.run_bind, Sem.run_pure, Result.andThen]
theorem does_neq_st {P : Program} {Q : Exit → Act → World → Prop} {o : Oper} {E : Operand → Value} {w : World} {R : World → Value → Prop} {t t2 : TypeId} {x y : Operand} {xs ys : Array Value} {b : Bool} (ho : o.op = .binOp .neq t x y t2) (hx : E x = .agg xs) (hy : E y = .agg ys) (hg : P.eqGuardType P.depth t = false)
    (hrun : (Op.equal t (.agg xs) (.agg ys)).run P w = .ok b w) (hR : R w (.bool !b)) : wk.Does P Q o E w R :=
  wk.does_bin ho (by rw [hx, hy, Sem.run_bind, run_eqGuard_neq hg, Result.andThen_ok]; simp only [binOp, Sem.run_bind, hrun, Result.andThen_ok, Sem.run_pure]) hR
set_option maxRecDepth 100000 in
set_option maxHeartbeats 4000000 in
theorem rsameSh_calls {A A' : Option Addr} {n c n' c' : Nat} {a b' : List Sh} (w : World) (h : IsS w A n c a) (h' : IsS w A' n' c' b') :
    Calls Try.prog 29 #[.slice A n c, .slice A' n' c'] w fun e w' => e = .returned (.bool (decide (a = b'))) ∧ Below w.heap.size w w' := by
  have hm := h.2.2.1
  have hnc := h.2.1
  have hm2 := h'.2.2.1
  have hnc2 := h'.2.1
  by_cases hnn : n = n'
  · subst hnn
    have H := Lib.hid h
    have H' := Lib.hid h'
    clear h h'
    go_enter Try.func29, Try.ntmps29
    go_wp2_with fail
    go_loopg [5] n (fun gk x wr => ∃ k : Nat, k + gk = n ∧ x = .int .i64 (k : Int) ∧ Below w.heap.size w wr ∧ a.take k = b'.take k)
    case atStart => exact ⟨0, by omega, rfl, Below.refl _ _, rfl⟩
    case round =>
      obtain ⟨k, hk, rfl, hbel, hr⟩ := hrel
      have HK := Lib.hid hk
      have HR := Lib.hid hr
      have HBEL := Lib.hid hbel
      have hkn : k ≤ n := by omega
      clear hk hr
      by_cases hlt : k < n
      · obtain ⟨b1, o1, ⟨p1, p2⟩, rfl, hc1, hd1, hb1, hX1, -⟩ := isS_get (isS_below H.out hbel) hlt
        obtain ⟨b2, o2, ⟨q1, q2⟩, rfl, hc2, hd2, hb2, hX2, -⟩ := isS_get (isS_below H'.out hbel) hlt
        dsimp only at hc1 hd1 hc2 hd2
        have hlt0 : (k : Int) < (n : Int) := by omega
        have HTK : Hid (((p1, p2) : Sh) = (q1, q2) → a.take (k + 1) = b'.take (k + 1)) := fun he => by rw [List.take_add_one, List.take_add_one, HR.out, hX1, hX2, he]
        have HTN : Hid (((p1, p2) : Sh) ≠ (q1, q2) → decide (a = b') = false) := fun he => by
          refine decide_eq_false fun hh => he ?_
          rw [hh, hX2] at hX1
          injection hX1 with hX1
          exact hX1.symm
        obtain ⟨vb, hvb⟩ : ∃ vb, decide (((p1, p2) : Sh) = (q1, q2)) = vb := ⟨_, rfl⟩
        have HVQ : Hid (decide (p1 = q1 ∧ p2 = q2) = vb) := by show _ = _; rw [← hvb, Bool.eq_iff_iff]; simp [Prod.ext_iff]
        clear hX1 hX2 hbel
        have HVB := Lib.hid hvb
        clear hvb
        go_wp2_with fail
        refine wk.region_tailS 9 [.is (.slice (some ⟨b1, o1, none⟩) n c), .is (.int .i64 (k : Int)), .is (.pointer (some ⟨b1, o1 + k * 2, none⟩)), .is (.agg #[.int .i64 p1, .int .i64 p2]), .is (.slice (some ⟨b2, o2, none⟩) n c'), .is (.int .i64 (k : Int)), .is (.pointer (some ⟨b2, o2 + k * 2, none⟩)), .is (.agg #[.int .i64 q1, .int .i64 q2]), .is (.bool (!vb))] [some 17, some 18, some 19, some 20, some 21, some 22, some 23, some 24, some 25] (by kernel_rfl) (by kernel_rfl) (by kernel_rfl) (by kernel_rfl) [] (by kernel_rfl) (by intro p hp; cases hp) (by kernel_rfl) (by kernel_rfl) ?hstep ?hdone
        case hstep =>
          intro i o ho hi hns E w4 hb4 D
          have hi2 : i = 0 ∨ i = 1 ∨ i = 2 ∨ i = 3 ∨ i = 4 ∨ i = 5 ∨ i = 6 ∨ i = 7 ∨ i = 8 := by omega
          clear hi
          rcases hi2 with rfl | rfl | rfl | rfl | rfl | rfl | rfl | rfl | rfl
          ·
            have ho2 := (Array.getElem?_eq_some_iff.1 ho).2
            simp only [List.getElem_toArray, List.getElem_cons_zero] at ho2
            subst ho2
            clear ho
            have e0 := D.old 0 (by kernel_rfl)
            exact wk.does_move rfl (by rw [e0]; rfl)
          ·
            have ho2 := (Array.getElem?_eq_some_iff.1 ho).2
            simp only [List.getElem_toArray, List.getElem_cons_succ, List.getElem_cons_zero] at ho2
            subst ho2
            clear ho
            have e5 := D.old 5 (by kernel_rfl)
            exact wk.does_move rfl (by rw [e5]; rfl)
          ·
            have ho2 := (Array.getElem?_eq_some_iff.1 ho).2
            simp only [List.getElem_toArray, List.getElem_cons_succ, List.getElem_cons_zero] at ho2
            subst ho2
            clear ho
            have e17 := D.is { on := 0, ground := .data } (by simp) rfl rfl 17 rfl
            have e18 := D.is { on := 1, ground := .data } (by simp) rfl rfl 18 rfl
            exact wk.does_run (by simp only [execOp]; rw [show E (.tmp 17) = _ from e17, show E (.tmp 18) = _ from e18]; go_simp) rfl
          ·
            have ho2 := (Array.getElem?_eq_some_iff.1 ho).2
            simp only [List.getElem_toArray, List.getElem_cons_succ, List.getElem_cons_zero] at ho2
            subst ho2
            clear ho
            have e19 := D.is { on := 2, ground := .data } (by simp) rfl rfl 19 rfl
            exact wk.does_load_agg rfl e19 (cs := [.int .i64 p1, .int .i64 p2]) (cells2 ((((Below.refl _ _).drew.trans hb4).cell (p := ⟨b1, o1 + k * 2, none⟩) hb1).trans hc1) ((((Below.refl _ _).drew.trans hb4).cell (p := ⟨b1, o1 + k * 2 + 1, none⟩) hb1).trans hd1)) Try.underlying65 rfl (by kernel_rfl) rfl
          ·
            have ho2 := (Array.getElem?_eq_some_iff.1 ho).2
            simp only [List.getElem_toArray, List.getElem_cons_succ, List.getElem_cons_zero] at ho2
            subst ho2
            clear ho
            have e1 := D.old 1 (by kernel_rfl)
            exact wk.does_move rfl (by rw [e1]; rfl)
          ·
            have ho2 := (Array.getElem?_eq_some_iff.1 ho).2
            simp only [List.getElem_toArray, List.getElem_cons_succ, List.getElem_cons_zero] at ho2
            subst ho2
            clear ho
            have e5 := D.old 5 (by kernel_rfl)
            exact wk.does_move rfl (by rw [e5]; rfl)
          ·
            have ho2 := (Array.getElem?_eq_some_iff.1 ho).2
            simp only [List.getElem_toArray, List.getElem_cons_succ, List.getElem_cons_zero] at ho2
            subst ho2
            clear ho
            have e21 := D.is { on := 4, ground := .data } (by simp) rfl rfl 21 rfl
            have e22 := D.is { on := 5, ground := .data } (by simp) rfl rfl 22 rfl
            exact wk.does_run (by simp only [execOp]; rw [show E (.tmp 21) = _ from e21, show E (.tmp 22) = _ from e22]; go_simp) rfl
          ·
            have ho2 := (Array.getElem?_eq_some_iff.1 ho).2
            simp only [List.getElem_toArray, List.getElem_cons_succ, List.getElem_cons_zero] at ho2
            subst ho2
            clear ho
            have e23 := D.is { on := 6, ground := .data } (by simp) rfl rfl 23 rfl
            exact wk.does_load_agg rfl e23 (cs := [.int .i64 q1, .int .i64 q2]) (cells2 ((((Below.refl _ _).drew.trans hb4).cell (p := ⟨b2, o2 + k * 2, none⟩) hb2).trans hc2) ((((Below.refl _ _).drew.trans hb4).cell (p := ⟨b2, o2 + k * 2 + 1, none⟩) hb2).trans hd2)) Try.underlying65 rfl (by kernel_rfl) rfl
          ·
            have ho2 := (Array.getElem?_eq_some_iff.1 ho).2
            simp only [List.getElem_toArray, List.getElem_cons_succ, List.getElem_cons_zero] at ho2
            subst ho2
            clear ho
            have e20 := D.is { on := 3, ground := .data } (by simp) rfl rfl 20 rfl
            have e24 := D.is { on := 7, ground := .data } (by simp) rfl rfl 24 rfl
            refine does_neq_st (b := vb) rfl e20 e24 g1s ?_ rfl
            rw [← HVQ.out]
            exact eq_sh _ _ _ _ _
        case hdone =>
          intro vals w4 hb4 hv
          have h8 := hv 8 (by omega)
          clear hv
          replace h8 : vals 8 = (.bool (!vb)) := h8
          simp only [List.drop_succ_cons, List.drop_zero, wpList, wk.setL, List.setIfInBounds_toArray, List.set_cons_zero, List.set_cons_succ, Nat.zero_add, Nat.reduceAdd, h8]
          generalize vals 0 = x0
          generalize vals 1 = x1
          generalize vals 2 = x2
          generalize vals 3 = x3
          generalize vals 4 = x4
          generalize vals 5 = x5
          generalize vals 6 = x6
          generalize vals 7 = x7
          have hb5 : Below wr.heap.size wr w4 := (Below.refl _ _).drew.trans hb4
          have HB5 := Lib.hid (HBEL.out.trans (hb5.mono HBEL.out.size))
          clear hb4 hb5
          cases vb
          · have hne : ((p1, p2) : Sh) ≠ (q1, q2) := by have := HVB.out; simpa using this
            go_wp2_with fail
            go_ret
            exact ⟨by rw [HTN.out hne]; rfl, HB5.out⟩
          · have heq : ((p1, p2) : Sh) = (q1, q2) := by have := HVB.out; simpa using this
            have HT2 := Lib.hid (HTK.out heq)
            clear heq HTK
            go_wp2_with fail
            go_roundg (gk - 1)
            case measure => have := HK.out; omega
            case rel => exact ⟨k + 1, by have := HK.out; omega, by go_num, HB5.out, HT2.out⟩
      · obtain rfl : k = n := by omega
        have HE : Hid (decide (a = b') = true) := by
          have h1 := HR.out
          rw [List.take_of_length_le (by have := H.out.1; omega), List.take_of_length_le (by have := H'.out.1; omega)] at h1
          exact decide_eq_true h1
        clear hbel
        go_wp2_with fail
        go_ret
        exact ⟨by rw [HE.out]; rfl, HBEL.out⟩
  · have hne : ((n : Int) != (n' : Int)) = true := by simp; omega
    have hE : decide (a = b') = false := decide_eq_false fun hh => hnn (by rw [← h.1, ← h'.1, hh])
    rw [hE]
    clear h h' hE
    go_enter Try.func29, Try.ntmps29
    go_wp2_with fail
    go_ret
    exact ⟨rfl, Below.refl _ _⟩
end Go.Proofs.Yteeianandjokaaa.pk
/- The laws of pivot: the example of the chapter. -/
namespace Go.Proofs.Yteeianandjokaaa.pk

open Go.ChangeShapes Go.WideShapes Go.ChangeAt Go.RowKit

open Go.Proofs.Yteeianandjokaaa.pq Go.Proofs.Yteeianandjokaaa.cq Go.Proofs.Yteeianandjokaaa.vk Go.Proofs.Yteeianandjokaaa.bk Go.Proofs.Yteeianandjokaaa.wk Go.Proofs.Yteeianandjokaaa.uk

set_option linter.unusedVariables false
theorem isI_lit (w : World) (g : Nat) (hg : w.heap.size = g) (l : List Int) (h : ∀ x ∈ l, -1000 ≤ x ∧ x ≤ 1000) (hl : l.length ≤ 1000) : wo.IsI (w.alloc (.cells (l.map (Value.int .i64)).toArray 3)) (some ⟨g, 0, none⟩) l.length l.length l := by
  subst hg
  refine ⟨rfl, Nat.le_refl _, by omega, fun _ => ⟨w.heap.size, 0, rfl, by rw [size_new]; omega, fun j u hu => ?_⟩, fun x hx => by have := h x hx; omega⟩
  rw [cell_of_row _ _ _ _ _ _ (heap_alloc_new w _), Nat.zero_add]
  simpa using hu
theorem isVV_lit (w : World) (g : Nat) (hg : w.heap.size = g) (vs : List Value) (L : VV) (hl : vs.length = L.length) (hn : L.length ≤ 1000) (h : ∀ (k : Nat) (l : List Int), L[k]? = some l → ∃ A n c, vs[k]? = some (.slice A n c) ∧ wo.IsI w A n c l) :
    IsVV (w.alloc (.cells vs.toArray 23)) (some ⟨g, 0, none⟩) L.length L.length L := by
  subst hg
  refine ⟨rfl, Nat.le_refl _, by omega, fun k l hk => ?_⟩
  obtain ⟨A, n, c, h1, h2⟩ := h k l hk
  refine ⟨w.heap.size, 0, A, n, c, rfl, by rw [size_new]; omega, ?_, isI_below h2 (below_new _ _)⟩
  rw [cell_of_row _ _ _ _ _ _ (heap_alloc_new w _), Nat.zero_add]
  simpa using h1
abbrev o1 (a : Int) : Obj := .cells #[.int .i64 a] 3
abbrev s1 (g : Nat) : Value := .slice (some ⟨g, 0, none⟩) 1 1
theorem bd1 {a : Int} (h : -1000 ≤ a ∧ a ≤ 1000) : ∀ x ∈ [a], -1000 ≤ x ∧ x ≤ 1000 := fun x hx => by simp only [List.mem_cons, List.not_mem_nil, or_false] at hx; rw [hx]; exact h
abbrev Y2 (w : World) (a b : Int) : World := ((w.alloc (o1 a)).alloc (o1 b)).alloc (.cells #[s1 w.heap.size, s1 (w.heap.size + 1)] 23)
theorem below_Y2 (w : World) (a b : Int) : Below w.heap.size w (Y2 w a b) := Below.andThen (Below.andThen (below_new _ _) (below_new _ _)) (below_new _ _)
theorem isVV_Y2 (w : World) (a b : Int) (ha : -1000 ≤ a ∧ a ≤ 1000) (hb : -1000 ≤ b ∧ b ≤ 1000) : IsVV (Y2 w a b) (some ⟨w.heap.size + 1 + 1, 0, none⟩) 2 2 [[a], [b]] := by
  refine isVV_lit _ _ (by simp only [size_new]) [s1 w.heap.size, s1 (w.heap.size + 1)] [[a], [b]] rfl (by simp) fun k l hk => ?_
  match k, hk with
  | 0, hk => simp at hk; subst hk; exact ⟨_, _, _, rfl, isI_below (isI_lit w _ rfl [a] (bd1 ha) (by simp)) (below_new _ _)⟩
  | 1, hk => simp at hk; subst hk; exact ⟨_, _, _, rfl, isI_lit _ _ (by simp only [size_new]) [b] (bd1 hb) (by simp)⟩
  | k + 2, hk => simp at hk
abbrev Y5 (w : World) (a b c d f : Int) : World := (((((w.alloc (o1 a)).alloc (o1 b)).alloc (o1 c)).alloc (o1 d)).alloc (o1 f)).alloc (.cells #[s1 w.heap.size, s1 (w.heap.size + 1), s1 (w.heap.size + 1 + 1), s1 (w.heap.size + 1 + 1 + 1), s1 (w.heap.size + 1 + 1 + 1 + 1)] 23)
theorem below_Y5 (w : World) (a b c d f : Int) : Below w.heap.size w (Y5 w a b c d f) := Below.andThen (Below.andThen (Below.andThen (Below.andThen (Below.andThen (below_new _ _) (below_new _ _)) (below_new _ _)) (below_new _ _)) (below_new _ _)) (below_new _ _)
theorem isVV_Y5 (w : World) (a b c d f : Int) (ha : -1000 ≤ a ∧ a ≤ 1000) (hb : -1000 ≤ b ∧ b ≤ 1000) (hc : -1000 ≤ c ∧ c ≤ 1000) (hd : -1000 ≤ d ∧ d ≤ 1000) (hf : -1000 ≤ f ∧ f ≤ 1000) : IsVV (Y5 w a b c d f) (some ⟨w.heap.size + 1 + 1 + 1 + 1 + 1, 0, none⟩) 5 5 [[a], [b], [c], [d], [f]] := by
  refine isVV_lit _ _ (by simp only [size_new]) [s1 w.heap.size, s1 (w.heap.size + 1), s1 (w.heap.size + 1 + 1), s1 (w.heap.size + 1 + 1 + 1), s1 (w.heap.size + 1 + 1 + 1 + 1)] [[a], [b], [c], [d], [f]] rfl (by simp) fun k l hk => ?_
  match k, hk with
  | 0, hk => simp at hk; subst hk; exact ⟨_, _, _, rfl, isI_below (isI_lit w _ rfl [a] (bd1 ha) (by simp)) (Below.andThen (Below.andThen (Below.andThen (below_new _ _) (below_new _ _)) (below_new _ _)) (below_new _ _))⟩
  | 1, hk => simp at hk; subst hk; exact ⟨_, _, _, rfl, isI_below (isI_lit _ _ (by simp only [size_new]) [b] (bd1 hb) (by simp)) (Below.andThen (Below.andThen (below_new _ _) (below_new _ _)) (below_new _ _))⟩
  | 2, hk => simp at hk; subst hk; exact ⟨_, _, _, rfl, isI_below (isI_lit _ _ (by simp only [size_new]) [c] (bd1 hc) (by simp)) (Below.andThen (below_new _ _) (below_new _ _))⟩
  | 3, hk => simp at hk; subst hk; exact ⟨_, _, _, rfl, isI_below (isI_lit _ _ (by simp only [size_new]) [d] (bd1 hd) (by simp)) (below_new _ _)⟩
  | 4, hk => simp at hk; subst hk; exact ⟨_, _, _, rfl, isI_lit _ _ (by simp only [size_new]) [f] (bd1 hf) (by simp)⟩
  | k + 5, hk => simp at hk
theorem isI_l1 (w : World) (a : Int) (ha : -1000 ≤ a ∧ a ≤ 1000) : wo.IsI (w.alloc (o1 a)) (some ⟨w.heap.size, 0, none⟩) 1 1 [a] := isI_lit w _ rfl [a] (bd1 ha) (by simp)
theorem isI_l2 (w : World) (a b : Int) (ha : -1000 ≤ a ∧ a ≤ 1000) (hb : -1000 ≤ b ∧ b ≤ 1000) : wo.IsI (w.alloc (.cells #[.int .i64 a, .int .i64 b] 3)) (some ⟨w.heap.size, 0, none⟩) 2 2 [a, b] :=
  isI_lit w _ rfl [a, b] (fun x hx => by simp only [List.mem_cons, List.not_mem_nil, or_false] at hx; rcases hx with rfl | rfl <;> assumption) (by simp)
theorem isI_l3 (w : World) (a b c : Int) (ha : -1000 ≤ a ∧ a ≤ 1000) (hb : -1000 ≤ b ∧ b ≤ 1000) (hc : -1000 ≤ c ∧ c ≤ 1000) : wo.IsI (w.alloc (.cells #[.int .i64 a, .int .i64 b, .int .i64 c] 3)) (some ⟨w.heap.size, 0, none⟩) 3 3 [a, b, c] :=
  isI_lit w _ rfl [a, b, c] (fun x hx => by simp only [List.mem_cons, List.not_mem_nil, or_false] at hx; rcases hx with rfl | rfl | rfl <;> assumption) (by simp)
theorem isS_l2 (w : World) (a b c d : Int) (h : Wd (a, b)) (h' : Wd (c, d)) : IsS (w.alloc (.cells #[.int .i64 a, .int .i64 b, .int .i64 c, .int .i64 d] 65)) (some ⟨w.heap.size, 0, none⟩) 2 2 [(a, b), (c, d)] :=
  ⟨rfl, by omega, by omega, wi.RC_new rfl _ _ rfl, fun x hx => by simp at hx; rcases hx with rfl | rfl <;> assumption⟩
def sL : VV := [[0], [10], [4], [6], [10]]
def sP : VV := [[0], [10]]
def sS : List Sh := [(4, 6), (4, 6)]
theorem s_c1 : cok' 1 sL 3 = true := by decide +kernel
theorem s_c2 : cok' 1 [[0], [0]] 2 = true := by decide +kernel
theorem s_p1 : pz (if cok' 1 sL 3 then pq.choose 1 sL 3 else []) = [0, 1, 2] := by decide +kernel
theorem s_p2 : pz (if cok' 1 [[0], [0]] 2 then pq.choose 1 [[0], [0]] 2 else []) = [0] := by decide +kernel
theorem s_h : haveK 1 sP sL = true := by decide +kernel
theorem s_cov : pq.cover 1 sP sL = 4 := by decide +kernel
theorem s_near : nearT 1 sP [6] = .tuple #[.int .i64 1, .int .i64 4, .int .i64 0] := by
  have h1 : haveK 1 sP [[6]] = true := by decide +kernel
  have h2 : nearest 1 sP [6] = (1, 4) := by decide +kernel
  unfold nearT; rw [if_pos h1, h2]; rfl
theorem s_sh : haveK 1 sP [[4], [6]] = true := by decide +kernel
theorem s_shs : (if haveK 1 sP [[4], [6]] then shells 1 sP [[4], [6]] else []) = sS := by decide +kernel
theorem s_ask : asked 1 sS [0, 10] = true := by decide +kernel
theorem s_low : lowS 1 sS [0, 10] = 4 := by decide +kernel
theorem s_high : highS 1 sS [0, 10] = 6 := by decide +kernel
theorem s_in : inn sS [5, 5] = true := by decide +kernel
structure SF (w0 : World) (A1 A2 : Option Addr) (w : World) : Prop where
  l : IsVV w A1 5 5 sL
  p : IsVV w A2 2 2 sP
  bel : Below w0.heap.size w0 w
theorem SF.next {w0 : World} {A1 A2 : Option Addr} {w w' : World} (h : SF w0 A1 A2 w) (hb : Below w.heap.size w w') : SF w0 A1 A2 w' := ⟨isVV_below h.l hb, isVV_below h.p hb, Below.andThen h.bel hb⟩
structure V1' (w : World) (A : Option Addr) (n c : Nat) (l : List Int) : Prop where
  is : wo.IsI w A n c l
theorem V1'.next {w w' : World} {A : Option Addr} {n c : Nat} {l : List Int} (h : V1' w A n c l) (hb : Below w.heap.size w w') : V1' w' A n c l := ⟨isI_below h.is hb⟩
structure V3' (w : World) (A : Option Addr) (n c : Nat) (l : List Sh) : Prop where
  is : IsS w A n c l
theorem V3'.next {w w' : World} {A : Option Addr} {n c : Nat} {l : List Sh} (h : V3' w A n c l) (hb : Below w.heap.size w w') : V3' w' A n c l := ⟨isS_below h.is hb⟩
theorem okE_t : okE true = .int .i64 0 := rfl
set_option maxRecDepth 100000 in
set_option maxHeartbeats 8000000 in
theorem san9_calls (w : World) : Calls Try.prog 10 #[] w fun e w' => e = .returned (.bool true) ∧ Below w.heap.size w w' := by
  go_enter Try.func10, Try.ntmps10
  go_upto_region 2 with fail
  change Code.wp _ _ _ _ (Y5 w 0 10 4 6 10)
  have HL := Lib.hid (isVV_Y5 w 0 10 4 6 10 (by omega) (by omega) (by omega) (by omega) (by omega))
  have HB := Lib.hid (below_Y5 w 0 10 4 6 10)
  generalize Y5 w 0 10 4 6 10 = w1 at *
  generalize w.heap.size + 1 + 1 + 1 + 1 + 1 = gl at *
  go_upto_region 3 with fail
  change Code.wp _ _ _ _ (Y2 w1 0 10)
  have HS : Hid (SF w (some ⟨gl, 0, none⟩) (some ⟨w1.heap.size + 1 + 1, 0, none⟩) (Y2 w1 0 10)) := ⟨isVV_below HL.out (below_Y2 w1 0 10), isVV_Y2 w1 0 10 (by omega) (by omega), Below.andThen HB.out (below_Y2 w1 0 10)⟩
  clear HL HB
  generalize Y2 w1 0 10 = w2 at *
  generalize w1.heap.size + 1 + 1 = gp at *
  have HN := Lib.hid (choose_calls (m := 1) (most := 3) w2 HS.out.l)
  go_wp2_with fail
  refine HN.out.mono ?_
  rintro e w3 ⟨A3, n3, c3, rfl, hi, hb⟩
  replace HS := Lib.hid (HS.out.next hb)
  clear hb HN
  rw [s_c1, okE_t]
  rw [s_p1] at hi
  obtain rfl : 3 = n3 := hi.1
  have HA := Lib.hid (V1'.mk hi)
  have hHAnc := hi.2.1
  have hHAnm := hi.2.2.1
  clear hi
  have HN := Lib.hid (choose_calls (m := 1) (most := 2) _ (isVV_Y2 w3 0 0 (by omega) (by omega)))
  go_wp2_with fail
  refine HN.out.mono ?_
  rintro e w4 ⟨A4, n4, c4, rfl, hi, hb⟩
  replace HS := Lib.hid ((HS.out.next (below_Y2 w3 0 0)).next hb)
  replace HA := Lib.hid ((HA.out.next (below_Y2 w3 0 0)).next hb)
  clear hb HN
  rw [s_c2, okE_t]
  rw [s_p2] at hi
  obtain rfl : 1 = n4 := hi.1
  have HC := Lib.hid (V1'.mk hi)
  have hHCnc := hi.2.1
  have hHCnm := hi.2.2.1
  clear hi
  have HN := Lib.hid (cover_calls (m := 1) w4 HS.out.p HS.out.l)
  go_wp2_with fail
  refine HN.out.mono ?_
  rintro e w5 ⟨rfl, hb⟩
  replace HS := Lib.hid (HS.out.next hb)
  replace HA := Lib.hid (HA.out.next hb)
  replace HC := Lib.hid (HC.out.next hb)
  clear hb HN
  rw [s_h, if_pos rfl, s_cov, okE_t]
  have HN := Lib.hid (nearest_calls (m := 1) _ (isVV_below HS.out.p (below_new w5 (o1 6))) (isI_l1 w5 6 (by omega)))
  go_wp2_with fail
  refine HN.out.mono ?_
  rintro e w6 ⟨rfl, hb⟩
  replace HS := Lib.hid ((HS.out.next (below_new w5 (o1 6))).next hb)
  replace HA := Lib.hid ((HA.out.next (below_new w5 (o1 6))).next hb)
  replace HC := Lib.hid ((HC.out.next (below_new w5 (o1 6))).next hb)
  clear hb HN
  rw [s_near]
  have HN := Lib.hid (shells_calls (m := 1) _ (isVV_below HS.out.p (below_Y2 w6 4 6)) (isVV_Y2 w6 4 6 (by omega) (by omega)))
  go_wp2_with fail
  refine HN.out.mono ?_
  rintro e w7 ⟨A7, n7, c7, rfl, hi, hb⟩
  replace HS := Lib.hid ((HS.out.next (below_Y2 w6 4 6)).next hb)
  replace HA := Lib.hid ((HA.out.next (below_Y2 w6 4 6)).next hb)
  replace HC := Lib.hid ((HC.out.next (below_Y2 w6 4 6)).next hb)
  clear hb HN
  rw [s_sh, okE_t]
  rw [s_shs] at hi
  obtain rfl : 2 = n7 := hi.1
  have HQ := Lib.hid (V3'.mk hi)
  have hHQnc := hi.2.1
  have hHQnm := hi.2.2.1
  clear hi
  have HN := Lib.hid (low_calls (m := 1) _ (isS_below HQ.out.is (below_new w7 (.cells #[.int .i64 0, .int .i64 10] 3))) (isI_l2 w7 0 10 (by omega) (by omega)))
  go_wp2_with fail
  refine HN.out.mono ?_
  rintro e w8 ⟨rfl, hb⟩
  replace HS := Lib.hid ((HS.out.next (below_new w7 (.cells #[.int .i64 0, .int .i64 10] 3))).next hb)
  replace HA := Lib.hid ((HA.out.next (below_new w7 (.cells #[.int .i64 0, .int .i64 10] 3))).next hb)
  replace HC := Lib.hid ((HC.out.next (below_new w7 (.cells #[.int .i64 0, .int .i64 10] 3))).next hb)
  replace HQ := Lib.hid ((HQ.out.next (below_new w7 (.cells #[.int .i64 0, .int .i64 10] 3))).next hb)
  clear hb HN
  rw [s_ask, if_pos rfl, s_low, okE_t]
  have HN := Lib.hid (high_calls (m := 1) _ (isS_below HQ.out.is (below_new w8 (.cells #[.int .i64 0, .int .i64 10] 3))) (isI_l2 w8 0 10 (by omega) (by omega)))
  go_wp2_with fail
  refine HN.out.mono ?_
  rintro e w9 ⟨rfl, hb⟩
  replace HS := Lib.hid ((HS.out.next (below_new w8 (.cells #[.int .i64 0, .int .i64 10] 3))).next hb)
  replace HA := Lib.hid ((HA.out.next (below_new w8 (.cells #[.int .i64 0, .int .i64 10] 3))).next hb)
  replace HC := Lib.hid ((HC.out.next (below_new w8 (.cells #[.int .i64 0, .int .i64 10] 3))).next hb)
  replace HQ := Lib.hid ((HQ.out.next (below_new w8 (.cells #[.int .i64 0, .int .i64 10] 3))).next hb)
  clear hb HN
  rw [s_ask, if_pos rfl, s_high, okE_t]
  have HN := Lib.hid (rsame_calls _ (isI_below HA.out.is (below_new w9 (.cells #[.int .i64 0, .int .i64 1, .int .i64 2] 3))) (isI_l3 w9 0 1 2 (by omega) (by omega) (by omega)))
  rw [show decide (([0, 1, 2] : List Int) = [0, 1, 2]) = true by decide +kernel] at HN
  go_wp2_with fail
  refine HN.out.mono ?_
  rintro e w10 ⟨rfl, hb⟩
  replace HS := Lib.hid ((HS.out.next (below_new w9 (.cells #[.int .i64 0, .int .i64 1, .int .i64 2] 3))).next hb)
  replace HA := Lib.hid ((HA.out.next (below_new w9 (.cells #[.int .i64 0, .int .i64 1, .int .i64 2] 3))).next hb)
  replace HC := Lib.hid ((HC.out.next (below_new w9 (.cells #[.int .i64 0, .int .i64 1, .int .i64 2] 3))).next hb)
  replace HQ := Lib.hid ((HQ.out.next (below_new w9 (.cells #[.int .i64 0, .int .i64 1, .int .i64 2] 3))).next hb)
  clear hb HN
  have HN := Lib.hid (rsame_calls _ (isI_below HC.out.is (below_new w10 (o1 0))) (isI_l1 w10 0 (by omega)))
  rw [show decide (([0] : List Int) = [0]) = true by decide +kernel] at HN
  go_wp2_with fail
  refine HN.out.mono ?_
  rintro e w11 ⟨rfl, hb⟩
  replace HS := Lib.hid ((HS.out.next (below_new w10 (o1 0))).next hb)
  replace HA := Lib.hid ((HA.out.next (below_new w10 (o1 0))).next hb)
  replace HC := Lib.hid ((HC.out.next (below_new w10 (o1 0))).next hb)
  replace HQ := Lib.hid ((HQ.out.next (below_new w10 (o1 0))).next hb)
  clear hb HN
  have HN := Lib.hid (rsameSh_calls _ (isS_below HQ.out.is (below_new w11 (.cells #[.int .i64 4, .int .i64 6, .int .i64 4, .int .i64 6] 65))) (isS_l2 w11 4 6 4 6 (by unfold Wd; dsimp only; omega) (by unfold Wd; dsimp only; omega)))
  rw [show decide ((sS : List Sh) = [(4, 6), (4, 6)]) = true by decide +kernel] at HN
  go_wp2_with fail
  refine HN.out.mono ?_
  rintro e w12 ⟨rfl, hb⟩
  replace HS := Lib.hid ((HS.out.next (below_new w11 (.cells #[.int .i64 4, .int .i64 6, .int .i64 4, .int .i64 6] 65))).next hb)
  replace HA := Lib.hid ((HA.out.next (below_new w11 (.cells #[.int .i64 4, .int .i64 6, .int .i64 4, .int .i64 6] 65))).next hb)
  replace HC := Lib.hid ((HC.out.next (below_new w11 (.cells #[.int .i64 4, .int .i64 6, .int .i64 4, .int .i64 6] 65))).next hb)
  replace HQ := Lib.hid ((HQ.out.next (below_new w11 (.cells #[.int .i64 4, .int .i64 6, .int .i64 4, .int .i64 6] 65))).next hb)
  clear hb HN
  have HN := Lib.hid (in_calls _ (isS_below HQ.out.is (below_new w12 (.cells #[.int .i64 5, .int .i64 5] 3))) (isI_l2 w12 5 5 (by omega) (by omega)))
  go_wp2_with fail
  refine HN.out.mono ?_
  rintro e w13 ⟨rfl, hb⟩
  replace HS := Lib.hid ((HS.out.next (below_new w12 (.cells #[.int .i64 5, .int .i64 5] 3))).next hb)
  replace HA := Lib.hid ((HA.out.next (below_new w12 (.cells #[.int .i64 5, .int .i64 5] 3))).next hb)
  replace HC := Lib.hid ((HC.out.next (below_new w12 (.cells #[.int .i64 5, .int .i64 5] 3))).next hb)
  replace HQ := Lib.hid ((HQ.out.next (below_new w12 (.cells #[.int .i64 5, .int .i64 5] 3))).next hb)
  clear hb HN
  rw [s_in]
  go_wp2_with fail
  go_ret
  exact ⟨rfl, HS.out.bel⟩
end Go.Proofs.Yteeianandjokaaa.pk
/- The reference: nearest, Nearest, Cover. -/
namespace Go.Proofs.Yteeianandjokaaa.pk

open Go.ChangeShapes Go.WideShapes Go.ChangeAt Go.RowKit

open Go.Proofs.Yteeianandjokaaa.pq Go.Proofs.Yteeianandjokaaa.cq Go.Proofs.Yteeianandjokaaa.vk Go.Proofs.Yteeianandjokaaa.bk Go.Proofs.Yteeianandjokaaa.wk Go.Proofs.Yteeianandjokaaa.uk

set_option linter.unusedVariables false
/-- a variable of some cells -/
def Rw (w : World) (g : Nat) (t : TypeId) (cs : Array Value) : Prop := w.heap[g]? = some (.cells cs t (0, 0))
theorem Rw.lt {w : World} {g : Nat} {t : TypeId} {cs : Array Value} (h : Rw w g t cs) : g < w.heap.size := (Array.getElem?_eq_some_iff.1 h).1
theorem Rw.at {w w' : World} {g : Nat} {t : TypeId} {cs : Array Value} (h : Rw w g t cs) (e : w'.heap[g]? = w.heap[g]?) : Rw w' g t cs := e.trans h
theorem Rw.below {w w' : World} {g : Nat} {t : TypeId} {cs : Array Value} (h : Rw w g t cs) (hb : Below w.heap.size w w') : Rw w' g t cs := h.at (hb.block g h.lt)
theorem Rw.new (w : World) (t : TypeId) (cs : Array Value) : Rw (w.alloc (.cells cs t)) w.heap.size t cs := heap_alloc_new w _
theorem Rw.f {w : World} {g : Nat} {t : TypeId} {cs : Array Value} (h : Rw w g t cs) (j : Nat) : w.frozen? ⟨g, j, none⟩ = false := frozen_of_row _ _ _ _ _ h
theorem Rw.c {w : World} {g j : Nat} {t : TypeId} {cs : Array Value} {v : Value} (h : Rw w g t cs) (hj : cs[j]? = some v) : w.cell? ⟨g, j, none⟩ = some v := by
  rw [cell_of_row _ _ _ _ _ _ h]; exact hj
theorem Rw.other {w : World} {g k j : Nat} {t : TypeId} {cs : Array Value} (h : Rw w g t cs) (u : Value) (hk : g ≠ k) : Rw (w.setCell ⟨k, j, none⟩ u) g t cs := h.at (Below.heap_setCell w (⟨k, j, none⟩ : Addr) u g hk)
theorem Rw.set2 {w : World} {g : Nat} {t : TypeId} {a b : Value} (h : Rw w g t #[a, b]) (x y : Value) : Rw ((w.setCell ⟨g, 0, none⟩ x).setCell ⟨g, 1, none⟩ y) g t #[x, y] := by
  have h1 := heap_setCell_same w g 0 #[a, b] t x h
  exact heap_setCell_same (w.setCell ⟨g, 0, none⟩ x) g 1 _ t y h1
theorem Rw.set3 {w : World} {g : Nat} {t : TypeId} {a b c : Value} (h : Rw w g t #[a, b, c]) (x y z : Value) : Rw (((w.setCell ⟨g, 0, none⟩ x).setCell ⟨g, 1, none⟩ y).setCell ⟨g, 2, none⟩ z) g t #[x, y, z] := by
  have h1 := heap_setCell_same w g 0 #[a, b, c] t x h
  have h2 := heap_setCell_same (w.setCell ⟨g, 0, none⟩ x) g 1 _ t y h1
  exact heap_setCell_same _ g 2 _ t z h2
theorem below_three {n g : Nat} {w0 w : World} (h : Below n w0 w) (hg : n ≤ g) (x y z : Value) : Below n w0 (((w.setCell ⟨g, 0, none⟩ x).setCell ⟨g, 1, none⟩ y).setCell ⟨g, 2, none⟩ z) :=
  (below_two h hg x y).setCell (p := ⟨g, 2, none⟩) hg _
abbrev PL : TypeId := 39
theorem rkeyF {m : Int} {A A' : Option Addr} {n c n' c' d : Nat} {p v : List Int} (w : World) (h1 : 1 ≤ m) (h3 : m ≤ 3) (h : wo.IsI w A n c p) (h' : wo.IsI w A' n' c' v) (hp : p.length = d ∧ vq.Vec p) (hv : v.length = d ∧ vq.Vec v) :
    Calls Try.prog 81 #[.int .i64 m, .slice A n c, .slice A' n' c'] w fun e w' => e = .returned (.int .i64 (vq.key m p v)) ∧ Below w.heap.size w w' := by
  have hn : n = n' := by have := h.1; have := h'.1; omega
  subst hn
  exact rkey_calls m A A' n c c' p v w h1 h3 h h' (few_of hp.2) (few_of hv.2) (vq.sub_bound hp.2 hv.2) (by have := hp.2.le; have := h.1; omega)
set_option maxRecDepth 100000 in
set_option maxHeartbeats 4000000 in
theorem rnear_calls {m : Int} {A A' : Option Addr} {n c n' c' d most : Nat} {P : VV} {v : List Int} (w : World) (h1 : 1 ≤ m) (h3 : m ≤ 3) (h : IsVV w A n c P) (h' : wo.IsI w A' n' c' v) (hP : Fit most d P) (hmost : most ≤ 4096) (hv : v.length = d ∧ vq.Vec v) :
    Calls Try.prog 51 #[.int .i64 m, .slice A n c, .slice A' n' c'] w fun e w' => e = .returned (.agg #[.int .i64 ((nearest m P v).1 : Int), .int .i64 (nearest m P v).2, .int .i64 0]) ∧ Below w.heap.size w w' := by
  have hn1 : 1 ≤ n := by rw [← h.1]; exact hP.n1
  have hn4 : n ≤ 4096 := by have := hP.n2; have := h.1; omega
  have HNR : Hid (nearest m P v = nr (kf m P v) n) := by
    show _ = _
    unfold nearest
    rw [h.1]
    obtain ⟨j, rfl⟩ : ∃ j, n = j + 1 := ⟨n - 1, by omega⟩
    exact (nr_le j (fun i hi => (kf_bd hP hv (by have := h.1; omega)).2)).symm
  obtain ⟨b, o, A0, n0, c0, p0, rfl, hb0, hc0, hI0, hX0⟩ := isVV_get h (k := 0) (by omega)
  rw [Nat.add_zero] at hc0
  have hlt00 : (0 : Int) < (n : Int) := by omega
  have hm := h.2.2.1
  have hnc := h.2.1
  have hbR := below_new w (.cells #[.int .i64 0, .int .i64 0, .int .i64 0] PL)
  have hR := Rw.new w PL #[.int .i64 0, .int .i64 0, .int .i64 0]
  have HR := Lib.hid hR
  have HBR := Lib.hid hbR
  have hc0' := (hbR.cell (p := ⟨b, o, none⟩) hb0).trans hc0
  have HK0 := Lib.hid (rkeyF (w.alloc (.cells #[.int .i64 0, .int .i64 0, .int .i64 0] PL)) h1 h3 (isI_below hI0 hbR) (isI_below h' hbR) (hP.at hX0) hv)
  have HE0 : Hid (vq.key m p0 v = kf m P v 0) := by show _ = _; unfold kf; rw [getD_some hX0]
  have H := Lib.hid h
  have H' := Lib.hid h'
  have HP := Lib.hid hP
  have HV := Lib.hid hv
  clear h h' hP hv hR hbR hI0 hX0 hc0
  rw [HE0.out] at HK0
  obtain ⟨f, hf⟩ : ∃ f, kf m P v = f := ⟨_, rfl⟩
  have HFE : Hid (kf m P v = f) := hf
  rw [hf] at HK0 HNR
  rw [HNR.out]
  clear hf HE0
  go_enter Try.func51, Try.ntmps51
  go_wp2_with fail
  refine HK0.out.mono ?_
  rintro e w1 ⟨rfl, hb1⟩
  have HB1 := Lib.hid (Below.andThen HBR.out hb1)
  have HR1 := Lib.hid (HR.out.below hb1)
  have hlt1 : w.heap.size < w1.heap.size := HR1.out.lt
  have HLT1 := Lib.hid hlt1
  clear hb1 hc0' hlt1
  have HT1 := Lib.hid (Rw.new w1 PL #[.int .i64 0, .int .i64 (f 0), .int .i64 0])
  have hb2 := below_new w1 (.cells #[.int .i64 0, .int .i64 (f 0), .int .i64 0] PL)
  have HB2 := Lib.hid (Below.andThen HB1.out hb2)
  have HR2 := Lib.hid (HR1.out.below hb2)
  clear hb2
  go_wp2_with fail
  generalize hG : w1.heap.size = G at *
  go_loopg [8] n (fun gk x wr => ∃ k : Nat, k + gk = n ∧ x = .int .i64 (k : Int) ∧ Below w.heap.size w wr ∧ Rw wr w.heap.size PL #[.int .i64 0, .int .i64 0, .int .i64 0] ∧ Rw wr G PL #[.int .i64 ((nr f k).1 : Int), .int .i64 (nr f k).2, .int .i64 0])
  case atStart => exact ⟨0, by omega, rfl, HB2.out, HR2.out, HT1.out⟩
  case round =>
    obtain ⟨k, hk, rfl, hbel, hres, htmp⟩ := hrel
    have HK := Lib.hid hk
    have HBEL := Lib.hid hbel
    have HRES := Lib.hid hres
    have HTMP := Lib.hid htmp
    have hkn : k ≤ n := by omega
    have hwG : w.heap.size < G := by have := HLT1.out; omega
    clear hk
    by_cases hlt : k < n
    · obtain ⟨b', o', A1, n1, c1, p, e1, hb3, hc3, hI3, hX3⟩ := isVV_get (isVV_below H.out hbel) hlt
      cases e1
      have hlt0 : (k : Int) < (n : Int) := by omega
      have HKK := Lib.hid (rkeyF wr h1 h3 hI3 (isI_below H'.out hbel) (HP.out.at hX3) HV.out)
      have HEK : Hid (vq.key m p v = f k) := by show _ = _; rw [← HFE.out]; unfold kf; rw [getD_some hX3]
      rw [HEK.out] at HKK
      have HNX : Hid (nr f (k + 1) = if f k < (nr f k).2 then (k, f k) else nr f k) := by show _ = _; rfl
      generalize nr f k = q at *
      obtain ⟨q1, q2⟩ := q
      dsimp only at HTMP htmp HNX
      obtain ⟨y, hy⟩ : ∃ y, f k = y := ⟨_, rfl⟩
      rw [hy] at HKK HNX
      clear hI3 hX3 hres htmp HEK hbel hy
      go_wp2_with fail
      refine HKK.out.mono ?_
      rintro e w3 ⟨rfl, hb4⟩
      have hT3 := HTMP.out.below hb4
      have hd0 := hT3.c (j := 0) rfl
      have hd1 := hT3.c (j := 1) rfl
      have hd2 := hT3.c (j := 2) rfl
      have hf0 := hT3.f 0
      have hf1 := hT3.f 1
      have hf2 := hT3.f 2
      have HT3 := Lib.hid hT3
      have HRS3 := Lib.hid (HRES.out.below hb4)
      have HB3 := Lib.hid (HBEL.out.trans (hb4.mono HBEL.out.size))
      clear hT3 hb4 hc3
      by_cases hlt2 : y < q2
      · have HN2 : Hid (nr f (k + 1) = (k, y)) := by show _ = _; rw [HNX.out, if_pos hlt2]
        have HB4 := Lib.hid (below_three HB3.out (Nat.le_of_lt hwG) (.int .i64 (k : Int)) (.int .i64 y) (.int .i64 0))
        have HT4 := Lib.hid (HT3.out.set3 (.int .i64 (k : Int)) (.int .i64 y) (.int .i64 0))
        have HRS4 := Lib.hid ((((HRS3.out.other (k := G) (j := 0) (.int .i64 (k : Int)) (by omega)).other (k := G) (j := 1) (.int .i64 y) (by omega))).other (k := G) (j := 2) (.int .i64 0) (by omega))
        go_wp2_with fail
        go_roundg (gk - 1)
        case measure => have := HK.out; omega
        case rel => exact ⟨k + 1, by have := HK.out; omega, by go_num, HB4.out, HRS4.out, by rw [HN2.out]; exact HT4.out⟩
      · have HN2 : Hid (nr f (k + 1) = (q1, q2)) := by show _ = _; rw [HNX.out, if_neg hlt2]
        go_wp2_with fail
        go_roundg (gk - 1)
        case measure => have := HK.out; omega
        case rel => exact ⟨k + 1, by have := HK.out; omega, by go_num, HB3.out, HRS3.out, by rw [HN2.out]; exact HT3.out⟩
    · obtain rfl : k = n := by omega
      obtain ⟨q, hq⟩ : ∃ q, nr f k = q := ⟨_, rfl⟩
      rw [hq] at htmp
      have HQ := Lib.hid hq
      clear hq HTMP
      obtain ⟨q1, q2⟩ := q
      dsimp only at htmp
      have hd0 := htmp.c (j := 0) rfl
      have hd1 := htmp.c (j := 1) rfl
      have hd2 := htmp.c (j := 2) rfl
      have he0 := hres.c (j := 0) rfl
      have he1 := hres.c (j := 1) rfl
      have he2 := hres.c (j := 2) rfl
      have hf0 := hres.f 0
      have hf1 := hres.f 1
      have hf2 := hres.f 2
      have HB4 := Lib.hid (below_three HBEL.out (Nat.le_refl _) (.int .i64 (q1 : Int)) (.int .i64 q2) (.int .i64 0))
      have HT4 := Lib.hid (hres.set3 (.int .i64 (q1 : Int)) (.int .i64 q2) (.int .i64 0))
      clear hbel hres htmp
      go_wp2_with fail
      exact bodyPost_ret (v := .agg #[.int .i64 (q1 : Int), .int .i64 q2, .int .i64 0]) (results_cell_row (fn := Try.f51) rfl _ _ w.heap.size PL #[.int .i64 (q1 : Int), .int .i64 q2, .int .i64 0] (0, 0) _ rfl HT4.out Try.underlying39 rfl (by kernel_rfl)) rfl ⟨by rw [HQ.out], HB4.out⟩
theorem haveK_one (m : Int) (P : VV) (v : List Int) : haveK m P [v] = ((isM m && fit 8 P) && vq.alike (P.headD []) v) := by
  rw [Bool.eq_iff_iff]
  simp only [haveK, Bool.and_eq_true]
  constructor
  · rintro ⟨h1, h2, h3, h4⟩
    exact ⟨⟨h1, h2⟩, h4⟩
  · rintro ⟨⟨h1, h2⟩, h4⟩
    have hv := (vq.alike_iff.1 h4).2.2
    refine ⟨h1, h2, fit_iff.2 ⟨by simp, by simp, fun x hx => ?_⟩, h4⟩
    rw [List.mem_singleton.1 hx]
    exact ⟨rfl, hv⟩
def nearV (m : Int) (P : VV) (v : List Int) : Value := if haveK m P [v] then .agg #[.int .i64 ((nearest m P v).1 : Int), .int .i64 (nearest m P v).2, .int .i64 0] else .agg #[.int .i64 0, .int .i64 0, .int .i64 1]
set_option maxRecDepth 100000 in
set_option maxHeartbeats 2000000 in
theorem rnearest_calls {m : Int} {A A' : Option Addr} {n c n' c' : Nat} {P : VV} {v : List Int} (w : World) (h : IsVV w A n c P) (h' : wo.IsI w A' n' c' v) :
    Calls Try.prog 16 #[.int .i64 m, .slice A n c, .slice A' n' c'] w fun e w' => e = .returned (nearV m P v) ∧ Below w.heap.size w w' := by
  have hm := h.2.2.1
  have hnc := h.2.1
  have hbR := below_new w (.cells #[.int .i64 0, .int .i64 0, .int .i64 0] PL)
  have HR := Lib.hid (Rw.new w PL #[.int .i64 0, .int .i64 0, .int .i64 0])
  have HBR := Lib.hid hbR
  have HPV := Lib.hid (rpivots_calls (m := m) (w.alloc (.cells #[.int .i64 0, .int .i64 0, .int .i64 0] PL)) (isVV_below h hbR))
  have HPF : Hid ((isM m && fit 8 P) = true → 1 ≤ n) := fun hh => by have := (fit_of (Bool.and_eq_true_iff.1 hh).2).n1; have := h.1; omega
  have HE : Hid (haveK m P [v] = ((isM m && fit 8 P) && vq.alike (P.headD []) v)) := haveK_one m P v
  have HA := Lib.hid (fun w' (hb : Below (w.alloc (.cells #[.int .i64 0, .int .i64 0, .int .i64 0] PL)).heap.size (w.alloc (.cells #[.int .i64 0, .int .i64 0, .int .i64 0] PL)) w') => And.intro (isVV_below (isVV_below h hbR) hb) (isI_below (isI_below h' hbR) hb))
  have H := Lib.hid h
  unfold nearV
  clear h h' hbR
  cases hp : (isM m && fit 8 P)
  · have HF : Hid (haveK m P [v] = false) := by show _ = _; rw [HE.out, hp]; rfl
    rw [hp] at HPV
    rw [HF.out, if_neg (by decide)]
    go_enter Try.func16, Try.ntmps16
    go_wp2_with fail
    refine HPV.out.mono ?_
    rintro e w1 ⟨rfl, hb1⟩
    have hR1 := HR.out.below hb1
    have hd0 := hR1.c (j := 0) rfl
    have hd1 := hR1.c (j := 1) rfl
    have hd2 := hR1.c (j := 2) rfl
    have hf0 := hR1.f 0
    have hf1 := hR1.f 1
    have hf2 := hR1.f 2
    have HB4 := Lib.hid (below_three (Below.andThen HBR.out hb1) (Nat.le_refl _) (.int .i64 0) (.int .i64 0) (.int .i64 1))
    have HT4 := Lib.hid (hR1.set3 (.int .i64 0) (.int .i64 0) (.int .i64 1))
    clear hb1 hR1
    go_wp2_with fail
    exact bodyPost_ret (v := .agg #[.int .i64 0, .int .i64 0, .int .i64 1]) (results_cell_row (fn := Try.f16) rfl _ _ w.heap.size PL #[.int .i64 0, .int .i64 0, .int .i64 1] (0, 0) _ rfl HT4.out Try.underlying39 rfl (by kernel_rfl)) rfl ⟨rfl, HB4.out⟩
  · have hn1 := HPF.out hp
    have hfp := (Bool.and_eq_true_iff.1 hp)
    have hF := fit_of hfp.2
    have hM : 1 ≤ m ∧ m ≤ 3 := by simpa [isM] using hfp.1
    rw [hp] at HPV
    obtain ⟨b, o, A0, n0, c0, p0, rfl, hb0, hc0, hI0, hX0⟩ := isVV_get H.out (k := 0) (by omega)
    rw [Nat.add_zero] at hc0
    have hlt00 : (0 : Int) < (n : Int) := by omega
    have hh0 : P.headD [] = p0 := by cases P with
      | nil => simp at hX0
      | cons y l => simpa using hX0
    have hc0' := (HBR.out.cell (p := ⟨b, o, none⟩) hb0).trans hc0
    have hb0' : b < (w.alloc (.cells #[.int .i64 0, .int .i64 0, .int .i64 0] PL)).heap.size := Nat.lt_of_lt_of_le hb0 HBR.out.size
    have HCE := Lib.hid hc0'
    have HBE := Lib.hid hb0'
    have HI0 := Lib.hid (isI_below hI0 HBR.out)
    clear hc0 hb0 hI0 hX0 hc0' hb0'
    cases ha : vq.alike (P.headD []) v
    · have HF : Hid (haveK m P [v] = false) := by show _ = _; rw [HE.out, hp, ha]; rfl
      rw [HF.out, if_neg (by decide)]
      go_enter Try.func16, Try.ntmps16
      go_wp2_with fail
      refine HPV.out.mono ?_
      rintro e w1 ⟨rfl, hb1⟩
      have hc1 := (hb1.cell (p := ⟨b, o, none⟩) HBE.out).trans HCE.out
      have hAL := ralike_calls A0 A' n0 n' c0 c' p0 v w1 (isI_below HI0.out hb1) (HA.out w1 hb1).2
      rw [← hh0, ha] at hAL
      have HAL := Lib.hid hAL
      have HR1 := Lib.hid (HR.out.below hb1)
      have HB1 := Lib.hid (Below.andThen HBR.out hb1)
      clear hb1 hAL
      go_wp2_with fail
      refine HAL.out.mono ?_
      rintro e w2 ⟨rfl, rfl⟩
      have hR1 := HR1.out
      have hd0 := hR1.c (j := 0) rfl
      have hd1 := hR1.c (j := 1) rfl
      have hd2 := hR1.c (j := 2) rfl
      have hf0 := hR1.f 0
      have hf1 := hR1.f 1
      have hf2 := hR1.f 2
      have HB4 := Lib.hid (below_three HB1.out (Nat.le_refl _) (.int .i64 0) (.int .i64 0) (.int .i64 1))
      have HT4 := Lib.hid (hR1.set3 (.int .i64 0) (.int .i64 0) (.int .i64 1))
      clear hR1
      go_wp2_with fail
      exact bodyPost_ret (v := .agg #[.int .i64 0, .int .i64 0, .int .i64 1]) (results_cell_row (fn := Try.f16) rfl _ _ w.heap.size PL #[.int .i64 0, .int .i64 0, .int .i64 1] (0, 0) _ rfl HT4.out Try.underlying39 rfl (by kernel_rfl)) rfl ⟨rfl, HB4.out⟩
    · have HF : Hid (haveK m P [v] = true) := by show _ = _; rw [HE.out, hp, ha]; rfl
      have hv := vq.alike_iff.1 ha
      rw [HF.out, if_pos rfl]
      go_enter Try.func16, Try.ntmps16
      go_wp2_with fail
      refine HPV.out.mono ?_
      rintro e w1 ⟨rfl, hb1⟩
      have hc1 := (hb1.cell (p := ⟨b, o, none⟩) HBE.out).trans HCE.out
      have hAL := ralike_calls A0 A' n0 n' c0 c' p0 v w1 (isI_below HI0.out hb1) (HA.out w1 hb1).2
      rw [← hh0, ha] at hAL
      have HAL := Lib.hid hAL
      have HR1 := Lib.hid (HR.out.below hb1)
      have HB1 := Lib.hid (Below.andThen HBR.out hb1)
      have HNC := Lib.hid (rnear_calls w1 hM.1 hM.2 (HA.out w1 hb1).1 (HA.out w1 hb1).2 hF (by omega) ⟨hv.1.symm, hv.2.2⟩)
      clear hb1 hAL
      obtain ⟨q, hq⟩ : ∃ q, nearest m P v = q := ⟨_, rfl⟩
      rw [hq] at HNC
      have HQ := Lib.hid hq
      clear hq
      obtain ⟨q1, q2⟩ := q
      dsimp only at HNC
      go_wp2_with fail
      refine HAL.out.mono ?_
      rintro e w2 ⟨rfl, rfl⟩
      go_wp2_with fail
      refine HNC.out.mono ?_
      rintro e w3 ⟨rfl, hb3⟩
      have hR1 := HR1.out.below hb3
      have hd0 := hR1.c (j := 0) rfl
      have hd1 := hR1.c (j := 1) rfl
      have hd2 := hR1.c (j := 2) rfl
      have hf0 := hR1.f 0
      have hf1 := hR1.f 1
      have hf2 := hR1.f 2
      have HB4 := Lib.hid (below_three (Below.andThen HB1.out hb3) (Nat.le_refl _) (.int .i64 (q1 : Int)) (.int .i64 q2) (.int .i64 0))
      have HT4 := Lib.hid (hR1.set3 (.int .i64 (q1 : Int)) (.int .i64 q2) (.int .i64 0))
      clear hR1 hb3
      go_wp2_with fail
      exact bodyPost_ret (v := .agg #[.int .i64 (q1 : Int), .int .i64 q2, .int .i64 0]) (results_cell_row (fn := Try.f16) rfl _ _ w.heap.size PL #[.int .i64 (q1 : Int), .int .i64 q2, .int .i64 0] (0, 0) _ rfl HT4.out Try.underlying39 rfl (by kernel_rfl)) rfl ⟨by rw [HQ.out], HB4.out⟩
end Go.Proofs.Yteeianandjokaaa.pk
