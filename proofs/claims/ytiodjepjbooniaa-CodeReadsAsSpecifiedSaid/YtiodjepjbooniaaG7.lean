/- Joined: U1 Ue Uf Ug Ux Uh. -/
import Derived.Test.YtiodjepjbooniaaG6

import Derived.Lib.AppendZerosOnto

import Derived.Lib.SliceRun

import Derived.Deep.Cut
/- The reference: end, cut. -/
namespace Go.Proofs.Ytiodjepjbooniaa.uk

open Go.ChangeShapes Go.WideShapes Go.ChangeAt Go.RowKit

open Go.Proofs.Ytiodjepjbooniaa.cq Go.Proofs.Ytiodjepjbooniaa.vk Go.Proofs.Ytiodjepjbooniaa.bk Go.Proofs.Ytiodjepjbooniaa.wk

set_option linter.unusedVariables false
set_option maxRecDepth 100000 in
set_option maxHeartbeats 1000000 in
theorem rend_calls (A : Option Addr) (n c : Nat) (cuts : List Int) (d : Int) (k : Nat) (w : World) (h : wo.IsI w A n c cuts) (hk : k < n) :
    Calls Try.prog 43 #[.slice A n c, .int .i64 d, .int .i64 (k : Int)] w fun e w' => e = .returned (.int .i64 (endAt cuts d k)) ∧ w' = w := by
  have hm := h.2.2.1
  have hnc := h.2.1
  have hl := h.1
  by_cases h1 : k + 1 < n
  · obtain ⟨b, o, x, rfl, hc, hx, -, -⟩ := isI_at h h1
    have hE := endAt_in (d := d) hx
    rw [hE]
    have hlt : (k : Int) + 1 < (n : Int) := by omega
    clear h hE hx
    go_enter Try.func43, Try.ntmps43
    go_wp2_with fail
    go_ret
    exact ⟨rfl, rfl⟩
  · rw [endAt_out (by omega)]
    have hlt : ¬ ((k : Int) + 1 < (n : Int)) := by omega
    clear h
    go_enter Try.func43, Try.ntmps43
    go_wp2_with fail
    go_ret
    exact ⟨rfl, rfl⟩
def cutk (d : Int) (cuts : List Int) (k : Nat) : Bool := decide (cuts.getD k 0 < d) && (decide (k = 0) || decide (cuts.getD (k - 1) 0 < cuts.getD k 0))
theorem ascs_cut {d : Int} {cuts : List Int} : ascs (sp cuts d) = true ↔ ∀ k, k < cuts.length → cuts.getD k 0 < endAt cuts d k := by
  unfold ascs
  rw [List.all_eq_true]
  constructor
  · intro h k hk
    have hy := List.getElem?_eq_getElem hk
    have := h _ (List.mem_of_getElem? (sp_at (d := d) hy))
    rw [List.getD_eq_getElem?_getD, hy]
    simpa [asc] using this
  · intro h p hp
    obtain ⟨k, hk, rfl⟩ := List.mem_iff_getElem.1 hp
    rw [sp_len] at hk
    have hy := List.getElem?_eq_getElem hk
    have h1 := sp_at (d := d) hy
    rw [List.getElem?_eq_getElem (by rw [sp_len]; exact hk)] at h1
    injection h1 with h1
    rw [h1]
    have := h k hk
    rw [List.getD_eq_getElem?_getD, hy] at this
    simpa [asc] using this
theorem cut_up {d : Int} {cuts : List Int} {n : Nat} (hn : cuts.length = n) (h : ∀ k, k < n → cutk d cuts k = true) : ascs (sp cuts d) = true := by
  rw [ascs_cut]
  intro k hk
  rcases Nat.lt_or_ge (k + 1) cuts.length with h1 | h1
  · have h2 := h (k + 1) (by omega)
    simp only [cutk, Bool.and_eq_true, Bool.or_eq_true, decide_eq_true_eq] at h2
    rw [endAt_in (List.getElem?_eq_getElem h1)]
    have h3 := h2.2.resolve_left (by omega)
    rw [Nat.add_sub_cancel] at h3
    rw [show cuts.getD (k + 1) 0 = (cuts[k + 1]?).getD 0 from List.getD_eq_getElem?_getD, List.getElem?_eq_getElem h1] at h3
    exact h3
  · rw [endAt_out h1]
    have h2 := h k (by omega)
    simp only [cutk, Bool.and_eq_true, decide_eq_true_eq] at h2
    exact h2.1
theorem cut_not {d : Int} {cuts : List Int} {n k : Nat} (hn : cuts.length = n) (hk : k < n) (h : cutk d cuts k = false) : ascs (sp cuts d) = false := by
  rw [← Bool.not_eq_true]
  intro ha
  have hch : ∀ j, k + j < n → cuts.getD k 0 + j ≤ cuts.getD (k + j) 0 := by
    intro j
    induction j with
    | zero => intro _; simp
    | succ j ih =>
      intro hj
      have h1 := ih (by omega)
      have h2 := ascs_cut.1 ha (k + j) (by omega)
      rw [endAt_in (List.getElem?_eq_getElem (show k + j + 1 < cuts.length by omega))] at h2
      rw [show cuts.getD (k + (j + 1)) 0 = (cuts[k + (j + 1)]?).getD 0 from List.getD_eq_getElem?_getD, List.getElem?_eq_getElem (show k + (j + 1) < cuts.length by omega)]
      simp only [Option.getD_some]
      have h3 : cuts[k + (j + 1)] = cuts[k + j + 1] := rfl
      omega
  have h1 := hch (n - 1 - k) (by omega)
  have h2 := ascs_cut.1 ha (n - 1) (by omega)
  rw [endAt_out (by omega)] at h2
  rw [show k + (n - 1 - k) = n - 1 by omega] at h1
  simp only [cutk, Bool.and_eq_false_iff, Bool.or_eq_false_iff, decide_eq_false_iff_not] at h
  rcases h with h | ⟨h3, h4⟩
  · omega
  · have h5 := ascs_cut.1 ha (k - 1) (by omega)
    rw [endAt_in (k := k - 1) (y := cuts.getD k 0) (by rw [show k - 1 + 1 = k by omega, List.getD_eq_getElem?_getD, List.getElem?_eq_getElem (by omega)]; rfl)] at h5
    exact h4 h5
set_option maxRecDepth 100000 in
set_option maxHeartbeats 1000000 in
theorem rcut_calls (A : Option Addr) (n c : Nat) (cuts : List Int) (d : Int) (w : World) (h : wo.IsI w A n c cuts) :
    Calls Try.prog 41 #[.slice A n c, .int .i64 d] w fun e w' => e = .returned (.bool (divided d cuts)) ∧ Below w.heap.size w w' := by
  have hm := h.2.2.1
  have hnc := h.2.1
  have hl := h.1
  have H := Lib.hid h
  have HE : Hid (divided d cuts = (decide (1 ≤ d) && decide (d ≤ 32) && decide (1 ≤ n) && decide (n ≤ 8) && decide (cuts.headD 1 = 0) && ascs (sp cuts d))) := by show _ = _; unfold divided; rw [hl]
  by_cases h1 : d < 1
  · have HE2 : Hid (divided d cuts = false) := by show _ = _; rw [HE.out, decide_eq_false (show ¬ 1 ≤ d by omega)]; rfl
    clear h hl
    go_enter Try.func41, Try.ntmps41
    go_wp2_with fail
    go_ret
    exact ⟨by rw [HE2.out]; rfl, Below.refl _ _⟩
  by_cases h2 : d > 32
  · have HE2 : Hid (divided d cuts = false) := by show _ = _; rw [HE.out, decide_eq_false (show ¬ d ≤ 32 by omega)]; simp
    clear h hl
    go_enter Try.func41, Try.ntmps41
    go_wp2_with fail
    go_ret
    exact ⟨by rw [HE2.out]; rfl, Below.refl _ _⟩
  by_cases h3 : n < 1
  · have HE2 : Hid (divided d cuts = false) := by show _ = _; rw [HE.out, decide_eq_false (show ¬ 1 ≤ n by omega)]; simp
    clear h hl
    go_enter Try.func41, Try.ntmps41
    go_wp2_with fail
    go_ret
    exact ⟨by rw [HE2.out]; rfl, Below.refl _ _⟩
  by_cases h4 : n > 8
  · have HE2 : Hid (divided d cuts = false) := by show _ = _; rw [HE.out, decide_eq_false (show ¬ n ≤ 8 by omega)]; simp
    clear h hl
    go_enter Try.func41, Try.ntmps41
    go_wp2_with fail
    go_ret
    exact ⟨by rw [HE2.out]; rfl, Below.refl _ _⟩
  have h30 : 0 < n := by omega
  obtain ⟨b, o, rfl, hbs, -⟩ := h.2.2.2.1 (by simp; omega)
  obtain ⟨b', o', x, eA, hc, hx, -, -⟩ := isI_at h h30
  cases eA
  rw [Nat.add_zero] at hc
  have hhd : cuts.headD 1 = x := by
    cases cuts with
    | nil => simp at hx
    | cons y l => simpa using hx
  have hz : (0 : Int) < (n : Int) := by omega
  by_cases h5 : x = 0
  · subst h5
    have HE2 : Hid (divided d cuts = ascs (sp cuts d)) := by show _ = _; rw [HE.out, hhd, decide_eq_true (show 1 ≤ d by omega), decide_eq_true (show d ≤ 32 by omega), decide_eq_true (show 1 ≤ n by omega), decide_eq_true (show n ≤ 8 by omega)]; simp
    have HL := Lib.hid hl
    clear h hl hhd hx HE
    rw [HE2.out]
    go_enter Try.func41, Try.ntmps41
    go_wp2_with fail
    go_loopg [5] n (fun g x wr => ∃ k : Nat, k + g = n ∧ x = .int .i64 (k : Int) ∧ Below w.heap.size w wr ∧ ∀ j, j < k → cutk d cuts j = true)
    case atStart => exact ⟨0, by omega, rfl, Below.refl _ _, by intro j hj; omega⟩
    case round =>
      obtain ⟨k, hk, rfl, hbel, hr⟩ := hrel
      have hbs2 : b < wr.heap.size := Nat.lt_of_lt_of_le hbs hbel.size
      have HBEL := Lib.hid hbel
      have H2 := Lib.hid (isI_below H.out hbel)
      have hc := (hbel.cell (p := ⟨b, o, none⟩) hbs).trans hc
      have HK := Lib.hid hk
      have HR := Lib.hid hr
      have hkn : k ≤ n := by omega
      clear hk hr
      by_cases hlt : k < n
      · obtain ⟨b', o', y, eA, hcy, hy, -, -⟩ := isI_at H2.out hlt
        cases eA
        have hyd : cuts.getD k 0 = y := by rw [List.getD_eq_getElem?_getD, hy]; rfl
        have hlt0 : (k : Int) < (n : Int) := by omega
        have hk0 : k = 0 → y = 0 := by
          rintro rfl
          rw [Nat.add_zero, hc] at hcy
          injection hcy with hcy
          injection hcy with _ hcy
          exact hcy.symm
        have hd0 : ¬ d ≤ 0 := by omega
        by_cases h6 : d ≤ y
        · have hkp : (0 : Int) < (k : Int) := by rcases Nat.eq_zero_or_pos k with h | h; have := hk0 h; omega; omega
          clear hc
          have HN : Hid (cutk d cuts k = false) := by show _ = _; unfold cutk; rw [hyd, decide_eq_false (by omega)]; rfl
          clear hy hyd
          go_wp2_with fail
          go_quiet (fail)
          go_wp2_with fail
          go_ret
          exact ⟨by rw [cut_not HL.out hlt HN.out]; rfl, HBEL.out.trans ((below_drewN (Below.refl wr.heap.size wr) _).mono HBEL.out.size)⟩
        · by_cases h7 : k = 0
          · have hk1 : ¬ (0 < k) := by omega
            have HK0 := Lib.hid h7
            have HN : Hid (cutk d cuts k = true) := by show _ = _; unfold cutk; rw [hyd, decide_eq_true (by omega), decide_eq_true h7]; rfl
            clear hy hyd hc hk0 h7 hd0
            go_wp2_with fail
            refine wk.region_tailS 22 [.is (.slice (some ⟨b, o, none⟩) n c), .is (.int .i64 (k : Int)), .is (.pointer (some ⟨b, o + k, none⟩)), .is (.int .i64 y), .is (.int .i64 d), .is (.bool false), .is (.bool false), .is (.int .i64 (k : Int)), .is (.bool false), .is (.bool false), .is undef, .is undef, .is undef, .is undef, .is undef, .is undef, .is undef, .is undef, .is undef, .is undef, .is (.bool false), .is (.bool false)] [some 34, some 35, some 36, some 37, some 38, some 39, some 40, some 41, some 42, some 43, some 44, some 45, some 46, some 47, some 48, some 49, some 50, some 51, some 52, some 53, some 54, some 55] (by kernel_rfl) (by kernel_rfl) (by kernel_rfl) (by kernel_rfl) [10, 11, 12, 13, 14, 15, 16, 17, 18, 19] (by kernel_rfl) (by intro p hp; simp only [List.mem_cons, List.not_mem_nil, or_false] at hp; rcases hp with rfl | rfl | rfl | rfl | rfl | rfl | rfl | rfl | rfl | rfl <;> rfl) (by kernel_rfl) (by kernel_rfl) ?hstep ?hdone
            case hstep =>
              intro i o ho hi hns E w4 hb4 D
              have hi2 : i = 0 ∨ i = 1 ∨ i = 2 ∨ i = 3 ∨ i = 4 ∨ i = 5 ∨ i = 6 ∨ i = 7 ∨ i = 8 ∨ i = 9 ∨ i = 10 ∨ i = 11 ∨ i = 12 ∨ i = 13 ∨ i = 14 ∨ i = 15 ∨ i = 16 ∨ i = 17 ∨ i = 18 ∨ i = 19 ∨ i = 20 ∨ i = 21 := by omega
              clear hi
              rcases hi2 with rfl | rfl | rfl | rfl | rfl | rfl | rfl | rfl | rfl | rfl | rfl | rfl | rfl | rfl | rfl | rfl | rfl | rfl | rfl | rfl | rfl | rfl
              ·
                have ho2 := (Array.getElem?_eq_some_iff.1 ho).2
                simp only [List.getElem_toArray, List.getElem_cons_zero] at ho2
                subst ho2
                clear ho
                have e0 := D.old 0 (by kernel_rfl)
                exact wk.does_move rfl (by rw [e0]; rfl)
              ·
                have ho2 := (Array.getElem?_eq_some_iff.1 ho).2
                simp only [List.getElem_toArray, List.getElem_cons_succ, List.getElem_cons_zero] at ho2
                subst ho2
                clear ho
                have e5 := D.old 5 (by kernel_rfl)
                exact wk.does_move rfl (by rw [e5]; rfl)
              ·
                have ho2 := (Array.getElem?_eq_some_iff.1 ho).2
                simp only [List.getElem_toArray, List.getElem_cons_succ, List.getElem_cons_zero] at ho2
                subst ho2
                clear ho
                have e34 := D.is { on := 0, ground := .data } (by simp) rfl rfl 34 rfl
                have e35 := D.is { on := 1, ground := .data } (by simp) rfl rfl 35 rfl
                exact wk.does_run (by simp only [execOp]; rw [show E (.tmp 34) = _ from e34, show E (.tmp 35) = _ from e35]; go_simp) rfl
              ·
                have ho2 := (Array.getElem?_eq_some_iff.1 ho).2
                simp only [List.getElem_toArray, List.getElem_cons_succ, List.getElem_cons_zero] at ho2
                subst ho2
                clear ho
                have e36 := D.is { on := 2, ground := .data } (by simp) rfl rfl 36 rfl
                exact wk.does_load1 rfl e36 ((((Below.refl _ _).drew.trans hb4).cell (p := ⟨_, _, none⟩) hbs2).trans hcy) Try.underlying3 rfl rfl
              ·
                have ho2 := (Array.getElem?_eq_some_iff.1 ho).2
                simp only [List.getElem_toArray, List.getElem_cons_succ, List.getElem_cons_zero] at ho2
                subst ho2
                clear ho
                have e1 := D.old 1 (by kernel_rfl)
                exact wk.does_move rfl (by rw [e1]; rfl)
              ·
                have ho2 := (Array.getElem?_eq_some_iff.1 ho).2
                simp only [List.getElem_toArray, List.getElem_cons_succ, List.getElem_cons_zero] at ho2
                subst ho2
                clear ho
                have e37 := D.is { on := 3, ground := .data } (by simp) rfl rfl 37 rfl
                have e38 := D.is { on := 4, ground := .data } (by simp) rfl rfl 38 rfl
                exact wk.does_run (by simp only [execOp]; rw [show E (.tmp 37) = _ from e37, show E (.tmp 38) = _ from e38]; go_simp) rfl
              ·
                have ho2 := (Array.getElem?_eq_some_iff.1 ho).2
                simp only [List.getElem_toArray, List.getElem_cons_succ, List.getElem_cons_zero] at ho2
                subst ho2
                clear ho
                have e39 := D.is { on := 5, ground := .data } (by simp) rfl rfl 39 rfl
                exact wk.does_move rfl e39
              ·
                have ho2 := (Array.getElem?_eq_some_iff.1 ho).2
                simp only [List.getElem_toArray, List.getElem_cons_succ, List.getElem_cons_zero] at ho2
                subst ho2
                clear ho
                have e5 := D.old 5 (by kernel_rfl)
                exact wk.does_move rfl (by rw [e5]; rfl)
              ·
                have ho2 := (Array.getElem?_eq_some_iff.1 ho).2
                simp only [List.getElem_toArray, List.getElem_cons_succ, List.getElem_cons_zero] at ho2
                subst ho2
                clear ho
                have e41 := D.is { on := 7, ground := .data } (by simp) rfl rfl 41 rfl
                exact wk.does_run (by simp only [execOp]; rw [show E (.tmp 41) = _ from e41, show E (.const (.int .i64 0)) = .int .i64 0 from D.con _]; go_simp) rfl
              ·
                have ho2 := (Array.getElem?_eq_some_iff.1 ho).2
                simp only [List.getElem_toArray, List.getElem_cons_succ, List.getElem_cons_zero] at ho2
                subst ho2
                clear ho
                have e42 := D.is { on := 8, ground := .data } (by simp) rfl rfl 42 rfl
                exact wk.does_move rfl e42
              · cases (show false = true from hns.symm.trans (by kernel_rfl))
              · cases (show false = true from hns.symm.trans (by kernel_rfl))
              · cases (show false = true from hns.symm.trans (by kernel_rfl))
              · cases (show false = true from hns.symm.trans (by kernel_rfl))
              · cases (show false = true from hns.symm.trans (by kernel_rfl))
              · cases (show false = true from hns.symm.trans (by kernel_rfl))
              · cases (show false = true from hns.symm.trans (by kernel_rfl))
              · cases (show false = true from hns.symm.trans (by kernel_rfl))
              · cases (show false = true from hns.symm.trans (by kernel_rfl))
              · cases (show false = true from hns.symm.trans (by kernel_rfl))
              ·
                have ho2 := (Array.getElem?_eq_some_iff.1 ho).2
                simp only [List.getElem_toArray, List.getElem_cons_succ, List.getElem_cons_zero] at ho2
                subst ho2
                clear ho
                have e43 := D.is { on := 9, ground := .data } (by simp) rfl rfl 43 rfl
                have e53 := D.is { on := 19, ground := .data } (by simp) rfl rfl 53 rfl
                exact wk.does_pick rfl e43 (D.con _)
              ·
                have ho2 := (Array.getElem?_eq_some_iff.1 ho).2
                simp only [List.getElem_toArray, List.getElem_cons_succ, List.getElem_cons_zero] at ho2
                subst ho2
                clear ho
                have e40 := D.is { on := 6, ground := .data } (by simp) rfl rfl 40 rfl
                have e54 := D.is { on := 20, ground := .data } (by simp) rfl rfl 54 rfl
                exact wk.does_pick rfl e40 e54
            case hdone =>
              intro vals w4 hb4 hv
              have h21 := hv 21 (by omega)
              clear hv
              replace h21 : vals 21 = (.bool false) := h21
              simp only [List.drop_succ_cons, List.drop_zero, wpList, wk.setL, List.setIfInBounds_toArray, List.set_cons_zero, List.set_cons_succ, Nat.zero_add, Nat.reduceAdd, h21]
              generalize vals 0 = x0
              generalize vals 1 = x1
              generalize vals 2 = x2
              generalize vals 3 = x3
              generalize vals 4 = x4
              generalize vals 5 = x5
              generalize vals 6 = x6
              generalize vals 7 = x7
              generalize vals 8 = x8
              generalize vals 9 = x9
              generalize vals 10 = x10
              generalize vals 11 = x11
              generalize vals 12 = x12
              generalize vals 13 = x13
              generalize vals 14 = x14
              generalize vals 15 = x15
              generalize vals 16 = x16
              generalize vals 17 = x17
              generalize vals 18 = x18
              generalize vals 19 = x19
              generalize vals 20 = x20
              go_wp2_with fail
              go_roundg (gk - 1)
              case measure => have := HK.out; omega
              case rel => exact ⟨k + 1, by have := HK.out; omega, by go_num, HBEL.out.trans (((Below.refl _ _).drew.trans hb4).mono HBEL.out.size), fun j hj => by rcases Nat.lt_or_ge j k with h | h; exact HR.out j h; rw [show j = k by omega]; exact HN.out⟩
          · obtain ⟨j, rfl⟩ : ∃ j, k = j + 1 := ⟨k - 1, by omega⟩
            obtain ⟨b', o', z, eA, hcz, hz', -, -⟩ := isI_at H2.out (show j < n by omega)
            cases eA
            have hzd : cuts.getD j 0 = z := by rw [List.getD_eq_getElem?_getD, hz']; rfl
            have hlt1 : (j : Int) < (n : Int) := by omega
            have hj0 : (0 : Int) < (j : Int) + 1 := by omega
            replace hlt0 : (j : Int) + 1 < (n : Int) := by omega
            clear hc hk0
            by_cases h8 : y ≤ z
            · have HN : Hid (cutk d cuts (j + 1) = false) := by show _ = _; unfold cutk; rw [hyd, Nat.add_sub_cancel, hzd]; simp; omega
              clear hy hyd hzd hz'
              go_wp2_with fail
              refine wk.region_tailS 22 [.is (.slice (some ⟨b, o, none⟩) n c), .is (.int .i64 ((j : Int) + 1)), .is (.pointer (some ⟨b, o + (j + 1), none⟩)), .is (.int .i64 y), .is (.int .i64 d), .is (.bool false), .is (.bool false), .is (.int .i64 ((j : Int) + 1)), .is (.bool true), .is (.bool true), .is (.slice (some ⟨b, o, none⟩) n c), .is (.int .i64 ((j : Int) + 1)), .is (.pointer (some ⟨b, o + (j + 1), none⟩)), .is (.int .i64 y), .is (.slice (some ⟨b, o, none⟩) n c), .is (.int .i64 ((j : Int) + 1)), .is (.int .i64 (j : Int)), .is (.pointer (some ⟨b, o + j, none⟩)), .is (.int .i64 z), .is (.bool true), .is (.bool true), .is (.bool true)] [some 34, some 35, some 36, some 37, some 38, some 39, some 40, some 41, some 42, some 43, some 44, some 45, some 46, some 47, some 48, some 49, some 50, some 51, some 52, some 53, some 54, some 55] (by kernel_rfl) (by kernel_rfl) (by kernel_rfl) (by kernel_rfl) [] (by kernel_rfl) (by intro p hp; cases hp) (by kernel_rfl) (by kernel_rfl) ?hstep ?hdone
              case hstep =>
                intro i o ho hi hns E w4 hb4 D
                have hi2 : i = 0 ∨ i = 1 ∨ i = 2 ∨ i = 3 ∨ i = 4 ∨ i = 5 ∨ i = 6 ∨ i = 7 ∨ i = 8 ∨ i = 9 ∨ i = 10 ∨ i = 11 ∨ i = 12 ∨ i = 13 ∨ i = 14 ∨ i = 15 ∨ i = 16 ∨ i = 17 ∨ i = 18 ∨ i = 19 ∨ i = 20 ∨ i = 21 := by omega
                clear hi
                rcases hi2 with rfl | rfl | rfl | rfl | rfl | rfl | rfl | rfl | rfl | rfl | rfl | rfl | rfl | rfl | rfl | rfl | rfl | rfl | rfl | rfl | rfl | rfl
                ·
                  have ho2 := (Array.getElem?_eq_some_iff.1 ho).2
                  simp only [List.getElem_toArray, List.getElem_cons_zero] at ho2
                  subst ho2
                  clear ho
                  have e0 := D.old 0 (by kernel_rfl)
                  exact wk.does_move rfl (by rw [e0]; rfl)
                ·
                  have ho2 := (Array.getElem?_eq_some_iff.1 ho).2
                  simp only [List.getElem_toArray, List.getElem_cons_succ, List.getElem_cons_zero] at ho2
                  subst ho2
                  clear ho
                  have e5 := D.old 5 (by kernel_rfl)
                  exact wk.does_move rfl (by rw [e5]; rfl)
                ·
                  have ho2 := (Array.getElem?_eq_some_iff.1 ho).2
                  simp only [List.getElem_toArray, List.getElem_cons_succ, List.getElem_cons_zero] at ho2
                  subst ho2
                  clear ho
                  have e34 := D.is { on := 0, ground := .data } (by simp) rfl rfl 34 rfl
                  have e35 := D.is { on := 1, ground := .data } (by simp) rfl rfl 35 rfl
                  exact wk.does_run (by simp only [execOp]; rw [show E (.tmp 34) = _ from e34, show E (.tmp 35) = _ from e35]; go_simp <;> (intro hh; omega)) rfl
                ·
                  have ho2 := (Array.getElem?_eq_some_iff.1 ho).2
                  simp only [List.getElem_toArray, List.getElem_cons_succ, List.getElem_cons_zero] at ho2
                  subst ho2
                  clear ho
                  have e36 := D.is { on := 2, ground := .data } (by simp) rfl rfl 36 rfl
                  exact wk.does_load1 rfl e36 ((((Below.refl _ _).drew.trans hb4).cell (p := ⟨_, _, none⟩) hbs2).trans hcy) Try.underlying3 rfl rfl
                ·
                  have ho2 := (Array.getElem?_eq_some_iff.1 ho).2
                  simp only [List.getElem_toArray, List.getElem_cons_succ, List.getElem_cons_zero] at ho2
                  subst ho2
                  clear ho
                  have e1 := D.old 1 (by kernel_rfl)
                  exact wk.does_move rfl (by rw [e1]; rfl)
                ·
                  have ho2 := (Array.getElem?_eq_some_iff.1 ho).2
                  simp only [List.getElem_toArray, List.getElem_cons_succ, List.getElem_cons_zero] at ho2
                  subst ho2
                  clear ho
                  have e37 := D.is { on := 3, ground := .data } (by simp) rfl rfl 37 rfl
                  have e38 := D.is { on := 4, ground := .data } (by simp) rfl rfl 38 rfl
                  exact wk.does_run (by simp only [execOp]; rw [show E (.tmp 37) = _ from e37, show E (.tmp 38) = _ from e38]; go_simp) rfl
                ·
                  have ho2 := (Array.getElem?_eq_some_iff.1 ho).2
                  simp only [List.getElem_toArray, List.getElem_cons_succ, List.getElem_cons_zero] at ho2
                  subst ho2
                  clear ho
                  have e39 := D.is { on := 5, ground := .data } (by simp) rfl rfl 39 rfl
                  exact wk.does_move rfl e39
                ·
                  have ho2 := (Array.getElem?_eq_some_iff.1 ho).2
                  simp only [List.getElem_toArray, List.getElem_cons_succ, List.getElem_cons_zero] at ho2
                  subst ho2
                  clear ho
                  have e5 := D.old 5 (by kernel_rfl)
                  exact wk.does_move rfl (by rw [e5]; rfl)
                ·
                  have ho2 := (Array.getElem?_eq_some_iff.1 ho).2
                  simp only [List.getElem_toArray, List.getElem_cons_succ, List.getElem_cons_zero] at ho2
                  subst ho2
                  clear ho
                  have e41 := D.is { on := 7, ground := .data } (by simp) rfl rfl 41 rfl
                  exact wk.does_run (by simp only [execOp]; rw [show E (.tmp 41) = _ from e41, show E (.const (.int .i64 0)) = .int .i64 0 from D.con _]; go_simp) rfl
                ·
                  have ho2 := (Array.getElem?_eq_some_iff.1 ho).2
                  simp only [List.getElem_toArray, List.getElem_cons_succ, List.getElem_cons_zero] at ho2
                  subst ho2
                  clear ho
                  have e42 := D.is { on := 8, ground := .data } (by simp) rfl rfl 42 rfl
                  exact wk.does_move rfl e42
                ·
                  have ho2 := (Array.getElem?_eq_some_iff.1 ho).2
                  simp only [List.getElem_toArray, List.getElem_cons_succ, List.getElem_cons_zero] at ho2
                  subst ho2
                  clear ho
                  have e0 := D.old 0 (by kernel_rfl)
                  exact wk.does_move rfl (by rw [e0]; rfl)
                ·
                  have ho2 := (Array.getElem?_eq_some_iff.1 ho).2
                  simp only [List.getElem_toArray, List.getElem_cons_succ, List.getElem_cons_zero] at ho2
                  subst ho2
                  clear ho
                  have e5 := D.old 5 (by kernel_rfl)
                  exact wk.does_move rfl (by rw [e5]; rfl)
                ·
                  have ho2 := (Array.getElem?_eq_some_iff.1 ho).2
                  simp only [List.getElem_toArray, List.getElem_cons_succ, List.getElem_cons_zero] at ho2
                  subst ho2
                  clear ho
                  have e44 := D.is { on := 10, ground := .data } (by simp) rfl rfl 44 rfl
                  have e45 := D.is { on := 11, ground := .data } (by simp) rfl rfl 45 rfl
                  exact wk.does_run (by simp only [execOp]; rw [show E (.tmp 44) = _ from e44, show E (.tmp 45) = _ from e45]; go_simp <;> (intro hh; omega)) rfl
                ·
                  have ho2 := (Array.getElem?_eq_some_iff.1 ho).2
                  simp only [List.getElem_toArray, List.getElem_cons_succ, List.getElem_cons_zero] at ho2
                  subst ho2
                  clear ho
                  have e46 := D.is { on := 12, ground := .data } (by simp) rfl rfl 46 rfl
                  exact wk.does_load1 rfl e46 ((((Below.refl _ _).drew.trans hb4).cell (p := ⟨_, _, none⟩) hbs2).trans hcy) Try.underlying3 rfl rfl
                ·
                  have ho2 := (Array.getElem?_eq_some_iff.1 ho).2
                  simp only [List.getElem_toArray, List.getElem_cons_succ, List.getElem_cons_zero] at ho2
                  subst ho2
                  clear ho
                  have e0 := D.old 0 (by kernel_rfl)
                  exact wk.does_move rfl (by rw [e0]; rfl)
                ·
                  have ho2 := (Array.getElem?_eq_some_iff.1 ho).2
                  simp only [List.getElem_toArray, List.getElem_cons_succ, List.getElem_cons_zero] at ho2
                  subst ho2
                  clear ho
                  have e5 := D.old 5 (by kernel_rfl)
                  exact wk.does_move rfl (by rw [e5]; rfl)
                ·
                  have ho2 := (Array.getElem?_eq_some_iff.1 ho).2
                  simp only [List.getElem_toArray, List.getElem_cons_succ, List.getElem_cons_zero] at ho2
                  subst ho2
                  clear ho
                  have e49 := D.is { on := 15, ground := .data } (by simp) rfl rfl 49 rfl
                  have hw1 : IntKind.i64.wrap (j : Int) = (j : Int) := by rw [IntKind.wrap_i64]; omega
                  exact wk.does_run (by simp only [execOp]; rw [show E (.tmp 49) = _ from e49, show E (.const (.int .i64 1)) = .int .i64 1 from D.con _]; go_simp) rfl
                ·
                  have ho2 := (Array.getElem?_eq_some_iff.1 ho).2
                  simp only [List.getElem_toArray, List.getElem_cons_succ, List.getElem_cons_zero] at ho2
                  subst ho2
                  clear ho
                  have e48 := D.is { on := 14, ground := .data } (by simp) rfl rfl 48 rfl
                  have e50 := D.is { on := 16, ground := .data } (by simp) rfl rfl 50 rfl
                  exact wk.does_run (by simp only [execOp]; rw [show E (.tmp 48) = _ from e48, show E (.tmp 50) = _ from e50]; go_simp) rfl
                ·
                  have ho2 := (Array.getElem?_eq_some_iff.1 ho).2
                  simp only [List.getElem_toArray, List.getElem_cons_succ, List.getElem_cons_zero] at ho2
                  subst ho2
                  clear ho
                  have e51 := D.is { on := 17, ground := .data } (by simp) rfl rfl 51 rfl
                  exact wk.does_load1 rfl e51 ((((Below.refl _ _).drew.trans hb4).cell (p := ⟨_, _, none⟩) hbs2).trans hcz) Try.underlying3 rfl rfl
                ·
                  have ho2 := (Array.getElem?_eq_some_iff.1 ho).2
                  simp only [List.getElem_toArray, List.getElem_cons_succ, List.getElem_cons_zero] at ho2
                  subst ho2
                  clear ho
                  have e47 := D.is { on := 13, ground := .data } (by simp) rfl rfl 47 rfl
                  have e52 := D.is { on := 18, ground := .data } (by simp) rfl rfl 52 rfl
                  exact wk.does_run (by simp only [execOp]; rw [show E (.tmp 47) = _ from e47, show E (.tmp 52) = _ from e52]; go_simp) rfl
                ·
                  have ho2 := (Array.getElem?_eq_some_iff.1 ho).2
                  simp only [List.getElem_toArray, List.getElem_cons_succ, List.getElem_cons_zero] at ho2
                  subst ho2
                  clear ho
                  have e43 := D.is { on := 9, ground := .data } (by simp) rfl rfl 43 rfl
                  have e53 := D.is { on := 19, ground := .data } (by simp) rfl rfl 53 rfl
                  exact wk.does_pick rfl e43 e53
                ·
                  have ho2 := (Array.getElem?_eq_some_iff.1 ho).2
                  simp only [List.getElem_toArray, List.getElem_cons_succ, List.getElem_cons_zero] at ho2
                  subst ho2
                  clear ho
                  have e40 := D.is { on := 6, ground := .data } (by simp) rfl rfl 40 rfl
                  have e54 := D.is { on := 20, ground := .data } (by simp) rfl rfl 54 rfl
                  exact wk.does_pick rfl e40 e54
              case hdone =>
                intro vals w4 hb4 hv
                have h21 := hv 21 (by omega)
                clear hv
                replace h21 : vals 21 = (.bool true) := h21
                simp only [List.drop_succ_cons, List.drop_zero, wpList, wk.setL, List.setIfInBounds_toArray, List.set_cons_zero, List.set_cons_succ, Nat.zero_add, Nat.reduceAdd, h21]
                generalize vals 0 = x0
                generalize vals 1 = x1
                generalize vals 2 = x2
                generalize vals 3 = x3
                generalize vals 4 = x4
                generalize vals 5 = x5
                generalize vals 6 = x6
                generalize vals 7 = x7
                generalize vals 8 = x8
                generalize vals 9 = x9
                generalize vals 10 = x10
                generalize vals 11 = x11
                generalize vals 12 = x12
                generalize vals 13 = x13
                generalize vals 14 = x14
                generalize vals 15 = x15
                generalize vals 16 = x16
                generalize vals 17 = x17
                generalize vals 18 = x18
                generalize vals 19 = x19
                generalize vals 20 = x20
                go_wp2_with fail
                go_ret
                exact ⟨by rw [cut_not HL.out hlt HN.out]; rfl, HBEL.out.trans (((Below.refl _ _).drew.trans hb4).mono HBEL.out.size)⟩
            · have HN : Hid (cutk d cuts (j + 1) = true) := by show _ = _; unfold cutk; rw [hyd, Nat.add_sub_cancel, hzd]; simp; omega
              clear hy hyd hzd hz'
              go_wp2_with fail
              refine wk.region_tailS 22 [.is (.slice (some ⟨b, o, none⟩) n c), .is (.int .i64 ((j : Int) + 1)), .is (.pointer (some ⟨b, o + (j + 1), none⟩)), .is (.int .i64 y), .is (.int .i64 d), .is (.bool false), .is (.bool false), .is (.int .i64 ((j : Int) + 1)), .is (.bool true), .is (.bool true), .is (.slice (some ⟨b, o, none⟩) n c), .is (.int .i64 ((j : Int) + 1)), .is (.pointer (some ⟨b, o + (j + 1), none⟩)), .is (.int .i64 y), .is (.slice (some ⟨b, o, none⟩) n c), .is (.int .i64 ((j : Int) + 1)), .is (.int .i64 (j : Int)), .is (.pointer (some ⟨b, o + j, none⟩)), .is (.int .i64 z), .is (.bool false), .is (.bool false), .is (.bool false)] [some 34, some 35, some 36, some 37, some 38, some 39, some 40, some 41, some 42, some 43, some 44, some 45, some 46, some 47, some 48, some 49, some 50, some 51, some 52, some 53, some 54, some 55] (by kernel_rfl) (by kernel_rfl) (by kernel_rfl) (by kernel_rfl) [] (by kernel_rfl) (by intro p hp; cases hp) (by kernel_rfl) (by kernel_rfl) ?hstep ?hdone
              case hstep =>
                intro i o ho hi hns E w4 hb4 D
                have hi2 : i = 0 ∨ i = 1 ∨ i = 2 ∨ i = 3 ∨ i = 4 ∨ i = 5 ∨ i = 6 ∨ i = 7 ∨ i = 8 ∨ i = 9 ∨ i = 10 ∨ i = 11 ∨ i = 12 ∨ i = 13 ∨ i = 14 ∨ i = 15 ∨ i = 16 ∨ i = 17 ∨ i = 18 ∨ i = 19 ∨ i = 20 ∨ i = 21 := by omega
                clear hi
                rcases hi2 with rfl | rfl | rfl | rfl | rfl | rfl | rfl | rfl | rfl | rfl | rfl | rfl | rfl | rfl | rfl | rfl | rfl | rfl | rfl | rfl | rfl | rfl
                ·
                  have ho2 := (Array.getElem?_eq_some_iff.1 ho).2
                  simp only [List.getElem_toArray, List.getElem_cons_zero] at ho2
                  subst ho2
                  clear ho
                  have e0 := D.old 0 (by kernel_rfl)
                  exact wk.does_move rfl (by rw [e0]; rfl)
                ·
                  have ho2 := (Array.getElem?_eq_some_iff.1 ho).2
                  simp only [List.getElem_toArray, List.getElem_cons_succ, List.getElem_cons_zero] at ho2
                  subst ho2
                  clear ho
                  have e5 := D.old 5 (by kernel_rfl)
                  exact wk.does_move rfl (by rw [e5]; rfl)
                ·
                  have ho2 := (Array.getElem?_eq_some_iff.1 ho).2
                  simp only [List.getElem_toArray, List.getElem_cons_succ, List.getElem_cons_zero] at ho2
                  subst ho2
                  clear ho
                  have e34 := D.is { on := 0, ground := .data } (by simp) rfl rfl 34 rfl
                  have e35 := D.is { on := 1, ground := .data } (by simp) rfl rfl 35 rfl
                  exact wk.does_run (by simp only [execOp]; rw [show E (.tmp 34) = _ from e34, show E (.tmp 35) = _ from e35]; go_simp <;> (intro hh; omega)) rfl
                ·
                  have ho2 := (Array.getElem?_eq_some_iff.1 ho).2
                  simp only [List.getElem_toArray, List.getElem_cons_succ, List.getElem_cons_zero] at ho2
                  subst ho2
                  clear ho
                  have e36 := D.is { on := 2, ground := .data } (by simp) rfl rfl 36 rfl
                  exact wk.does_load1 rfl e36 ((((Below.refl _ _).drew.trans hb4).cell (p := ⟨_, _, none⟩) hbs2).trans hcy) Try.underlying3 rfl rfl
                ·
                  have ho2 := (Array.getElem?_eq_some_iff.1 ho).2
                  simp only [List.getElem_toArray, List.getElem_cons_succ, List.getElem_cons_zero] at ho2
                  subst ho2
                  clear ho
                  have e1 := D.old 1 (by kernel_rfl)
                  exact wk.does_move rfl (by rw [e1]; rfl)
                ·
                  have ho2 := (Array.getElem?_eq_some_iff.1 ho).2
                  simp only [List.getElem_toArray, List.getElem_cons_succ, List.getElem_cons_zero] at ho2
                  subst ho2
                  clear ho
                  have e37 := D.is { on := 3, ground := .data } (by simp) rfl rfl 37 rfl
                  have e38 := D.is { on := 4, ground := .data } (by simp) rfl rfl 38 rfl
                  exact wk.does_run (by simp only [execOp]; rw [show E (.tmp 37) = _ from e37, show E (.tmp 38) = _ from e38]; go_simp) rfl
                ·
                  have ho2 := (Array.getElem?_eq_some_iff.1 ho).2
                  simp only [List.getElem_toArray, List.getElem_cons_succ, List.getElem_cons_zero] at ho2
                  subst ho2
                  clear ho
                  have e39 := D.is { on := 5, ground := .data } (by simp) rfl rfl 39 rfl
                  exact wk.does_move rfl e39
                ·
                  have ho2 := (Array.getElem?_eq_some_iff.1 ho).2
                  simp only [List.getElem_toArray, List.getElem_cons_succ, List.getElem_cons_zero] at ho2
                  subst ho2
                  clear ho
                  have e5 := D.old 5 (by kernel_rfl)
                  exact wk.does_move rfl (by rw [e5]; rfl)
                ·
                  have ho2 := (Array.getElem?_eq_some_iff.1 ho).2
                  simp only [List.getElem_toArray, List.getElem_cons_succ, List.getElem_cons_zero] at ho2
                  subst ho2
                  clear ho
                  have e41 := D.is { on := 7, ground := .data } (by simp) rfl rfl 41 rfl
                  exact wk.does_run (by simp only [execOp]; rw [show E (.tmp 41) = _ from e41, show E (.const (.int .i64 0)) = .int .i64 0 from D.con _]; go_simp) rfl
                ·
                  have ho2 := (Array.getElem?_eq_some_iff.1 ho).2
                  simp only [List.getElem_toArray, List.getElem_cons_succ, List.getElem_cons_zero] at ho2
                  subst ho2
                  clear ho
                  have e42 := D.is { on := 8, ground := .data } (by simp) rfl rfl 42 rfl
                  exact wk.does_move rfl e42
                ·
                  have ho2 := (Array.getElem?_eq_some_iff.1 ho).2
                  simp only [List.getElem_toArray, List.getElem_cons_succ, List.getElem_cons_zero] at ho2
                  subst ho2
                  clear ho
                  have e0 := D.old 0 (by kernel_rfl)
                  exact wk.does_move rfl (by rw [e0]; rfl)
                ·
                  have ho2 := (Array.getElem?_eq_some_iff.1 ho).2
                  simp only [List.getElem_toArray, List.getElem_cons_succ, List.getElem_cons_zero] at ho2
                  subst ho2
                  clear ho
                  have e5 := D.old 5 (by kernel_rfl)
                  exact wk.does_move rfl (by rw [e5]; rfl)
                ·
                  have ho2 := (Array.getElem?_eq_some_iff.1 ho).2
                  simp only [List.getElem_toArray, List.getElem_cons_succ, List.getElem_cons_zero] at ho2
                  subst ho2
                  clear ho
                  have e44 := D.is { on := 10, ground := .data } (by simp) rfl rfl 44 rfl
                  have e45 := D.is { on := 11, ground := .data } (by simp) rfl rfl 45 rfl
                  exact wk.does_run (by simp only [execOp]; rw [show E (.tmp 44) = _ from e44, show E (.tmp 45) = _ from e45]; go_simp <;> (intro hh; omega)) rfl
                ·
                  have ho2 := (Array.getElem?_eq_some_iff.1 ho).2
                  simp only [List.getElem_toArray, List.getElem_cons_succ, List.getElem_cons_zero] at ho2
                  subst ho2
                  clear ho
                  have e46 := D.is { on := 12, ground := .data } (by simp) rfl rfl 46 rfl
                  exact wk.does_load1 rfl e46 ((((Below.refl _ _).drew.trans hb4).cell (p := ⟨_, _, none⟩) hbs2).trans hcy) Try.underlying3 rfl rfl
                ·
                  have ho2 := (Array.getElem?_eq_some_iff.1 ho).2
                  simp only [List.getElem_toArray, List.getElem_cons_succ, List.getElem_cons_zero] at ho2
                  subst ho2
                  clear ho
                  have e0 := D.old 0 (by kernel_rfl)
                  exact wk.does_move rfl (by rw [e0]; rfl)
                ·
                  have ho2 := (Array.getElem?_eq_some_iff.1 ho).2
                  simp only [List.getElem_toArray, List.getElem_cons_succ, List.getElem_cons_zero] at ho2
                  subst ho2
                  clear ho
                  have e5 := D.old 5 (by kernel_rfl)
                  exact wk.does_move rfl (by rw [e5]; rfl)
                ·
                  have ho2 := (Array.getElem?_eq_some_iff.1 ho).2
                  simp only [List.getElem_toArray, List.getElem_cons_succ, List.getElem_cons_zero] at ho2
                  subst ho2
                  clear ho
                  have e49 := D.is { on := 15, ground := .data } (by simp) rfl rfl 49 rfl
                  have hw1 : IntKind.i64.wrap (j : Int) = (j : Int) := by rw [IntKind.wrap_i64]; omega
                  exact wk.does_run (by simp only [execOp]; rw [show E (.tmp 49) = _ from e49, show E (.const (.int .i64 1)) = .int .i64 1 from D.con _]; go_simp) rfl
                ·
                  have ho2 := (Array.getElem?_eq_some_iff.1 ho).2
                  simp only [List.getElem_toArray, List.getElem_cons_succ, List.getElem_cons_zero] at ho2
                  subst ho2
                  clear ho
                  have e48 := D.is { on := 14, ground := .data } (by simp) rfl rfl 48 rfl
                  have e50 := D.is { on := 16, ground := .data } (by simp) rfl rfl 50 rfl
                  exact wk.does_run (by simp only [execOp]; rw [show E (.tmp 48) = _ from e48, show E (.tmp 50) = _ from e50]; go_simp) rfl
                ·
                  have ho2 := (Array.getElem?_eq_some_iff.1 ho).2
                  simp only [List.getElem_toArray, List.getElem_cons_succ, List.getElem_cons_zero] at ho2
                  subst ho2
                  clear ho
                  have e51 := D.is { on := 17, ground := .data } (by simp) rfl rfl 51 rfl
                  exact wk.does_load1 rfl e51 ((((Below.refl _ _).drew.trans hb4).cell (p := ⟨_, _, none⟩) hbs2).trans hcz) Try.underlying3 rfl rfl
                ·
                  have ho2 := (Array.getElem?_eq_some_iff.1 ho).2
                  simp only [List.getElem_toArray, List.getElem_cons_succ, List.getElem_cons_zero] at ho2
                  subst ho2
                  clear ho
                  have e47 := D.is { on := 13, ground := .data } (by simp) rfl rfl 47 rfl
                  have e52 := D.is { on := 18, ground := .data } (by simp) rfl rfl 52 rfl
                  exact wk.does_run (by simp only [execOp]; rw [show E (.tmp 47) = _ from e47, show E (.tmp 52) = _ from e52]; go_simp) rfl
                ·
                  have ho2 := (Array.getElem?_eq_some_iff.1 ho).2
                  simp only [List.getElem_toArray, List.getElem_cons_succ, List.getElem_cons_zero] at ho2
                  subst ho2
                  clear ho
                  have e43 := D.is { on := 9, ground := .data } (by simp) rfl rfl 43 rfl
                  have e53 := D.is { on := 19, ground := .data } (by simp) rfl rfl 53 rfl
                  exact wk.does_pick rfl e43 e53
                ·
                  have ho2 := (Array.getElem?_eq_some_iff.1 ho).2
                  simp only [List.getElem_toArray, List.getElem_cons_succ, List.getElem_cons_zero] at ho2
                  subst ho2
                  clear ho
                  have e40 := D.is { on := 6, ground := .data } (by simp) rfl rfl 40 rfl
                  have e54 := D.is { on := 20, ground := .data } (by simp) rfl rfl 54 rfl
                  exact wk.does_pick rfl e40 e54
              case hdone =>
                intro vals w4 hb4 hv
                have h21 := hv 21 (by omega)
                clear hv
                replace h21 : vals 21 = (.bool false) := h21
                simp only [List.drop_succ_cons, List.drop_zero, wpList, wk.setL, List.setIfInBounds_toArray, List.set_cons_zero, List.set_cons_succ, Nat.zero_add, Nat.reduceAdd, h21]
                generalize vals 0 = x0
                generalize vals 1 = x1
                generalize vals 2 = x2
                generalize vals 3 = x3
                generalize vals 4 = x4
                generalize vals 5 = x5
                generalize vals 6 = x6
                generalize vals 7 = x7
                generalize vals 8 = x8
                generalize vals 9 = x9
                generalize vals 10 = x10
                generalize vals 11 = x11
                generalize vals 12 = x12
                generalize vals 13 = x13
                generalize vals 14 = x14
                generalize vals 15 = x15
                generalize vals 16 = x16
                generalize vals 17 = x17
                generalize vals 18 = x18
                generalize vals 19 = x19
                generalize vals 20 = x20
                go_wp2_with fail
                go_roundg (gk - 1)
                case measure => have := HK.out; omega
                case rel => exact ⟨j + 1 + 1, by have := HK.out; omega, by go_num, HBEL.out.trans (((Below.refl _ _).drew.trans hb4).mono HBEL.out.size), fun i hi => by rcases Nat.lt_or_ge i (j + 1) with h | h; exact HR.out i h; rw [show i = j + 1 by omega]; exact HN.out⟩
      · obtain rfl : k = n := by omega
        go_wp2_with fail
        go_ret
        exact ⟨by rw [cut_up HL.out HR.out]; rfl, HBEL.out⟩
  · have HE2 : Hid (divided d cuts = false) := by show _ = _; rw [HE.out, hhd, decide_eq_false h5]; simp
    have h5' : (x != 0) = true := by simpa using h5
    clear h hl hhd hx
    go_enter Try.func41, Try.ntmps41
    go_wp2_with fail
    go_ret
    exact ⟨by rw [HE2.out]; rfl, Below.refl _ _⟩
end Go.Proofs.Ytiodjepjbooniaa.uk
/- Whether a list contains what it should not; lists of words; vectors that are alike. -/
namespace Go.Proofs.Ytiodjepjbooniaa.uk

open Go.ChangeShapes Go.WideShapes Go.ChangeAt Go.RowKit

open Go.Proofs.Ytiodjepjbooniaa.cq Go.Proofs.Ytiodjepjbooniaa.vk Go.Proofs.Ytiodjepjbooniaa.bk Go.Proofs.Ytiodjepjbooniaa.wk

set_option linter.unusedVariables false
set_option maxRecDepth 100000 in
set_option maxHeartbeats 2000000 in
theorem idx_words {L : VV} {A : Option Addr} {n c g : Nat} (bad : List Int → Bool) (w : World) (h : IsVV w A n c L)
    (hcall : ∀ w', Below w.heap.size w w' → ∀ A' n' c' l, wo.IsI w' A' n' c' l → l ∈ L → Calls Try.prog 65 #[.slice A' n' c', .pointer (some ⟨g, 0, none⟩)] w' fun e w'' => e = .returned (.bool (bad l)) ∧ Below w'.heap.size w' w'') :
    Calls Try.prog 80 #[.slice A n c, .func (.func 65) #[] #[.pointer (some ⟨g, 0, none⟩)]] w fun e w' => (∃ r : Int, e = .returned (.int .i64 r) ∧ decide (0 ≤ r) = L.any bad) ∧ Below w.heap.size w w' := by
  have hl := h.1
  have hm := h.2.2.1
  have hnc := h.2.1
  have H := Lib.hid h
  have HL := Lib.hid hl
  have HCA := Lib.hid hcall
  clear h hl hcall
  go_enter Try.func80, Try.ntmps80
  go_wp2_with fail
  go_loopg [8] n (fun g x wr => ∃ k : Nat, k + g = n ∧ x = .int .i64 (k : Int) ∧ Below w.heap.size w wr ∧ (L.take k).any bad = false)
  case atStart => exact ⟨0, by omega, rfl, Below.refl _ _, by simp⟩
  case round =>
    obtain ⟨k, hk, rfl, hbel, hr⟩ := hrel
    have HK := Lib.hid hk
    have HR := Lib.hid hr
    have HB := Lib.hid hbel
    have hkn : k ≤ n := by omega
    clear hk hr
    by_cases hlt : k < n
    · obtain ⟨b, o, A', n', c', l, rfl, hb, hc, hI, hX⟩ := isVV_get (isVV_below H.out hbel) hlt
      have hlt0 : (k : Int) < (n : Int) := by omega
      have HC := Lib.hid (HCA.out wr hbel A' n' c' l hI (List.mem_of_getElem? hX))
      have HX : Hid ((L.take (k + 1)).any bad = ((L.take k).any bad || bad l)) := by
        show _ = _
        rw [List.take_add_one, hX, List.any_append]; simp
      have HM := Lib.hid (List.mem_of_getElem? hX)
      clear hI hX hbel
      cases hx : bad l
      · rw [hx] at HC HX
        go_wp2_with fail
        refine HC.out.mono ?_
        rintro e w' ⟨rfl, hb2⟩
        have HB2 := Lib.hid (HB.out.trans (hb2.mono HB.out.size))
        clear hb2
        go_wp2_with fail
        go_roundg (gk - 1)
        case measure => have := HK.out; omega
        case rel =>
          refine ⟨k + 1, by have := HK.out; omega, by go_num, HB2.out, ?_⟩
          rw [HX.out, HR.out]; rfl
      · rw [hx] at HC
        go_wp2_with fail
        refine HC.out.mono ?_
        rintro e w' ⟨rfl, hb2⟩
        have HB2 := Lib.hid (HB.out.trans (hb2.mono HB.out.size))
        clear hb2
        go_wp2_with fail
        go_ret
        refine ⟨⟨k, rfl, ?_⟩, HB2.out⟩
        have h1 : L.any bad = true := by
          rw [List.any_eq_true]
          exact ⟨l, HM.out, hx⟩
        rw [h1]; simp
    · obtain rfl : k = n := by omega
      have hall : L.any bad = false := by
        have := HR.out
        rw [List.take_of_length_le (by have := HL.out; omega)] at this
        exact this
      have HALL := Lib.hid hall
      clear hall hbel
      go_wp2_with fail
      go_ret
      exact ⟨⟨-1, rfl, by rw [HALL.out]; rfl⟩, HB.out⟩
set_option maxRecDepth 100000 in
theorem con_words {L : VV} {A : Option Addr} {n c g : Nat} (bad : List Int → Bool) (w : World) (h : IsVV w A n c L)
    (hcall : ∀ w', Below w.heap.size w w' → ∀ A' n' c' l, wo.IsI w' A' n' c' l → l ∈ L → Calls Try.prog 65 #[.slice A' n' c', .pointer (some ⟨g, 0, none⟩)] w' fun e w'' => e = .returned (.bool (bad l)) ∧ Below w'.heap.size w' w'') :
    Calls Try.prog 64 #[.slice A n c, .func (.func 65) #[] #[.pointer (some ⟨g, 0, none⟩)]] w fun e w' => e = .returned (.bool (L.any bad)) ∧ Below w.heap.size w w' := by
  have HI := Lib.hid (idx_words (g := g) bad w h hcall)
  clear h hcall
  generalize L.any bad = al at *
  go_enter Try.func64, Try.ntmps64
  go_wp2_with fail
  refine HI.out.mono ?_
  rintro e w' ⟨⟨r, rfl, hr⟩, hb⟩
  have HB := Lib.hid hb
  clear hb
  subst hr
  go_wp2_with fail
  go_ret
  exact ⟨rfl, HB.out⟩
set_option maxRecDepth 100000 in
set_option maxHeartbeats 2000000 in
theorem idx_alike {L : VV} {A : Option Addr} {n c g : Nat} (bad : List Int → Bool) (w : World) (h : IsVV w A n c L)
    (hcall : ∀ w', Below w.heap.size w w' → ∀ A' n' c' l, wo.IsI w' A' n' c' l → l ∈ L → Calls Try.prog 74 #[.slice A' n' c', .pointer (some ⟨g, 0, none⟩)] w' fun e w'' => e = .returned (.bool (bad l)) ∧ Below w'.heap.size w' w'') :
    Calls Try.prog 80 #[.slice A n c, .func (.func 74) #[] #[.pointer (some ⟨g, 0, none⟩)]] w fun e w' => (∃ r : Int, e = .returned (.int .i64 r) ∧ decide (0 ≤ r) = L.any bad) ∧ Below w.heap.size w w' := by
  have hl := h.1
  have hm := h.2.2.1
  have hnc := h.2.1
  have H := Lib.hid h
  have HL := Lib.hid hl
  have HCA := Lib.hid hcall
  clear h hl hcall
  go_enter Try.func80, Try.ntmps80
  go_wp2_with fail
  go_loopg [8] n (fun g x wr => ∃ k : Nat, k + g = n ∧ x = .int .i64 (k : Int) ∧ Below w.heap.size w wr ∧ (L.take k).any bad = false)
  case atStart => exact ⟨0, by omega, rfl, Below.refl _ _, by simp⟩
  case round =>
    obtain ⟨k, hk, rfl, hbel, hr⟩ := hrel
    have HK := Lib.hid hk
    have HR := Lib.hid hr
    have HB := Lib.hid hbel
    have hkn : k ≤ n := by omega
    clear hk hr
    by_cases hlt : k < n
    · obtain ⟨b, o, A', n', c', l, rfl, hb, hc, hI, hX⟩ := isVV_get (isVV_below H.out hbel) hlt
      have hlt0 : (k : Int) < (n : Int) := by omega
      have HC := Lib.hid (HCA.out wr hbel A' n' c' l hI (List.mem_of_getElem? hX))
      have HX : Hid ((L.take (k + 1)).any bad = ((L.take k).any bad || bad l)) := by
        show _ = _
        rw [List.take_add_one, hX, List.any_append]; simp
      have HM := Lib.hid (List.mem_of_getElem? hX)
      clear hI hX hbel
      cases hx : bad l
      · rw [hx] at HC HX
        go_wp2_with fail
        refine HC.out.mono ?_
        rintro e w' ⟨rfl, hb2⟩
        have HB2 := Lib.hid (HB.out.trans (hb2.mono HB.out.size))
        clear hb2
        go_wp2_with fail
        go_roundg (gk - 1)
        case measure => have := HK.out; omega
        case rel =>
          refine ⟨k + 1, by have := HK.out; omega, by go_num, HB2.out, ?_⟩
          rw [HX.out, HR.out]; rfl
      · rw [hx] at HC
        go_wp2_with fail
        refine HC.out.mono ?_
        rintro e w' ⟨rfl, hb2⟩
        have HB2 := Lib.hid (HB.out.trans (hb2.mono HB.out.size))
        clear hb2
        go_wp2_with fail
        go_ret
        refine ⟨⟨k, rfl, ?_⟩, HB2.out⟩
        have h1 : L.any bad = true := by
          rw [List.any_eq_true]
          exact ⟨l, HM.out, hx⟩
        rw [h1]; simp
    · obtain rfl : k = n := by omega
      have hall : L.any bad = false := by
        have := HR.out
        rw [List.take_of_length_le (by have := HL.out; omega)] at this
        exact this
      have HALL := Lib.hid hall
      clear hall hbel
      go_wp2_with fail
      go_ret
      exact ⟨⟨-1, rfl, by rw [HALL.out]; rfl⟩, HB.out⟩
set_option maxRecDepth 100000 in
theorem con_alike {L : VV} {A : Option Addr} {n c g : Nat} (bad : List Int → Bool) (w : World) (h : IsVV w A n c L)
    (hcall : ∀ w', Below w.heap.size w w' → ∀ A' n' c' l, wo.IsI w' A' n' c' l → l ∈ L → Calls Try.prog 74 #[.slice A' n' c', .pointer (some ⟨g, 0, none⟩)] w' fun e w'' => e = .returned (.bool (bad l)) ∧ Below w'.heap.size w' w'') :
    Calls Try.prog 64 #[.slice A n c, .func (.func 74) #[] #[.pointer (some ⟨g, 0, none⟩)]] w fun e w' => e = .returned (.bool (L.any bad)) ∧ Below w.heap.size w w' := by
  have HI := Lib.hid (idx_alike (g := g) bad w h hcall)
  clear h hcall
  generalize L.any bad = al at *
  go_enter Try.func64, Try.ntmps64
  go_wp2_with fail
  refine HI.out.mono ?_
  rintro e w' ⟨⟨r, rfl, hr⟩, hb⟩
  have HB := Lib.hid hb
  clear hb
  subst hr
  go_wp2_with fail
  go_ret
  exact ⟨rfl, HB.out⟩
def badW (n : Int) (l : List Int) : Bool := !(decide ((l.length : Int) = n) && vq.valid l)
theorem areWords_any {l : VV} {n : Int} : areWords l n = (decide (1 ≤ l.length) && decide (l.length ≤ 256) && !l.any (badW n)) := by
  unfold areWords
  congr 1
  induction l with
  | nil => rfl
  | cons a l ih => simp only [List.all_cons, List.any_cons, ih, badW]; cases decide ((a.length : Int) = n) && vq.valid a <;> simp
set_option maxRecDepth 100000 in
theorem areWords1_calls (dims : Int) (g : Nat) (A : Option Addr) (n c : Nat) (l : List Int) (w : World) (h : wo.IsI w A n c l) (hg : Box w g (.int .i64 dims)) :
    Calls Try.prog 65 #[.slice A n c, .pointer (some ⟨g, 0, none⟩)] w fun e w' => e = .returned (.bool (badW dims l)) ∧ Below w.heap.size w w' := by
  have HV := Lib.hid (valid_calls A n c l w h)
  have hl := h.1
  have hm := h.2.2.1
  have hnc := h.2.1
  have hc := hg.cell
  have hE : badW dims l = !(decide ((n : Int) = dims) && vq.valid l) := by unfold badW; rw [hl]
  rw [hE]
  clear h hg hE
  generalize vq.valid l = al at *
  by_cases hn : (n : Int) = dims
  · subst hn
    go_enter Try.func65, Try.ntmps65
    go_wp2_with fail
    refine HV.out.mono ?_
    rintro e w' ⟨rfl, hb⟩
    have HB := Lib.hid hb
    clear hb
    go_wp2_with fail
    go_ret
    exact ⟨by simp, HB.out⟩
  · have hn' : ((n : Int) != dims) = true := by simpa using hn
    go_enter Try.func65, Try.ntmps65
    go_wp2_with fail
    go_ret
    exact ⟨by simp [hn], Below.refl _ _⟩
set_option maxRecDepth 100000 in
theorem areWords_calls (dims : Int) (A : Option Addr) (n c : Nat) (L : VV) (w : World) (h : IsVV w A n c L) :
    Calls Try.prog 40 #[.slice A n c, .int .i64 dims] w fun e w' => e = .returned (.bool (areWords L dims)) ∧ Below w.heap.size w w' := by
  have hl := h.1
  have hm := h.2.2.1
  have hnc := h.2.1
  have hE : areWords L dims = (decide (1 ≤ n) && decide (n ≤ 256) && !L.any (badW dims)) := by rw [areWords_any, hl]
  rw [hE]
  have hb0 := below_new w (.cells #[.int .i64 dims] 3)
  have hx0 := Box.new w (.int .i64 dims) 3
  have HC := Lib.hid (con_words (g := w.heap.size) (badW dims) (w.alloc (.cells #[.int .i64 dims] 3)) (isVV_below h hb0) (fun w' hb A' n' c' l hI _ => areWords1_calls dims _ A' n' c' l w' hI (hx0.below hb)))
  have HB0 := Lib.hid hb0
  clear h hE hx0 hb0
  generalize L.any (badW dims) = al at *
  by_cases h1 : 1 ≤ n
  · by_cases h2 : n ≤ 256
    · rw [decide_eq_true h1, decide_eq_true h2]
      go_enter Try.func40, Try.ntmps40
      go_wp2_with fail
      refine HC.out.mono ?_
      rintro e w' ⟨rfl, hb⟩
      have HB := Lib.hid (Below.andThen HB0.out hb)
      clear hb
      go_wp2_with fail
      go_ret
      exact ⟨by simp, HB.out⟩
    · rw [decide_eq_true h1, decide_eq_false h2]
      go_enter Try.func40, Try.ntmps40
      go_wp2_with fail
      go_ret
      exact ⟨by simp, HB0.out⟩
  · rw [decide_eq_false h1]
    go_enter Try.func40, Try.ntmps40
    go_wp2_with fail
    go_ret
    exact ⟨by simp, HB0.out⟩
def notAlike (a : List Int) (l : List Int) : Bool := !vq.alike l a
set_option maxRecDepth 100000 in
theorem alike1_calls (g : Nat) (A AL : Option Addr) (n c nL cL : Nat) (l : List Int) (L : VV) (w : World) (h : wo.IsI w A n c l) (hg : Box w g (.slice AL nL cL)) (hL : IsVV w AL nL cL L) (hn : 1 ≤ nL) :
    Calls Try.prog 74 #[.slice A n c, .pointer (some ⟨g, 0, none⟩)] w fun e w' => e = .returned (.bool (notAlike (L.headD []) l)) ∧ Below w.heap.size w w' := by
  obtain ⟨b, o, A0, n0, c0, l0, rfl, hb, hc, hI, hX⟩ := isVV_get hL (k := 0) (by omega)
  rw [Nat.add_zero] at hc
  have hh : L.headD [] = l0 := by
    cases L with
    | nil => simp at hX
    | cons y l => simpa using hX
  rw [hh]
  have HV := Lib.hid (alike_calls A A0 n n0 c c0 l l0 w h hI)
  have hm := hL.2.2.1
  have hnc := hL.2.1
  have hcb := hg.cell
  have hn' : (0 : Int) < (nL : Int) := by omega
  unfold notAlike
  clear h hg hL hI hX
  generalize vq.alike l l0 = al at *
  go_enter Try.func74, Try.ntmps74
  go_wp2_with fail
  refine HV.out.mono ?_
  rintro e w' ⟨rfl, hb⟩
  have HB := Lib.hid hb
  clear hb
  go_wp2_with fail
  go_ret
  exact ⟨rfl, HB.out⟩
set_option maxRecDepth 100000 in
theorem calike_calls (A : Option Addr) (n c : Nat) (L : VV) (w : World) (h : IsVV w A n c L) :
    Calls Try.prog 56 #[.slice A n c] w fun e w' => e = .returned (.bool (decide (1 ≤ n) && !L.any (notAlike (L.headD [])))) ∧ Below w.heap.size w w' := by
  have hm := h.2.2.1
  have hnc := h.2.1
  have hb0 := below_new w (.cells #[.slice A n c] 39)
  have hx0 := Box.new w (.slice A n c) 39
  have HB0 := Lib.hid hb0
  by_cases h1 : 1 ≤ n
  · have HC := Lib.hid (con_alike (g := w.heap.size) (notAlike (L.headD [])) (w.alloc (.cells #[.slice A n c] 39)) (isVV_below h hb0) (fun w' hb A' n' c' l hI _ => alike1_calls _ A' A n' c' n c l L w' hI (hx0.below hb) (isVV_below (isVV_below h hb0) hb) h1))
    have hcb := hx0.cell
    clear h hb0 hx0
    generalize L.any (notAlike (L.headD [])) = al at *
    go_enter Try.func56, Try.ntmps56
    go_wp2_with fail
    refine HC.out.mono ?_
    rintro e w' ⟨rfl, hb⟩
    have HB := Lib.hid (Below.andThen HB0.out hb)
    clear hb
    go_wp2_with fail
    go_ret
    exact ⟨by simp [h1], HB.out⟩
  · have hcb := hx0.cell
    clear h hb0 hx0
    generalize L.any (notAlike (L.headD [])) = al at *
    go_enter Try.func56, Try.ntmps56
    go_wp2_with fail
    go_ret
    exact ⟨by simp [h1], HB0.out⟩
end Go.Proofs.Ytiodjepjbooniaa.uk
/- Check. -/
namespace Go.Proofs.Ytiodjepjbooniaa.uk

open Go.ChangeShapes Go.WideShapes Go.ChangeAt Go.RowKit

open Go.Proofs.Ytiodjepjbooniaa.cq Go.Proofs.Ytiodjepjbooniaa.vk Go.Proofs.Ytiodjepjbooniaa.bk Go.Proofs.Ytiodjepjbooniaa.wk

set_option linter.unusedVariables false
attribute [local go_sem] Oper.semAt_some
def wat (b : Bk) (k : Nat) : Bool := areWords (b.W.getD k []) ((spa (sp b.cuts b.d) k).2 - (spa (sp b.cuts b.d) k).1)
def walls (b : Bk) : Bool := (b.W.zip (sp b.cuts b.d)).all wok
theorem walls_not {b : Bk} (hl : b.W.length = b.cuts.length) {k : Nat} (hk : k < b.cuts.length) (h : wat b k = false) : walls b = false := by
  unfold walls
  rw [List.all_eq_false]
  have h1 : (sp b.cuts b.d)[k]? = some (spa (sp b.cuts b.d) k) := by
    rw [spa, List.getD_eq_getElem?_getD, List.getElem?_eq_getElem (by rw [sp_len]; exact hk)]; rfl
  have h2 : b.W[k]? = some (b.W.getD k []) := by rw [List.getD_eq_getElem?_getD, List.getElem?_eq_getElem (by omega)]; rfl
  exact ⟨_, List.mem_of_getElem? (zipAt h2 h1), by unfold wok; unfold wat at h; dsimp only; rw [h]; simp⟩
theorem walls_all {b : Bk} (hl : b.W.length = b.cuts.length) (h : ∀ k, k < b.cuts.length → wat b k = true) : walls b = true := by
  unfold walls
  rw [List.all_eq_true]
  intro p hp
  obtain ⟨k, hk, rfl⟩ := List.mem_iff_getElem.1 hp
  have hk' : k < b.cuts.length := by rw [List.length_zip, sp_len] at hk; omega
  have := h k hk'
  have h1 : (sp b.cuts b.d)[k]? = some (spa (sp b.cuts b.d) k) := by
    rw [spa, List.getD_eq_getElem?_getD, List.getElem?_eq_getElem (by rw [sp_len]; exact hk')]; rfl
  have h2 : b.W[k]? = some (b.W.getD k []) := by rw [List.getD_eq_getElem?_getD, List.getElem?_eq_getElem (by omega)]; rfl
  have h3 := zipAt h2 h1
  rw [List.getElem?_eq_getElem hk] at h3
  injection h3 with h3
  rw [h3]
  exact this
def errB (b : Bool) : Value := .int .i64 (if b then 0 else 80)
set_option maxRecDepth 100000 in
set_option maxHeartbeats 4000000 in
theorem check_calls (v : Value) (b : Bk) (w : World) (h : IsBk w v b) :
    Calls Try.prog 12 #[v] w fun e w' => e = .returned (errB (check b)) ∧ Below w.heap.size w w' := by
  obtain ⟨A, n, c, AW, nW, cW, rfl, hi, hW, hd⟩ := h
  have hm := hi.2.2.1
  have hnc := hi.2.1
  have hmW := hW.2.2.1
  have hncW := hW.2.1
  have hB0 := Below.andThen (below_new w (.cells #[.int .i64 b.d, .slice A n c, .slice AW nW cW] 25)) (below_new _ (.cells #[.int .i64 0] 28))
  have hT0 := (Three.new w (.int .i64 b.d) (.slice A n c) (.slice AW nW cW)).below (below_new _ (.cells #[.int .i64 0] 28))
  have hO0 := One.new (w.alloc (.cells #[.int .i64 b.d, .slice A n c, .slice AW nW cW] 25)) 28 (.int .i64 0)
  rw [size_new] at hO0
  have HDV := Lib.hid (divided_calls b.d A n c b.cuts _ (isI_below hi hB0) hd)
  have HE : Hid (check b = (divided b.d b.cuts && decide (nW = n) && walls b)) := by show _ = _; unfold check walls; rw [hi.1, hW.1]
  have HI := Lib.hid hi
  have HW := Lib.hid hW
  have HD := Lib.hid hd
  have HIL : Hid (n = b.cuts.length) := hi.1.symm
  have hc0 := hT0.c0
  have hc1 := hT0.c1
  have hc2 := hT0.c2
  have HT := Lib.hid hT0
  have HO := Lib.hid hO0
  have HB0 := Lib.hid hB0
  have HDI : Hid (divided b.d b.cuts = true → Div b.d b.cuts) := fun h => div_of h
  clear hi hW hd hT0 hO0 hB0
  refine enter_marks Try.func12 rfl ?_
  simp only [Try.ntmps12, List.size_toArray, List.length_cons, List.length_nil, Nat.reduceAdd, Nat.reduceSub, Array.replicate_succ, Array.replicate_zero, List.push_toArray, List.append_toArray, List.nil_append, List.cons_append]
  go_wp2_with fail
  refine HDV.out.mono ?_
  rintro e w1 ⟨rfl, hb1⟩
  have HB1 := Lib.hid (HB0.out.trans (hb1.mono HB0.out.size))
  have hT1 := HT.out.below hb1
  have hO1 := HO.out.below hb1
  clear HDV hb1 hc0 hc1 hc2 HT HO HB0
  have hc0 := hT1.c0
  have hc1 := hT1.c1
  have hc2 := hT1.c2
  have hf0 := hO1.frozen
  have hf1 := hO1.cell
  have HT1 := Lib.hid hT1
  have HO1 := Lib.hid hO1
  clear hT1 hO1
  generalize hG : w.heap.size = G at *
  cases hdv : divided b.d b.cuts
  · have HE2 : Hid (check b = false) := by show _ = _; rw [HE.out, hdv]; rfl
    go_wp2_with fail
    exact leave_bool0 (fn := Try.f12) rfl rfl rfl Try.underlying28 (HO1.out.set _) ⟨by rw [HE2.out]; rfl, by rw [hG]; exact HB1.out.setCell (p := ⟨G + 1, 0, none⟩) (by show G ≤ G + 1; omega) _⟩
  · by_cases hlen : nW = n
    · subst hlen
      have HE2 : Hid (check b = walls b) := by show _ = _; rw [HE.out, hdv]; simp
      have HV := Lib.hid (HDI.out hdv)
      have HLEN : Hid (b.W.length = b.cuts.length) := by show _ = _; rw [HW.out.1, HIL.out]
      clear HE HDI hdv
      go_wp2_with fail
      refine (parts_calls _ _ _ _ _).mono ?_
      rintro e w' ⟨rfl, rfl⟩
      unfold partsF
      have hx2 := alloc2 w1 (.int .i64 b.d) (.slice A nW c) 3 22
      have hB3 : Below G w ((w1.alloc (.cells #[.int .i64 b.d] 3)).alloc (.cells #[.slice A nW c] 22)) := HB1.out.trans (hx2.2.2.mono (by have := HB1.out.size; rw [hG] at this; omega))
      have hT3 := HT1.out.below hx2.2.2
      have hO3 := HO1.out.below hx2.2.2
      have hs1 := HO1.out.lt
      have hs2 : ((w1.alloc (.cells #[.int .i64 b.d] 3)).alloc (.cells #[.slice A nW c] 22)).heap.size = w1.heap.size + 2 := by simp only [size_new]
      generalize (w1.alloc (.cells #[.int .i64 b.d] 3)).alloc (.cells #[.slice A nW c] 22) = w2 at *
      generalize hG1 : w1.heap.size = G1 at *
      have HT2 := Lib.hid hT3
      have HO2 := Lib.hid hO3
      clear hT3 hO3 hc0 hc1 hc2 hf0 hf1 HT1 HO1
      go_wp2_with fail
      refine range_parts' (some 3) 4 G (G1 + 1) G1 [G + 1] A nW c b.cuts b.d ?cg ?c1 ?c2 ?c0 ?c3 ?c0' ?c3' HD.out ?c4 ?c6 (fun pre W => One W (G + 1) 28 (.int .i64 0) ∧ ∀ x ∈ pre, wat b x.1 = true) (fun c W => (c = .ret ∧ walls b = false) ∧ One W (G + 1) 28 (.int .i64 80)) ?c7 ?c8 ?c9 ?hassign ?hbody ?hdone ?hstop
      case cg => rfl
      case c0 => exact hx2.2.1
      case c0' => exact hx2.1
      case c1 => simp
      case c2 => omega
      case c3 => intro hh; simp only [List.mem_singleton] at hh; omega
      case c3' => intro hh; simp only [List.mem_singleton] at hh; omega
      case c4 => intro j hj; simp only [List.mem_singleton] at hj; omega
      case c6 =>
        intro w' hb
        have hb' : Below G w w' := hB3.trans hb
        rw [← hG] at hb'
        exact isI_below HI.out hb'
      case c7 => exact OwnFrom.and (own_one (by omega)) own_pure
      case c8 => intro c'; exact OwnFrom.and own_pure (own_one (by omega))
      case c9 => exact ⟨HO2.out, fun x hx => by cases hx⟩
      case hassign =>
        intro l m i a b W K hK
        unfold rng at hK ⊢
        simp only [roundT, List.setIfInBounds_toArray, List.set_cons_succ, List.set_cons_zero] at hK ⊢
        gi_wp2
        exact hK
      case hbody =>
        rintro l m pre x Bx W hBx hT hx ⟨hO, hI⟩ hlen
        simp only [roundT, List.setIfInBounds_toArray, List.set_cons_succ, List.set_cons_zero]
        have hxlt := x.2
        have hcut : b.cuts[x.1]? = some (b.cuts[x.1]'(by rw [← HIL.out]; exact x.2)) := List.getElem?_eq_getElem _
        have hDA := HV.out.at hcut
        have hspa := spa_of (sp_at (d := b.d) hcut)
        have hGW : Below G w W := hB3.trans (hx.below (by omega) (by simp))
        rw [← hG] at hGW
        obtain ⟨b', o', A7, n7, c7, L7, rfl, hbW, hcW, hV7, hL7⟩ := isW_get (isW_below HW.out hGW) x.2
        have hwat : wat b x.1 = areWords L7 ((spa (sp b.cuts b.d) x.1).2 - (spa (sp b.cuts b.d) x.1).1) := by unfold wat; rw [List.getD_eq_getElem?_getD, hL7]; rfl
        have HT3 := Lib.hid (HT2.out.at (hx.block G (by omega) (by simp)))
        have d32 := HV.out.d32
        rw [hspa] at hT hwat ⊢
        dsimp only at hT hwat ⊢
        generalize b.cuts[x.1]'(by rw [← HIL.out]; exact x.2) = y0 at *
        generalize endAt b.cuts b.d x.1 = y1 at *
        have hxi : ((x.1 : Nat) : Int) < (nW : Int) := by omega
        clear hcut hspa
        refine wpIn_block (wpIn_seq ?_)
        refine wk.region_tailS_in l (by kernel_rfl) (fun ⟨_, _, h⟩ => h) 12 [.is (.pointer (some ⟨G, 2, none⟩)), .is (.slice (some ⟨b', o', none⟩) nW cW), .is (.int .i64 (x.1 : Int)), .is (.pointer (some ⟨b', o' + x.1, none⟩)), .is (.slice A7 n7 c7), .is (.pointer (some ⟨Bx, 1, none⟩)), .is (.int .i64 y1), .is (.pointer (some ⟨Bx, 0, none⟩)), .is (.int .i64 y0), .is (.int .i64 (y1 - y0)), .is (.bool (areWords L7 (y1 - y0))), .is (.bool (!areWords L7 (y1 - y0)))] [some 27, some 28, some 29, some 30, some 31, some 32, some 33, some 34, some 35, some 36, some 37, some 38] (by kernel_rfl) (by kernel_rfl) (by kernel_rfl) (by kernel_rfl) [] (by kernel_rfl) (by intro p hp; cases hp) (by kernel_rfl) (by kernel_rfl) ?rstep ?rdone
        case rstep =>
          intro i o ho hi hns E w4 hb4 D
          have hi2 : i = 0 ∨ i = 1 ∨ i = 2 ∨ i = 3 ∨ i = 4 ∨ i = 5 ∨ i = 6 ∨ i = 7 ∨ i = 8 ∨ i = 9 ∨ i = 10 ∨ i = 11 := by omega
          clear hi
          rcases hi2 with rfl | rfl | rfl | rfl | rfl | rfl | rfl | rfl | rfl | rfl | rfl | rfl
          ·
            have ho2 := (Array.getElem?_eq_some_iff.1 ho).2
            simp only [List.getElem_toArray, List.getElem_cons_zero] at ho2
            subst ho2
            clear ho
            have e1 := D.old 1 (by kernel_rfl)
            exact wk.does_run (by simp only [execOp]; rw [show E (.tmp 1) = .pointer (some ⟨G, 0, none⟩) by rw [e1]; rfl]; go_simp) rfl
          ·
            have ho2 := (Array.getElem?_eq_some_iff.1 ho).2
            simp only [List.getElem_toArray, List.getElem_cons_succ, List.getElem_cons_zero] at ho2
            subst ho2
            clear ho
            have e27 := D.is { on := 0, ground := .data } (by simp) rfl rfl 27 rfl
            exact wk.does_load1 rfl e27 ((HT3.out.below ((Below.refl _ _).drew.trans hb4)).c2) Try.underlying23 rfl rfl
          ·
            have ho2 := (Array.getElem?_eq_some_iff.1 ho).2
            simp only [List.getElem_toArray, List.getElem_cons_succ, List.getElem_cons_zero] at ho2
            subst ho2
            clear ho
            have e3 := D.old 3 (by kernel_rfl)
            exact wk.does_move rfl (by rw [e3]; rfl)
          ·
            have ho2 := (Array.getElem?_eq_some_iff.1 ho).2
            simp only [List.getElem_toArray, List.getElem_cons_succ, List.getElem_cons_zero] at ho2
            subst ho2
            clear ho
            have e28 := D.is { on := 1, ground := .data } (by simp) rfl rfl 28 rfl
            have e29 := D.is { on := 2, ground := .data } (by simp) rfl rfl 29 rfl
            exact wk.does_run (by simp only [execOp]; rw [show E (.tmp 28) = _ from e28, show E (.tmp 29) = _ from e29]; go_simp) rfl
          ·
            have ho2 := (Array.getElem?_eq_some_iff.1 ho).2
            simp only [List.getElem_toArray, List.getElem_cons_succ, List.getElem_cons_zero] at ho2
            subst ho2
            clear ho
            have e30 := D.is { on := 3, ground := .data } (by simp) rfl rfl 30 rfl
            exact wk.does_load1 rfl e30 ((((Below.refl _ _).drew.trans hb4).cell (p := ⟨_, _, none⟩) hbW).trans hcW) Try.underlying39 rfl rfl
          ·
            have ho2 := (Array.getElem?_eq_some_iff.1 ho).2
            simp only [List.getElem_toArray, List.getElem_cons_succ, List.getElem_cons_zero] at ho2
            subst ho2
            clear ho
            have e4 := D.old 4 (by kernel_rfl)
            exact wk.does_run (by simp only [execOp]; rw [show E (.tmp 4) = .pointer (some ⟨Bx, 0, none⟩) by rw [e4]; rfl]; go_simp) rfl
          ·
            have ho2 := (Array.getElem?_eq_some_iff.1 ho).2
            simp only [List.getElem_toArray, List.getElem_cons_succ, List.getElem_cons_zero] at ho2
            subst ho2
            clear ho
            have e32 := D.is { on := 5, ground := .data } (by simp) rfl rfl 32 rfl
            exact wk.does_load1 rfl e32 ((hT.below ((Below.refl _ _).drew.trans hb4)).c1) Try.underlying3 rfl rfl
          ·
            have ho2 := (Array.getElem?_eq_some_iff.1 ho).2
            simp only [List.getElem_toArray, List.getElem_cons_succ, List.getElem_cons_zero] at ho2
            subst ho2
            clear ho
            have e4 := D.old 4 (by kernel_rfl)
            exact wk.does_run (by simp only [execOp]; rw [show E (.tmp 4) = .pointer (some ⟨Bx, 0, none⟩) by rw [e4]; rfl]; go_simp) rfl
          ·
            have ho2 := (Array.getElem?_eq_some_iff.1 ho).2
            simp only [List.getElem_toArray, List.getElem_cons_succ, List.getElem_cons_zero] at ho2
            subst ho2
            clear ho
            have e34 := D.is { on := 7, ground := .data } (by simp) rfl rfl 34 rfl
            exact wk.does_load1 rfl e34 ((hT.below ((Below.refl _ _).drew.trans hb4)).c0) Try.underlying3 rfl rfl
          ·
            have ho2 := (Array.getElem?_eq_some_iff.1 ho).2
            simp only [List.getElem_toArray, List.getElem_cons_succ, List.getElem_cons_zero] at ho2
            subst ho2
            clear ho
            have e33 := D.is { on := 6, ground := .data } (by simp) rfl rfl 33 rfl
            have e35 := D.is { on := 8, ground := .data } (by simp) rfl rfl 35 rfl
            have hw : IntKind.i64.wrap (y1 - y0) = y1 - y0 := by rw [IntKind.wrap_i64]; omega
            exact wk.does_run (by simp only [execOp]; rw [show E (.tmp 33) = _ from e33, show E (.tmp 35) = _ from e35]; go_simp) rfl
          ·
            have ho2 := (Array.getElem?_eq_some_iff.1 ho).2
            simp only [List.getElem_toArray, List.getElem_cons_succ, List.getElem_cons_zero] at ho2
            subst ho2
            clear ho
            have e31 := D.is { on := 4, ground := .data } (by simp) rfl rfl 31 rfl
            have e36 := D.is { on := 9, ground := .data } (by simp) rfl rfl 36 rfl
            refine wk.does_fn (f := 40) (vs := #[.slice A7 n7 c7, .int .i64 (y1 - y0)]) rfl (D.fn _) (by simp [e31, e36]) (by go_simp) ?_
            refine (areWords_calls (y1 - y0) A7 n7 c7 L7 w4 (isVV_below hV7 ((Below.refl _ _).drew.trans hb4))).mono ?_
            rintro e w7 ⟨rfl, hb7⟩
            exact ⟨_, rfl, hb7, rfl⟩
          ·
            have ho2 := (Array.getElem?_eq_some_iff.1 ho).2
            simp only [List.getElem_toArray, List.getElem_cons_succ, List.getElem_cons_zero] at ho2
            subst ho2
            clear ho
            have e37 := D.is { on := 10, ground := .data } (by simp) rfl rfl 37 rfl
            exact wk.does_un rfl (by rw [show E (.tmp 37) = _ from e37]; go_simp) rfl
        case rdone =>
          intro vals w4 hb4 hv
          have h11 := hv 11 (by omega)
          clear hv
          replace h11 : vals 11 = (.bool (!areWords L7 (y1 - y0))) := h11
          simp only [List.drop_succ_cons, List.drop_zero, wpList, wk.setL, List.setIfInBounds_toArray, List.set_cons_zero, List.set_cons_succ, Nat.zero_add, Nat.reduceAdd, h11]
          generalize vals 0 = x0
          generalize vals 1 = x1
          generalize vals 2 = x2
          generalize vals 3 = x3
          generalize vals 4 = x4
          generalize vals 5 = x5
          generalize vals 6 = x6
          generalize vals 7 = x7
          generalize vals 8 = x8
          generalize vals 9 = x9
          generalize vals 10 = x10
          have hTU : Turn [G + 1] _ W w4 := (Turn.of_below ((Below.refl _ _).drew.trans hb4) hx.size)
          have hO9 := hO.below ((Below.refl _ _).drew.trans hb4)
          clear hb4 h11
          cases hal : areWords L7 (y1 - y0)
          · rw [Bool.not_false]
            have hO1 := hO9.frozen
            have hO0 := hO9.cell
            gi_wp2
            exact ⟨hTU.trans (Turn.setCell _ (by simp)), ⟨rfl, walls_not HLEN.out (by rw [← HIL.out]; exact x.2) (by rw [hwat]; exact hal)⟩, hO9.set _⟩
          · rw [Bool.not_true]
            gi_wp2
            exact ⟨hTU, hO9, fun y hy => by rcases List.mem_append.1 hy with h | h; exact hI y h; rw [List.mem_singleton] at h; subst h; rw [hwat]; exact hal⟩
      case hdone =>
        rintro D ys W hD hys hx ⟨hO, hI⟩ hK
        have hO0 := hO.cell
        have hO1 := hO.frozen
        have hle : walls b = true := walls_all HLEN.out (by rw [← HIL.out]; exact all_range (P := fun k => wat b k = true) hys hI)
        go_wp2_with fail
        refine leave_bool (fn := Try.f12) rfl rfl rfl Try.underlying28 (hO.set _) ?_ (by omega) ⟨by rw [HE2.out, hle]; rfl, ?_⟩
        · exact (Below.heap_setCell _ _ _ _ (by show D ≠ G + 1; omega)).trans hK
        · rw [hG]; exact below_mark (((hB3.trans (hx.below (by omega) (by simp))).setCell (p := ⟨G + 1, 0, none⟩) (by show G ≤ G + 1; omega) _)) (by omega)
      case hstop =>
        rintro D c W hD hx ⟨⟨rfl, hle⟩, hO⟩ hK
        go_wp2_with fail
        refine leave_bool (fn := Try.f12) rfl rfl rfl Try.underlying28 hO hK (by omega) ⟨by rw [HE2.out, hle]; rfl, ?_⟩
        rw [hG]
        exact below_mark (hB3.trans (hx.below (by omega) (by simp))) (by omega)
    · have hlen' : ((nW : Int) != (n : Int)) = true := by simp; omega
      have HE2 : Hid (check b = false) := by show _ = _; rw [HE.out]; simp [hlen]
      go_wp2_with fail
      exact leave_bool0 (fn := Try.f12) rfl rfl rfl Try.underlying28 (HO1.out.set _) ⟨by rw [HE2.out]; rfl, by rw [hG]; exact HB1.out.setCell (p := ⟨G + 1, 0, none⟩) (by show G ≤ G + 1; omega) _⟩
end Go.Proofs.Ytiodjepjbooniaa.uk
/- The place of the least key; Grow, Concat. -/
namespace Go.Proofs.Ytiodjepjbooniaa.uk

open Go.ChangeShapes Go.WideShapes Go.ChangeAt Go.RowKit

open Go.Proofs.Ytiodjepjbooniaa.cq Go.Proofs.Ytiodjepjbooniaa.vk Go.Proofs.Ytiodjepjbooniaa.bk Go.Proofs.Ytiodjepjbooniaa.wk

set_option linter.unusedVariables false
set_option maxRecDepth 100000 in
set_option maxHeartbeats 4000000 in
theorem least_calls (A : Option Addr) (n c : Nat) (l : List Int) (w : World) (h : wo.IsI w A n c l) :
    Calls Try.prog 46 #[.slice A n c] w fun e w' => e = .returned (.int .i64 (lst l : Nat)) ∧ w' = w := by
  have hm := h.2.2.1
  have hnc := h.2.1
  have hE : lst l = lstk l n := by unfold lst; rw [h.1]
  rw [hE]
  have H := Lib.hid h
  clear h hE
  go_enter Try.func46, Try.ntmps46
  go_wp2_with fail
  go_loopg [3, 8] n (fun g v x wr => ∃ k : Nat, k + g = n ∧ x = .int .i64 (k : Int) ∧ v = .int .i64 (lstk l k : Nat) ∧ wr = w)
  case atStart => exact ⟨0, by omega, rfl, rfl, rfl⟩
  case round =>
    obtain ⟨k, hk, rfl, rfl, rfl⟩ := hrel
    have HK := Lib.hid hk
    have hkn : k ≤ n := by omega
    clear hk
    by_cases hlt : k < n
    · obtain ⟨b, o, x, rfl, hx, hX, -, -⟩ := isI_at H.out hlt
      have hlk : lstk l k < n := by have := lstk_lt l k; omega
      have HS := Lib.hid (lstk_succ l k)
      generalize lstk l k = p at *
      obtain ⟨b2, o2, y, e2, hy, hY, -, -⟩ := isI_at H.out hlk
      cases e2
      have HT : Hid (lstep l p k = if x < y then k else p) := by
        show _ = _
        unfold lstep
        rw [List.getD_eq_getElem?_getD, List.getD_eq_getElem?_getD, hX, hY]; rfl
      have hlt0 : (k : Int) < (n : Int) := by omega
      have hlt1 : (p : Int) < (n : Int) := by omega
      clear hX hY
      by_cases hg : x < y
      · have HT2 : Hid (lstep l p k = k) := by show _ = _; rw [HT.out, if_pos hg]
        go_wp2_with fail
        go_roundg (gk - 1)
        case measure => have := HK.out; omega
        case rel => exact ⟨k + 1, by have := HK.out; omega, by go_num, by rw [HS.out, HT2.out], rfl⟩
      · have HT2 : Hid (lstep l p k = p) := by show _ = _; rw [HT.out, if_neg hg]
        go_wp2_with fail
        go_roundg (gk - 1)
        case measure => have := HK.out; omega
        case rel => exact ⟨k + 1, by have := HK.out; omega, by go_num, by rw [HS.out, HT2.out], rfl⟩
    · obtain rfl : k = n := by omega
      go_wp2_with fail
      go_ret
      exact ⟨rfl, rfl⟩
set_option maxRecDepth 100000 in
set_option maxHeartbeats 4000000 in
theorem grow_calls (n : Nat) (w : World) (h1 : 1 ≤ n) (h2 : n ≤ 1000) :
    Calls Try.prog 67 #[.slice none 0 0, .int .i64 n] w fun e w' => ∃ v, e = .returned v ∧ w'.ownsRow w.heap.size 3 1 v 0 [] ∧ Below w.heap.size w w' := by
  obtain ⟨i0, hi, hz0, hz1, hz2⟩ := info_parts infoIz
  have hfit : Builtin.nextslicecap n 0 * i0.bytes ≤ 281474976710656 := growslice_fits (by omega) (by rw [hz2]; omega)
  have hrz : ∀ ty, (Builtin.append_ #[22, 3] ty #[.slice none 0 0, .int .i64 (n : Int)]).run Try.prog w = .ok (.slice (some ⟨w.heap.size, 0, none⟩) n (grownCap w n 0 3)) (w.drew.alloc (.cells (#[] ++ Builtin.zeroCells (Value.int .i64 0).cells n ++ Builtin.zeroCells (Value.int .i64 0).cells (grownCap w n 0 3 - n)) 3)) := fun ty => by
    have h := Lib.run_append_grow_zeros (P := Try.prog) w 22 3 ty 3 i0 (.int .i64 0) .i64 .i64 Try.underlying22 Try.underlying3 hi hz0 none 0 0 [] (run_firstCells_none w.drew i0.size 0 0 0) n (by omega) (by rw [hz1]; omega) (by omega) (by omega) (by rw [hz2]; omega) (by rw [Nat.zero_add]; exact hfit)
    rw [Nat.zero_add] at h
    exact h
  have hGn : n ≤ grownCap w n 0 3 := grownCap_ge w _ _ _
  have hGm := grownCap_le_maxLen w n 0 3 (by unfold maxLen; omega)
  obtain ⟨G, hG⟩ : ∃ G, G = grownCap w n 0 3 := ⟨_, rfl⟩
  rw [← hG] at hrz hGn hGm
  have HR := Lib.hid (World.ownsRow_made (base := w.heap.size) (e := 3) (size := 1) w.drew (#[] ++ Builtin.zeroCells (Value.int .i64 0).cells n ++ Builtin.zeroCells (Value.int .i64 0).cells (G - n)) G (Nat.le_refl _) hGm (by
    simp [Builtin.zeroCells, Value.cells]; omega))
  have HB : Hid (Below w.heap.size w (w.drew.alloc (.cells (#[] ++ Builtin.zeroCells (Value.int .i64 0).cells n ++ Builtin.zeroCells (Value.int .i64 0).cells (G - n)) 3))) := (Below.refl _ _).drew.alloc (Nat.le_refl _) _
  have hG63 : G ≤ 9223372036854775807 := by unfold maxLen at hGm; omega
  generalize (w.drew.alloc (.cells (#[] ++ Builtin.zeroCells (Value.int .i64 0).cells n ++ Builtin.zeroCells (Value.int .i64 0).cells (G - n)) 3)) = w2 at *
  clear hG hGm hfit
  go_enter Try.func67, Try.ntmps67
  go_wp2_with (at_builtin; refine Lib.wpList_append_run _ rfl _ _ _ _ rfl _ _ rfl rfl _ _ (hrz _) ?_)
  go_ret
  exact ⟨_, rfl, HR.out, HB.out⟩
def flk (L : VV) (k : Nat) : List Int := (L.take k).flatten
theorem flk_succ {L : VV} {k : Nat} {l : List Int} (h : L[k]? = some l) : flk L (k + 1) = flk L k ++ l := by
  unfold flk; rw [List.take_add_one, h, List.flatten_append]; simp
theorem flk_le (L : VV) (k : Nat) : (flk L k).length ≤ L.flatten.length := by
  unfold flk
  conv => rhs; rw [← List.take_append_drop k L, List.flatten_append, List.length_append]
  omega
theorem flk_end {L : VV} {n : Nat} (h : L.length ≤ n) : flk L n = L.flatten := by unfold flk; rw [List.take_of_length_le h]
set_option maxRecDepth 100000 in
set_option maxHeartbeats 4000000 in
theorem concat_calls (A : Option Addr) (n c : Nat) (L : VV) (w : World) (h : IsVV w A n c L) (hl : ∀ l ∈ L, 1 ≤ l.length) (hs : L.flatten.length ≤ 1000) (h1 : 1 ≤ n) :
    Calls Try.prog 44 #[.slice A n c] w fun e w' => ∃ v, e = .returned v ∧ w'.ownsRow w.heap.size 3 1 v L.flatten.length (iv L.flatten) ∧ Below w.heap.size w w' := by
  obtain ⟨i0, hi, hz0, hz1, hz2⟩ := info_parts wi.infoI
  have hm := h.2.2.1
  have hnc := h.2.1
  have hLn := h.1
  have HF : Hid (1 ≤ L.flatten.length) := by
    show _ ≤ _
    cases L with
    | nil => simp at hLn; omega
    | cons l L => have := hl l (by simp); simp; omega
  have H := Lib.hid h
  have HL := Lib.hid hl
  have HFE : Hid (flk L n = L.flatten) := flk_end (by omega)
  have HFL : Hid (∀ k, (flk L k).length ≤ L.flatten.length) := flk_le L
  have HSS := Lib.hid hs
  have HLN := Lib.hid hLn
  generalize L.flatten = F at *
  clear h hl hLn hs
  go_enter Try.func44, Try.ntmps44
  go_wp2_with fail
  go_loopg [3, 11] n (fun g v x wr => ∃ k : Nat, k + g = n ∧ x = .int .i64 (k : Int) ∧ v = .int .i64 ((flk L k).length : Nat) ∧ wr = w)
  case atStart => exact ⟨0, by omega, rfl, rfl, rfl⟩
  case round =>
    obtain ⟨k, hk, rfl, rfl, rfl⟩ := hrel
    have HK := Lib.hid hk
    have hkn : k ≤ n := by omega
    clear hk
    by_cases hlt : k < n
    · obtain ⟨b, o, A1, n1, c1, l1, rfl, hb1, hc1, hI1, hL1⟩ := isVV_get H.out hlt
      have hlen1 := hI1.1
      have HS : Hid ((flk L (k + 1)).length = (flk L k).length + n1) := by show _ = _; rw [flk_succ hL1, List.length_append, hlen1]
      have hb2 := HFL.out (k + 1)
      rw [HS.out] at hb2
      have hb3 := HSS.out
      have hlt0 : (k : Int) < (n : Int) := by omega
      clear hI1 hL1 hlen1
      generalize (flk L k).length = s at *
      go_wp2_with fail
      go_roundg (gk - 1)
      case measure => have := HK.out; omega
      case rel => exact ⟨k + 1, by have := HK.out; omega, by go_num, by rw [HS.out]; go_num, rfl⟩
    · obtain rfl : k = n := by omega
      rw [HFE.out]
      have HG := Lib.hid (grow_calls F.length wr HF.out HSS.out)
      generalize F.length = s at *
      go_wp2_with fail
      refine HG.out.mono ?_
      rintro e w2 ⟨v2, rfl, hown, hb2⟩
      have HOWN := Lib.hid hown
      have HB2 := Lib.hid hb2
      generalize hGG : wr.heap.size = B at *
      have HGG := Lib.hid hGG
      clear hown hb2 hGG HG
      go_wp2_with fail
      obtain ⟨w0, hw0⟩ : ∃ u, u = wr := ⟨_, rfl⟩
      subst hw0
      go_loopg [6, 27] k (fun g v x wr2 => ∃ (j : Nat) (v0 : Value), j + g = k ∧ v0 = v ∧ x = .int .i64 (j : Int) ∧ wr2.ownsRow B 3 1 v0 (flk L j).length (iv (flk L j)) ∧ Below B w0 wr2)
      case atStart => exact ⟨0, _, by omega, rfl, rfl, HOWN.out, HB2.out⟩
      case round =>
        obtain ⟨j, v0, hj, rfl, rfl, hown, hbel⟩ := hrel
        have HK2 := Lib.hid hj
        have HOWN2 := Lib.hid hown
        have HBEL := Lib.hid hbel
        have hjn : j ≤ k := by omega
        by_cases hlt2 : j < k
        · have hb1 : Below w0.heap.size w0 wr := by rw [HGG.out]; exact hbel
          obtain ⟨b, o, A1, n1, c1, l1, rfl, hbb, hcc, hI1, hL1⟩ := isVV_get (isVV_below H.out hb1) hlt2
          have hl1 := HL.out l1 (List.mem_of_getElem? hL1)
          have hlen1 := hI1.1
          obtain ⟨b1, o1, rfl, hb1', hcell⟩ := hI1.2.2.2.1 (by simp; omega)
          have HC : Hid (∀ i u, (iv l1)[i]? = some u → wr.cell? ((⟨b1, o1, none⟩ : Addr).add i) = some u) := fun i u hu => by
            rw [wk.add_at]; exact hcell i u hu
          have HS := Lib.hid (flk_succ hL1)
          have hfl := HFL.out (j + 1)
          rw [HS.out, List.length_append, hlen1] at hfl
          have hfs := HSS.out
          have hlt0 : (j : Int) < (k : Int) := by omega
          have hBw : B ≤ wr.heap.size := by have := hbel.size; have := HGG.out; omega
          have HN1 : Hid (l1.length = n1) := hlen1
          clear hown hbel hj hb1 hI1 hL1 hcell hb1' hbb hl1
          go_wp2_with (at_builtin; refine wpList_append_own _ rfl _ _ 22 rfl B 3 i0 (.int .i64 0) 1 8 Try.underlying22 hi hz0 hz1 hz2 rfl (by decide) _ _ _ rfl HOWN2.out ⟨b1, o1, none⟩ n1 c1 (iv l1) rfl ?c0 HC.out ?c2 ?c3 ?c4 ?c5 ?_)
          case c0 => simp [iv, HN1.out]
          case c2 => intro u hu; simp [iv] at hu; obtain ⟨y, _, rfl⟩ := hu; rfl
          case c3 => unfold maxLen; omega
          case c4 => omega
          case c5 => omega
          intro v' w3 hown2 hgrow _
          have hbe : Below B w0 w3 := HBEL.out.grown hgrow hBw (fun q hq => (HOWN2.out.lt q hq).1)
          have HB3 := Lib.hid hbe
          have HO3 := Lib.hid hown2
          clear hown2 hgrow hbe
          go_wp2_with fail
          go_roundg (k - (j + 1))
          case measure => have := HK2.out; omega
          case rel =>
            refine ⟨j + 1, _, by omega, rfl, by go_num, ?_, HB3.out⟩
            have hO := HO3.out
            rw [HS.out, List.length_append, HN1.out]
            unfold iv at hO ⊢
            rw [List.map_append]
            exact hO
        · obtain rfl : j = k := by omega
          have ho := hown
          rw [HFE.out] at ho
          have HO := Lib.hid ho
          clear ho hown hbel
          go_wp2_with fail
          go_ret
          exact ⟨_, rfl, by first | exact HO.out | (rw [HGG.out]; exact HO.out), by first | exact HBEL.out | (rw [HGG.out]; exact HBEL.out)⟩
end Go.Proofs.Ytiodjepjbooniaa.uk
/- Codes, plainly: what they stand for, sums, nearest ones. No program here. -/
namespace Go.Proofs.Ytiodjepjbooniaa.cq

open Go.Proofs.Ytiodjepjbooniaa.vq

set_option linter.unusedVariables false
theorem flat_len : ∀ (X : VV) (C : List (Int × Int)) (a d : Int), chain a C d → X.length = C.length → (∀ (k : Nat) (x : List Int) (p : Int × Int), X[k]? = some x → C[k]? = some p → (x.length : Int) = p.2 - p.1) → (X.flatten.length : Int) = d - a
  | [], [], a, d, h, _, _ => by have h : a = d := h; simp; omega
  | [], _ :: _, _, _, _, h, _ => by simp at h
  | _ :: _, [], _, _, _, h, _ => by simp at h
  | x :: X, (p, q) :: C, a, d, h, hl, hk => by
    have ih := flat_len X C q d h.2.2 (by simpa using hl) (fun k y r h1 h2 => hk (k + 1) y r (by simpa using h1) (by simpa using h2))
    have h0 := hk 0 x (p, q) rfl rfl
    have := h.1
    simp only [List.flatten_cons, List.length_append]
    dsimp only at h0
    omega
theorem chosen_at {b : Bk} {c : List Int} {k : Nat} {l : VV} {i : Int} (hl : b.W[k]? = some l) (hi : c[k]? = some i) : (chosen b c)[k]? = some (l.getD i.toNat []) := by
  simp [chosen, List.getElem?_zipWith, hl, hi]
theorem all_take {α : Type} {l : List α} {p : α → Bool} {k : Nat} {x : α} (h : l[k]? = some x) : (l.take (k + 1)).all p = ((l.take k).all p && p x) := by
  rw [List.take_add_one, h, List.all_append]; simp
theorem cok_iff {b : Bk} {c : List Int} : cok b c = true ↔ c.length = b.W.length ∧ ∀ (k : Nat) (l : VV) (i : Int), b.W[k]? = some l → c[k]? = some i → 0 ≤ i ∧ i < (l.length : Int) := by
  simp only [cok, Bool.and_eq_true, decide_eq_true_eq, List.all_eq_true]
  refine ⟨fun ⟨h1, h2⟩ => ⟨h1, fun k l i hl hi => ?_⟩, fun ⟨h1, h2⟩ => ⟨h1, fun p hp => ?_⟩⟩
  · have := h2 _ (List.mem_of_getElem? (zipAt hl hi))
    simpa [cok1] using this
  · obtain ⟨k, hk, rfl⟩ := List.mem_iff_getElem.1 hp
    have hk2 : k < b.W.length ∧ k < c.length := by rw [List.length_zip] at hk; omega
    have := h2 k _ _ (List.getElem?_eq_getElem hk2.1) (List.getElem?_eq_getElem hk2.2)
    simpa [cok1] using this
theorem chosen_len {b : Bk} {c : List Int} (h : c.length = b.W.length) : (chosen b c).length = b.W.length := by
  simp [chosen, h]
theorem getD_at {α : Type} {l : List α} {i : Nat} {d : α} (h : i < l.length) : l[i]? = some (l.getD i d) := by
  rw [List.getD_eq_getElem?_getD, List.getElem?_eq_getElem h]; rfl
/-- a word that is chosen -/
theorem chosen_word {b : Bk} (hR : Rt b) {c : List Int} (hc : cok b c = true) {k : Nat} {x : List Int} (hx : (chosen b c)[k]? = some x) : ∃ y, b.cuts[k]? = some y ∧ (x.length : Int) = endAt b.cuts b.d k - y ∧ Vec x := by
  obtain ⟨h1, h2⟩ := cok_iff.1 hc
  have hk := (List.getElem?_eq_some_iff.1 hx).1
  rw [chosen_len h1] at hk
  have hl := List.getElem?_eq_getElem hk
  have hi := List.getElem?_eq_getElem (show k < c.length by omega)
  have hy := List.getElem?_eq_getElem (show k < b.cuts.length by rw [← hR.wl]; exact hk)
  have h3 := h2 k _ _ hl hi
  rw [chosen_at hl hi] at hx
  injection hx with hx
  have hm : x ∈ b.W[k] := by rw [← hx]; exact List.mem_of_getElem? (getD_at (d := []) (by omega))
  have h4 := (hR.ok k _ _ hl hy).2 x hm
  exact ⟨_, hy, h4.1, h4.2⟩
theorem dec_len {b : Bk} (hR : Rt b) {c : List Int} (hc : cok b c = true) : ((dec b c).length : Int) = b.d := by
  rw [dec, if_pos hc]
  have hcl := (cok_iff.1 hc).1
  have := flat_len (chosen b c) (sp b.cuts b.d) 0 b.d hR.div.ch (by rw [chosen_len hcl, sp_len, hR.wl]) (fun k x p h1 h2 => by
    obtain ⟨y, hy, hl, _⟩ := chosen_word hR hc h1
    rw [sp_at hy] at h2
    injection h2 with h2
    subst h2
    exact hl)
  omega
theorem dec_vec {b : Bk} (hR : Rt b) {c : List Int} (hc : cok b c = true) : Vec (dec b c) := by
  have hl := dec_len hR hc
  have d1 := hR.div.d1
  have d2 := hR.div.d32
  have hm : ∀ x ∈ dec b c, -1000 ≤ x ∧ x ≤ 1000 := fun x hx => by
    rw [dec, if_pos hc] at hx
    obtain ⟨w, hw, hx⟩ := List.mem_flatten.1 hx
    obtain ⟨k, hk, rfl⟩ := List.mem_iff_getElem.1 hw
    obtain ⟨y, hy, _, hv⟩ := chosen_word hR hc (List.getElem?_eq_getElem hk)
    exact ⟨hv.lo x hx, hv.hi x hx⟩
  exact ⟨by omega, by omega, fun x hx => (hm x hx).1, fun x hx => (hm x hx).2⟩
theorem tbl_at {m : Int} {b : Bk} {q : List Int} {k : Nat} {l : VV} {y : Int} (hl : b.W[k]? = some l) (hy : b.cuts[k]? = some y) : (tbl m b q)[k]? = some (trow m q (l, (y, endAt b.cuts b.d k))) := by
  unfold tbl
  rw [List.getElem?_map, zipAt hl (sp_at hy)]; rfl
theorem tbl_len {m : Int} {b : Bk} (hR : Rt b) (q : List Int) : (tbl m b q).length = b.W.length := by
  unfold tbl
  rw [List.length_map, List.length_zip, sp_len, hR.wl]; omega
theorem trow_at {m : Int} {q : List Int} {l : VV} {p : Int × Int} {i : Nat} {w : List Int} (h : l[i]? = some w) : (trow m q (l, p)).getD i 0 = key m w (pt q p) := by
  unfold trow
  rw [List.getD_eq_getElem?_getD, List.getElem?_map, h]; rfl
theorem trow_len {m : Int} {q : List Int} {l : VV} {p : Int × Int} : (trow m q (l, p)).length = l.length := by simp [trow]
theorem enc_at {m : Int} {b : Bk} {q : List Int} {k : Nat} {l : VV} {y : Int} (hl : b.W[k]? = some l) (hy : b.cuts[k]? = some y) : (enc m b q)[k]? = some (lst (trow m q (l, (y, endAt b.cuts b.d k))) : Int) := by
  unfold enc
  rw [List.getElem?_map, tbl_at hl hy]; rfl
theorem enc_cok {m : Int} {b : Bk} (hR : Rt b) (v : List Int) : cok b (enc m b v) = true := by
  rw [cok_iff]
  refine ⟨by unfold enc; rw [List.length_map, tbl_len hR], fun k l i hl hi => ?_⟩
  have hk := (List.getElem?_eq_some_iff.1 hl).1
  have hy := List.getElem?_eq_getElem (show k < b.cuts.length by rw [← hR.wl]; exact hk)
  rw [enc_at hl hy] at hi
  injection hi with hi
  have h1 := (hR.ok k _ _ hl hy).1.1
  have h2 := lst_lt (l := trow m v (l, (b.cuts[k]'(by rw [← hR.wl]; exact hk), endAt b.cuts b.d k))) (by rw [trow_len]; exact h1)
  rw [trow_len] at h2
  omega
/-- the sum of what a code chooses is a key -/
theorem sum_key {m : Int} (h1 : 1 ≤ m) (h3 : m ≤ 3) {b : Bk} (hR : Rt b) {q c : List Int} (hq : (q.length : Int) = b.d) (hc : cok b c = true) : sumc m (tbl m b q) c = key m q (dec b c) := by
  obtain ⟨hcl, hci⟩ := cok_iff.1 hc
  have he : List.zipWith take1 (tbl m b q) c = List.zipWith (key m) (chosen b c) ((sp b.cuts b.d).map (pt q)) := by
    refine List.ext_getElem? fun k => ?_
    rcases Nat.lt_or_ge k b.W.length with hk | hk
    · have hl := List.getElem?_eq_getElem hk
      have hi := List.getElem?_eq_getElem (show k < c.length by omega)
      have hy := List.getElem?_eq_getElem (show k < b.cuts.length by rw [← hR.wl]; exact hk)
      have h5 := hci k _ _ hl hi
      rw [List.getElem?_zipWith, List.getElem?_zipWith, tbl_at hl hy, hi, chosen_at hl hi, List.getElem?_map, sp_at hy]
      simp only [Option.map_some]
      congr 1
      exact trow_at (getD_at (by omega))
    · rw [List.getElem?_eq_none (by rw [List.length_zipWith, tbl_len hR]; omega), List.getElem?_eq_none (by rw [List.length_zipWith, chosen_len hcl]; omega)]
  unfold sumc
  have hch := hR.div.ch
  have hkf := key_flat h1 h3 (A := chosen b c) (B := (sp b.cuts b.d).map (pt q)) (by rw [chosen_len hcl, List.length_map, sp_len, hR.wl]) (fun k x y hx hy => by
    obtain ⟨z, hz, hl, _⟩ := chosen_word hR hc hx
    rw [List.getElem?_map, sp_at hz] at hy
    simp only [Option.map_some, Option.some.injEq] at hy
    subst hy
    have hD := hR.div.at hz
    have := pt_len (v := q) (p := (z, endAt b.cuts b.d k)) hD.1 (by show z ≤ _; omega) (by show endAt b.cuts b.d k ≤ _; omega)
    dsimp only at this
    omega)
  rw [he, ← hkf, pt_flat _ 0 b.d hch (by omega) hq, key_comm, dec, if_pos hc]
  rfl
theorem comb_mono {m : Int} : ∀ (X Y : List Int) (a a' : Int), X.length = Y.length → a ≤ a' → (∀ (k : Nat) (x y : Int), X[k]? = some x → Y[k]? = some y → x ≤ y) → X.foldl (put m) a ≤ Y.foldl (put m) a'
  | [], [], a, a', _, h, _ => h
  | [], _ :: _, _, _, h, _, _ => by simp at h
  | _ :: _, [], _, _, h, _, _ => by simp at h
  | x :: X, y :: Y, a, a', hl, h, hk => by
    simp only [List.foldl_cons]
    refine comb_mono X Y _ _ (by simpa using hl) ?_ (fun k u v h1 h2 => hk (k + 1) u v (by simpa using h1) (by simpa using h2))
    have := hk 0 x y rfl rfl
    unfold put
    split <;> omega
theorem take1_at {m : Int} {b : Bk} {q c : List Int} {k : Nat} {l : VV} {y i : Int} (hl : b.W[k]? = some l) (hy : b.cuts[k]? = some y) (hi : c[k]? = some i) : (List.zipWith take1 (tbl m b q) c)[k]? = some ((trow m q (l, (y, endAt b.cuts b.d k))).getD i.toNat 0) := by
  rw [List.getElem?_zipWith, tbl_at hl hy, hi]; rfl
theorem sum_least {m : Int} {b : Bk} (hR : Rt b) {v c : List Int} (hc : cok b c = true) : sumc m (tbl m b v) (enc m b v) ≤ sumc m (tbl m b v) c := by
  obtain ⟨hcl, hci⟩ := cok_iff.1 hc
  obtain ⟨hel, hei⟩ := cok_iff.1 (enc_cok (m := m) hR v)
  refine comb_mono _ _ 0 0 (by rw [List.length_zipWith, List.length_zipWith, hel, hcl]) (Int.le_refl _) fun k x y hx hy => ?_
  have hk := (List.getElem?_eq_some_iff.1 hx).1
  rw [List.length_zipWith, tbl_len hR] at hk
  have hl := List.getElem?_eq_getElem (show k < b.W.length by omega)
  have hi := List.getElem?_eq_getElem (show k < c.length by omega)
  have hz := List.getElem?_eq_getElem (show k < b.cuts.length by rw [← hR.wl]; omega)
  rw [take1_at hl hz (enc_at hl hz)] at hx
  rw [take1_at hl hz hi] at hy
  injection hx with hx
  injection hy with hy
  have h5 := hci k _ _ hl hi
  rw [← hx, ← hy, Int.toNat_natCast]
  exact lst_le (by rw [trow_len]; omega)
theorem res_key {m : Int} (h1 : 1 ≤ m) (h3 : m ≤ 3) {b : Bk} (hR : Rt b) {v : List Int} (hv : (v.length : Int) = b.d) : res m b v = sumc m (tbl m b v) (enc m b v) := (sum_key h1 h3 hR hv (enc_cok hR v)).symm
theorem res_le {m : Int} (h1 : 1 ≤ m) (h3 : m ≤ 3) {b : Bk} (hR : Rt b) {v c : List Int} (hv : (v.length : Int) = b.d) (hc : cok b c = true) : res m b v ≤ key m v (dec b c) := by
  rw [res_key h1 h3 hR hv, ← sum_key h1 h3 hR hv hc]
  exact sum_least hR hc
theorem res_nonneg (m : Int) (b : Bk) (v : List Int) : 0 ≤ res m b v := key_nonneg m _ _
theorem res_zero {m : Int} (h1 : 1 ≤ m) (h3 : m ≤ 3) {b : Bk} (hR : Rt b) {c : List Int} (hc : cok b c = true) : res m b (dec b c) = 0 := by
  have h := res_le h1 h3 hR (dec_len hR hc) hc
  rw [norm_self] at h
  have := res_nonneg m b (dec b c)
  omega
theorem key_max {m : Int} {a b : List Int} (ha : Vec a) (hb : Vec b) (hl : a.length = b.length) : key m a b ≤ 134217728 := by
  have h := norm_bound (m := m) (v := sub a b) (sub_bound ha hb)
  rw [sub_length hl] at h
  have := ha.le
  unfold key
  omega
theorem tri_H {a b c : List Int} (h : a.length = b.length) (h' : b.length = c.length) : me.H (key 2 a b) (key 2 b c) (key 2 a c) := by
  have t := triangle2 h h'
  rw [← me.H_iff]
  have e : (key 2 a b + key 2 b c - key 2 a c) * (key 2 a b + key 2 b c - key 2 a c) = (key 2 a c - key 2 a b - key 2 b c) * (key 2 a c - key 2 a b - key 2 b c) := by grind
  rw [e]
  exact t
/-- the bounds hold -/
theorem bounds_hold {m : Int} (h1 : 1 ≤ m) (h3 : m ≤ 3) {q v x : List Int} (hq : Vec q) (hv : Vec v) (hx : Vec x) (e1 : q.length = v.length) (e2 : x.length = v.length) :
    me.low m (key m q x) (key m v x) ≤ key m q v ∧ key m q v ≤ me.high m (key m q x) (key m v x) := by
  refine me.tri_of (key_nonneg _ _ _) (key_nonneg _ _ _) (key_max hq hv e1) (fun hm => ?_) (fun hm => ?_)
  · have t1 := triangle h1 h3 hm (a := q) (b := v) (c := x) e1 e2.symm
    have t2 := triangle h1 h3 hm (a := v) (b := q) (c := x) e1.symm (by omega)
    have t3 := triangle h1 h3 hm (a := q) (b := x) (c := v) (by omega) e2
    rw [key_comm m v q] at t2
    rw [key_comm m x v] at t3
    omega
  · subst hm
    have t := tri_H (a := q) (b := x) (c := v) (by omega) e2
    rw [key_comm 2 x v] at t
    exact t
end Go.Proofs.Ytiodjepjbooniaa.cq
/- Decode. -/
namespace Go.Proofs.Ytiodjepjbooniaa.uk

open Go.ChangeShapes Go.WideShapes Go.ChangeAt Go.RowKit

open Go.Proofs.Ytiodjepjbooniaa.cq Go.Proofs.Ytiodjepjbooniaa.vk Go.Proofs.Ytiodjepjbooniaa.bk Go.Proofs.Ytiodjepjbooniaa.wk

set_option linter.unusedVariables false
def okD (b : Bool) : Value := .int .i64 (if b then 0 else 1)
theorem cok_bad {b : Bk} {c : List Int} {k : Nat} {l : VV} {i : Int} (hl : b.W[k]? = some l) (hi : c[k]? = some i) (h : i < 0 ∨ (l.length : Int) ≤ i) : cok b c = false := by
  cases hh : cok b c
  · rfl
  · have := (cok_iff.1 hh).2 k l i hl hi; omega
theorem cok_ok {b : Bk} {c : List Int} (hlen : c.length = b.W.length) (h : ∀ (k : Nat) (l : VV) (i : Int), b.W[k]? = some l → c[k]? = some i → 0 ≤ i ∧ i < (l.length : Int)) : cok b c = true := cok_iff.2 ⟨hlen, h⟩
theorem isV_nil (w : World) : IsV w (.slice none 0 0) [] := ⟨none, 0, 0, rfl, rfl, Nat.le_refl _, by omega, fun h => absurd h (by simp), by simp⟩
theorem vec_i64 {l : List Int} (h : vq.Vec l) : ∀ x ∈ l, I64 x := fun x hx => by have := h.lo x hx; have := h.hi x hx; unfold I64; omega
set_option maxRecDepth 100000 in
set_option maxHeartbeats 4000000 in
theorem decode_calls (v : Value) (b : Bk) (A : Option Addr) (n c : Nat) (cl : List Int) (w : World) (h : IsBk w v b) (hR : Rt b) (h2 : wo.IsI w A n c cl) :
    Calls Try.prog 15 #[v, .slice A n c] w fun e w' => ∃ u, e = .returned (.tuple #[u, okD (cok b cl)]) ∧ IsV w' u (dec b cl) ∧ Below w.heap.size w w' := by
  obtain ⟨A0, n0, c0, AW, nW, cW, rfl, hi, hW, hd⟩ := h
  obtain ⟨i0, hi9, hz0, hz1, hz2⟩ := info_parts infoVz
  have hm := h2.2.2.1
  have hnc := h2.2.1
  have hmW := hW.2.2.1
  have hncW := hW.2.1
  have hn8 : nW ≤ 8 := by have := hW.1; have := hR.wl; have := hR.div.n8; omega
  have hn1 : 1 ≤ nW := by have := hW.1; have := hR.wl; have := hR.div.n1; omega
  have HB0 := Lib.hid (below_new w (.cells #[.int .i64 b.d, .slice A0 n0 c0, .slice AW nW cW] 25))
  have hT0 := Three.new w (.int .i64 b.d) (.slice A0 n0 c0) (.slice AW nW cW)
  have HI := Lib.hid h2
  have HW := Lib.hid hW
  have HR := Lib.hid hR
  have HT := Lib.hid hT0
  clear hi hW hd h2 hR
  generalize hG : w.heap.size = G at *
  have HG := Lib.hid hG
  clear hG
  by_cases hlen : n = nW
  · subst hlen
    have HLEN : Hid (cl.length = b.W.length) := by show _ = _; rw [HI.out.1, HW.out.1]
    have hnI : (i0.bytes : Nat) * n ≤ 281474976710656 := by rw [hz2]; omega
    obtain ⟨w1, hmk, hown, hgr⟩ := run_make_own (P := Try.prog) (w.alloc (.cells #[.int .i64 b.d, .slice A0 n0 c0, .slice AW n cW] 25)) G 39 22 i0 (.slice none 0 0) 1 Try.underlying39 hi9 hz0 hz1 .i64 .i64 n hnI (by unfold maxLen; omega) (by rw [size_new, HG.out]; omega)
    have hb1 : Below (w.alloc (.cells #[.int .i64 b.d, .slice A0 n0 c0, .slice AW n cW] 25)).heap.size (w.alloc (.cells #[.int .i64 b.d, .slice A0 n0 c0, .slice AW n cW] 25)) w1 := (Below.refl _ _).grown hgr (Nat.le_refl _) (fun k hk => by cases hk)
    have HB1 : Hid (Below G w w1) := HB0.out.trans (hb1.mono (by rw [size_new, HG.out]; omega))
    have HT1 := Lib.hid (HT.out.below hb1)
    rw [size_new] at hown
    have HOWN := Lib.hid hown
    have hc2 := hT0.c2
    clear hown hgr hb1 hT0
    go_enter Try.func15, Try.ntmps15
    go_wp2_with fail
    go_loopg [6, 20] n (fun g u x wr => ∃ (k : Nat) (v0 : Value) (vals : List Value), k + g = n ∧ v0 = u ∧ x = .int .i64 (k : Int) ∧ RowE IsV G [22] 22 wr v0 ((chosen b cl).take k) vals ∧ (∀ (j : Nat) (l : VV) (i : Int), j < k → b.W[j]? = some l → cl[j]? = some i → 0 ≤ i ∧ i < (l.length : Int)) ∧ Below G w wr ∧ Three wr G (.int .i64 b.d) (.slice A0 n0 c0) (.slice AW n cW))
    case atStart => exact ⟨0, _, [], by omega, rfl, rfl, RowE.start HOWN.out, fun j l i hj => by omega, HB1.out, HT1.out⟩
    case round =>
      obtain ⟨k, v0, vals, hk, rfl, rfl, hrow, hok, hbel, hth⟩ := hrel
      have HK := Lib.hid hk
      have HROW := Lib.hid hrow
      have HOK := Lib.hid hok
      have HBEL := Lib.hid hbel
      have HTH := Lib.hid hth
      have hkn : k ≤ n := by omega
      have HCL : Hid ((chosen b cl).length = n) := by show _ = _; rw [chosen_len HLEN.out, HW.out.1]
      clear hk hrow hok
      by_cases hlt : k < n
      · have hbw : Below w.heap.size w wr := by rw [HG.out]; exact hbel
        have hBw : G ≤ wr.heap.size := by have := hbel.size; have := HG.out; omega
        obtain ⟨bc, oc, x, rfl, hcx, hX, hx1, hx2⟩ := isI_at (isI_below HI.out hbw) hlt
        obtain ⟨bW, oW, A7, n7, c7, L7, rfl, hbW, hcW, hV7, hL7⟩ := isW_get (isW_below HW.out hbw) hlt
        have hm7 := hV7.2.2.1
        have hnc7 := hV7.2.1
        have hl7 := hV7.1
        have hth2 := hth.c2
        rw [← HG.out] at hth2
        have hlt0 : (k : Int) < (n : Int) := by omega
        by_cases hx0 : x < 0
        · have HBAD := Lib.hid (cok_bad hL7 hX (.inl hx0))
          have HDE : Hid (dec b cl = []) := by show _ = _; unfold dec; rw [HBAD.out]; rfl
          clear hX hL7 hV7 hbel hth hbw
          go_wp2_with fail
          go_ret2
          exact ⟨_, by rw [HBAD.out]; rfl, by rw [HDE.out]; exact isV_nil _, HBEL.out⟩
        · obtain ⟨i, rfl⟩ := Int.eq_ofNat_of_zero_le (show 0 ≤ x by omega)
          by_cases hx7 : i < n7
          · obtain ⟨b8, o8, A8, n8, c8, l8, e8, hb8, hc8, hI8, hL8⟩ := isVV_get hV7 hx7
            cases e8
            have hlt1 : (i : Int) < (n7 : Int) := by omega
            have HCH : Hid ((chosen b cl)[k]? = some l8) := by
              show _ = _
              have e := chosen_at hL7 hX
              rw [e]
              congr 1
              rw [List.getD_eq_getElem?_getD]
              simp [hL8]
            have HST : Hid (St G [22] (fun w' => IsV w' (.slice A8 n8 c8) l8) wr) := by
              refine St.given (w0 := wr) ⟨A8, n8, c8, rfl, hI8⟩ (fun w' hb => ?_) (Below.refl _ _)
              have hbw2 : Below w.heap.size w w' := by rw [HG.out]; exact HBEL.out.trans hb
              obtain ⟨bW', oW', A7', n7', c7', L7', eW, hbW', hcW', hV7', hL7'⟩ := isW_get (isW_below HW.out hbw2) hlt
              cases eW
              have hlow : bW < w.heap.size := by
                obtain ⟨b9, o9, _, _, _, _, e9, h9, _⟩ := isW_get HW.out hlt
                cases e9; exact h9
              rw [hL7] at hL7'
              injection hL7' with hL7'
              subst hL7'
              have hce : w'.cell? ⟨bW, oW + k, none⟩ = wr.cell? ⟨bW, oW + k, none⟩ := (hbw2.cell (p := ⟨bW, oW + k, none⟩) hlow).trans (hbw.cell (p := ⟨bW, oW + k, none⟩) hlow).symm
              rw [hcW', hcW] at hce
              injection hce with hce
              injection hce with e1 e2 e3
              subst e1 e2 e3
              obtain ⟨b9, o9, A9, n9, c9, l9, e9, hb9, hc9, hI9, hL9⟩ := isVV_get hV7' hx7
              cases e9
              obtain ⟨b5, o5, A5, n5, c5, L5, e5, hb5, hcc5, hV5, hL5⟩ := isW_get HW.out hlt
              cases e5
              rw [hL7] at hL5
              injection hL5 with hL5
              subst hL5
              have hce2 := (hbw2.cell (p := ⟨bW, oW + k, none⟩) hlow)
              rw [hcW', hcc5] at hce2
              injection hce2 with hce2
              injection hce2 with e1 e2 e3
              subst e1 e2 e3
              obtain ⟨b4, o4, A4, n4, c4, l4, e4, hb4, hcc4, hI4, hL4⟩ := isVV_get hV5 hx7
              cases e4
              have h1 := hbw2.cell (p := ⟨b8, o8 + i, none⟩) hb4
              have h2 := hbw.cell (p := ⟨b8, o8 + i, none⟩) hb4
              rw [hc9] at h1
              rw [hc8] at h2
              rw [← h2] at h1
              injection h1 with h1
              injection h1 with e1 e2 e3
              subst e1 e2 e3
              rw [hL8] at hL9
              injection hL9 with hL9
              subst hL9
              exact ⟨_, _, _, rfl, hI9⟩
            have HOK2 : Hid (∀ (j : Nat) (l : VV) (i : Int), j < k + 1 → b.W[j]? = some l → cl[j]? = some i → 0 ≤ i ∧ i < (l.length : Int)) := fun j l i' hj hl hi' => by
              rcases Nat.lt_or_ge j k with h | h
              · exact HOK.out j l i' h hl hi'
              · obtain rfl : j = k := by omega
                rw [hL7] at hl
                rw [hX] at hi'
                injection hl with hl
                injection hi' with hi'
                subst hl hi'
                omega
            have HTAKE : Hid ((chosen b cl).take (k + 1) = (chosen b cl).take k ++ [l8]) := by
              show _ = _
              rw [List.take_add_one, HCH.out]; rfl
            have hrl : ((chosen b cl).take k).length = k := by rw [List.length_take, HCL.out]; omega
            have HOWN2 : Hid (wr.ownsRow G 22 1 v0 k vals) := by have := HROW.out.own; rw [hrl] at this; exact this
            have HRL := Lib.hid hrl
            have HBW : Hid (G ≤ wr.heap.size) := hBw
            have HG3 := Lib.hid hth.lt
            clear hX hL7 hV7 hbel hbw hI8 hL8 hrl hBw
            go_wp2_with (at_builtin; refine wpList_append_own _ rfl _ _ 39 rfl G 22 i0 (.slice none 0 0) 1 24 Try.underlying39 hi9 hz0 hz1 hz2 rfl (by decide) _ _ _ rfl (HOWN2.out.alloc _) ⟨wr.heap.size, 0, none⟩ 1 1 [.slice A8 n8 c8] rfl rfl ?c1 ?c2 ?c3 ?c4 ?c5 ?_)
            case c2 => simp [Value.oneCell']
            case c3 => unfold maxLen; omega
            case c4 => omega
            case c5 => have := HBW.out; simp; omega
            intro v' w5 hown2 hgrow _
            have hB5 : Below G w w5 := (HBEL.out.alloc HBW.out _).grown hgrow (by have := HBW.out; simp; omega) (fun q hq => (HOWN2.out.lt q hq).1)
            have HB5 := Lib.hid hB5
            have HR5 := Lib.hid (HROW.out.push (by simp) HST.out HBW.out _ hgrow (by rw [HRL.out]; exact hown2))
            have HT5 : Hid (Three w5 G (.int .i64 b.d) (.slice A0 n0 c0) (.slice (some ⟨bW, oW, none⟩) n cW)) := by
              have hk5 : Kp G [22] wr w5 := (Kp.of_below (below_new wr _) HBW.out).trans (Kp.of_grown (keptB HOWN2.out (below_new wr _)) (by simp) (Nat.le_refl _) (by rw [size_new]; have := HBW.out; omega) hgrow)
              exact hk5.high _ _ _ _ HTH.out (by decide)
            clear hown2 hgrow hB5
            go_wp2_with fail
            go_roundg (gk - 1)
            case measure => have := HK.out; omega
            case rel => exact ⟨k + 1, _, _, by have := HK.out; omega, rfl, by go_num, by rw [HTAKE.out]; exact HR5.out, HOK2.out, HB5.out, HT5.out⟩
          · have HBAD := Lib.hid (cok_bad hL7 hX (.inr (by omega)))
            have HDE : Hid (dec b cl = []) := by show _ = _; unfold dec; rw [HBAD.out]; rfl
            have hx8 : ¬ (i : Int) < (n7 : Int) := by omega
            clear hX hL7 hV7 hbel hth hbw
            go_wp2_with fail
            go_ret2
            exact ⟨_, by rw [HBAD.out]; rfl, by rw [HDE.out]; exact isV_nil _, HBEL.out⟩
      · obtain rfl : k = n := by omega
        have hcok : cok b cl = true := cok_ok HLEN.out (fun j l i hl hi => HOK.out j l i (by have := (List.getElem?_eq_some_iff.1 hl).1; have := HW.out.1; omega) hl hi)
        have hrow := HROW.out
        rw [List.take_of_length_le (by have := HCL.out; omega)] at hrow
        obtain ⟨A9, c9, rfl, hVV⟩ := hrow.isVV
        rw [HCL.out] at hVV ⊢
        have hdl := dec_len HR.out hcok
        have hdv := dec_vec HR.out hcok
        have hde : dec b cl = (chosen b cl).flatten := by unfold dec; rw [hcok]; rfl
        have d32 := HR.out.div.d32
        have HC := Lib.hid (concat_calls A9 k c9 (chosen b cl) wr hVV (fun l hl => by
          obtain ⟨j, hj, rfl⟩ := List.mem_iff_getElem.1 hl
          obtain ⟨y, _, _, hvw⟩ := chosen_word HR.out hcok (List.getElem?_eq_getElem hj)
          exact hvw.pos) (by rw [← hde]; omega) hn1)
        have HDE := Lib.hid hde
        have HDV := Lib.hid hdv
        have HCOK := Lib.hid hcok
        clear hrow hVV hdl hdv hde hcok hbel hth
        go_wp2_with fail
        refine HC.out.mono ?_
        rintro e w5 ⟨v5, rfl, hown, hb5⟩
        have hV5 := isV_own hown (by rw [← HDE.out]; exact vec_i64 HDV.out)
        have HV5 := Lib.hid hV5
        have HB5 : Hid (Below G w w5) := HBEL.out.trans (hb5.mono (by have := HBEL.out.size; have := HG.out; omega))
        clear hown hb5 hV5
        go_wp2_with fail
        go_ret2
        exact ⟨_, by rw [HCOK.out]; rfl, by rw [HDE.out]; exact HV5.out, HB5.out⟩
  · have hlen' : ((n : Int) != (nW : Int)) = true := by simp; omega
    have HBAD : Hid (cok b cl = false) := by
      show _ = _
      cases hh : cok b cl
      · rfl
      · have := (cok_iff.1 hh).1; have := HI.out.1; have := HW.out.1; omega
    have HDE : Hid (dec b cl = []) := by show _ = _; unfold dec; rw [HBAD.out]; rfl
    have hc2 := hT0.c2
    clear hT0
    go_enter Try.func15, Try.ntmps15
    go_wp2_with fail
    go_ret2
    exact ⟨_, by rw [HBAD.out]; rfl, by rw [HDE.out]; exact isV_nil _, HB0.out⟩
end Go.Proofs.Ytiodjepjbooniaa.uk
