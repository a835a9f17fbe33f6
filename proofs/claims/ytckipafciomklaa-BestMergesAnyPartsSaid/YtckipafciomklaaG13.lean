/- Joined: Hu Hv Hw Hx. -/
import Derived.Test.YtckipafciomklaaG12
/- The reference's Valid. -/
namespace Go.Proofs.Ytckipafciomklaa.bk

open Go.ChangeShapes Go.WideShapes Go.ChangeAt Go.RowKit

open Go.Proofs.Ytckipafciomklaa.bq Go.Proofs.Ytckipafciomklaa.vk Go.Proofs.Ytckipafciomklaa.wk

set_option linter.unusedVariables false
attribute [local go_sem] Oper.semAt_some
theorem isH_at {w : World} {b o n c k : Nat} {l : List H} {x : H} (h : IsH w (some ⟨b, o, none⟩) n c l) (hx : l[k]? = some x) : ∀ j u, (rv x)[j]? = some u → w.cell? ((⟨b, o + k * 3, none⟩ : Addr).add j) = some u := fun j u hu => by
  have hkl := (List.getElem?_eq_some_iff.1 hx).1
  obtain ⟨b', o', e, hb, hc⟩ := h.2.2.2.1 (by rw [fl_length]; omega)
  cases e
  have hj : j < 3 := (List.getElem?_eq_some_iff.1 hu).1
  have hf := fl_at hx
  have hj2 : j = 0 ∨ j = 1 ∨ j = 2 := by omega
  rw [wk.add_at]
  rcases hj2 with rfl | rfl | rfl
  · cases hu; exact hc _ _ hf.1
  · cases hu; exact hc _ _ hf.2.1
  · cases hu; exact hc _ _ hf.2.2
theorem any_id {l : List H} {i : Int} : (l.any fun r => r.1 == i) = true ↔ i ∈ l.map (·.1) := by
  rw [List.any_eq_true, List.mem_map]
  constructor
  · rintro ⟨r, h1, h2⟩; exact ⟨r, h1, by simpa using h2⟩
  · rintro ⟨r, h1, h2⟩; exact ⟨r, h1, by simpa using h2⟩
/-- what the first k hits keep, and the next one -/
def Good (l : List H) (k : Nat) : Prop := (∀ h ∈ l.take k, right h = true) ∧ Lst (l.take k)
theorem take_succ' {l : List H} {k : Nat} {x : H} (hx : l[k]? = some x) : l.take (k + 1) = l.take k ++ [x] := by
  rw [List.take_add_one, hx]; rfl
theorem good_step {l : List H} {k : Nat} {x : H} (hg : Good l k) (hx : l[k]? = some x) (hr : right x = true) (hl : ∀ y, 0 < k → l[k - 1]? = some y → lt y x = true) (hi : ((l.take k).any fun r => r.1 == x.1) = false) : Good l (k + 1) := by
  obtain ⟨h1, h2, h3⟩ := hg
  have hkl := (List.getElem?_eq_some_iff.1 hx).1
  unfold Good
  rw [take_succ' hx]
  refine ⟨fun h hh => ?_, ?_, ?_⟩
  · rcases List.mem_append.1 hh with hh | hh
    · exact h1 h hh
    · rw [List.mem_singleton.1 hh]; exact hr
  · refine List.pairwise_append.2 ⟨h2, by simp, fun a ha b hb => ?_⟩
    rw [List.mem_singleton.1 hb]
    obtain ⟨i, hi2, hai⟩ := List.mem_iff_getElem.1 ha
    rw [List.length_take] at hi2
    have hk0 : 0 < k := by omega
    have hy := hl (l[k - 1]'(by omega)) hk0 (List.getElem?_eq_getElem _)
    by_cases e : i = k - 1
    · subst e; rw [← hai, List.getElem_take]; exact hy
    · have h4 := List.pairwise_iff_getElem.1 h2 i (k - 1) (by rw [List.length_take]; omega) (by rw [List.length_take]; omega) (by omega)
      rw [List.getElem_take, List.getElem_take] at h4
      rw [List.getElem_take] at hai
      rw [hai] at h4
      exact lt_trans h4 hy
  · unfold Dst
    rw [List.map_append]
    refine List.nodup_append.2 ⟨h3, by simp, fun a ha b hb => ?_⟩
    rw [List.map_singleton, List.mem_singleton] at hb
    intro e
    rw [e, hb] at ha
    rw [← Bool.not_eq_true, any_id] at hi
    exact hi ha
theorem not_right {l : List H} {k : Nat} {K : Int} {x : H} (hx : l[k]? = some x) (hr : right x = false) : vld l K = false := by
  rw [← Bool.not_eq_true, vld_iff]
  rintro ⟨_, _, h, _⟩
  have := h x (List.mem_of_getElem? hx)
  rw [hr] at this; cases this
theorem not_asc {l : List H} {k : Nat} {K : Int} {x y : H} (hx : l[k]? = some x) (hk : 0 < k) (hy : l[k - 1]? = some y) (h : lt y x = false) : vld l K = false := by
  rw [← Bool.not_eq_true, vld_iff]
  rintro ⟨_, _, _, ha, _⟩
  obtain ⟨h1, rfl⟩ := List.getElem?_eq_some_iff.1 hx
  obtain ⟨h2, rfl⟩ := List.getElem?_eq_some_iff.1 hy
  have := List.pairwise_iff_getElem.1 ha (k - 1) k h2 h1 (by omega)
  rw [h] at this; cases this
theorem not_dst {l : List H} {k : Nat} {K : Int} {x : H} (hx : l[k]? = some x) (h : ((l.take k).any fun r => r.1 == x.1) = true) : vld l K = false := by
  rw [← Bool.not_eq_true, vld_iff]
  rintro ⟨_, _, _, _, hd⟩
  rw [any_id] at h
  have e : l = l.take k ++ l.drop k := (List.take_append_drop k l).symm
  unfold Dst at hd
  rw [e, List.map_append] at hd
  obtain ⟨h1, rfl⟩ := List.getElem?_eq_some_iff.1 hx
  refine (List.nodup_append.1 hd).2.2 _ h _ ?_ rfl
  rw [List.drop_eq_getElem_cons h1, List.map_cons]; exact List.mem_cons_self
theorem vld_all {l : List H} {K : Int} (h1 : okK K = true) (h2 : (l.length : Int) ≤ K) (h : Good l l.length) : vld l K = true := by
  unfold okK at h1
  rw [decide_eq_true_eq] at h1
  unfold Good at h
  rw [List.take_length] at h
  exact vld_iff.2 ⟨h1, h2, h.1, h.2⟩
theorem vld_k {l : List H} {K : Int} (h1 : okK K = false) : vld l K = false := by
  rw [← Bool.not_eq_true, vld_iff]
  rintro ⟨h, _⟩
  unfold okK at h1
  rw [decide_eq_false_iff_not] at h1
  exact h1 h
theorem vld_len {l : List H} {K : Int} (h1 : K < (l.length : Int)) : vld l K = false := by
  rw [← Bool.not_eq_true, vld_iff]
  rintro ⟨_, h, _⟩
  omega
theorem rhasB_calls {l : List H} {n c : Nat} {A : Option Addr} (id : Int) (w : World) (h : IsH w A n c l) : Calls Try.prog 40 #[.slice A n c, .int .i64 id] w fun e w' => e = .returned (.bool (l.any fun r => r.1 == id)) ∧ Below w.heap.size w w' :=
  (rhas_calls id w h).mono fun e w' hh => ⟨hh.1, hh.2 ▸ Below.refl _ _⟩
set_option maxRecDepth 100000 in
set_option maxHeartbeats 4000000 in
theorem rvalid_calls {l : List H} {n c : Nat} {A : Option Addr} (K : Int) (w : World) (h : IsH w A n c l) :
    Calls Try.prog 12 #[.slice A n c, .int .i64 K] w fun e w' => e = .returned (.bool (vld l K)) ∧ Below w.heap.size w w' := by
  have hm := h.2.2.1
  have hnc := h.2.1
  have H := Lib.hid h
  have HL := Lib.hid h.1
  clear h
  have HRK := Lib.hid (fun w' => rk_calls K w')
  go_enter Try.func12, Try.ntmps12
  cases hok : okK K with
  | false =>
    have HOK := Lib.hid hok
    have hrk := HRK.out
    rw [hok] at hrk
    have HRK1 := Lib.hid (fun w' => hrk w')
    clear hrk
    go_wp2_with fail
    refine (HRK1.out _).mono ?_
    rintro e w' ⟨rfl, hw1⟩
    rw [hw1]
    clear hw1
    go_wp2_with fail
    go_ret
    exact ⟨by rw [vld_k HOK.out]; rfl, Below.refl _ _⟩
  | true =>
    have HOK := Lib.hid hok
    by_cases hlk : K < (n : Int)
    ·
      have hrk := HRK.out
      rw [hok] at hrk
      have HRK1 := Lib.hid (fun w' => hrk w')
      clear hrk
      go_wp2_with fail
      refine (HRK1.out _).mono ?_
      rintro e w' ⟨rfl, hw1⟩
      rw [hw1]
      clear hw1
      go_wp2_with fail
      go_ret
      exact ⟨by rw [vld_len (by rw [HL.out]; exact hlk)]; rfl, Below.refl _ _⟩
    ·
      have hrk := HRK.out
      rw [hok] at hrk
      have HRK1 := Lib.hid (fun w' => hrk w')
      clear hrk
      go_wp2_with fail
      refine (HRK1.out _).mono ?_
      rintro e w' ⟨rfl, hw1⟩
      rw [hw1]
      clear hw1
      go_wp2_with fail
      have HB0 : Hid (Below w.heap.size w w) := Below.refl _ _
      go_loopg [5] n (fun g x wr => ∃ k : Nat, k + g = n ∧ x = .int .i64 (k : Int) ∧ Below w.heap.size w wr ∧ Good l k)
      case atStart => exact ⟨0, by omega, rfl, HB0.out, by unfold Good; simp [Lst, Asc, Dst]⟩
      case round =>
        obtain ⟨k, hk, rfl, hbel, hr⟩ := hrel
        have HK := Lib.hid hk
        have HR := Lib.hid hr
        have HBEL := Lib.hid hbel
        have hkn : k ≤ n := by omega
        clear hk hr hbel
        by_cases hlt : k < n
        · obtain ⟨b, o, x, rfl, -, -, -, hb1, hX, hwx⟩ := isH_get H.out hlt
          have hlt0 : (k : Int) < (n : Int) := by omega
          have HX := Lib.hid hX
          clear hX hwx hb1
          go_wp2_with fail
          cases hrx : right x with
          | false =>
            have HRX := Lib.hid hrx
            have HV := Lib.hid (not_right (K := K) HX.out hrx)
            refine wk.region_tailU 34 [.is (.slice (some ⟨b, o, none⟩) n c), .is (.int .i64 (k : Int)), .is (.pointer (some ⟨b, o + k * 3, none⟩)), .is (.agg #[.int .i64 x.1, .int .i64 x.2.1, .int .i64 x.2.2]), .is (.bool false), .is (.bool true), .is (.bool true), .is undef, .is undef, .is undef, .is undef, .is undef, .is undef, .is undef, .is undef, .is undef, .is undef, .is undef, .is undef, .is undef, .is undef, .is undef, .is (Value.bool true), .is (.bool true), .is undef, .is undef, .is undef, .is undef, .is undef, .is undef, .is undef, .is undef, .is undef, .is (Value.bool true)] [some 21, some 22, some 23, some 24, some 25, some 26, some 27, some 28, some 29, some 30, some 31, some 32, some 33, some 34, some 35, some 36, some 37, some 38, some 39, some 40, some 41, some 42, some 43, some 44, some 45, some 46, some 47, some 48, some 49, some 50, some 51, some 52, some 53, some 54] (by kernel_rfl) (by kernel_rfl) (by kernel_rfl) (by kernel_rfl) [7, 8, 9, 10, 11, 12, 13, 14, 15, 16, 17, 18, 19, 20, 21, 24, 25, 26, 27, 28, 29, 30, 31, 32] (by kernel_rfl) (by intro p hp; simp only [List.mem_cons, List.not_mem_nil, or_false] at hp; rcases hp with rfl | rfl | rfl | rfl | rfl | rfl | rfl | rfl | rfl | rfl | rfl | rfl | rfl | rfl | rfl | rfl | rfl | rfl | rfl | rfl | rfl | rfl | rfl | rfl <;> rfl) (by kernel_rfl) (by kernel_rfl) ?hstep ?hdone
            case hstep =>
              intro i o ho hi hns E w4 hb4 D
              have hi2 : i = 0 ∨ i = 1 ∨ i = 2 ∨ i = 3 ∨ i = 4 ∨ i = 5 ∨ i = 6 ∨ i = 7 ∨ i = 8 ∨ i = 9 ∨ i = 10 ∨ i = 11 ∨ i = 12 ∨ i = 13 ∨ i = 14 ∨ i = 15 ∨ i = 16 ∨ i = 17 ∨ i = 18 ∨ i = 19 ∨ i = 20 ∨ i = 21 ∨ i = 22 ∨ i = 23 ∨ i = 24 ∨ i = 25 ∨ i = 26 ∨ i = 27 ∨ i = 28 ∨ i = 29 ∨ i = 30 ∨ i = 31 ∨ i = 32 ∨ i = 33 := by omega
              clear hi
              rcases hi2 with rfl | rfl | rfl | rfl | rfl | rfl | rfl | rfl | rfl | rfl | rfl | rfl | rfl | rfl | rfl | rfl | rfl | rfl | rfl | rfl | rfl | rfl | rfl | rfl | rfl | rfl | rfl | rfl | rfl | rfl | rfl | rfl | rfl | rfl
              ·
                have ho2 := (Array.getElem?_eq_some_iff.1 ho).2
                simp only [List.getElem_toArray, List.getElem_cons_zero] at ho2
                subst ho2
                clear ho
                have e0 := D.old 0 (by kernel_rfl)
                exact wk.does_move rfl (by rw [e0]; rfl)
              ·
                have ho2 := (Array.getElem?_eq_some_iff.1 ho).2
                simp only [List.getElem_toArray, List.getElem_cons_succ, List.getElem_cons_zero] at ho2
                subst ho2
                clear ho
                have e5 := D.old 5 (by kernel_rfl)
                exact wk.does_move rfl (by rw [e5]; rfl)
              ·
                have ho2 := (Array.getElem?_eq_some_iff.1 ho).2
                simp only [List.getElem_toArray, List.getElem_cons_succ, List.getElem_cons_zero] at ho2
                subst ho2
                clear ho
                have e21 := D.is { on := 0, ground := .data } (by simp) rfl rfl 21 rfl
                have e22 := D.is { on := 1, ground := .data } (by simp) rfl rfl 22 rfl
                exact wk.does_run (by simp only [execOp]; rw [show E (.tmp 21) = _ from e21, show E (.tmp 22) = _ from e22]; go_simp; try (intro h0; omega)) rfl
              ·
                have ho2 := (Array.getElem?_eq_some_iff.1 ho).2
                simp only [List.getElem_toArray, List.getElem_cons_succ, List.getElem_cons_zero] at ho2
                subst ho2
                clear ho
                have e23 := D.is { on := 2, ground := .data } (by simp) rfl rfl 23 rfl
                exact wk.does_load_agg rfl e23 (cs := rv x) (isH_at (H.out.below ((HBEL.out).trans (((Below.refl _ _).drew.trans hb4).mono HBEL.out.size))) HX.out) Try.underlying27 rfl (by kernel_rfl) rfl
              ·
                have ho2 := (Array.getElem?_eq_some_iff.1 ho).2
                simp only [List.getElem_toArray, List.getElem_cons_succ, List.getElem_cons_zero] at ho2
                subst ho2
                clear ho
                have e24 := D.is { on := 3, ground := .data } (by simp) rfl rfl 24 rfl
                refine wk.does_fn (f := 20) (vs := #[.agg #[.int .i64 x.1, .int .i64 x.2.1, .int .i64 x.2.2]]) rfl (D.fn _) (by simp [e24]) (by go_simp) ?_
                refine (rright_calls x _).mono ?_
                rintro e w7 ⟨rfl, hb7⟩
                exact ⟨_, rfl, hb7, congrArg Value.bool HRX.out⟩
              ·
                have ho2 := (Array.getElem?_eq_some_iff.1 ho).2
                simp only [List.getElem_toArray, List.getElem_cons_succ, List.getElem_cons_zero] at ho2
                subst ho2
                clear ho
                have e25 := D.is { on := 4, ground := .data } (by simp) rfl rfl 25 rfl
                exact wk.does_un rfl (by rw [show E (.tmp 25) = _ from e25]; go_simp) rfl
              ·
                have ho2 := (Array.getElem?_eq_some_iff.1 ho).2
                simp only [List.getElem_toArray, List.getElem_cons_succ, List.getElem_cons_zero] at ho2
                subst ho2
                clear ho
                have e26 := D.is { on := 5, ground := .data } (by simp) rfl rfl 26 rfl
                exact wk.does_move rfl e26
              · cases (show false = true from hns.symm.trans (by kernel_rfl))
              · cases (show false = true from hns.symm.trans (by kernel_rfl))
              · cases (show false = true from hns.symm.trans (by kernel_rfl))
              · cases (show false = true from hns.symm.trans (by kernel_rfl))
              · cases (show false = true from hns.symm.trans (by kernel_rfl))
              · cases (show false = true from hns.symm.trans (by kernel_rfl))
              · cases (show false = true from hns.symm.trans (by kernel_rfl))
              · cases (show false = true from hns.symm.trans (by kernel_rfl))
              · cases (show false = true from hns.symm.trans (by kernel_rfl))
              · cases (show false = true from hns.symm.trans (by kernel_rfl))
              · cases (show false = true from hns.symm.trans (by kernel_rfl))
              · cases (show false = true from hns.symm.trans (by kernel_rfl))
              · cases (show false = true from hns.symm.trans (by kernel_rfl))
              · cases (show false = true from hns.symm.trans (by kernel_rfl))
              · cases (show false = true from hns.symm.trans (by kernel_rfl))
              ·
                have ho2 := (Array.getElem?_eq_some_iff.1 ho).2
                simp only [List.getElem_toArray, List.getElem_cons_succ, List.getElem_cons_zero] at ho2
                subst ho2
                clear ho
                have e27 := D.is { on := 6, ground := .data } (by simp) rfl rfl 27 rfl
                have e42 := D.is { on := 21, ground := .data } (by simp) rfl rfl 42 rfl
                exact wk.does_pick rfl e27 (D.con _)
              ·
                have ho2 := (Array.getElem?_eq_some_iff.1 ho).2
                simp only [List.getElem_toArray, List.getElem_cons_succ, List.getElem_cons_zero] at ho2
                subst ho2
                clear ho
                have e43 := D.is { on := 22, ground := .data } (by simp) rfl rfl 43 rfl
                exact wk.does_move rfl e43
              · cases (show false = true from hns.symm.trans (by kernel_rfl))
              · cases (show false = true from hns.symm.trans (by kernel_rfl))
              · cases (show false = true from hns.symm.trans (by kernel_rfl))
              · cases (show false = true from hns.symm.trans (by kernel_rfl))
              · cases (show false = true from hns.symm.trans (by kernel_rfl))
              · cases (show false = true from hns.symm.trans (by kernel_rfl))
              · cases (show false = true from hns.symm.trans (by kernel_rfl))
              · cases (show false = true from hns.symm.trans (by kernel_rfl))
              · cases (show false = true from hns.symm.trans (by kernel_rfl))
              ·
                have ho2 := (Array.getElem?_eq_some_iff.1 ho).2
                simp only [List.getElem_toArray, List.getElem_cons_succ, List.getElem_cons_zero] at ho2
                subst ho2
                clear ho
                have e44 := D.is { on := 23, ground := .data } (by simp) rfl rfl 44 rfl
                have e53 := D.is { on := 32, ground := .data } (by simp) rfl rfl 53 rfl
                exact wk.does_pick rfl e44 (D.con _)
            case hdone =>
              intro vals w4 hb4 hv
              have h33 := hv 33 (by omega)
              clear hv
              replace h33 : vals 33 = (Value.bool true) := h33
              simp only [List.drop_succ_cons, List.drop_zero, wpList, wk.setL, List.setIfInBounds_toArray, List.set_cons_zero, List.set_cons_succ, Nat.zero_add, Nat.reduceAdd, h33]
              generalize vals 0 = x0
              generalize vals 1 = x1
              generalize vals 2 = x2
              generalize vals 3 = x3
              generalize vals 4 = x4
              generalize vals 5 = x5
              generalize vals 6 = x6
              generalize vals 7 = x7
              generalize vals 8 = x8
              generalize vals 9 = x9
              generalize vals 10 = x10
              generalize vals 11 = x11
              generalize vals 12 = x12
              generalize vals 13 = x13
              generalize vals 14 = x14
              generalize vals 15 = x15
              generalize vals 16 = x16
              generalize vals 17 = x17
              generalize vals 18 = x18
              generalize vals 19 = x19
              generalize vals 20 = x20
              generalize vals 21 = x21
              generalize vals 22 = x22
              generalize vals 23 = x23
              generalize vals 24 = x24
              generalize vals 25 = x25
              generalize vals 26 = x26
              generalize vals 27 = x27
              generalize vals 28 = x28
              generalize vals 29 = x29
              generalize vals 30 = x30
              generalize vals 31 = x31
              generalize vals 32 = x32
              have HB4 := Lib.hid (HBEL.out.trans (((Below.refl _ _).drew.trans hb4).mono HBEL.out.size))
              clear hb4
              go_wp2_with fail
              go_ret
              exact ⟨by rw [HV.out]; rfl, HB4.out⟩
          | true =>
            have HRX := Lib.hid hrx
            by_cases hk0 : k = 0
            · have HAS : Hid (((l.take k).any fun r => r.1 == x.1) = false) := by show _ = _; rw [hk0]; rfl
              have HN := Lib.hid (good_step HR.out HX.out hrx (fun y h => by omega) HAS.out)
              refine wk.region_tailU 34 [.is (.slice (some ⟨b, o, none⟩) n c), .is (.int .i64 (k : Int)), .is (.pointer (some ⟨b, o + k * 3, none⟩)), .is (.agg #[.int .i64 x.1, .int .i64 x.2.1, .int .i64 x.2.2]), .is (.bool true), .is (.bool false), .is (.bool false), .is (.int .i64 (k : Int)), .is (.bool false), .is (.bool false), .is undef, .is undef, .is undef, .is undef, .is undef, .is undef, .is undef, .is undef, .is undef, .is undef, .is undef, .is (Value.bool false), .is (Value.bool false), .is (.bool false), .is (.slice (some ⟨b, o, none⟩) n c), .is (.int .i64 (k : Int)), .is (.slice (some ⟨b, o, none⟩) k c), .is (.slice (some ⟨b, o, none⟩) n c), .is (.int .i64 (k : Int)), .is (.pointer (some ⟨b, o + k * 3, none⟩)), .is (.pointer (some ⟨b, o + k * 3, none⟩)), .is (.int .i64 x.1), .is (.bool false), .is (.bool false)] [some 21, some 22, some 23, some 24, some 25, some 26, some 27, some 28, some 29, some 30, some 31, some 32, some 33, some 34, some 35, some 36, some 37, some 38, some 39, some 40, some 41, some 42, some 43, some 44, some 45, some 46, some 47, some 48, some 49, some 50, some 51, some 52, some 53, some 54] (by kernel_rfl) (by kernel_rfl) (by kernel_rfl) (by kernel_rfl) [10, 11, 12, 13, 14, 15, 16, 17, 18, 19, 20] (by kernel_rfl) (by intro p hp; simp only [List.mem_cons, List.not_mem_nil, or_false] at hp; rcases hp with rfl | rfl | rfl | rfl | rfl | rfl | rfl | rfl | rfl | rfl | rfl <;> rfl) (by kernel_rfl) (by kernel_rfl) ?hstep ?hdone
              case hstep =>
                intro i o ho hi hns E w4 hb4 D
                have hi2 : i = 0 ∨ i = 1 ∨ i = 2 ∨ i = 3 ∨ i = 4 ∨ i = 5 ∨ i = 6 ∨ i = 7 ∨ i = 8 ∨ i = 9 ∨ i = 10 ∨ i = 11 ∨ i = 12 ∨ i = 13 ∨ i = 14 ∨ i = 15 ∨ i = 16 ∨ i = 17 ∨ i = 18 ∨ i = 19 ∨ i = 20 ∨ i = 21 ∨ i = 22 ∨ i = 23 ∨ i = 24 ∨ i = 25 ∨ i = 26 ∨ i = 27 ∨ i = 28 ∨ i = 29 ∨ i = 30 ∨ i = 31 ∨ i = 32 ∨ i = 33 := by omega
                clear hi
                rcases hi2 with rfl | rfl | rfl | rfl | rfl | rfl | rfl | rfl | rfl | rfl | rfl | rfl | rfl | rfl | rfl | rfl | rfl | rfl | rfl | rfl | rfl | rfl | rfl | rfl | rfl | rfl | rfl | rfl | rfl | rfl | rfl | rfl | rfl | rfl
                ·
                  have ho2 := (Array.getElem?_eq_some_iff.1 ho).2
                  simp only [List.getElem_toArray, List.getElem_cons_zero] at ho2
                  subst ho2
                  clear ho
                  have e0 := D.old 0 (by kernel_rfl)
                  exact wk.does_move rfl (by rw [e0]; rfl)
                ·
                  have ho2 := (Array.getElem?_eq_some_iff.1 ho).2
                  simp only [List.getElem_toArray, List.getElem_cons_succ, List.getElem_cons_zero] at ho2
                  subst ho2
                  clear ho
                  have e5 := D.old 5 (by kernel_rfl)
                  exact wk.does_move rfl (by rw [e5]; rfl)
                ·
                  have ho2 := (Array.getElem?_eq_some_iff.1 ho).2
                  simp only [List.getElem_toArray, List.getElem_cons_succ, List.getElem_cons_zero] at ho2
                  subst ho2
                  clear ho
                  have e21 := D.is { on := 0, ground := .data } (by simp) rfl rfl 21 rfl
                  have e22 := D.is { on := 1, ground := .data } (by simp) rfl rfl 22 rfl
                  exact wk.does_run (by simp only [execOp]; rw [show E (.tmp 21) = _ from e21, show E (.tmp 22) = _ from e22]; go_simp; try (intro h0; omega)) rfl
                ·
                  have ho2 := (Array.getElem?_eq_some_iff.1 ho).2
                  simp only [List.getElem_toArray, List.getElem_cons_succ, List.getElem_cons_zero] at ho2
                  subst ho2
                  clear ho
                  have e23 := D.is { on := 2, ground := .data } (by simp) rfl rfl 23 rfl
                  exact wk.does_load_agg rfl e23 (cs := rv x) (isH_at (H.out.below ((HBEL.out).trans (((Below.refl _ _).drew.trans hb4).mono HBEL.out.size))) HX.out) Try.underlying27 rfl (by kernel_rfl) rfl
                ·
                  have ho2 := (Array.getElem?_eq_some_iff.1 ho).2
                  simp only [List.getElem_toArray, List.getElem_cons_succ, List.getElem_cons_zero] at ho2
                  subst ho2
                  clear ho
                  have e24 := D.is { on := 3, ground := .data } (by simp) rfl rfl 24 rfl
                  refine wk.does_fn (f := 20) (vs := #[.agg #[.int .i64 x.1, .int .i64 x.2.1, .int .i64 x.2.2]]) rfl (D.fn _) (by simp [e24]) (by go_simp) ?_
                  refine (rright_calls x _).mono ?_
                  rintro e w7 ⟨rfl, hb7⟩
                  exact ⟨_, rfl, hb7, congrArg Value.bool HRX.out⟩
                ·
                  have ho2 := (Array.getElem?_eq_some_iff.1 ho).2
                  simp only [List.getElem_toArray, List.getElem_cons_succ, List.getElem_cons_zero] at ho2
                  subst ho2
                  clear ho
                  have e25 := D.is { on := 4, ground := .data } (by simp) rfl rfl 25 rfl
                  exact wk.does_un rfl (by rw [show E (.tmp 25) = _ from e25]; go_simp) rfl
                ·
                  have ho2 := (Array.getElem?_eq_some_iff.1 ho).2
                  simp only [List.getElem_toArray, List.getElem_cons_succ, List.getElem_cons_zero] at ho2
                  subst ho2
                  clear ho
                  have e26 := D.is { on := 5, ground := .data } (by simp) rfl rfl 26 rfl
                  exact wk.does_move rfl e26
                ·
                  have ho2 := (Array.getElem?_eq_some_iff.1 ho).2
                  simp only [List.getElem_toArray, List.getElem_cons_succ, List.getElem_cons_zero] at ho2
                  subst ho2
                  clear ho
                  have e5 := D.old 5 (by kernel_rfl)
                  exact wk.does_move rfl (by rw [e5]; rfl)
                ·
                  have ho2 := (Array.getElem?_eq_some_iff.1 ho).2
                  simp only [List.getElem_toArray, List.getElem_cons_succ, List.getElem_cons_zero] at ho2
                  subst ho2
                  clear ho
                  have e28 := D.is { on := 7, ground := .data } (by simp) rfl rfl 28 rfl
                  exact wk.does_run (by simp only [execOp]; rw [show E (.tmp 28) = _ from e28, show E (.const (.int .i64 0)) = .int .i64 0 from D.con _]; go_simp; try omega) rfl
                ·
                  have ho2 := (Array.getElem?_eq_some_iff.1 ho).2
                  simp only [List.getElem_toArray, List.getElem_cons_succ, List.getElem_cons_zero] at ho2
                  subst ho2
                  clear ho
                  have e29 := D.is { on := 8, ground := .data } (by simp) rfl rfl 29 rfl
                  exact wk.does_move rfl e29
                · cases (show false = true from hns.symm.trans (by kernel_rfl))
                · cases (show false = true from hns.symm.trans (by kernel_rfl))
                · cases (show false = true from hns.symm.trans (by kernel_rfl))
                · cases (show false = true from hns.symm.trans (by kernel_rfl))
                · cases (show false = true from hns.symm.trans (by kernel_rfl))
                · cases (show false = true from hns.symm.trans (by kernel_rfl))
                · cases (show false = true from hns.symm.trans (by kernel_rfl))
                · cases (show false = true from hns.symm.trans (by kernel_rfl))
                · cases (show false = true from hns.symm.trans (by kernel_rfl))
                · cases (show false = true from hns.symm.trans (by kernel_rfl))
                · cases (show false = true from hns.symm.trans (by kernel_rfl))
                ·
                  have ho2 := (Array.getElem?_eq_some_iff.1 ho).2
                  simp only [List.getElem_toArray, List.getElem_cons_succ, List.getElem_cons_zero] at ho2
                  subst ho2
                  clear ho
                  have e30 := D.is { on := 9, ground := .data } (by simp) rfl rfl 30 rfl
                  have e41 := D.is { on := 20, ground := .data } (by simp) rfl rfl 41 rfl
                  exact wk.does_pick rfl e30 (D.con _)
                ·
                  have ho2 := (Array.getElem?_eq_some_iff.1 ho).2
                  simp only [List.getElem_toArray, List.getElem_cons_succ, List.getElem_cons_zero] at ho2
                  subst ho2
                  clear ho
                  have e27 := D.is { on := 6, ground := .data } (by simp) rfl rfl 27 rfl
                  have e42 := D.is { on := 21, ground := .data } (by simp) rfl rfl 42 rfl
                  exact wk.does_pick rfl e27 e42
                ·
                  have ho2 := (Array.getElem?_eq_some_iff.1 ho).2
                  simp only [List.getElem_toArray, List.getElem_cons_succ, List.getElem_cons_zero] at ho2
                  subst ho2
                  clear ho
                  have e43 := D.is { on := 22, ground := .data } (by simp) rfl rfl 43 rfl
                  exact wk.does_move rfl e43
                ·
                  have ho2 := (Array.getElem?_eq_some_iff.1 ho).2
                  simp only [List.getElem_toArray, List.getElem_cons_succ, List.getElem_cons_zero] at ho2
                  subst ho2
                  clear ho
                  have e0 := D.old 0 (by kernel_rfl)
                  exact wk.does_move rfl (by rw [e0]; rfl)
                ·
                  have ho2 := (Array.getElem?_eq_some_iff.1 ho).2
                  simp only [List.getElem_toArray, List.getElem_cons_succ, List.getElem_cons_zero] at ho2
                  subst ho2
                  clear ho
                  have e5 := D.old 5 (by kernel_rfl)
                  exact wk.does_move rfl (by rw [e5]; rfl)
                ·
                  have ho2 := (Array.getElem?_eq_some_iff.1 ho).2
                  simp only [List.getElem_toArray, List.getElem_cons_succ, List.getElem_cons_zero] at ho2
                  subst ho2
                  clear ho
                  have e45 := D.is { on := 24, ground := .data } (by simp) rfl rfl 45 rfl
                  have e46 := D.is { on := 25, ground := .data } (by simp) rfl rfl 46 rfl
                  exact wk.does_run (wk.op_slice (LO := none) (HI := some (.int .i64 (k : Int))) (MX := none) rfl e45 rfl (by show some (E (.tmp 46)) = _; rw [e46]) rfl (run_preH w4 _ _ _ k hkn hnc)) rfl
                ·
                  have ho2 := (Array.getElem?_eq_some_iff.1 ho).2
                  simp only [List.getElem_toArray, List.getElem_cons_succ, List.getElem_cons_zero] at ho2
                  subst ho2
                  clear ho
                  have e0 := D.old 0 (by kernel_rfl)
                  exact wk.does_move rfl (by rw [e0]; rfl)
                ·
                  have ho2 := (Array.getElem?_eq_some_iff.1 ho).2
                  simp only [List.getElem_toArray, List.getElem_cons_succ, List.getElem_cons_zero] at ho2
                  subst ho2
                  clear ho
                  have e5 := D.old 5 (by kernel_rfl)
                  exact wk.does_move rfl (by rw [e5]; rfl)
                ·
                  have ho2 := (Array.getElem?_eq_some_iff.1 ho).2
                  simp only [List.getElem_toArray, List.getElem_cons_succ, List.getElem_cons_zero] at ho2
                  subst ho2
                  clear ho
                  have e48 := D.is { on := 27, ground := .data } (by simp) rfl rfl 48 rfl
                  have e49 := D.is { on := 28, ground := .data } (by simp) rfl rfl 49 rfl
                  exact wk.does_run (by simp only [execOp]; rw [show E (.tmp 48) = _ from e48, show E (.tmp 49) = _ from e49]; go_simp; try (intro h0; omega)) rfl
                ·
                  have ho2 := (Array.getElem?_eq_some_iff.1 ho).2
                  simp only [List.getElem_toArray, List.getElem_cons_succ, List.getElem_cons_zero] at ho2
                  subst ho2
                  clear ho
                  have e50 := D.is { on := 29, ground := .data } (by simp) rfl rfl 50 rfl
                  exact wk.does_run (by simp only [execOp]; rw [show E (.tmp 50) = _ from e50]; go_simp) rfl
                ·
                  have ho2 := (Array.getElem?_eq_some_iff.1 ho).2
                  simp only [List.getElem_toArray, List.getElem_cons_succ, List.getElem_cons_zero] at ho2
                  subst ho2
                  clear ho
                  have e51 := D.is { on := 30, ground := .data } (by simp) rfl rfl 51 rfl
                  exact wk.does_load1 rfl e51 (isH_at (H.out.below ((HBEL.out).trans (((Below.refl _ _).drew.trans hb4).mono HBEL.out.size))) HX.out 0 _ rfl) Try.underlying3 rfl rfl
                ·
                  have ho2 := (Array.getElem?_eq_some_iff.1 ho).2
                  simp only [List.getElem_toArray, List.getElem_cons_succ, List.getElem_cons_zero] at ho2
                  subst ho2
                  clear ho
                  have e47 := D.is { on := 26, ground := .data } (by simp) rfl rfl 47 rfl
                  have e52 := D.is { on := 31, ground := .data } (by simp) rfl rfl 52 rfl
                  refine wk.does_fn (f := 40) (vs := #[.slice (some ⟨b, o, none⟩) k c, .int .i64 x.1]) rfl (D.fn _) (by simp [e47, e52]) (by go_simp) ?_
                  refine (rhasB_calls x.1 _ (isH_take (H.out.below ((HBEL.out).trans (((Below.refl _ _).drew.trans hb4).mono HBEL.out.size))) hkn)).mono ?_
                  rintro e w7 ⟨rfl, hb7⟩
                  exact ⟨_, rfl, hb7, congrArg Value.bool HAS.out⟩
                ·
                  have ho2 := (Array.getElem?_eq_some_iff.1 ho).2
                  simp only [List.getElem_toArray, List.getElem_cons_succ, List.getElem_cons_zero] at ho2
                  subst ho2
                  clear ho
                  have e44 := D.is { on := 23, ground := .data } (by simp) rfl rfl 44 rfl
                  have e53 := D.is { on := 32, ground := .data } (by simp) rfl rfl 53 rfl
                  exact wk.does_pick rfl e44 e53
              case hdone =>
                intro vals w4 hb4 hv
                have h33 := hv 33 (by omega)
                clear hv
                replace h33 : vals 33 = (.bool false) := h33
                simp only [List.drop_succ_cons, List.drop_zero, wpList, wk.setL, List.setIfInBounds_toArray, List.set_cons_zero, List.set_cons_succ, Nat.zero_add, Nat.reduceAdd, h33]
                generalize vals 0 = x0
                generalize vals 1 = x1
                generalize vals 2 = x2
                generalize vals 3 = x3
                generalize vals 4 = x4
                generalize vals 5 = x5
                generalize vals 6 = x6
                generalize vals 7 = x7
                generalize vals 8 = x8
                generalize vals 9 = x9
                generalize vals 10 = x10
                generalize vals 11 = x11
                generalize vals 12 = x12
                generalize vals 13 = x13
                generalize vals 14 = x14
                generalize vals 15 = x15
                generalize vals 16 = x16
                generalize vals 17 = x17
                generalize vals 18 = x18
                generalize vals 19 = x19
                generalize vals 20 = x20
                generalize vals 21 = x21
                generalize vals 22 = x22
                generalize vals 23 = x23
                generalize vals 24 = x24
                generalize vals 25 = x25
                generalize vals 26 = x26
                generalize vals 27 = x27
                generalize vals 28 = x28
                generalize vals 29 = x29
                generalize vals 30 = x30
                generalize vals 31 = x31
                generalize vals 32 = x32
                have HB4 := Lib.hid (HBEL.out.trans (((Below.refl _ _).drew.trans hb4).mono HBEL.out.size))
                clear hb4
                go_wp2_with fail
                go_roundg (gk - 1)
                case measure => have := HK.out; omega
                case rel => exact ⟨k + 1, by have := HK.out; omega, by go_num, HB4.out, HN.out⟩
            · obtain ⟨k1, hk1⟩ : ∃ k1, k1 + 1 = k := ⟨k - 1, by omega⟩
              have hk1n : k1 < n := by omega
              have hk1i : (k1 : Int) < (n : Int) := by omega
              obtain ⟨y, hy⟩ : ∃ y, l[k1]? = some y := ⟨l[k1]'(by rw [HL.out]; omega), List.getElem?_eq_getElem _⟩
              have HY := Lib.hid hy
              have hwr : IntKind.i64.wrap ((k : Int) - 1) = (k1 : Int) := by rw [IntKind.wrap_i64]; omega
              have hy2 : l[k - 1]? = some y := by rw [← hk1]; exact hy
              have HY2 := Lib.hid hy2
              clear hy hy2
              cases hlt3 : lt y x with
              | false =>
                have HLT := Lib.hid hlt3
                have HV := Lib.hid (not_asc (K := K) HX.out (by omega) HY2.out hlt3)
                refine wk.region_tailU 34 [.is (.slice (some ⟨b, o, none⟩) n c), .is (.int .i64 (k : Int)), .is (.pointer (some ⟨b, o + k * 3, none⟩)), .is (.agg #[.int .i64 x.1, .int .i64 x.2.1, .int .i64 x.2.2]), .is (.bool true), .is (.bool false), .is (.bool false), .is (.int .i64 (k : Int)), .is (.bool true), .is (.bool true), .is (.slice (some ⟨b, o, none⟩) n c), .is (.int .i64 (k : Int)), .is (.int .i64 (k1 : Int)), .is (.pointer (some ⟨b, o + k1 * 3, none⟩)), .is (.agg #[.int .i64 y.1, .int .i64 y.2.1, .int .i64 y.2.2]), .is (.slice (some ⟨b, o, none⟩) n c), .is (.int .i64 (k : Int)), .is (.pointer (some ⟨b, o + k * 3, none⟩)), .is (.agg #[.int .i64 x.1, .int .i64 x.2.1, .int .i64 x.2.2]), .is (.bool false), .is (.bool true), .is (.bool true), .is (.bool true), .is (.bool true), .is undef, .is undef, .is undef, .is undef, .is undef, .is undef, .is undef, .is undef, .is undef, .is (Value.bool true)] [some 21, some 22, some 23, some 24, some 25, some 26, some 27, some 28, some 29, some 30, some 31, some 32, some 33, some 34, some 35, some 36, some 37, some 38, some 39, some 40, some 41, some 42, some 43, some 44, some 45, some 46, some 47, some 48, some 49, some 50, some 51, some 52, some 53, some 54] (by kernel_rfl) (by kernel_rfl) (by kernel_rfl) (by kernel_rfl) [24, 25, 26, 27, 28, 29, 30, 31, 32] (by kernel_rfl) (by intro p hp; simp only [List.mem_cons, List.not_mem_nil, or_false] at hp; rcases hp with rfl | rfl | rfl | rfl | rfl | rfl | rfl | rfl | rfl <;> rfl) (by kernel_rfl) (by kernel_rfl) ?hstep ?hdone
                case hstep =>
                  intro i o ho hi hns E w4 hb4 D
                  have hi2 : i = 0 ∨ i = 1 ∨ i = 2 ∨ i = 3 ∨ i = 4 ∨ i = 5 ∨ i = 6 ∨ i = 7 ∨ i = 8 ∨ i = 9 ∨ i = 10 ∨ i = 11 ∨ i = 12 ∨ i = 13 ∨ i = 14 ∨ i = 15 ∨ i = 16 ∨ i = 17 ∨ i = 18 ∨ i = 19 ∨ i = 20 ∨ i = 21 ∨ i = 22 ∨ i = 23 ∨ i = 24 ∨ i = 25 ∨ i = 26 ∨ i = 27 ∨ i = 28 ∨ i = 29 ∨ i = 30 ∨ i = 31 ∨ i = 32 ∨ i = 33 := by omega
                  clear hi
                  rcases hi2 with rfl | rfl | rfl | rfl | rfl | rfl | rfl | rfl | rfl | rfl | rfl | rfl | rfl | rfl | rfl | rfl | rfl | rfl | rfl | rfl | rfl | rfl | rfl | rfl | rfl | rfl | rfl | rfl | rfl | rfl | rfl | rfl | rfl | rfl
                  ·
                    have ho2 := (Array.getElem?_eq_some_iff.1 ho).2
                    simp only [List.getElem_toArray, List.getElem_cons_zero] at ho2
                    subst ho2
                    clear ho
                    have e0 := D.old 0 (by kernel_rfl)
                    exact wk.does_move rfl (by rw [e0]; rfl)
                  ·
                    have ho2 := (Array.getElem?_eq_some_iff.1 ho).2
                    simp only [List.getElem_toArray, List.getElem_cons_succ, List.getElem_cons_zero] at ho2
                    subst ho2
                    clear ho
                    have e5 := D.old 5 (by kernel_rfl)
                    exact wk.does_move rfl (by rw [e5]; rfl)
                  ·
                    have ho2 := (Array.getElem?_eq_some_iff.1 ho).2
                    simp only [List.getElem_toArray, List.getElem_cons_succ, List.getElem_cons_zero] at ho2
                    subst ho2
                    clear ho
                    have e21 := D.is { on := 0, ground := .data } (by simp) rfl rfl 21 rfl
                    have e22 := D.is { on := 1, ground := .data } (by simp) rfl rfl 22 rfl
                    exact wk.does_run (by simp only [execOp]; rw [show E (.tmp 21) = _ from e21, show E (.tmp 22) = _ from e22]; go_simp; try (intro h0; omega)) rfl
                  ·
                    have ho2 := (Array.getElem?_eq_some_iff.1 ho).2
                    simp only [List.getElem_toArray, List.getElem_cons_succ, List.getElem_cons_zero] at ho2
                    subst ho2
                    clear ho
                    have e23 := D.is { on := 2, ground := .data } (by simp) rfl rfl 23 rfl
                    exact wk.does_load_agg rfl e23 (cs := rv x) (isH_at (H.out.below ((HBEL.out).trans (((Below.refl _ _).drew.trans hb4).mono HBEL.out.size))) HX.out) Try.underlying27 rfl (by kernel_rfl) rfl
                  ·
                    have ho2 := (Array.getElem?_eq_some_iff.1 ho).2
                    simp only [List.getElem_toArray, List.getElem_cons_succ, List.getElem_cons_zero] at ho2
                    subst ho2
                    clear ho
                    have e24 := D.is { on := 3, ground := .data } (by simp) rfl rfl 24 rfl
                    refine wk.does_fn (f := 20) (vs := #[.agg #[.int .i64 x.1, .int .i64 x.2.1, .int .i64 x.2.2]]) rfl (D.fn _) (by simp [e24]) (by go_simp) ?_
                    refine (rright_calls x _).mono ?_
                    rintro e w7 ⟨rfl, hb7⟩
                    exact ⟨_, rfl, hb7, congrArg Value.bool HRX.out⟩
                  ·
                    have ho2 := (Array.getElem?_eq_some_iff.1 ho).2
                    simp only [List.getElem_toArray, List.getElem_cons_succ, List.getElem_cons_zero] at ho2
                    subst ho2
                    clear ho
                    have e25 := D.is { on := 4, ground := .data } (by simp) rfl rfl 25 rfl
                    exact wk.does_un rfl (by rw [show E (.tmp 25) = _ from e25]; go_simp) rfl
                  ·
                    have ho2 := (Array.getElem?_eq_some_iff.1 ho).2
                    simp only [List.getElem_toArray, List.getElem_cons_succ, List.getElem_cons_zero] at ho2
                    subst ho2
                    clear ho
                    have e26 := D.is { on := 5, ground := .data } (by simp) rfl rfl 26 rfl
                    exact wk.does_move rfl e26
                  ·
                    have ho2 := (Array.getElem?_eq_some_iff.1 ho).2
                    simp only [List.getElem_toArray, List.getElem_cons_succ, List.getElem_cons_zero] at ho2
                    subst ho2
                    clear ho
                    have e5 := D.old 5 (by kernel_rfl)
                    exact wk.does_move rfl (by rw [e5]; rfl)
                  ·
                    have ho2 := (Array.getElem?_eq_some_iff.1 ho).2
                    simp only [List.getElem_toArray, List.getElem_cons_succ, List.getElem_cons_zero] at ho2
                    subst ho2
                    clear ho
                    have e28 := D.is { on := 7, ground := .data } (by simp) rfl rfl 28 rfl
                    exact wk.does_run (by simp only [execOp]; rw [show E (.tmp 28) = _ from e28, show E (.const (.int .i64 0)) = .int .i64 0 from D.con _]; go_simp; try omega) rfl
                  ·
                    have ho2 := (Array.getElem?_eq_some_iff.1 ho).2
                    simp only [List.getElem_toArray, List.getElem_cons_succ, List.getElem_cons_zero] at ho2
                    subst ho2
                    clear ho
                    have e29 := D.is { on := 8, ground := .data } (by simp) rfl rfl 29 rfl
                    exact wk.does_move rfl e29
                  ·
                    have ho2 := (Array.getElem?_eq_some_iff.1 ho).2
                    simp only [List.getElem_toArray, List.getElem_cons_succ, List.getElem_cons_zero] at ho2
                    subst ho2
                    clear ho
                    have e0 := D.old 0 (by kernel_rfl)
                    exact wk.does_move rfl (by rw [e0]; rfl)
                  ·
                    have ho2 := (Array.getElem?_eq_some_iff.1 ho).2
                    simp only [List.getElem_toArray, List.getElem_cons_succ, List.getElem_cons_zero] at ho2
                    subst ho2
                    clear ho
                    have e5 := D.old 5 (by kernel_rfl)
                    exact wk.does_move rfl (by rw [e5]; rfl)
                  ·
                    have ho2 := (Array.getElem?_eq_some_iff.1 ho).2
                    simp only [List.getElem_toArray, List.getElem_cons_succ, List.getElem_cons_zero] at ho2
                    subst ho2
                    clear ho
                    have e32 := D.is { on := 11, ground := .data } (by simp) rfl rfl 32 rfl
                    exact wk.does_run (by simp only [execOp]; rw [show E (.tmp 32) = _ from e32, show E (.const (.int .i64 1)) = .int .i64 1 from D.con _]; go_simp; try exact hwr) rfl
                  ·
                    have ho2 := (Array.getElem?_eq_some_iff.1 ho).2
                    simp only [List.getElem_toArray, List.getElem_cons_succ, List.getElem_cons_zero] at ho2
                    subst ho2
                    clear ho
                    have e31 := D.is { on := 10, ground := .data } (by simp) rfl rfl 31 rfl
                    have e33 := D.is { on := 12, ground := .data } (by simp) rfl rfl 33 rfl
                    exact wk.does_run (by simp only [execOp]; rw [show E (.tmp 31) = _ from e31, show E (.tmp 33) = _ from e33]; go_simp; try (intro h0; omega)) rfl
                  ·
                    have ho2 := (Array.getElem?_eq_some_iff.1 ho).2
                    simp only [List.getElem_toArray, List.getElem_cons_succ, List.getElem_cons_zero] at ho2
                    subst ho2
                    clear ho
                    have e34 := D.is { on := 13, ground := .data } (by simp) rfl rfl 34 rfl
                    exact wk.does_load_agg rfl e34 (cs := rv y) (isH_at (H.out.below ((HBEL.out).trans (((Below.refl _ _).drew.trans hb4).mono HBEL.out.size))) HY.out) Try.underlying27 rfl (by kernel_rfl) rfl
                  ·
                    have ho2 := (Array.getElem?_eq_some_iff.1 ho).2
                    simp only [List.getElem_toArray, List.getElem_cons_succ, List.getElem_cons_zero] at ho2
                    subst ho2
                    clear ho
                    have e0 := D.old 0 (by kernel_rfl)
                    exact wk.does_move rfl (by rw [e0]; rfl)
                  ·
                    have ho2 := (Array.getElem?_eq_some_iff.1 ho).2
                    simp only [List.getElem_toArray, List.getElem_cons_succ, List.getElem_cons_zero] at ho2
                    subst ho2
                    clear ho
                    have e5 := D.old 5 (by kernel_rfl)
                    exact wk.does_move rfl (by rw [e5]; rfl)
                  ·
                    have ho2 := (Array.getElem?_eq_some_iff.1 ho).2
                    simp only [List.getElem_toArray, List.getElem_cons_succ, List.getElem_cons_zero] at ho2
                    subst ho2
                    clear ho
                    have e36 := D.is { on := 15, ground := .data } (by simp) rfl rfl 36 rfl
                    have e37 := D.is { on := 16, ground := .data } (by simp) rfl rfl 37 rfl
                    exact wk.does_run (by simp only [execOp]; rw [show E (.tmp 36) = _ from e36, show E (.tmp 37) = _ from e37]; go_simp; try (intro h0; omega)) rfl
                  ·
                    have ho2 := (Array.getElem?_eq_some_iff.1 ho).2
                    simp only [List.getElem_toArray, List.getElem_cons_succ, List.getElem_cons_zero] at ho2
                    subst ho2
                    clear ho
                    have e38 := D.is { on := 17, ground := .data } (by simp) rfl rfl 38 rfl
                    exact wk.does_load_agg rfl e38 (cs := rv x) (isH_at (H.out.below ((HBEL.out).trans (((Below.refl _ _).drew.trans hb4).mono HBEL.out.size))) HX.out) Try.underlying27 rfl (by kernel_rfl) rfl
                  ·
                    have ho2 := (Array.getElem?_eq_some_iff.1 ho).2
                    simp only [List.getElem_toArray, List.getElem_cons_succ, List.getElem_cons_zero] at ho2
                    subst ho2
                    clear ho
                    have e35 := D.is { on := 14, ground := .data } (by simp) rfl rfl 35 rfl
                    have e39 := D.is { on := 18, ground := .data } (by simp) rfl rfl 39 rfl
                    refine wk.does_fn (f := 14) (vs := #[.agg #[.int .i64 y.1, .int .i64 y.2.1, .int .i64 y.2.2], .agg #[.int .i64 x.1, .int .i64 x.2.1, .int .i64 x.2.2]]) rfl (D.fn _) (by simp [e35, e39]) (by go_simp) ?_
                    refine (rless_calls y x _).mono ?_
                    rintro e w7 ⟨rfl, hb7⟩
                    exact ⟨_, rfl, hb7, congrArg Value.bool HLT.out⟩
                  ·
                    have ho2 := (Array.getElem?_eq_some_iff.1 ho).2
                    simp only [List.getElem_toArray, List.getElem_cons_succ, List.getElem_cons_zero] at ho2
                    subst ho2
                    clear ho
                    have e40 := D.is { on := 19, ground := .data } (by simp) rfl rfl 40 rfl
                    exact wk.does_un rfl (by rw [show E (.tmp 40) = _ from e40]; go_simp) rfl
                  ·
                    have ho2 := (Array.getElem?_eq_some_iff.1 ho).2
                    simp only [List.getElem_toArray, List.getElem_cons_succ, List.getElem_cons_zero] at ho2
                    subst ho2
                    clear ho
                    have e30 := D.is { on := 9, ground := .data } (by simp) rfl rfl 30 rfl
                    have e41 := D.is { on := 20, ground := .data } (by simp) rfl rfl 41 rfl
                    exact wk.does_pick rfl e30 e41
                  ·
                    have ho2 := (Array.getElem?_eq_some_iff.1 ho).2
                    simp only [List.getElem_toArray, List.getElem_cons_succ, List.getElem_cons_zero] at ho2
                    subst ho2
                    clear ho
                    have e27 := D.is { on := 6, ground := .data } (by simp) rfl rfl 27 rfl
                    have e42 := D.is { on := 21, ground := .data } (by simp) rfl rfl 42 rfl
                    exact wk.does_pick rfl e27 e42
                  ·
                    have ho2 := (Array.getElem?_eq_some_iff.1 ho).2
                    simp only [List.getElem_toArray, List.getElem_cons_succ, List.getElem_cons_zero] at ho2
                    subst ho2
                    clear ho
                    have e43 := D.is { on := 22, ground := .data } (by simp) rfl rfl 43 rfl
                    exact wk.does_move rfl e43
                  · cases (show false = true from hns.symm.trans (by kernel_rfl))
                  · cases (show false = true from hns.symm.trans (by kernel_rfl))
                  · cases (show false = true from hns.symm.trans (by kernel_rfl))
                  · cases (show false = true from hns.symm.trans (by kernel_rfl))
                  · cases (show false = true from hns.symm.trans (by kernel_rfl))
                  · cases (show false = true from hns.symm.trans (by kernel_rfl))
                  · cases (show false = true from hns.symm.trans (by kernel_rfl))
                  · cases (show false = true from hns.symm.trans (by kernel_rfl))
                  · cases (show false = true from hns.symm.trans (by kernel_rfl))
                  ·
                    have ho2 := (Array.getElem?_eq_some_iff.1 ho).2
                    simp only [List.getElem_toArray, List.getElem_cons_succ, List.getElem_cons_zero] at ho2
                    subst ho2
                    clear ho
                    have e44 := D.is { on := 23, ground := .data } (by simp) rfl rfl 44 rfl
                    have e53 := D.is { on := 32, ground := .data } (by simp) rfl rfl 53 rfl
                    exact wk.does_pick rfl e44 (D.con _)
                case hdone =>
                  intro vals w4 hb4 hv
                  have h33 := hv 33 (by omega)
                  clear hv
                  replace h33 : vals 33 = (Value.bool true) := h33
                  simp only [List.drop_succ_cons, List.drop_zero, wpList, wk.setL, List.setIfInBounds_toArray, List.set_cons_zero, List.set_cons_succ, Nat.zero_add, Nat.reduceAdd, h33]
                  generalize vals 0 = x0
                  generalize vals 1 = x1
                  generalize vals 2 = x2
                  generalize vals 3 = x3
                  generalize vals 4 = x4
                  generalize vals 5 = x5
                  generalize vals 6 = x6
                  generalize vals 7 = x7
                  generalize vals 8 = x8
                  generalize vals 9 = x9
                  generalize vals 10 = x10
                  generalize vals 11 = x11
                  generalize vals 12 = x12
                  generalize vals 13 = x13
                  generalize vals 14 = x14
                  generalize vals 15 = x15
                  generalize vals 16 = x16
                  generalize vals 17 = x17
                  generalize vals 18 = x18
                  generalize vals 19 = x19
                  generalize vals 20 = x20
                  generalize vals 21 = x21
                  generalize vals 22 = x22
                  generalize vals 23 = x23
                  generalize vals 24 = x24
                  generalize vals 25 = x25
                  generalize vals 26 = x26
                  generalize vals 27 = x27
                  generalize vals 28 = x28
                  generalize vals 29 = x29
                  generalize vals 30 = x30
                  generalize vals 31 = x31
                  generalize vals 32 = x32
                  have HB4 := Lib.hid (HBEL.out.trans (((Below.refl _ _).drew.trans hb4).mono HBEL.out.size))
                  clear hb4
                  go_wp2_with fail
                  go_ret
                  exact ⟨by rw [HV.out]; rfl, HB4.out⟩
              | true =>
                have HLT := Lib.hid hlt3
                cases hha : ((l.take k).any fun r => r.1 == x.1) with
                | true =>
                  have HAS := Lib.hid hha
                  have HV := Lib.hid (not_dst (K := K) HX.out hha)
                  refine wk.region_tailU 34 [.is (.slice (some ⟨b, o, none⟩) n c), .is (.int .i64 (k : Int)), .is (.pointer (some ⟨b, o + k * 3, none⟩)), .is (.agg #[.int .i64 x.1, .int .i64 x.2.1, .int .i64 x.2.2]), .is (.bool true), .is (.bool false), .is (.bool false), .is (.int .i64 (k : Int)), .is (.bool true), .is (.bool true), .is (.slice (some ⟨b, o, none⟩) n c), .is (.int .i64 (k : Int)), .is (.int .i64 (k1 : Int)), .is (.pointer (some ⟨b, o + k1 * 3, none⟩)), .is (.agg #[.int .i64 y.1, .int .i64 y.2.1, .int .i64 y.2.2]), .is (.slice (some ⟨b, o, none⟩) n c), .is (.int .i64 (k : Int)), .is (.pointer (some ⟨b, o + k * 3, none⟩)), .is (.agg #[.int .i64 x.1, .int .i64 x.2.1, .int .i64 x.2.2]), .is (.bool true), .is (.bool false), .is (.bool false), .is (.bool false), .is (.bool false), .is (.slice (some ⟨b, o, none⟩) n c), .is (.int .i64 (k : Int)), .is (.slice (some ⟨b, o, none⟩) k c), .is (.slice (some ⟨b, o, none⟩) n c), .is (.int .i64 (k : Int)), .is (.pointer (some ⟨b, o + k * 3, none⟩)), .is (.pointer (some ⟨b, o + k * 3, none⟩)), .is (.int .i64 x.1), .is (.bool true), .is (.bool true)] [some 21, some 22, some 23, some 24, some 25, some 26, some 27, some 28, some 29, some 30, some 31, some 32, some 33, some 34, some 35, some 36, some 37, some 38, some 39, some 40, some 41, some 42, some 43, some 44, some 45, some 46, some 47, some 48, some 49, some 50, some 51, some 52, some 53, some 54] (by kernel_rfl) (by kernel_rfl) (by kernel_rfl) (by kernel_rfl) [] (by kernel_rfl) (by intro p hp; cases hp) (by kernel_rfl) (by kernel_rfl) ?hstep ?hdone
                  case hstep =>
                    intro i o ho hi hns E w4 hb4 D
                    have hi2 : i = 0 ∨ i = 1 ∨ i = 2 ∨ i = 3 ∨ i = 4 ∨ i = 5 ∨ i = 6 ∨ i = 7 ∨ i = 8 ∨ i = 9 ∨ i = 10 ∨ i = 11 ∨ i = 12 ∨ i = 13 ∨ i = 14 ∨ i = 15 ∨ i = 16 ∨ i = 17 ∨ i = 18 ∨ i = 19 ∨ i = 20 ∨ i = 21 ∨ i = 22 ∨ i = 23 ∨ i = 24 ∨ i = 25 ∨ i = 26 ∨ i = 27 ∨ i = 28 ∨ i = 29 ∨ i = 30 ∨ i = 31 ∨ i = 32 ∨ i = 33 := by omega
                    clear hi
                    rcases hi2 with rfl | rfl | rfl | rfl | rfl | rfl | rfl | rfl | rfl | rfl | rfl | rfl | rfl | rfl | rfl | rfl | rfl | rfl | rfl | rfl | rfl | rfl | rfl | rfl | rfl | rfl | rfl | rfl | rfl | rfl | rfl | rfl | rfl | rfl
                    ·
                      have ho2 := (Array.getElem?_eq_some_iff.1 ho).2
                      simp only [List.getElem_toArray, List.getElem_cons_zero] at ho2
                      subst ho2
                      clear ho
                      have e0 := D.old 0 (by kernel_rfl)
                      exact wk.does_move rfl (by rw [e0]; rfl)
                    ·
                      have ho2 := (Array.getElem?_eq_some_iff.1 ho).2
                      simp only [List.getElem_toArray, List.getElem_cons_succ, List.getElem_cons_zero] at ho2
                      subst ho2
                      clear ho
                      have e5 := D.old 5 (by kernel_rfl)
                      exact wk.does_move rfl (by rw [e5]; rfl)
                    ·
                      have ho2 := (Array.getElem?_eq_some_iff.1 ho).2
                      simp only [List.getElem_toArray, List.getElem_cons_succ, List.getElem_cons_zero] at ho2
                      subst ho2
                      clear ho
                      have e21 := D.is { on := 0, ground := .data } (by simp) rfl rfl 21 rfl
                      have e22 := D.is { on := 1, ground := .data } (by simp) rfl rfl 22 rfl
                      exact wk.does_run (by simp only [execOp]; rw [show E (.tmp 21) = _ from e21, show E (.tmp 22) = _ from e22]; go_simp; try (intro h0; omega)) rfl
                    ·
                      have ho2 := (Array.getElem?_eq_some_iff.1 ho).2
                      simp only [List.getElem_toArray, List.getElem_cons_succ, List.getElem_cons_zero] at ho2
                      subst ho2
                      clear ho
                      have e23 := D.is { on := 2, ground := .data } (by simp) rfl rfl 23 rfl
                      exact wk.does_load_agg rfl e23 (cs := rv x) (isH_at (H.out.below ((HBEL.out).trans (((Below.refl _ _).drew.trans hb4).mono HBEL.out.size))) HX.out) Try.underlying27 rfl (by kernel_rfl) rfl
                    ·
                      have ho2 := (Array.getElem?_eq_some_iff.1 ho).2
                      simp only [List.getElem_toArray, List.getElem_cons_succ, List.getElem_cons_zero] at ho2
                      subst ho2
                      clear ho
                      have e24 := D.is { on := 3, ground := .data } (by simp) rfl rfl 24 rfl
                      refine wk.does_fn (f := 20) (vs := #[.agg #[.int .i64 x.1, .int .i64 x.2.1, .int .i64 x.2.2]]) rfl (D.fn _) (by simp [e24]) (by go_simp) ?_
                      refine (rright_calls x _).mono ?_
                      rintro e w7 ⟨rfl, hb7⟩
                      exact ⟨_, rfl, hb7, congrArg Value.bool HRX.out⟩
                    ·
                      have ho2 := (Array.getElem?_eq_some_iff.1 ho).2
                      simp only [List.getElem_toArray, List.getElem_cons_succ, List.getElem_cons_zero] at ho2
                      subst ho2
                      clear ho
                      have e25 := D.is { on := 4, ground := .data } (by simp) rfl rfl 25 rfl
                      exact wk.does_un rfl (by rw [show E (.tmp 25) = _ from e25]; go_simp) rfl
                    ·
                      have ho2 := (Array.getElem?_eq_some_iff.1 ho).2
                      simp only [List.getElem_toArray, List.getElem_cons_succ, List.getElem_cons_zero] at ho2
                      subst ho2
                      clear ho
                      have e26 := D.is { on := 5, ground := .data } (by simp) rfl rfl 26 rfl
                      exact wk.does_move rfl e26
                    ·
                      have ho2 := (Array.getElem?_eq_some_iff.1 ho).2
                      simp only [List.getElem_toArray, List.getElem_cons_succ, List.getElem_cons_zero] at ho2
                      subst ho2
                      clear ho
                      have e5 := D.old 5 (by kernel_rfl)
                      exact wk.does_move rfl (by rw [e5]; rfl)
                    ·
                      have ho2 := (Array.getElem?_eq_some_iff.1 ho).2
                      simp only [List.getElem_toArray, List.getElem_cons_succ, List.getElem_cons_zero] at ho2
                      subst ho2
                      clear ho
                      have e28 := D.is { on := 7, ground := .data } (by simp) rfl rfl 28 rfl
                      exact wk.does_run (by simp only [execOp]; rw [show E (.tmp 28) = _ from e28, show E (.const (.int .i64 0)) = .int .i64 0 from D.con _]; go_simp; try omega) rfl
                    ·
                      have ho2 := (Array.getElem?_eq_some_iff.1 ho).2
                      simp only [List.getElem_toArray, List.getElem_cons_succ, List.getElem_cons_zero] at ho2
                      subst ho2
                      clear ho
                      have e29 := D.is { on := 8, ground := .data } (by simp) rfl rfl 29 rfl
                      exact wk.does_move rfl e29
                    ·
                      have ho2 := (Array.getElem?_eq_some_iff.1 ho).2
                      simp only [List.getElem_toArray, List.getElem_cons_succ, List.getElem_cons_zero] at ho2
                      subst ho2
                      clear ho
                      have e0 := D.old 0 (by kernel_rfl)
                      exact wk.does_move rfl (by rw [e0]; rfl)
                    ·
                      have ho2 := (Array.getElem?_eq_some_iff.1 ho).2
                      simp only [List.getElem_toArray, List.getElem_cons_succ, List.getElem_cons_zero] at ho2
                      subst ho2
                      clear ho
                      have e5 := D.old 5 (by kernel_rfl)
                      exact wk.does_move rfl (by rw [e5]; rfl)
                    ·
                      have ho2 := (Array.getElem?_eq_some_iff.1 ho).2
                      simp only [List.getElem_toArray, List.getElem_cons_succ, List.getElem_cons_zero] at ho2
                      subst ho2
                      clear ho
                      have e32 := D.is { on := 11, ground := .data } (by simp) rfl rfl 32 rfl
                      exact wk.does_run (by simp only [execOp]; rw [show E (.tmp 32) = _ from e32, show E (.const (.int .i64 1)) = .int .i64 1 from D.con _]; go_simp; try exact hwr) rfl
                    ·
                      have ho2 := (Array.getElem?_eq_some_iff.1 ho).2
                      simp only [List.getElem_toArray, List.getElem_cons_succ, List.getElem_cons_zero] at ho2
                      subst ho2
                      clear ho
                      have e31 := D.is { on := 10, ground := .data } (by simp) rfl rfl 31 rfl
                      have e33 := D.is { on := 12, ground := .data } (by simp) rfl rfl 33 rfl
                      exact wk.does_run (by simp only [execOp]; rw [show E (.tmp 31) = _ from e31, show E (.tmp 33) = _ from e33]; go_simp; try (intro h0; omega)) rfl
                    ·
                      have ho2 := (Array.getElem?_eq_some_iff.1 ho).2
                      simp only [List.getElem_toArray, List.getElem_cons_succ, List.getElem_cons_zero] at ho2
                      subst ho2
                      clear ho
                      have e34 := D.is { on := 13, ground := .data } (by simp) rfl rfl 34 rfl
                      exact wk.does_load_agg rfl e34 (cs := rv y) (isH_at (H.out.below ((HBEL.out).trans (((Below.refl _ _).drew.trans hb4).mono HBEL.out.size))) HY.out) Try.underlying27 rfl (by kernel_rfl) rfl
                    ·
                      have ho2 := (Array.getElem?_eq_some_iff.1 ho).2
                      simp only [List.getElem_toArray, List.getElem_cons_succ, List.getElem_cons_zero] at ho2
                      subst ho2
                      clear ho
                      have e0 := D.old 0 (by kernel_rfl)
                      exact wk.does_move rfl (by rw [e0]; rfl)
                    ·
                      have ho2 := (Array.getElem?_eq_some_iff.1 ho).2
                      simp only [List.getElem_toArray, List.getElem_cons_succ, List.getElem_cons_zero] at ho2
                      subst ho2
                      clear ho
                      have e5 := D.old 5 (by kernel_rfl)
                      exact wk.does_move rfl (by rw [e5]; rfl)
                    ·
                      have ho2 := (Array.getElem?_eq_some_iff.1 ho).2
                      simp only [List.getElem_toArray, List.getElem_cons_succ, List.getElem_cons_zero] at ho2
                      subst ho2
                      clear ho
                      have e36 := D.is { on := 15, ground := .data } (by simp) rfl rfl 36 rfl
                      have e37 := D.is { on := 16, ground := .data } (by simp) rfl rfl 37 rfl
                      exact wk.does_run (by simp only [execOp]; rw [show E (.tmp 36) = _ from e36, show E (.tmp 37) = _ from e37]; go_simp; try (intro h0; omega)) rfl
                    ·
                      have ho2 := (Array.getElem?_eq_some_iff.1 ho).2
                      simp only [List.getElem_toArray, List.getElem_cons_succ, List.getElem_cons_zero] at ho2
                      subst ho2
                      clear ho
                      have e38 := D.is { on := 17, ground := .data } (by simp) rfl rfl 38 rfl
                      exact wk.does_load_agg rfl e38 (cs := rv x) (isH_at (H.out.below ((HBEL.out).trans (((Below.refl _ _).drew.trans hb4).mono HBEL.out.size))) HX.out) Try.underlying27 rfl (by kernel_rfl) rfl
                    ·
                      have ho2 := (Array.getElem?_eq_some_iff.1 ho).2
                      simp only [List.getElem_toArray, List.getElem_cons_succ, List.getElem_cons_zero] at ho2
                      subst ho2
                      clear ho
                      have e35 := D.is { on := 14, ground := .data } (by simp) rfl rfl 35 rfl
                      have e39 := D.is { on := 18, ground := .data } (by simp) rfl rfl 39 rfl
                      refine wk.does_fn (f := 14) (vs := #[.agg #[.int .i64 y.1, .int .i64 y.2.1, .int .i64 y.2.2], .agg #[.int .i64 x.1, .int .i64 x.2.1, .int .i64 x.2.2]]) rfl (D.fn _) (by simp [e35, e39]) (by go_simp) ?_
                      refine (rless_calls y x _).mono ?_
                      rintro e w7 ⟨rfl, hb7⟩
                      exact ⟨_, rfl, hb7, congrArg Value.bool HLT.out⟩
                    ·
                      have ho2 := (Array.getElem?_eq_some_iff.1 ho).2
                      simp only [List.getElem_toArray, List.getElem_cons_succ, List.getElem_cons_zero] at ho2
                      subst ho2
                      clear ho
                      have e40 := D.is { on := 19, ground := .data } (by simp) rfl rfl 40 rfl
                      exact wk.does_un rfl (by rw [show E (.tmp 40) = _ from e40]; go_simp) rfl
                    ·
                      have ho2 := (Array.getElem?_eq_some_iff.1 ho).2
                      simp only [List.getElem_toArray, List.getElem_cons_succ, List.getElem_cons_zero] at ho2
                      subst ho2
                      clear ho
                      have e30 := D.is { on := 9, ground := .data } (by simp) rfl rfl 30 rfl
                      have e41 := D.is { on := 20, ground := .data } (by simp) rfl rfl 41 rfl
                      exact wk.does_pick rfl e30 e41
                    ·
                      have ho2 := (Array.getElem?_eq_some_iff.1 ho).2
                      simp only [List.getElem_toArray, List.getElem_cons_succ, List.getElem_cons_zero] at ho2
                      subst ho2
                      clear ho
                      have e27 := D.is { on := 6, ground := .data } (by simp) rfl rfl 27 rfl
                      have e42 := D.is { on := 21, ground := .data } (by simp) rfl rfl 42 rfl
                      exact wk.does_pick rfl e27 e42
                    ·
                      have ho2 := (Array.getElem?_eq_some_iff.1 ho).2
                      simp only [List.getElem_toArray, List.getElem_cons_succ, List.getElem_cons_zero] at ho2
                      subst ho2
                      clear ho
                      have e43 := D.is { on := 22, ground := .data } (by simp) rfl rfl 43 rfl
                      exact wk.does_move rfl e43
                    ·
                      have ho2 := (Array.getElem?_eq_some_iff.1 ho).2
                      simp only [List.getElem_toArray, List.getElem_cons_succ, List.getElem_cons_zero] at ho2
                      subst ho2
                      clear ho
                      have e0 := D.old 0 (by kernel_rfl)
                      exact wk.does_move rfl (by rw [e0]; rfl)
                    ·
                      have ho2 := (Array.getElem?_eq_some_iff.1 ho).2
                      simp only [List.getElem_toArray, List.getElem_cons_succ, List.getElem_cons_zero] at ho2
                      subst ho2
                      clear ho
                      have e5 := D.old 5 (by kernel_rfl)
                      exact wk.does_move rfl (by rw [e5]; rfl)
                    ·
                      have ho2 := (Array.getElem?_eq_some_iff.1 ho).2
                      simp only [List.getElem_toArray, List.getElem_cons_succ, List.getElem_cons_zero] at ho2
                      subst ho2
                      clear ho
                      have e45 := D.is { on := 24, ground := .data } (by simp) rfl rfl 45 rfl
                      have e46 := D.is { on := 25, ground := .data } (by simp) rfl rfl 46 rfl
                      exact wk.does_run (wk.op_slice (LO := none) (HI := some (.int .i64 (k : Int))) (MX := none) rfl e45 rfl (by show some (E (.tmp 46)) = _; rw [e46]) rfl (run_preH w4 _ _ _ k hkn hnc)) rfl
                    ·
                      have ho2 := (Array.getElem?_eq_some_iff.1 ho).2
                      simp only [List.getElem_toArray, List.getElem_cons_succ, List.getElem_cons_zero] at ho2
                      subst ho2
                      clear ho
                      have e0 := D.old 0 (by kernel_rfl)
                      exact wk.does_move rfl (by rw [e0]; rfl)
                    ·
                      have ho2 := (Array.getElem?_eq_some_iff.1 ho).2
                      simp only [List.getElem_toArray, List.getElem_cons_succ, List.getElem_cons_zero] at ho2
                      subst ho2
                      clear ho
                      have e5 := D.old 5 (by kernel_rfl)
                      exact wk.does_move rfl (by rw [e5]; rfl)
                    ·
                      have ho2 := (Array.getElem?_eq_some_iff.1 ho).2
                      simp only [List.getElem_toArray, List.getElem_cons_succ, List.getElem_cons_zero] at ho2
                      subst ho2
                      clear ho
                      have e48 := D.is { on := 27, ground := .data } (by simp) rfl rfl 48 rfl
                      have e49 := D.is { on := 28, ground := .data } (by simp) rfl rfl 49 rfl
                      exact wk.does_run (by simp only [execOp]; rw [show E (.tmp 48) = _ from e48, show E (.tmp 49) = _ from e49]; go_simp; try (intro h0; omega)) rfl
                    ·
                      have ho2 := (Array.getElem?_eq_some_iff.1 ho).2
                      simp only [List.getElem_toArray, List.getElem_cons_succ, List.getElem_cons_zero] at ho2
                      subst ho2
                      clear ho
                      have e50 := D.is { on := 29, ground := .data } (by simp) rfl rfl 50 rfl
                      exact wk.does_run (by simp only [execOp]; rw [show E (.tmp 50) = _ from e50]; go_simp) rfl
                    ·
                      have ho2 := (Array.getElem?_eq_some_iff.1 ho).2
                      simp only [List.getElem_toArray, List.getElem_cons_succ, List.getElem_cons_zero] at ho2
                      subst ho2
                      clear ho
                      have e51 := D.is { on := 30, ground := .data } (by simp) rfl rfl 51 rfl
                      exact wk.does_load1 rfl e51 (isH_at (H.out.below ((HBEL.out).trans (((Below.refl _ _).drew.trans hb4).mono HBEL.out.size))) HX.out 0 _ rfl) Try.underlying3 rfl rfl
                    ·
                      have ho2 := (Array.getElem?_eq_some_iff.1 ho).2
                      simp only [List.getElem_toArray, List.getElem_cons_succ, List.getElem_cons_zero] at ho2
                      subst ho2
                      clear ho
                      have e47 := D.is { on := 26, ground := .data } (by simp) rfl rfl 47 rfl
                      have e52 := D.is { on := 31, ground := .data } (by simp) rfl rfl 52 rfl
                      refine wk.does_fn (f := 40) (vs := #[.slice (some ⟨b, o, none⟩) k c, .int .i64 x.1]) rfl (D.fn _) (by simp [e47, e52]) (by go_simp) ?_
                      refine (rhasB_calls x.1 _ (isH_take (H.out.below ((HBEL.out).trans (((Below.refl _ _).drew.trans hb4).mono HBEL.out.size))) hkn)).mono ?_
                      rintro e w7 ⟨rfl, hb7⟩
                      exact ⟨_, rfl, hb7, congrArg Value.bool HAS.out⟩
                    ·
                      have ho2 := (Array.getElem?_eq_some_iff.1 ho).2
                      simp only [List.getElem_toArray, List.getElem_cons_succ, List.getElem_cons_zero] at ho2
                      subst ho2
                      clear ho
                      have e44 := D.is { on := 23, ground := .data } (by simp) rfl rfl 44 rfl
                      have e53 := D.is { on := 32, ground := .data } (by simp) rfl rfl 53 rfl
                      exact wk.does_pick rfl e44 e53
                  case hdone =>
                    intro vals w4 hb4 hv
                    have h33 := hv 33 (by omega)
                    clear hv
                    replace h33 : vals 33 = (.bool true) := h33
                    simp only [List.drop_succ_cons, List.drop_zero, wpList, wk.setL, List.setIfInBounds_toArray, List.set_cons_zero, List.set_cons_succ, Nat.zero_add, Nat.reduceAdd, h33]
                    generalize vals 0 = x0
                    generalize vals 1 = x1
                    generalize vals 2 = x2
                    generalize vals 3 = x3
                    generalize vals 4 = x4
                    generalize vals 5 = x5
                    generalize vals 6 = x6
                    generalize vals 7 = x7
                    generalize vals 8 = x8
                    generalize vals 9 = x9
                    generalize vals 10 = x10
                    generalize vals 11 = x11
                    generalize vals 12 = x12
                    generalize vals 13 = x13
                    generalize vals 14 = x14
                    generalize vals 15 = x15
                    generalize vals 16 = x16
                    generalize vals 17 = x17
                    generalize vals 18 = x18
                    generalize vals 19 = x19
                    generalize vals 20 = x20
                    generalize vals 21 = x21
                    generalize vals 22 = x22
                    generalize vals 23 = x23
                    generalize vals 24 = x24
                    generalize vals 25 = x25
                    generalize vals 26 = x26
                    generalize vals 27 = x27
                    generalize vals 28 = x28
                    generalize vals 29 = x29
                    generalize vals 30 = x30
                    generalize vals 31 = x31
                    generalize vals 32 = x32
                    have HB4 := Lib.hid (HBEL.out.trans (((Below.refl _ _).drew.trans hb4).mono HBEL.out.size))
                    clear hb4
                    go_wp2_with fail
                    go_ret
                    exact ⟨by rw [HV.out]; rfl, HB4.out⟩
                | false =>
                  have HAS := Lib.hid hha
                  have HN := Lib.hid (good_step HR.out HX.out hrx (fun y' _ h' => by rw [HY2.out] at h'; cases h'; exact hlt3) hha)
                  refine wk.region_tailU 34 [.is (.slice (some ⟨b, o, none⟩) n c), .is (.int .i64 (k : Int)), .is (.pointer (some ⟨b, o + k * 3, none⟩)), .is (.agg #[.int .i64 x.1, .int .i64 x.2.1, .int .i64 x.2.2]), .is (.bool true), .is (.bool false), .is (.bool false), .is (.int .i64 (k : Int)), .is (.bool true), .is (.bool true), .is (.slice (some ⟨b, o, none⟩) n c), .is (.int .i64 (k : Int)), .is (.int .i64 (k1 : Int)), .is (.pointer (some ⟨b, o + k1 * 3, none⟩)), .is (.agg #[.int .i64 y.1, .int .i64 y.2.1, .int .i64 y.2.2]), .is (.slice (some ⟨b, o, none⟩) n c), .is (.int .i64 (k : Int)), .is (.pointer (some ⟨b, o + k * 3, none⟩)), .is (.agg #[.int .i64 x.1, .int .i64 x.2.1, .int .i64 x.2.2]), .is (.bool true), .is (.bool false), .is (.bool false), .is (.bool false), .is (.bool false), .is (.slice (some ⟨b, o, none⟩) n c), .is (.int .i64 (k : Int)), .is (.slice (some ⟨b, o, none⟩) k c), .is (.slice (some ⟨b, o, none⟩) n c), .is (.int .i64 (k : Int)), .is (.pointer (some ⟨b, o + k * 3, none⟩)), .is (.pointer (some ⟨b, o + k * 3, none⟩)), .is (.int .i64 x.1), .is (.bool false), .is (.bool false)] [some 21, some 22, some 23, some 24, some 25, some 26, some 27, some 28, some 29, some 30, some 31, some 32, some 33, some 34, some 35, some 36, some 37, some 38, some 39, some 40, some 41, some 42, some 43, some 44, some 45, some 46, some 47, some 48, some 49, some 50, some 51, some 52, some 53, some 54] (by kernel_rfl) (by kernel_rfl) (by kernel_rfl) (by kernel_rfl) [] (by kernel_rfl) (by intro p hp; cases hp) (by kernel_rfl) (by kernel_rfl) ?hstep ?hdone
                  case hstep =>
                    intro i o ho hi hns E w4 hb4 D
                    have hi2 : i = 0 ∨ i = 1 ∨ i = 2 ∨ i = 3 ∨ i = 4 ∨ i = 5 ∨ i = 6 ∨ i = 7 ∨ i = 8 ∨ i = 9 ∨ i = 10 ∨ i = 11 ∨ i = 12 ∨ i = 13 ∨ i = 14 ∨ i = 15 ∨ i = 16 ∨ i = 17 ∨ i = 18 ∨ i = 19 ∨ i = 20 ∨ i = 21 ∨ i = 22 ∨ i = 23 ∨ i = 24 ∨ i = 25 ∨ i = 26 ∨ i = 27 ∨ i = 28 ∨ i = 29 ∨ i = 30 ∨ i = 31 ∨ i = 32 ∨ i = 33 := by omega
                    clear hi
                    rcases hi2 with rfl | rfl | rfl | rfl | rfl | rfl | rfl | rfl | rfl | rfl | rfl | rfl | rfl | rfl | rfl | rfl | rfl | rfl | rfl | rfl | rfl | rfl | rfl | rfl | rfl | rfl | rfl | rfl | rfl | rfl | rfl | rfl | rfl | rfl
                    ·
                      have ho2 := (Array.getElem?_eq_some_iff.1 ho).2
                      simp only [List.getElem_toArray, List.getElem_cons_zero] at ho2
                      subst ho2
                      clear ho
                      have e0 := D.old 0 (by kernel_rfl)
                      exact wk.does_move rfl (by rw [e0]; rfl)
                    ·
                      have ho2 := (Array.getElem?_eq_some_iff.1 ho).2
                      simp only [List.getElem_toArray, List.getElem_cons_succ, List.getElem_cons_zero] at ho2
                      subst ho2
                      clear ho
                      have e5 := D.old 5 (by kernel_rfl)
                      exact wk.does_move rfl (by rw [e5]; rfl)
                    ·
                      have ho2 := (Array.getElem?_eq_some_iff.1 ho).2
                      simp only [List.getElem_toArray, List.getElem_cons_succ, List.getElem_cons_zero] at ho2
                      subst ho2
                      clear ho
                      have e21 := D.is { on := 0, ground := .data } (by simp) rfl rfl 21 rfl
                      have e22 := D.is { on := 1, ground := .data } (by simp) rfl rfl 22 rfl
                      exact wk.does_run (by simp only [execOp]; rw [show E (.tmp 21) = _ from e21, show E (.tmp 22) = _ from e22]; go_simp; try (intro h0; omega)) rfl
                    ·
                      have ho2 := (Array.getElem?_eq_some_iff.1 ho).2
                      simp only [List.getElem_toArray, List.getElem_cons_succ, List.getElem_cons_zero] at ho2
                      subst ho2
                      clear ho
                      have e23 := D.is { on := 2, ground := .data } (by simp) rfl rfl 23 rfl
                      exact wk.does_load_agg rfl e23 (cs := rv x) (isH_at (H.out.below ((HBEL.out).trans (((Below.refl _ _).drew.trans hb4).mono HBEL.out.size))) HX.out) Try.underlying27 rfl (by kernel_rfl) rfl
                    ·
                      have ho2 := (Array.getElem?_eq_some_iff.1 ho).2
                      simp only [List.getElem_toArray, List.getElem_cons_succ, List.getElem_cons_zero] at ho2
                      subst ho2
                      clear ho
                      have e24 := D.is { on := 3, ground := .data } (by simp) rfl rfl 24 rfl
                      refine wk.does_fn (f := 20) (vs := #[.agg #[.int .i64 x.1, .int .i64 x.2.1, .int .i64 x.2.2]]) rfl (D.fn _) (by simp [e24]) (by go_simp) ?_
                      refine (rright_calls x _).mono ?_
                      rintro e w7 ⟨rfl, hb7⟩
                      exact ⟨_, rfl, hb7, congrArg Value.bool HRX.out⟩
                    ·
                      have ho2 := (Array.getElem?_eq_some_iff.1 ho).2
                      simp only [List.getElem_toArray, List.getElem_cons_succ, List.getElem_cons_zero] at ho2
                      subst ho2
                      clear ho
                      have e25 := D.is { on := 4, ground := .data } (by simp) rfl rfl 25 rfl
                      exact wk.does_un rfl (by rw [show E (.tmp 25) = _ from e25]; go_simp) rfl
                    ·
                      have ho2 := (Array.getElem?_eq_some_iff.1 ho).2
                      simp only [List.getElem_toArray, List.getElem_cons_succ, List.getElem_cons_zero] at ho2
                      subst ho2
                      clear ho
                      have e26 := D.is { on := 5, ground := .data } (by simp) rfl rfl 26 rfl
                      exact wk.does_move rfl e26
                    ·
                      have ho2 := (Array.getElem?_eq_some_iff.1 ho).2
                      simp only [List.getElem_toArray, List.getElem_cons_succ, List.getElem_cons_zero] at ho2
                      subst ho2
                      clear ho
                      have e5 := D.old 5 (by kernel_rfl)
                      exact wk.does_move rfl (by rw [e5]; rfl)
                    ·
                      have ho2 := (Array.getElem?_eq_some_iff.1 ho).2
                      simp only [List.getElem_toArray, List.getElem_cons_succ, List.getElem_cons_zero] at ho2
                      subst ho2
                      clear ho
                      have e28 := D.is { on := 7, ground := .data } (by simp) rfl rfl 28 rfl
                      exact wk.does_run (by simp only [execOp]; rw [show E (.tmp 28) = _ from e28, show E (.const (.int .i64 0)) = .int .i64 0 from D.con _]; go_simp; try omega) rfl
                    ·
                      have ho2 := (Array.getElem?_eq_some_iff.1 ho).2
                      simp only [List.getElem_toArray, List.getElem_cons_succ, List.getElem_cons_zero] at ho2
                      subst ho2
                      clear ho
                      have e29 := D.is { on := 8, ground := .data } (by simp) rfl rfl 29 rfl
                      exact wk.does_move rfl e29
                    ·
                      have ho2 := (Array.getElem?_eq_some_iff.1 ho).2
                      simp only [List.getElem_toArray, List.getElem_cons_succ, List.getElem_cons_zero] at ho2
                      subst ho2
                      clear ho
                      have e0 := D.old 0 (by kernel_rfl)
                      exact wk.does_move rfl (by rw [e0]; rfl)
                    ·
                      have ho2 := (Array.getElem?_eq_some_iff.1 ho).2
                      simp only [List.getElem_toArray, List.getElem_cons_succ, List.getElem_cons_zero] at ho2
                      subst ho2
                      clear ho
                      have e5 := D.old 5 (by kernel_rfl)
                      exact wk.does_move rfl (by rw [e5]; rfl)
                    ·
                      have ho2 := (Array.getElem?_eq_some_iff.1 ho).2
                      simp only [List.getElem_toArray, List.getElem_cons_succ, List.getElem_cons_zero] at ho2
                      subst ho2
                      clear ho
                      have e32 := D.is { on := 11, ground := .data } (by simp) rfl rfl 32 rfl
                      exact wk.does_run (by simp only [execOp]; rw [show E (.tmp 32) = _ from e32, show E (.const (.int .i64 1)) = .int .i64 1 from D.con _]; go_simp; try exact hwr) rfl
                    ·
                      have ho2 := (Array.getElem?_eq_some_iff.1 ho).2
                      simp only [List.getElem_toArray, List.getElem_cons_succ, List.getElem_cons_zero] at ho2
                      subst ho2
                      clear ho
                      have e31 := D.is { on := 10, ground := .data } (by simp) rfl rfl 31 rfl
                      have e33 := D.is { on := 12, ground := .data } (by simp) rfl rfl 33 rfl
                      exact wk.does_run (by simp only [execOp]; rw [show E (.tmp 31) = _ from e31, show E (.tmp 33) = _ from e33]; go_simp; try (intro h0; omega)) rfl
                    ·
                      have ho2 := (Array.getElem?_eq_some_iff.1 ho).2
                      simp only [List.getElem_toArray, List.getElem_cons_succ, List.getElem_cons_zero] at ho2
                      subst ho2
                      clear ho
                      have e34 := D.is { on := 13, ground := .data } (by simp) rfl rfl 34 rfl
                      exact wk.does_load_agg rfl e34 (cs := rv y) (isH_at (H.out.below ((HBEL.out).trans (((Below.refl _ _).drew.trans hb4).mono HBEL.out.size))) HY.out) Try.underlying27 rfl (by kernel_rfl) rfl
                    ·
                      have ho2 := (Array.getElem?_eq_some_iff.1 ho).2
                      simp only [List.getElem_toArray, List.getElem_cons_succ, List.getElem_cons_zero] at ho2
                      subst ho2
                      clear ho
                      have e0 := D.old 0 (by kernel_rfl)
                      exact wk.does_move rfl (by rw [e0]; rfl)
                    ·
                      have ho2 := (Array.getElem?_eq_some_iff.1 ho).2
                      simp only [List.getElem_toArray, List.getElem_cons_succ, List.getElem_cons_zero] at ho2
                      subst ho2
                      clear ho
                      have e5 := D.old 5 (by kernel_rfl)
                      exact wk.does_move rfl (by rw [e5]; rfl)
                    ·
                      have ho2 := (Array.getElem?_eq_some_iff.1 ho).2
                      simp only [List.getElem_toArray, List.getElem_cons_succ, List.getElem_cons_zero] at ho2
                      subst ho2
                      clear ho
                      have e36 := D.is { on := 15, ground := .data } (by simp) rfl rfl 36 rfl
                      have e37 := D.is { on := 16, ground := .data } (by simp) rfl rfl 37 rfl
                      exact wk.does_run (by simp only [execOp]; rw [show E (.tmp 36) = _ from e36, show E (.tmp 37) = _ from e37]; go_simp; try (intro h0; omega)) rfl
                    ·
                      have ho2 := (Array.getElem?_eq_some_iff.1 ho).2
                      simp only [List.getElem_toArray, List.getElem_cons_succ, List.getElem_cons_zero] at ho2
                      subst ho2
                      clear ho
                      have e38 := D.is { on := 17, ground := .data } (by simp) rfl rfl 38 rfl
                      exact wk.does_load_agg rfl e38 (cs := rv x) (isH_at (H.out.below ((HBEL.out).trans (((Below.refl _ _).drew.trans hb4).mono HBEL.out.size))) HX.out) Try.underlying27 rfl (by kernel_rfl) rfl
                    ·
                      have ho2 := (Array.getElem?_eq_some_iff.1 ho).2
                      simp only [List.getElem_toArray, List.getElem_cons_succ, List.getElem_cons_zero] at ho2
                      subst ho2
                      clear ho
                      have e35 := D.is { on := 14, ground := .data } (by simp) rfl rfl 35 rfl
                      have e39 := D.is { on := 18, ground := .data } (by simp) rfl rfl 39 rfl
                      refine wk.does_fn (f := 14) (vs := #[.agg #[.int .i64 y.1, .int .i64 y.2.1, .int .i64 y.2.2], .agg #[.int .i64 x.1, .int .i64 x.2.1, .int .i64 x.2.2]]) rfl (D.fn _) (by simp [e35, e39]) (by go_simp) ?_
                      refine (rless_calls y x _).mono ?_
                      rintro e w7 ⟨rfl, hb7⟩
                      exact ⟨_, rfl, hb7, congrArg Value.bool HLT.out⟩
                    ·
                      have ho2 := (Array.getElem?_eq_some_iff.1 ho).2
                      simp only [List.getElem_toArray, List.getElem_cons_succ, List.getElem_cons_zero] at ho2
                      subst ho2
                      clear ho
                      have e40 := D.is { on := 19, ground := .data } (by simp) rfl rfl 40 rfl
                      exact wk.does_un rfl (by rw [show E (.tmp 40) = _ from e40]; go_simp) rfl
                    ·
                      have ho2 := (Array.getElem?_eq_some_iff.1 ho).2
                      simp only [List.getElem_toArray, List.getElem_cons_succ, List.getElem_cons_zero] at ho2
                      subst ho2
                      clear ho
                      have e30 := D.is { on := 9, ground := .data } (by simp) rfl rfl 30 rfl
                      have e41 := D.is { on := 20, ground := .data } (by simp) rfl rfl 41 rfl
                      exact wk.does_pick rfl e30 e41
                    ·
                      have ho2 := (Array.getElem?_eq_some_iff.1 ho).2
                      simp only [List.getElem_toArray, List.getElem_cons_succ, List.getElem_cons_zero] at ho2
                      subst ho2
                      clear ho
                      have e27 := D.is { on := 6, ground := .data } (by simp) rfl rfl 27 rfl
                      have e42 := D.is { on := 21, ground := .data } (by simp) rfl rfl 42 rfl
                      exact wk.does_pick rfl e27 e42
                    ·
                      have ho2 := (Array.getElem?_eq_some_iff.1 ho).2
                      simp only [List.getElem_toArray, List.getElem_cons_succ, List.getElem_cons_zero] at ho2
                      subst ho2
                      clear ho
                      have e43 := D.is { on := 22, ground := .data } (by simp) rfl rfl 43 rfl
                      exact wk.does_move rfl e43
                    ·
                      have ho2 := (Array.getElem?_eq_some_iff.1 ho).2
                      simp only [List.getElem_toArray, List.getElem_cons_succ, List.getElem_cons_zero] at ho2
                      subst ho2
                      clear ho
                      have e0 := D.old 0 (by kernel_rfl)
                      exact wk.does_move rfl (by rw [e0]; rfl)
                    ·
                      have ho2 := (Array.getElem?_eq_some_iff.1 ho).2
                      simp only [List.getElem_toArray, List.getElem_cons_succ, List.getElem_cons_zero] at ho2
                      subst ho2
                      clear ho
                      have e5 := D.old 5 (by kernel_rfl)
                      exact wk.does_move rfl (by rw [e5]; rfl)
                    ·
                      have ho2 := (Array.getElem?_eq_some_iff.1 ho).2
                      simp only [List.getElem_toArray, List.getElem_cons_succ, List.getElem_cons_zero] at ho2
                      subst ho2
                      clear ho
                      have e45 := D.is { on := 24, ground := .data } (by simp) rfl rfl 45 rfl
                      have e46 := D.is { on := 25, ground := .data } (by simp) rfl rfl 46 rfl
                      exact wk.does_run (wk.op_slice (LO := none) (HI := some (.int .i64 (k : Int))) (MX := none) rfl e45 rfl (by show some (E (.tmp 46)) = _; rw [e46]) rfl (run_preH w4 _ _ _ k hkn hnc)) rfl
                    ·
                      have ho2 := (Array.getElem?_eq_some_iff.1 ho).2
                      simp only [List.getElem_toArray, List.getElem_cons_succ, List.getElem_cons_zero] at ho2
                      subst ho2
                      clear ho
                      have e0 := D.old 0 (by kernel_rfl)
                      exact wk.does_move rfl (by rw [e0]; rfl)
                    ·
                      have ho2 := (Array.getElem?_eq_some_iff.1 ho).2
                      simp only [List.getElem_toArray, List.getElem_cons_succ, List.getElem_cons_zero] at ho2
                      subst ho2
                      clear ho
                      have e5 := D.old 5 (by kernel_rfl)
                      exact wk.does_move rfl (by rw [e5]; rfl)
                    ·
                      have ho2 := (Array.getElem?_eq_some_iff.1 ho).2
                      simp only [List.getElem_toArray, List.getElem_cons_succ, List.getElem_cons_zero] at ho2
                      subst ho2
                      clear ho
                      have e48 := D.is { on := 27, ground := .data } (by simp) rfl rfl 48 rfl
                      have e49 := D.is { on := 28, ground := .data } (by simp) rfl rfl 49 rfl
                      exact wk.does_run (by simp only [execOp]; rw [show E (.tmp 48) = _ from e48, show E (.tmp 49) = _ from e49]; go_simp; try (intro h0; omega)) rfl
                    ·
                      have ho2 := (Array.getElem?_eq_some_iff.1 ho).2
                      simp only [List.getElem_toArray, List.getElem_cons_succ, List.getElem_cons_zero] at ho2
                      subst ho2
                      clear ho
                      have e50 := D.is { on := 29, ground := .data } (by simp) rfl rfl 50 rfl
                      exact wk.does_run (by simp only [execOp]; rw [show E (.tmp 50) = _ from e50]; go_simp) rfl
                    ·
                      have ho2 := (Array.getElem?_eq_some_iff.1 ho).2
                      simp only [List.getElem_toArray, List.getElem_cons_succ, List.getElem_cons_zero] at ho2
                      subst ho2
                      clear ho
                      have e51 := D.is { on := 30, ground := .data } (by simp) rfl rfl 51 rfl
                      exact wk.does_load1 rfl e51 (isH_at (H.out.below ((HBEL.out).trans (((Below.refl _ _).drew.trans hb4).mono HBEL.out.size))) HX.out 0 _ rfl) Try.underlying3 rfl rfl
                    ·
                      have ho2 := (Array.getElem?_eq_some_iff.1 ho).2
                      simp only [List.getElem_toArray, List.getElem_cons_succ, List.getElem_cons_zero] at ho2
                      subst ho2
                      clear ho
                      have e47 := D.is { on := 26, ground := .data } (by simp) rfl rfl 47 rfl
                      have e52 := D.is { on := 31, ground := .data } (by simp) rfl rfl 52 rfl
                      refine wk.does_fn (f := 40) (vs := #[.slice (some ⟨b, o, none⟩) k c, .int .i64 x.1]) rfl (D.fn _) (by simp [e47, e52]) (by go_simp) ?_
                      refine (rhasB_calls x.1 _ (isH_take (H.out.below ((HBEL.out).trans (((Below.refl _ _).drew.trans hb4).mono HBEL.out.size))) hkn)).mono ?_
                      rintro e w7 ⟨rfl, hb7⟩
                      exact ⟨_, rfl, hb7, congrArg Value.bool HAS.out⟩
                    ·
                      have ho2 := (Array.getElem?_eq_some_iff.1 ho).2
                      simp only [List.getElem_toArray, List.getElem_cons_succ, List.getElem_cons_zero] at ho2
                      subst ho2
                      clear ho
                      have e44 := D.is { on := 23, ground := .data } (by simp) rfl rfl 44 rfl
                      have e53 := D.is { on := 32, ground := .data } (by simp) rfl rfl 53 rfl
                      exact wk.does_pick rfl e44 e53
                  case hdone =>
                    intro vals w4 hb4 hv
                    have h33 := hv 33 (by omega)
                    clear hv
                    replace h33 : vals 33 = (.bool false) := h33
                    simp only [List.drop_succ_cons, List.drop_zero, wpList, wk.setL, List.setIfInBounds_toArray, List.set_cons_zero, List.set_cons_succ, Nat.zero_add, Nat.reduceAdd, h33]
                    generalize vals 0 = x0
                    generalize vals 1 = x1
                    generalize vals 2 = x2
                    generalize vals 3 = x3
                    generalize vals 4 = x4
                    generalize vals 5 = x5
                    generalize vals 6 = x6
                    generalize vals 7 = x7
                    generalize vals 8 = x8
                    generalize vals 9 = x9
                    generalize vals 10 = x10
                    generalize vals 11 = x11
                    generalize vals 12 = x12
                    generalize vals 13 = x13
                    generalize vals 14 = x14
                    generalize vals 15 = x15
                    generalize vals 16 = x16
                    generalize vals 17 = x17
                    generalize vals 18 = x18
                    generalize vals 19 = x19
                    generalize vals 20 = x20
                    generalize vals 21 = x21
                    generalize vals 22 = x22
                    generalize vals 23 = x23
                    generalize vals 24 = x24
                    generalize vals 25 = x25
                    generalize vals 26 = x26
                    generalize vals 27 = x27
                    generalize vals 28 = x28
                    generalize vals 29 = x29
                    generalize vals 30 = x30
                    generalize vals 31 = x31
                    generalize vals 32 = x32
                    have HB4 := Lib.hid (HBEL.out.trans (((Below.refl _ _).drew.trans hb4).mono HBEL.out.size))
                    clear hb4
                    go_wp2_with fail
                    go_roundg (gk - 1)
                    case measure => have := HK.out; omega
                    case rel => exact ⟨k + 1, by have := HK.out; omega, by go_num, HB4.out, HN.out⟩
        · have HV : Hid (vld l K = true) := vld_all HOK.out (by rw [HL.out]; omega) (by have h := HR.out; rw [show k = l.length by rw [HL.out]; omega] at h; exact h)
          go_wp2_with fail
          go_ret
          exact ⟨by rw [HV.out]; rfl, HBEL.out⟩
end Go.Proofs.Ytckipafciomklaa.bk
/- The law's examples. -/
namespace Go.Proofs.Ytckipafciomklaa.bk

open Go.ChangeShapes Go.WideShapes Go.ChangeAt Go.RowKit

open Go.Proofs.Ytckipafciomklaa.bq Go.Proofs.Ytckipafciomklaa.vk Go.Proofs.Ytckipafciomklaa.wk

set_option linter.unusedVariables false
attribute [local go_sem] Oper.semAt_some
def SH (L : List H) (u : World) (x : Value) : Prop := ∃ A n c, x = .slice A n c ∧ IsH u A n c L
theorem SH.below {L : List H} {w w' : World} {x : Value} (h : SH L w x) (hb : Below w.heap.size w w') : SH L w' x := by
  obtain ⟨A, n, c, e, h⟩ := h; exact ⟨A, n, c, e, h.below hb⟩
theorem sh_new (w : World) (L : List H) (n : Nat) (cells : Array Value) (hn : L.length = n) (h0 : 0 < n) (hm : n ≤ 1000) (hW : ∀ r ∈ L, Wd r) (hc : cells = (fl L).toArray) : SH L (w.alloc (.cells cells 27)) (.slice (some ⟨w.heap.size, 0, none⟩) n n) := by
  refine ⟨_, _, _, rfl, hn, Nat.le_refl _, by omega, fun _ => ⟨w.heap.size, 0, rfl, by rw [size_new]; omega, fun j u hu => ?_⟩, hW, fun h => by cases h⟩
  have h := heap_alloc_new w (.cells cells 27)
  rw [cell_of_row _ _ _ _ _ _ h, hc, Nat.zero_add]
  simpa using hu
set_option maxRecDepth 100000 in
set_option maxHeartbeats 4000000 in
theorem hit_calls (id key : Int) (w : World) : Calls Try.prog 35 #[.int .i64 id, .int .i64 key] w fun e w' => e = .returned (.agg #[.int .i64 id, .int .i64 1, .int .i64 key]) ∧ Below w.heap.size w w' := by
  have HB := Lib.hid (below_new w (.cells #[.int .i64 id, .int .i64 1, .int .i64 key] 27))
  go_enter Try.func35, Try.ntmps35
  go_wp2_with fail
  exact bodyPost_ret (v := .agg #[.int .i64 id, .int .i64 1, .int .i64 key]) (results_cell_row (fn := Try.f35) rfl _ _ w.heap.size 27 #[.int .i64 id, .int .i64 1, .int .i64 key] (0, 0) _ rfl (heap_alloc_new _ _) Try.underlying27 rfl (by kernel_rfl)) rfl ⟨rfl, HB.out⟩
theorem cOf {L L' : List H} {v : Value} (k : Int) (w : World) (h : SH L w v) (hl : L.length ≤ 100) (e : ofL L k.toNat = L') : Calls Try.prog 18 #[v, .int .i64 k] w fun e w' => ∃ v', e = .returned v' ∧ SH L' w' v' ∧ Below w.heap.size w w' := by
  obtain ⟨A, n, c, rfl, h⟩ := h
  refine (of_calls k w h (by have := h.1; omega)).mono ?_
  rintro e' w' ⟨A', n', c', rfl, h', hb⟩
  exact ⟨_, rfl, ⟨_, _, _, rfl, e ▸ h'⟩, hb⟩
theorem cMerge {a b L' : List H} {v v' : Value} (k : Int) (w : World) (h : SH a w v) (h' : SH b w v') (hl : a.length + b.length ≤ 100) (e : mergeL a b k.toNat = L') : Calls Try.prog 25 #[v, v', .int .i64 k] w fun e w' => ∃ v', e = .returned v' ∧ SH L' w' v' ∧ Below w.heap.size w w' := by
  obtain ⟨A, n, c, rfl, h⟩ := h
  obtain ⟨A2, n2, c2, rfl, h'⟩ := h'
  refine (merge2_calls k w h h' (by have := h.1; have := h'.1; omega)).mono ?_
  rintro e' w' ⟨A', n', c', rfl, h', hb⟩
  exact ⟨_, rfl, ⟨_, _, _, rfl, e ▸ h'⟩, hb⟩
theorem cPut {a L' : List H} {x : H} {v : Value} (k : Int) (w : World) (h : SH a w v) (hx : Wd x) (hl : a.length ≤ 100) (e : mergeL a [x] k.toNat = L') : Calls Try.prog 21 #[v, .int .i64 k, agg x] w fun e w' => ∃ v', e = .returned v' ∧ SH L' w' v' ∧ Below w.heap.size w w' := by
  obtain ⟨A, n, c, rfl, h⟩ := h
  refine (put_calls k w h hx (by have := h.1; omega)).mono ?_
  rintro e' w' ⟨A', n', c', rfl, h', hb⟩
  exact ⟨_, rfl, ⟨_, _, _, rfl, e ▸ h'⟩, hb⟩
theorem cEnters {a : List H} {x : H} {v : Value} {r : Bool} (k : Int) (w : World) (h : SH a w v) (hx : Wd x) (hl : a.length ≤ 100) (e : (!(a == mergeL a [x] k.toNat)) = r) : Calls Try.prog 23 #[v, .int .i64 k, agg x] w fun e w' => e = .returned (.bool r) ∧ Below w.heap.size w w' := by
  obtain ⟨A, n, c, rfl, h⟩ := h
  rw [← e]
  exact enters_calls k w h hx (by have := h.1; omega)
theorem cSame {a b : List H} {v v' : Value} {r : Bool} (w : World) (h : SH a w v) (h' : SH b w v') (e : (a == b) = r) : Calls Try.prog 17 #[v, v'] w fun e w' => e = .returned (.bool r) ∧ Below w.heap.size w w' := by
  obtain ⟨A, n, c, rfl, h⟩ := h
  obtain ⟨A2, n2, c2, rfl, h'⟩ := h'
  rw [← e]
  refine (rsame_calls w h h').mono ?_
  rintro e' w' ⟨rfl, q, rfl⟩
  exact ⟨rfl, ⟨rfl, rfl, rfl, Nat.le_refl _, fun k hk => rfl⟩⟩
theorem cWorst {a : List H} {v : Value} {r : Int} (k : Int) (w : World) (h : SH a w v) (hp : ∀ x ∈ a, 0 ≤ x.2.2) (e : worst a k = r) : Calls Try.prog 27 #[v, .int .i64 k] w fun e w' => e = .returned (.int .i64 r) ∧ w' = w := by
  obtain ⟨A, n, c, rfl, h⟩ := h
  rw [← e]
  exact worst_calls k w h hp
theorem cCommon {a b : List H} {v v' : Value} {r : Int} (w : World) (h : SH a w v) (h' : SH b w v') (hl : a.length + b.length ≤ 100) (e : com a b = r) : Calls Try.prog 29 #[v, v'] w fun e w' => e = .returned (.int .i64 r) ∧ Below w.heap.size w w' := by
  obtain ⟨A, n, c, rfl, h⟩ := h
  obtain ⟨A2, n2, c2, rfl, h'⟩ := h'
  rw [← e]
  exact common_calls w h h' (by have := h.1; have := h'.1; omega)
theorem cValid {a : List H} {v : Value} {r : Bool} (k : Int) (w : World) (h : SH a w v) (hl : a.length ≤ 1000) (e : vld a k = r) : Calls Try.prog 11 #[v, .int .i64 k] w fun e w' => e = .returned (.bool r) ∧ Below w.heap.size w w' := by
  obtain ⟨A, n, c, rfl, h⟩ := h
  rw [← e]
  exact valid_calls k w h (by have := h.1; omega)
theorem cLess {x y : H} {r : Bool} (w : World) (e : lt x y = r) : Calls Try.prog 13 #[agg x, agg y] w fun e w' => e = .returned (.bool r) ∧ Below w.heap.size w w' := by
  rw [← e]
  exact less_calls x y w
def SB (l : List UInt8) (u : World) (x : Value) : Prop := ∃ A n c, x = .slice A n c ∧ wo.IsB u A n c l
theorem SB.below {l : List UInt8} {w w' : World} {x : Value} (h : SB l w x) (hb : Below w.heap.size w w') : SB l w' x := by
  obtain ⟨A, n, c, e, h⟩ := h; exact ⟨A, n, c, e, h.1, h.2.1, h.2.2.1, wk.RB.below h.2.2.2 hb⟩
theorem cEncode {a : List H} {v : Value} (w : World) (h : SH a w v) (hl : a.length ≤ 100) : Calls Try.prog 33 #[v] w fun e w' => ∃ v', e = .returned v' ∧ SB (wp.encIs (nums a)) w' v' ∧ Below w.heap.size w w' := by
  obtain ⟨A, n, c, rfl, h⟩ := h
  refine (encode_calls w h (by have := h.1; omega)).mono ?_
  rintro e' w' ⟨A', c', rfl, h', hb⟩
  exact ⟨_, rfl, ⟨_, _, _, rfl, h'⟩, hb⟩
theorem cDecode {b : List UInt8} {v : Value} {L : List H} {r : Int} (k : Int) (w : World) (h : SB b w v) (hl : b.length ≤ 1000) (e : decR b k = (L, r)) : Calls Try.prog 31 #[v, .int .i64 k] w fun e w' => ∃ v', e = .returned (.tuple #[v', .int .i64 r]) ∧ SH L w' v' ∧ Below w.heap.size w w' := by
  obtain ⟨A, n, c, rfl, h⟩ := h
  refine (decode_calls k w h (by have := h.1; omega)).mono ?_
  rintro e' w' ⟨A', n', c', rfl, h', hb⟩
  rw [e] at h' ⊢
  exact ⟨_, rfl, ⟨_, _, _, rfl, h'⟩, hb⟩
theorem x1 : ofL [(5, 1, 9), (3, 1, 4), (7, 1, 9), (3, 1, 2)] (2 : Int).toNat = [(3, 1, 2), (5, 1, 9)] := by decide
theorem x2 : mergeL [(3, 1, 2), (5, 1, 9)] [(4, 1, 9)] (2 : Int).toNat = [(3, 1, 2), (4, 1, 9)] := by
  rw [mergeL_eq (by unfold Lst Asc Dst; decide) (lst_one _)]; decide
theorem x3 : worst [(3, 1, 2), (5, 1, 9)] 2 = 8 := by decide
theorem x4 : worst [(3, 1, 2), (5, 1, 9)] 3 = 134217728 := by decide
theorem x5 : mergeL [(1, 1, 1), (2, 1, 5)] [(2, 1, 5), (9, 1, 6)] (3 : Int).toNat = [(1, 1, 1), (2, 1, 5), (9, 1, 6)] := by
  rw [mergeL_eq (by unfold Lst Asc Dst; decide) (by unfold Lst Asc Dst; decide)]; decide
theorem x6 : com [(1, 1, 1), (2, 1, 5)] [(2, 1, 5), (9, 1, 6)] = 1 := by decide
theorem decR_enc {l : List H} (k : Int) (hW : ∀ r ∈ l, Wd r) (hl : l.length ≤ 300) : decR (wp.encIs (nums l)) k = if vld l k then (l, 0) else ([], 3) := by
  have h := vq.getL_enc (nums_bd hW) (by rw [nums_length]; omega)
  unfold decR
  rw [h]
  dsimp only
  rw [if_neg (by simp), if_neg (by omega), if_neg (by rw [nums_length]; omega), hits_nums]
theorem x8 : vld [(1, 1, 1), (2, 1, 5)] 2 = true := by decide
theorem x13 : (wp.encIs (nums [(1, 1, 1), (2, 1, 5)])).length ≤ 1000 := by
  have := vq.encIs_length (nums [(1, 1, 1), (2, 1, 5)]) (nums_bd (by simp [Wd, I64])) (by simp [nums_length])
  rw [nums_length] at this
  simp at this
  omega
theorem x7 : decR (wp.encIs (nums [(1, 1, 1), (2, 1, 5)])) 2 = ([(1, 1, 1), (2, 1, 5)], 0) := by
  rw [decR_enc 2 (by simp [Wd, I64]) (by simp), x8]; rfl
theorem x9 : vld [(1, 1, 1), (2, 1, 5)] 1 = false := by decide
theorem x10 : (!([((3 : Int), (1 : Int), (2 : Int)), (5, 1, 9)] == mergeL [(3, 1, 2), (5, 1, 9)] [(4, 1, 9)] (2 : Int).toNat)) = true := by
  rw [x2]; decide
theorem x11 : (!([((3 : Int), (1 : Int), (2 : Int)), (5, 1, 9)] == mergeL [(3, 1, 2), (5, 1, 9)] [(6, 1, 9)] (2 : Int).toNat)) = false := by
  rw [mergeL_eq (by unfold Lst Asc Dst; decide) (lst_one _)]; decide
theorem x12 : lt (1, 1, 1) (2, 1, 5) = true := by decide
end Go.Proofs.Ytckipafciomklaa.bk
/- The law's sanity. -/
namespace Go.Proofs.Ytckipafciomklaa.bk

open Go.ChangeShapes Go.WideShapes Go.ChangeAt Go.RowKit

open Go.Proofs.Ytckipafciomklaa.bq Go.Proofs.Ytckipafciomklaa.vk Go.Proofs.Ytckipafciomklaa.wk

set_option linter.unusedVariables false
attribute [local go_sem] Oper.semAt_some
set_option maxRecDepth 100000 in
set_option maxHeartbeats 4000000 in
theorem san10_calls (w : World) : Calls Try.prog 10 #[] w fun e w' => e = .returned (.bool true) ∧ Below w.heap.size w w' := by
  have HB : Hid (Below w.heap.size w w) := Below.refl _ _
  go_enter Try.func10, Try.ntmps10
  go_wp2_with fail
  refine (hit_calls 5 9 _).mono ?_
  rintro e w1 ⟨rfl, hb1⟩
  replace HB := Lib.hid (HB.out.trans (hb1.mono HB.out.size))
  clear hb1
  go_wp2_with fail
  refine (hit_calls 3 4 _).mono ?_
  rintro e w2 ⟨rfl, hb2⟩
  replace HB := Lib.hid (HB.out.trans (hb2.mono HB.out.size))
  clear hb2
  go_wp2_with fail
  refine (hit_calls 7 9 _).mono ?_
  rintro e w3 ⟨rfl, hb3⟩
  replace HB := Lib.hid (HB.out.trans (hb3.mono HB.out.size))
  clear hb3
  go_wp2_with fail
  refine (hit_calls 3 2 _).mono ?_
  rintro e w4 ⟨rfl, hb4⟩
  replace HB := Lib.hid (HB.out.trans (hb4.mono HB.out.size))
  clear hb4
  go_wp2_with fail
  refine (cOf 2 _ (sh_new _ [(5, 1, 9), (3, 1, 4), (7, 1, 9), (3, 1, 2)] 4 _ rfl (by decide) (by decide) (by simp [Wd, I64]) rfl) (by decide) x1).mono ?_
  rintro e w5 ⟨v1, rfl, hs1, hb5⟩
  replace HB := Lib.hid (HB.out.trans (((below_new w4 _).trans (hb5.mono (below_new w4 _).size)).mono HB.out.size))
  have HS1 := Lib.hid hs1
  clear hb5 hs1
  go_wp2_with fail
  refine (hit_calls 3 2 _).mono ?_
  rintro e w6 ⟨rfl, hb6⟩
  replace HS1 := Lib.hid (HS1.out.below hb6)
  replace HB := Lib.hid (HB.out.trans (hb6.mono HB.out.size))
  clear hb6
  go_wp2_with fail
  refine (hit_calls 5 9 _).mono ?_
  rintro e w7 ⟨rfl, hb7⟩
  replace HS1 := Lib.hid (HS1.out.below hb7)
  replace HB := Lib.hid (HB.out.trans (hb7.mono HB.out.size))
  clear hb7
  go_wp2_with fail
  refine (cSame _ (HS1.out.below (below_new _ _)) (sh_new _ [(3, 1, 2), (5, 1, 9)] 2 _ rfl (by decide) (by decide) (by simp [Wd, I64]) rfl) (by decide : _ = true)).mono ?_
  rintro e w8 ⟨rfl, hb8⟩
  replace HS1 := Lib.hid (HS1.out.below ((below_new w7 _).trans (hb8.mono (below_new w7 _).size)))
  replace HB := Lib.hid (HB.out.trans (((below_new w7 _).trans (hb8.mono (below_new w7 _).size)).mono HB.out.size))
  clear hb8
  go_wp2_with fail
  refine (hit_calls 4 9 _).mono ?_
  rintro e w9 ⟨rfl, hb9⟩
  replace HS1 := Lib.hid (HS1.out.below hb9)
  replace HB := Lib.hid (HB.out.trans (hb9.mono HB.out.size))
  clear hb9
  go_wp2_with fail
  refine (cPut (x := (4, 1, 9)) 2 _ HS1.out (by simp [Wd, I64]) (by decide) x2).mono ?_
  rintro e w10 ⟨v2, rfl, hs2, hb10⟩
  replace HS1 := Lib.hid (HS1.out.below hb10)
  replace HB := Lib.hid (HB.out.trans (hb10.mono HB.out.size))
  have HS2 := Lib.hid hs2
  clear hb10 hs2
  go_wp2_with fail
  refine (hit_calls 3 2 _).mono ?_
  rintro e w11 ⟨rfl, hb11⟩
  replace HS1 := Lib.hid (HS1.out.below hb11)
  replace HS2 := Lib.hid (HS2.out.below hb11)
  replace HB := Lib.hid (HB.out.trans (hb11.mono HB.out.size))
  clear hb11
  go_wp2_with fail
  refine (hit_calls 4 9 _).mono ?_
  rintro e w12 ⟨rfl, hb12⟩
  replace HS1 := Lib.hid (HS1.out.below hb12)
  replace HS2 := Lib.hid (HS2.out.below hb12)
  replace HB := Lib.hid (HB.out.trans (hb12.mono HB.out.size))
  clear hb12
  go_wp2_with fail
  refine (cSame _ (HS2.out.below (below_new _ _)) (sh_new _ [(3, 1, 2), (4, 1, 9)] 2 _ rfl (by decide) (by decide) (by simp [Wd, I64]) rfl) (by decide : _ = true)).mono ?_
  rintro e w13 ⟨rfl, hb13⟩
  replace HS1 := Lib.hid (HS1.out.below ((below_new w12 _).trans (hb13.mono (below_new w12 _).size)))
  replace HS2 := Lib.hid (HS2.out.below ((below_new w12 _).trans (hb13.mono (below_new w12 _).size)))
  replace HB := Lib.hid (HB.out.trans (((below_new w12 _).trans (hb13.mono (below_new w12 _).size)).mono HB.out.size))
  clear hb13
  go_wp2_with fail
  refine (cWorst 2 _ HS1.out (by decide) x3).mono ?_
  rintro e wx ⟨rfl, hwx⟩
  rw [hwx]
  clear hwx wx
  go_wp2_with fail
  refine (cWorst 3 _ HS1.out (by decide) x4).mono ?_
  rintro e wx ⟨rfl, hwx⟩
  rw [hwx]
  clear hwx wx
  go_wp2_with fail
  refine (hit_calls 1 1 _).mono ?_
  rintro e w14 ⟨rfl, hb14⟩
  replace HS1 := Lib.hid (HS1.out.below hb14)
  replace HS2 := Lib.hid (HS2.out.below hb14)
  replace HB := Lib.hid (HB.out.trans (hb14.mono HB.out.size))
  clear hb14
  go_wp2_with fail
  refine (hit_calls 2 5 _).mono ?_
  rintro e w15 ⟨rfl, hb15⟩
  replace HS1 := Lib.hid (HS1.out.below hb15)
  replace HS2 := Lib.hid (HS2.out.below hb15)
  replace HB := Lib.hid (HB.out.trans (hb15.mono HB.out.size))
  clear hb15
  go_wp2_with fail
  refine (hit_calls 2 5 _).mono ?_
  rintro e w16 ⟨rfl, hb16⟩
  replace HS1 := Lib.hid (HS1.out.below ((below_new w15 _).trans (hb16.mono (below_new w15 _).size)))
  replace HS2 := Lib.hid (HS2.out.below ((below_new w15 _).trans (hb16.mono (below_new w15 _).size)))
  have HA := Lib.hid ((sh_new w15 [(1, 1, 1), (2, 1, 5)] 2 _ rfl (by decide) (by decide) (by simp [Wd, I64]) rfl).below hb16)
  replace HB := Lib.hid (HB.out.trans (((below_new w15 _).trans (hb16.mono (below_new w15 _).size)).mono HB.out.size))
  clear hb16
  go_wp2_with fail
  refine (hit_calls 9 6 _).mono ?_
  rintro e w17 ⟨rfl, hb17⟩
  replace HS1 := Lib.hid (HS1.out.below hb17)
  replace HS2 := Lib.hid (HS2.out.below hb17)
  replace HA := Lib.hid (HA.out.below hb17)
  replace HB := Lib.hid (HB.out.trans (hb17.mono HB.out.size))
  clear hb17
  go_wp2_with fail
  refine (cMerge 3 _ (HA.out.below (below_new _ _)) (sh_new _ [(2, 1, 5), (9, 1, 6)] 2 _ rfl (by decide) (by decide) (by simp [Wd, I64]) rfl) (by decide) x5).mono ?_
  rintro e w18 ⟨v5, rfl, hs5, hb18⟩
  replace HS1 := Lib.hid (HS1.out.below ((below_new w17 _).trans (hb18.mono (below_new w17 _).size)))
  replace HS2 := Lib.hid (HS2.out.below ((below_new w17 _).trans (hb18.mono (below_new w17 _).size)))
  replace HA := Lib.hid (HA.out.below ((below_new w17 _).trans (hb18.mono (below_new w17 _).size)))
  have HBB := Lib.hid ((sh_new w17 [(2, 1, 5), (9, 1, 6)] 2 _ rfl (by decide) (by decide) (by simp [Wd, I64]) rfl).below hb18)
  replace HB := Lib.hid (HB.out.trans (((below_new w17 _).trans (hb18.mono (below_new w17 _).size)).mono HB.out.size))
  have HS5 := Lib.hid hs5
  clear hb18 hs5
  go_wp2_with fail
  refine (hit_calls 1 1 _).mono ?_
  rintro e w19 ⟨rfl, hb19⟩
  replace HS1 := Lib.hid (HS1.out.below hb19)
  replace HS2 := Lib.hid (HS2.out.below hb19)
  replace HA := Lib.hid (HA.out.below hb19)
  replace HBB := Lib.hid (HBB.out.below hb19)
  replace HS5 := Lib.hid (HS5.out.below hb19)
  replace HB := Lib.hid (HB.out.trans (hb19.mono HB.out.size))
  clear hb19
  go_wp2_with fail
  refine (hit_calls 2 5 _).mono ?_
  rintro e w20 ⟨rfl, hb20⟩
  replace HS1 := Lib.hid (HS1.out.below hb20)
  replace HS2 := Lib.hid (HS2.out.below hb20)
  replace HA := Lib.hid (HA.out.below hb20)
  replace HBB := Lib.hid (HBB.out.below hb20)
  replace HS5 := Lib.hid (HS5.out.below hb20)
  replace HB := Lib.hid (HB.out.trans (hb20.mono HB.out.size))
  clear hb20
  go_wp2_with fail
  refine (hit_calls 9 6 _).mono ?_
  rintro e w21 ⟨rfl, hb21⟩
  replace HS1 := Lib.hid (HS1.out.below hb21)
  replace HS2 := Lib.hid (HS2.out.below hb21)
  replace HA := Lib.hid (HA.out.below hb21)
  replace HBB := Lib.hid (HBB.out.below hb21)
  replace HS5 := Lib.hid (HS5.out.below hb21)
  replace HB := Lib.hid (HB.out.trans (hb21.mono HB.out.size))
  clear hb21
  go_wp2_with fail
  refine (cSame _ (HS5.out.below (below_new _ _)) (sh_new _ [(1, 1, 1), (2, 1, 5), (9, 1, 6)] 3 _ rfl (by decide) (by decide) (by simp [Wd, I64]) rfl) (by decide : _ = true)).mono ?_
  rintro e w22 ⟨rfl, hb22⟩
  replace HS1 := Lib.hid (HS1.out.below ((below_new w21 _).trans (hb22.mono (below_new w21 _).size)))
  replace HS2 := Lib.hid (HS2.out.below ((below_new w21 _).trans (hb22.mono (below_new w21 _).size)))
  replace HA := Lib.hid (HA.out.below ((below_new w21 _).trans (hb22.mono (below_new w21 _).size)))
  replace HBB := Lib.hid (HBB.out.below ((below_new w21 _).trans (hb22.mono (below_new w21 _).size)))
  replace HS5 := Lib.hid (HS5.out.below ((below_new w21 _).trans (hb22.mono (below_new w21 _).size)))
  replace HB := Lib.hid (HB.out.trans (((below_new w21 _).trans (hb22.mono (below_new w21 _).size)).mono HB.out.size))
  clear hb22
  go_wp2_with fail
  refine (cCommon _ HA.out HBB.out (by decide) x6).mono ?_
  rintro e w23 ⟨rfl, hb23⟩
  replace HS1 := Lib.hid (HS1.out.below hb23)
  replace HS2 := Lib.hid (HS2.out.below hb23)
  replace HA := Lib.hid (HA.out.below hb23)
  replace HBB := Lib.hid (HBB.out.below hb23)
  replace HS5 := Lib.hid (HS5.out.below hb23)
  replace HB := Lib.hid (HB.out.trans (hb23.mono HB.out.size))
  clear hb23
  go_wp2_with fail
  refine (cEncode _ HA.out (by decide)).mono ?_
  rintro e w24 ⟨v6, rfl, hs6, hb24⟩
  replace HS1 := Lib.hid (HS1.out.below hb24)
  replace HS2 := Lib.hid (HS2.out.below hb24)
  replace HA := Lib.hid (HA.out.below hb24)
  replace HBB := Lib.hid (HBB.out.below hb24)
  replace HS5 := Lib.hid (HS5.out.below hb24)
  replace HB := Lib.hid (HB.out.trans (hb24.mono HB.out.size))
  have HS6 := Lib.hid hs6
  clear hb24 hs6
  go_wp2_with fail
  refine (cDecode 2 _ HS6.out x13 x7).mono ?_
  rintro e w25 ⟨v7, rfl, hs7, hb25⟩
  replace HS1 := Lib.hid (HS1.out.below hb25)
  replace HS2 := Lib.hid (HS2.out.below hb25)
  replace HA := Lib.hid (HA.out.below hb25)
  replace HBB := Lib.hid (HBB.out.below hb25)
  replace HS5 := Lib.hid (HS5.out.below hb25)
  replace HS6 := Lib.hid (HS6.out.below hb25)
  replace HB := Lib.hid (HB.out.trans (hb25.mono HB.out.size))
  have HS7 := Lib.hid hs7
  clear hb25 hs7
  go_wp2_with fail
  have HP0 : Hid (∀ w' : World, Below w25.heap.size w25 w' → ∀ j u, (rv (1, 1, 1))[j]? = some u → w'.cell? ((⟨w15.heap.size, 0, none⟩ : Addr).add j) = some u) := fun w' hb => by
    obtain ⟨A, n, c, e, h⟩ := HA.out.below hb
    cases e
    have := isH_at (k := 0) (x := (1, 1, 1)) h rfl
    simpa using this
  have HP1 : Hid (∀ w' : World, Below w25.heap.size w25 w' → ∀ j u, (rv (2, 1, 5))[j]? = some u → w'.cell? ((⟨w15.heap.size, 3, none⟩ : Addr).add j) = some u) := fun w' hb => by
    obtain ⟨A, n, c, e, h⟩ := HA.out.below hb
    cases e
    have := isH_at (k := 1) (x := (2, 1, 5)) h rfl
    simpa using this
  refine wk.region_tailS 43 [.is (.bool true), .is (.bool true), .is (.bool true), .is (.bool true), .is (.bool true), .is (.int .i64 0), .is (.bool true), .is (.bool true), .is (.bool true), .is (v7), .is (.slice (some ⟨w15.heap.size, 0, none⟩) 2 2), .is (.bool true), .is (.bool true), .is (.bool true), .is (.slice (some ⟨w15.heap.size, 0, none⟩) 2 2), .is (.bool true), .is (.bool true), .is (.bool true), .is (.slice (some ⟨w15.heap.size, 0, none⟩) 2 2), .is (.bool false), .is (.bool true), .is (.bool true), .is (.bool true), .is (v1), .is (.agg #[.int .i64 4, .int .i64 1, .int .i64 9]), .is (.bool true), .is (.bool true), .is (.bool true), .is (v1), .is (.agg #[.int .i64 6, .int .i64 1, .int .i64 9]), .is (.bool false), .is (.bool true), .is (.bool true), .is (.bool true), .is (.slice (some ⟨w15.heap.size, 0, none⟩) 2 2), .is (.pointer (some ⟨w15.heap.size, 0, none⟩)), .is (.agg #[.int .i64 1, .int .i64 1, .int .i64 1]), .is (.slice (some ⟨w15.heap.size, 0, none⟩) 2 2), .is (.pointer (some ⟨w15.heap.size, 3, none⟩)), .is (.agg #[.int .i64 2, .int .i64 1, .int .i64 5]), .is (.bool true), .is (.bool true), .is (.bool true)] [some 64, some 65, some 66, some 67, some 68, some 69, some 70, some 71, some 72, some 73, some 74, some 75, some 76, some 77, some 78, some 79, some 80, some 81, some 82, some 83, some 84, some 85, some 86, some 87, some 88, some 89, some 90, some 91, some 92, some 93, some 94, some 95, some 96, some 97, some 98, some 99, some 100, some 101, some 102, some 103, some 104, some 105, some 0] (by kernel_rfl) (by kernel_rfl) (by kernel_rfl) (by kernel_rfl) [] (by kernel_rfl) (by intro p hp; cases hp) (by kernel_rfl) (by kernel_rfl) ?hstep ?hdone
  case hstep =>
    intro i o ho hi hns E w4 hb4 D
    have hi2 : i = 0 ∨ i = 1 ∨ i = 2 ∨ i = 3 ∨ i = 4 ∨ i = 5 ∨ i = 6 ∨ i = 7 ∨ i = 8 ∨ i = 9 ∨ i = 10 ∨ i = 11 ∨ i = 12 ∨ i = 13 ∨ i = 14 ∨ i = 15 ∨ i = 16 ∨ i = 17 ∨ i = 18 ∨ i = 19 ∨ i = 20 ∨ i = 21 ∨ i = 22 ∨ i = 23 ∨ i = 24 ∨ i = 25 ∨ i = 26 ∨ i = 27 ∨ i = 28 ∨ i = 29 ∨ i = 30 ∨ i = 31 ∨ i = 32 ∨ i = 33 ∨ i = 34 ∨ i = 35 ∨ i = 36 ∨ i = 37 ∨ i = 38 ∨ i = 39 ∨ i = 40 ∨ i = 41 ∨ i = 42 := by omega
    clear hi
    rcases hi2 with rfl | rfl | rfl | rfl | rfl | rfl | rfl | rfl | rfl | rfl | rfl | rfl | rfl | rfl | rfl | rfl | rfl | rfl | rfl | rfl | rfl | rfl | rfl | rfl | rfl | rfl | rfl | rfl | rfl | rfl | rfl | rfl | rfl | rfl | rfl | rfl | rfl | rfl | rfl | rfl | rfl | rfl | rfl
    ·
      have ho2 := (Array.getElem?_eq_some_iff.1 ho).2
      simp only [List.getElem_toArray, List.getElem_cons_zero] at ho2
      subst ho2
      clear ho
      have e2 := D.old 2 (by kernel_rfl)
      exact wk.does_move rfl (by rw [e2]; rfl)
    ·
      have ho2 := (Array.getElem?_eq_some_iff.1 ho).2
      simp only [List.getElem_toArray, List.getElem_cons_succ, List.getElem_cons_zero] at ho2
      subst ho2
      clear ho
      have e64 := D.is { on := 0, ground := .data } (by simp) rfl rfl 64 rfl
      exact wk.does_move rfl e64
    ·
      have ho2 := (Array.getElem?_eq_some_iff.1 ho).2
      simp only [List.getElem_toArray, List.getElem_cons_succ, List.getElem_cons_zero] at ho2
      subst ho2
      clear ho
      have e5 := D.old 5 (by kernel_rfl)
      exact wk.does_move rfl (by rw [e5]; rfl)
    ·
      have ho2 := (Array.getElem?_eq_some_iff.1 ho).2
      simp only [List.getElem_toArray, List.getElem_cons_succ, List.getElem_cons_zero] at ho2
      subst ho2
      clear ho
      have e65 := D.is { on := 1, ground := .data } (by simp) rfl rfl 65 rfl
      have e66 := D.is { on := 2, ground := .data } (by simp) rfl rfl 66 rfl
      exact wk.does_pick rfl e65 e66
    ·
      have ho2 := (Array.getElem?_eq_some_iff.1 ho).2
      simp only [List.getElem_toArray, List.getElem_cons_succ, List.getElem_cons_zero] at ho2
      subst ho2
      clear ho
      have e67 := D.is { on := 3, ground := .data } (by simp) rfl rfl 67 rfl
      exact wk.does_move rfl e67
    ·
      have ho2 := (Array.getElem?_eq_some_iff.1 ho).2
      simp only [List.getElem_toArray, List.getElem_cons_succ, List.getElem_cons_zero] at ho2
      subst ho2
      clear ho
      have e7 := D.old 7 (by kernel_rfl)
      exact wk.does_move rfl (by rw [e7]; rfl)
    ·
      have ho2 := (Array.getElem?_eq_some_iff.1 ho).2
      simp only [List.getElem_toArray, List.getElem_cons_succ, List.getElem_cons_zero] at ho2
      subst ho2
      clear ho
      have e69 := D.is { on := 5, ground := .data } (by simp) rfl rfl 69 rfl
      exact wk.does_run (by simp only [execOp]; rw [show E (.tmp 69) = _ from e69, show E (.const (.int .i64 0)) = .int .i64 0 from D.con _]; go_simp) rfl
    ·
      have ho2 := (Array.getElem?_eq_some_iff.1 ho).2
      simp only [List.getElem_toArray, List.getElem_cons_succ, List.getElem_cons_zero] at ho2
      subst ho2
      clear ho
      have e68 := D.is { on := 4, ground := .data } (by simp) rfl rfl 68 rfl
      have e70 := D.is { on := 6, ground := .data } (by simp) rfl rfl 70 rfl
      exact wk.does_pick rfl e68 e70
    ·
      have ho2 := (Array.getElem?_eq_some_iff.1 ho).2
      simp only [List.getElem_toArray, List.getElem_cons_succ, List.getElem_cons_zero] at ho2
      subst ho2
      clear ho
      have e71 := D.is { on := 7, ground := .data } (by simp) rfl rfl 71 rfl
      exact wk.does_move rfl e71
    ·
      have ho2 := (Array.getElem?_eq_some_iff.1 ho).2
      simp only [List.getElem_toArray, List.getElem_cons_succ, List.getElem_cons_zero] at ho2
      subst ho2
      clear ho
      have e6 := D.old 6 (by kernel_rfl)
      exact wk.does_move rfl (by rw [e6]; rfl)
    ·
      have ho2 := (Array.getElem?_eq_some_iff.1 ho).2
      simp only [List.getElem_toArray, List.getElem_cons_succ, List.getElem_cons_zero] at ho2
      subst ho2
      clear ho
      have e3 := D.old 3 (by kernel_rfl)
      exact wk.does_move rfl (by rw [e3]; rfl)
    ·
      have ho2 := (Array.getElem?_eq_some_iff.1 ho).2
      simp only [List.getElem_toArray, List.getElem_cons_succ, List.getElem_cons_zero] at ho2
      subst ho2
      clear ho
      have e73 := D.is { on := 9, ground := .data } (by simp) rfl rfl 73 rfl
      have e74 := D.is { on := 10, ground := .data } (by simp) rfl rfl 74 rfl
      refine wk.does_fn (f := 17) (vs := #[v7, .slice (some ⟨w15.heap.size, 0, none⟩) 2 2]) rfl (D.fn _) (by simp [e73, e74]) (by go_simp) ?_
      refine (cSame _ (HS7.out.below ((Below.refl _ _).drew.trans hb4)) (HA.out.below ((Below.refl _ _).drew.trans hb4)) (by decide : _ = true)).mono ?_
      rintro e w7 ⟨rfl, hb7⟩
      exact ⟨_, rfl, hb7, rfl⟩
    ·
      have ho2 := (Array.getElem?_eq_some_iff.1 ho).2
      simp only [List.getElem_toArray, List.getElem_cons_succ, List.getElem_cons_zero] at ho2
      subst ho2
      clear ho
      have e72 := D.is { on := 8, ground := .data } (by simp) rfl rfl 72 rfl
      have e75 := D.is { on := 11, ground := .data } (by simp) rfl rfl 75 rfl
      exact wk.does_pick rfl e72 e75
    ·
      have ho2 := (Array.getElem?_eq_some_iff.1 ho).2
      simp only [List.getElem_toArray, List.getElem_cons_succ, List.getElem_cons_zero] at ho2
      subst ho2
      clear ho
      have e76 := D.is { on := 12, ground := .data } (by simp) rfl rfl 76 rfl
      exact wk.does_move rfl e76
    ·
      have ho2 := (Array.getElem?_eq_some_iff.1 ho).2
      simp only [List.getElem_toArray, List.getElem_cons_succ, List.getElem_cons_zero] at ho2
      subst ho2
      clear ho
      have e3 := D.old 3 (by kernel_rfl)
      exact wk.does_move rfl (by rw [e3]; rfl)
    ·
      have ho2 := (Array.getElem?_eq_some_iff.1 ho).2
      simp only [List.getElem_toArray, List.getElem_cons_succ, List.getElem_cons_zero] at ho2
      subst ho2
      clear ho
      have e78 := D.is { on := 14, ground := .data } (by simp) rfl rfl 78 rfl
      refine wk.does_fn (f := 11) (vs := #[.slice (some ⟨w15.heap.size, 0, none⟩) 2 2, .int .i64 2]) rfl (D.fn _) (by simp [e78, D.con]) (by go_simp) ?_
      refine (cValid 2 _ (HA.out.below ((Below.refl _ _).drew.trans hb4)) (by decide) x8).mono ?_
      rintro e w7 ⟨rfl, hb7⟩
      exact ⟨_, rfl, hb7, rfl⟩
    ·
      have ho2 := (Array.getElem?_eq_some_iff.1 ho).2
      simp only [List.getElem_toArray, List.getElem_cons_succ, List.getElem_cons_zero] at ho2
      subst ho2
      clear ho
      have e77 := D.is { on := 13, ground := .data } (by simp) rfl rfl 77 rfl
      have e79 := D.is { on := 15, ground := .data } (by simp) rfl rfl 79 rfl
      exact wk.does_pick rfl e77 e79
    ·
      have ho2 := (Array.getElem?_eq_some_iff.1 ho).2
      simp only [List.getElem_toArray, List.getElem_cons_succ, List.getElem_cons_zero] at ho2
      subst ho2
      clear ho
      have e80 := D.is { on := 16, ground := .data } (by simp) rfl rfl 80 rfl
      exact wk.does_move rfl e80
    ·
      have ho2 := (Array.getElem?_eq_some_iff.1 ho).2
      simp only [List.getElem_toArray, List.getElem_cons_succ, List.getElem_cons_zero] at ho2
      subst ho2
      clear ho
      have e3 := D.old 3 (by kernel_rfl)
      exact wk.does_move rfl (by rw [e3]; rfl)
    ·
      have ho2 := (Array.getElem?_eq_some_iff.1 ho).2
      simp only [List.getElem_toArray, List.getElem_cons_succ, List.getElem_cons_zero] at ho2
      subst ho2
      clear ho
      have e82 := D.is { on := 18, ground := .data } (by simp) rfl rfl 82 rfl
      refine wk.does_fn (f := 11) (vs := #[.slice (some ⟨w15.heap.size, 0, none⟩) 2 2, .int .i64 1]) rfl (D.fn _) (by simp [e82, D.con]) (by go_simp) ?_
      refine (cValid 1 _ (HA.out.below ((Below.refl _ _).drew.trans hb4)) (by decide) x9).mono ?_
      rintro e w7 ⟨rfl, hb7⟩
      exact ⟨_, rfl, hb7, rfl⟩
    ·
      have ho2 := (Array.getElem?_eq_some_iff.1 ho).2
      simp only [List.getElem_toArray, List.getElem_cons_succ, List.getElem_cons_zero] at ho2
      subst ho2
      clear ho
      have e83 := D.is { on := 19, ground := .data } (by simp) rfl rfl 83 rfl
      exact wk.does_un rfl (by rw [show E (.tmp 83) = _ from e83]; go_simp) rfl
    ·
      have ho2 := (Array.getElem?_eq_some_iff.1 ho).2
      simp only [List.getElem_toArray, List.getElem_cons_succ, List.getElem_cons_zero] at ho2
      subst ho2
      clear ho
      have e81 := D.is { on := 17, ground := .data } (by simp) rfl rfl 81 rfl
      have e84 := D.is { on := 20, ground := .data } (by simp) rfl rfl 84 rfl
      exact wk.does_pick rfl e81 e84
    ·
      have ho2 := (Array.getElem?_eq_some_iff.1 ho).2
      simp only [List.getElem_toArray, List.getElem_cons_succ, List.getElem_cons_zero] at ho2
      subst ho2
      clear ho
      have e85 := D.is { on := 21, ground := .data } (by simp) rfl rfl 85 rfl
      exact wk.does_move rfl e85
    ·
      have ho2 := (Array.getElem?_eq_some_iff.1 ho).2
      simp only [List.getElem_toArray, List.getElem_cons_succ, List.getElem_cons_zero] at ho2
      subst ho2
      clear ho
      have e1 := D.old 1 (by kernel_rfl)
      exact wk.does_move rfl (by rw [e1]; rfl)
    ·
      have ho2 := (Array.getElem?_eq_some_iff.1 ho).2
      simp only [List.getElem_toArray, List.getElem_cons_succ, List.getElem_cons_zero] at ho2
      subst ho2
      clear ho
      refine wk.does_fn (f := 35) (vs := #[.int .i64 4, .int .i64 9]) rfl (D.fn _) (by simp [D.con]) (by go_simp) ?_
      refine (hit_calls 4 9 _).mono ?_
      rintro e w7 ⟨rfl, hb7⟩
      exact ⟨_, rfl, hb7, rfl⟩
    ·
      have ho2 := (Array.getElem?_eq_some_iff.1 ho).2
      simp only [List.getElem_toArray, List.getElem_cons_succ, List.getElem_cons_zero] at ho2
      subst ho2
      clear ho
      have e87 := D.is { on := 23, ground := .data } (by simp) rfl rfl 87 rfl
      have e88 := D.is { on := 24, ground := .data } (by simp) rfl rfl 88 rfl
      refine wk.does_fn (f := 23) (vs := #[v1, .int .i64 2, .agg #[.int .i64 4, .int .i64 1, .int .i64 9]]) rfl (D.fn _) (by simp [e87, e88, D.con]) (by go_simp) ?_
      refine (cEnters (x := (4, 1, 9)) 2 _ (HS1.out.below ((Below.refl _ _).drew.trans hb4)) (by simp [Wd, I64]) (by decide) x10).mono ?_
      rintro e w7 ⟨rfl, hb7⟩
      exact ⟨_, rfl, hb7, rfl⟩
    ·
      have ho2 := (Array.getElem?_eq_some_iff.1 ho).2
      simp only [List.getElem_toArray, List.getElem_cons_succ, List.getElem_cons_zero] at ho2
      subst ho2
      clear ho
      have e86 := D.is { on := 22, ground := .data } (by simp) rfl rfl 86 rfl
      have e89 := D.is { on := 25, ground := .data } (by simp) rfl rfl 89 rfl
      exact wk.does_pick rfl e86 e89
    ·
      have ho2 := (Array.getElem?_eq_some_iff.1 ho).2
      simp only [List.getElem_toArray, List.getElem_cons_succ, List.getElem_cons_zero] at ho2
      subst ho2
      clear ho
      have e90 := D.is { on := 26, ground := .data } (by simp) rfl rfl 90 rfl
      exact wk.does_move rfl e90
    ·
      have ho2 := (Array.getElem?_eq_some_iff.1 ho).2
      simp only [List.getElem_toArray, List.getElem_cons_succ, List.getElem_cons_zero] at ho2
      subst ho2
      clear ho
      have e1 := D.old 1 (by kernel_rfl)
      exact wk.does_move rfl (by rw [e1]; rfl)
    ·
      have ho2 := (Array.getElem?_eq_some_iff.1 ho).2
      simp only [List.getElem_toArray, List.getElem_cons_succ, List.getElem_cons_zero] at ho2
      subst ho2
      clear ho
      refine wk.does_fn (f := 35) (vs := #[.int .i64 6, .int .i64 9]) rfl (D.fn _) (by simp [D.con]) (by go_simp) ?_
      refine (hit_calls 6 9 _).mono ?_
      rintro e w7 ⟨rfl, hb7⟩
      exact ⟨_, rfl, hb7, rfl⟩
    ·
      have ho2 := (Array.getElem?_eq_some_iff.1 ho).2
      simp only [List.getElem_toArray, List.getElem_cons_succ, List.getElem_cons_zero] at ho2
      subst ho2
      clear ho
      have e92 := D.is { on := 28, ground := .data } (by simp) rfl rfl 92 rfl
      have e93 := D.is { on := 29, ground := .data } (by simp) rfl rfl 93 rfl
      refine wk.does_fn (f := 23) (vs := #[v1, .int .i64 2, .agg #[.int .i64 6, .int .i64 1, .int .i64 9]]) rfl (D.fn _) (by simp [e92, e93, D.con]) (by go_simp) ?_
      refine (cEnters (x := (6, 1, 9)) 2 _ (HS1.out.below ((Below.refl _ _).drew.trans hb4)) (by simp [Wd, I64]) (by decide) x11).mono ?_
      rintro e w7 ⟨rfl, hb7⟩
      exact ⟨_, rfl, hb7, rfl⟩
    ·
      have ho2 := (Array.getElem?_eq_some_iff.1 ho).2
      simp only [List.getElem_toArray, List.getElem_cons_succ, List.getElem_cons_zero] at ho2
      subst ho2
      clear ho
      have e94 := D.is { on := 30, ground := .data } (by simp) rfl rfl 94 rfl
      exact wk.does_un rfl (by rw [show E (.tmp 94) = _ from e94]; go_simp) rfl
    ·
      have ho2 := (Array.getElem?_eq_some_iff.1 ho).2
      simp only [List.getElem_toArray, List.getElem_cons_succ, List.getElem_cons_zero] at ho2
      subst ho2
      clear ho
      have e91 := D.is { on := 27, ground := .data } (by simp) rfl rfl 91 rfl
      have e95 := D.is { on := 31, ground := .data } (by simp) rfl rfl 95 rfl
      exact wk.does_pick rfl e91 e95
    ·
      have ho2 := (Array.getElem?_eq_some_iff.1 ho).2
      simp only [List.getElem_toArray, List.getElem_cons_succ, List.getElem_cons_zero] at ho2
      subst ho2
      clear ho
      have e96 := D.is { on := 32, ground := .data } (by simp) rfl rfl 96 rfl
      exact wk.does_move rfl e96
    ·
      have ho2 := (Array.getElem?_eq_some_iff.1 ho).2
      simp only [List.getElem_toArray, List.getElem_cons_succ, List.getElem_cons_zero] at ho2
      subst ho2
      clear ho
      have e3 := D.old 3 (by kernel_rfl)
      exact wk.does_move rfl (by rw [e3]; rfl)
    ·
      have ho2 := (Array.getElem?_eq_some_iff.1 ho).2
      simp only [List.getElem_toArray, List.getElem_cons_succ, List.getElem_cons_zero] at ho2
      subst ho2
      clear ho
      have e98 := D.is { on := 34, ground := .data } (by simp) rfl rfl 98 rfl
      exact wk.does_run (by simp only [execOp]; rw [show E (.tmp 98) = _ from e98, show E (.const (.int .i64 0)) = .int .i64 0 from D.con _]; go_simp; try (intro h0; omega)) rfl
    ·
      have ho2 := (Array.getElem?_eq_some_iff.1 ho).2
      simp only [List.getElem_toArray, List.getElem_cons_succ, List.getElem_cons_zero] at ho2
      subst ho2
      clear ho
      have e99 := D.is { on := 35, ground := .data } (by simp) rfl rfl 99 rfl
      exact wk.does_load_agg rfl e99 (cs := rv (1, 1, 1)) (HP0.out _ ((Below.refl _ _).drew.trans hb4)) Try.underlying27 rfl (by kernel_rfl) rfl
    ·
      have ho2 := (Array.getElem?_eq_some_iff.1 ho).2
      simp only [List.getElem_toArray, List.getElem_cons_succ, List.getElem_cons_zero] at ho2
      subst ho2
      clear ho
      have e3 := D.old 3 (by kernel_rfl)
      exact wk.does_move rfl (by rw [e3]; rfl)
    ·
      have ho2 := (Array.getElem?_eq_some_iff.1 ho).2
      simp only [List.getElem_toArray, List.getElem_cons_succ, List.getElem_cons_zero] at ho2
      subst ho2
      clear ho
      have e101 := D.is { on := 37, ground := .data } (by simp) rfl rfl 101 rfl
      exact wk.does_run (by simp only [execOp]; rw [show E (.tmp 101) = _ from e101, show E (.const (.int .i64 1)) = .int .i64 1 from D.con _]; go_simp; try (intro h0; omega)) rfl
    ·
      have ho2 := (Array.getElem?_eq_some_iff.1 ho).2
      simp only [List.getElem_toArray, List.getElem_cons_succ, List.getElem_cons_zero] at ho2
      subst ho2
      clear ho
      have e102 := D.is { on := 38, ground := .data } (by simp) rfl rfl 102 rfl
      exact wk.does_load_agg rfl e102 (cs := rv (2, 1, 5)) (HP1.out _ ((Below.refl _ _).drew.trans hb4)) Try.underlying27 rfl (by kernel_rfl) rfl
    ·
      have ho2 := (Array.getElem?_eq_some_iff.1 ho).2
      simp only [List.getElem_toArray, List.getElem_cons_succ, List.getElem_cons_zero] at ho2
      subst ho2
      clear ho
      have e100 := D.is { on := 36, ground := .data } (by simp) rfl rfl 100 rfl
      have e103 := D.is { on := 39, ground := .data } (by simp) rfl rfl 103 rfl
      refine wk.does_fn (f := 13) (vs := #[.agg #[.int .i64 1, .int .i64 1, .int .i64 1], .agg #[.int .i64 2, .int .i64 1, .int .i64 5]]) rfl (D.fn _) (by simp [e100, e103]) (by go_simp) ?_
      refine (cLess (x := (1, 1, 1)) (y := (2, 1, 5)) _ x12).mono ?_
      rintro e w7 ⟨rfl, hb7⟩
      exact ⟨_, rfl, hb7, rfl⟩
    ·
      have ho2 := (Array.getElem?_eq_some_iff.1 ho).2
      simp only [List.getElem_toArray, List.getElem_cons_succ, List.getElem_cons_zero] at ho2
      subst ho2
      clear ho
      have e97 := D.is { on := 33, ground := .data } (by simp) rfl rfl 97 rfl
      have e104 := D.is { on := 40, ground := .data } (by simp) rfl rfl 104 rfl
      exact wk.does_pick rfl e97 e104
    ·
      have ho2 := (Array.getElem?_eq_some_iff.1 ho).2
      simp only [List.getElem_toArray, List.getElem_cons_succ, List.getElem_cons_zero] at ho2
      subst ho2
      clear ho
      have e105 := D.is { on := 41, ground := .data } (by simp) rfl rfl 105 rfl
      exact wk.does_assign rfl e105
  case hdone =>
    intro vals w4 hb4 hv
    have h42 := hv 42 (by omega)
    clear hv
    replace h42 : vals 42 = (.bool true) := h42
    simp only [List.drop_succ_cons, List.drop_zero, wpList, wk.setL, List.setIfInBounds_toArray, List.set_cons_zero, List.set_cons_succ, Nat.zero_add, Nat.reduceAdd, h42]
    generalize vals 0 = x0
    generalize vals 1 = x1
    generalize vals 2 = x2
    generalize vals 3 = x3
    generalize vals 4 = x4
    generalize vals 5 = x5
    generalize vals 6 = x6
    generalize vals 7 = x7
    generalize vals 8 = x8
    generalize vals 9 = x9
    generalize vals 10 = x10
    generalize vals 11 = x11
    generalize vals 12 = x12
    generalize vals 13 = x13
    generalize vals 14 = x14
    generalize vals 15 = x15
    generalize vals 16 = x16
    generalize vals 17 = x17
    generalize vals 18 = x18
    generalize vals 19 = x19
    generalize vals 20 = x20
    generalize vals 21 = x21
    generalize vals 22 = x22
    generalize vals 23 = x23
    generalize vals 24 = x24
    generalize vals 25 = x25
    generalize vals 26 = x26
    generalize vals 27 = x27
    generalize vals 28 = x28
    generalize vals 29 = x29
    generalize vals 30 = x30
    generalize vals 31 = x31
    generalize vals 32 = x32
    generalize vals 33 = x33
    generalize vals 34 = x34
    generalize vals 35 = x35
    generalize vals 36 = x36
    generalize vals 37 = x37
    generalize vals 38 = x38
    generalize vals 39 = x39
    generalize vals 40 = x40
    generalize vals 41 = x41
    have HB4 := Lib.hid (HB.out.trans (((Below.refl _ _).drew.trans hb4).mono HB.out.size))
    clear hb4
    go_wp2_with fail
    go_ret
    exact ⟨rfl, HB4.out⟩
end Go.Proofs.Ytckipafciomklaa.bk
/- Numbers of common IDs; the contracts in the walks' form. -/
namespace Go.Proofs.Ytckipafciomklaa.bk

open Go.ChangeShapes Go.WideShapes Go.ChangeAt Go.RowKit

open Go.Proofs.Ytckipafciomklaa.bq Go.Proofs.Ytckipafciomklaa.vk Go.Proofs.Ytckipafciomklaa.wk

set_option linter.unusedVariables false
attribute [local go_sem] Oper.semAt_some
theorem split_len {α : Type} (p : α → Bool) : ∀ l : List α, (l.filter p).length + (l.filter fun x => !p x).length = l.length
  | [] => rfl
  | x :: l => by
    have := split_len p l
    cases h : p x <;> simp [h] <;> omega
theorem union_len {α : Type} (p q : α → Bool) : ∀ l : List α, (∀ x ∈ l, p x = true ∨ q x = true) → l.length ≤ (l.filter p).length + (l.filter q).length
  | [], _ => by simp
  | x :: l, h => by
    have h1 := union_len p q l fun y hy => h y (by simp [hy])
    have h2 := h x (by simp)
    rw [List.filter_cons, List.filter_cons, List.length_cons]
    rcases h2 with h2 | h2
    · rw [if_pos h2]; split <;> simp only [List.length_cons] <;> omega
    · rw [if_pos h2]; split <;> simp only [List.length_cons] <;> omega
def hasI (b : List H) (x : H) : Bool := b.any fun r => r.1 == x.1
theorem hasI_iff {b : List H} {x : H} : hasI b x = true ↔ x.1 ∈ b.map (·.1) := any_id
theorem id_bst_iff {l : List H} {i : Int} : i ∈ (bst l).map (·.1) ↔ i ∈ l.map (·.1) := by
  constructor
  · intro h
    obtain ⟨x, hx, rfl⟩ := List.mem_map.1 h
    exact List.mem_map.2 ⟨x, (mem_bst.1 hx).1, rfl⟩
  · intro h
    obtain ⟨x, hx, rfl⟩ := List.mem_map.1 h
    obtain ⟨g, hg, he, _⟩ := rep hx
    exact List.mem_map.2 ⟨g, hg, he⟩
theorem com_eq {a b : List H} (ha : Dst a) (hb : Dst b) : com a b = ((a.filter (hasI b)).length : Int) := by
  have hs := split_len (hasI b) a
  have hn : ((b ++ a.filter fun x => !hasI b x).map (·.1)).Nodup := by
    rw [List.map_append]
    refine List.nodup_append.2 ⟨hb, dst_filter ha _, fun x hx y hy => ?_⟩
    obtain ⟨z, hz, rfl⟩ := List.mem_map.1 hy
    rintro rfl
    have h1 := (List.mem_filter.1 hz).2
    have h2 := hasI_iff.2 hx
    rw [h2] at h1
    cases h1
  have hm : ∀ i, i ∈ (b ++ a.filter fun x => !hasI b x).map (·.1) ↔ i ∈ (bst (a ++ b)).map (·.1) := fun i => by
    rw [id_bst_iff, List.map_append, List.map_append, List.mem_append, List.mem_append]
    constructor
    · rintro (h | h)
      · exact .inr h
      · obtain ⟨z, hz, rfl⟩ := List.mem_map.1 h
        exact .inl (List.mem_map.2 ⟨z, (List.mem_filter.1 hz).1, rfl⟩)
    · rintro (h | h)
      · obtain ⟨z, hz, rfl⟩ := List.mem_map.1 h
        cases hh : hasI b z with
        | true => exact .inl (hasI_iff.1 hh)
        | false => exact .inr (List.mem_map.2 ⟨z, List.mem_filter.2 ⟨hz, by rw [hh]; rfl⟩, rfl⟩)
      · exact .inl h
  have h1 := pigeon hn fun x hx => (hm x).1 hx
  have h2 := pigeon (lst_bst (a ++ b)).2 fun x hx => (hm x).2 hx
  rw [List.length_map, List.length_map, List.length_append] at h1 h2
  unfold com
  omega
theorem com_comm (a b : List H) : com a b = com b a := by
  unfold com; rw [bst_congr (mem_comm a b)]; omega
theorem com_nn (a b : List H) : 0 ≤ com a b := by
  have := bst_le (a ++ b); rw [List.length_append] at this; unfold com; omega
theorem com_le {a b : List H} (ha : Dst a) (hb : Dst b) : com a b ≤ a.length := by
  rw [com_eq ha hb]; exact Int.ofNat_le.2 (List.length_filter_le _ _)
theorem com_union {a b : List H} {k : Nat} (ha : Dst a) (hb : Dst b) : ((ofL (a ++ b) k).length : Int) ≤ com (ofL (a ++ b) k) a + com (ofL (a ++ b) k) b := by
  rw [com_eq (lst_ofL _ _).2 ha, com_eq (lst_ofL _ _).2 hb]
  have := union_len (hasI a) (hasI b) (ofL (a ++ b) k) fun x hx => by
    rcases List.mem_append.1 (ofL_mem hx) with h | h
    · exact .inl (hasI_iff.2 (List.mem_map.2 ⟨x, h, rfl⟩))
    · exact .inr (hasI_iff.2 (List.mem_map.2 ⟨x, h, rfl⟩))
  omega
theorem ofL_le (a : List H) (k : Nat) : (ofL a k).length ≤ a.length := by
  unfold ofL; rw [List.length_take]; have := bst_le a; omega
theorem ofL_self {a : List H} {k : Int} (h : vld a k = true) : ofL (a ++ a) k.toNat = a := by
  have h2 := vld_iff.1 h
  rw [ofL_congr (b := a) _ fun x => by simp]
  exact ofL_of_lst h2.2.2.2 (by omega)
theorem mrg_calls {a b : List H} {A A' : Option Addr} {n c n' c' : Nat} (k : Int) (w : World) (h : IsH w A n c a) (h' : IsH w A' n' c' b) (ha : Lst a) (hb : Lst b) (hn : n + n' ≤ 1000) : Calls Try.prog 25 #[.slice A n c, .slice A' n' c', .int .i64 k] w fun e w' => ∃ A2 n2 c2, e = .returned (.slice A2 n2 c2) ∧ IsH w' A2 n2 c2 (ofL (a ++ b) k.toNat) ∧ Below w.heap.size w w' := by
  refine (merge2_calls k w h h' hn).mono ?_
  rintro e w' ⟨A2, n2, c2, rfl, h2, hb2⟩
  rw [mergeL_eq ha hb] at h2
  exact ⟨_, _, _, rfl, h2, hb2⟩
theorem same_calls {r s : List H} {n c n' c' : Nat} {A A' : Option Addr} (w : World) (h : IsH w A n c r) (h' : IsH w A' n' c' s) (e : r = s) : Calls Try.prog 17 #[.slice A n c, .slice A' n' c'] w fun e w' => e = .returned (.bool true) ∧ Below w.heap.size w w' := by
  subst e
  refine (rsame_calls w h h').mono ?_
  rintro e' w' ⟨rfl, q, rfl⟩
  exact ⟨by simp, ⟨rfl, rfl, rfl, Nat.le_refl _, fun k hk => rfl⟩⟩
end Go.Proofs.Ytckipafciomklaa.bk
