/- Joined: Jd Je Jf Hp Bit Hi. -/
import Derived.Test.YtjhagfggelhpkaaDoorG5

import Derived.Lib.MinMax

import Derived.BigQuiet

import Derived.Deep.QuietTactic

import Derived.KernelRfl

import Derived.Laws.BitsLemmas

import Derived.Laws.Bits64

import Derived.Laws.Bits64b

import Derived.Test.YtjhagfggelhpkaaDoorRows

import Derived.StillTailTactics
/- Bounds: the program. -/
namespace Go.Proofs.YtjhagfggelhpkaaDoor.jk

open Go.ChangeShapes Go.WideShapes Go.ChangeAt Go.RowKit

open Go.Proofs.YtjhagfggelhpkaaDoor.jq Go.Proofs.YtjhagfggelhpkaaDoor.vk Go.Proofs.YtjhagfggelhpkaaDoor.wk

set_option linter.unusedVariables false

theorem up_bd {x n : Int} (h : 0 ≤ x) : 0 ≤ up x n ∧ up x n ≤ x := by
  unfold up
  split
  · omega
  · rename_i hn
    have h1 : 0 ≤ (x + n - 1) / n := Int.ediv_nonneg (by omega) (by omega)
    refine ⟨h1, ?_⟩
    have h2 : (x + n - 1) / n < x + 1 := by
      apply Int.ediv_lt_of_lt_mul (by omega)
      have h3 : 0 ≤ x * (n - 1) := Int.mul_nonneg h (by omega)
      have h4 : (x + 1) * n = x * (n - 1) + x + n := by rw [Int.add_mul, Int.mul_sub]; omega
      omega
    omega
set_option maxRecDepth 100000 in
theorem rounded_calls (x n : Int) (w : World) (h0 : 0 ≤ x) (h1 : x ≤ 4611686018427387904) (hn : n ≤ 1099511627776) (hn0 : -1099511627776 ≤ n) :
    Calls Tryd.prog 82 #[.int .i64 x, .int .i64 n] w fun e w' => e = .returned (.int .i64 (up x n)) ∧ w' = w := by
  by_cases h : n ≤ 0
  · rw [show up x n = 0 by simp [up, h]]
    go_enter Tryd.func82, Tryd.ntmps82
    go_wp2_with fail
    go_ret
    exact ⟨rfl, rfl⟩
  · have e : up x n = (x + n - 1) / n := by simp [up, h]
    have hb := up_bd (n := n) h0
    rw [e] at hb ⊢
    have htd : (x + n - 1).tdiv n = (x + n - 1) / n := Int.tdiv_eq_ediv_of_nonneg (by omega)
    go_enter Tryd.func82, Tryd.ntmps82
    go_wp2_with fail
    go_ret
    exact ⟨rfl, rfl⟩
def rgv (r : R) : Value := .agg #[.int .i64 r.1, .int .i64 r.2]
set_option maxRecDepth 100000 in
theorem outside_calls (r : R) (x : Int) (w : World) (h1 : -2147483648 ≤ r.1 ∧ r.1 ≤ 2147483648) (h2 : -2147483648 ≤ r.2 ∧ r.2 ≤ 2147483648) (h3 : -2147483648 ≤ x ∧ x ≤ 2147483648) :
    Calls Tryd.prog 48 #[rgv r, .int .i64 x] w fun e w' => e = .returned (.int .i64 (outside r x)) ∧ Below w.heap.size w w' := by
  obtain ⟨a, b⟩ := r
  dsimp only at h1 h2
  unfold rgv
  dsimp only
  have HB := Lib.hid (below_new w (.cells #[.int .i64 a, .int .i64 b] 47))
  go_enter Tryd.func48, Tryd.ntmps48
  go_wp2
  all_goals
    go_ret
    exact ⟨wp.ret_i64 (by unfold jq.outside; dsimp only; omega), HB.out⟩
def kf (m : Int) : Nat := if m = 1 then 63 else if m = 2 then 64 else 65
def sl (m x : Int) (l : List Int) : Int := if m = 1 then up x (vq.norm 3 l) else if m = 2 then up (x * x) (vq.norm 2 l) else up x (vq.norm 1 l)
def M3 (m : Int) : Prop := m = 1 ∨ m = 2 ∨ m = 3
theorem one_sl {m : Int} (hm : M3 m) (l : List Int) (r : R) (q : List Int) : one m l r q = sl m (outside r (vq.dot l q)) l := by
  unfold one sl
  rcases hm with rfl | rfl | rfl <;> rfl
set_option maxRecDepth 100000 in
theorem least_calls (m : Int) (w : World) (hm : M3 m) : Calls Tryd.prog 47 #[.int .i64 m] w fun e w' => e = .returned (.func (.func (kf m)) #[] #[]) ∧ w' = w := by
  rcases hm with rfl | rfl | rfl
  all_goals
    unfold kf
    go_enter Tryd.func47, Tryd.ntmps47
    go_wp2
    go_ret
    exact ⟨rfl, rfl⟩
theorem norm_bd (m : Int) {l : List Int} (h : Few l) (hn : l.length ≤ 32) : 0 ≤ vq.norm m l ∧ vq.norm m l ≤ 128000000 := by
  have := norm_take_bound m h l.length
  rw [List.take_length] at this
  omega
set_option maxRecDepth 100000 in
theorem ssum_calls (x : Int) (A : Option Addr) (n c : Nat) (l : List Int) (w : World) (h : wo.IsI w A n c l) (hf : Few l) (hn : n ≤ 32) (h0 : 0 ≤ x) (h1 : x ≤ 2147483648) :
    Calls Tryd.prog 63 #[.slice A n c, .int .i64 x] w fun e w' => e = .returned (.int .i64 (up (x) (vq.norm 3 l))) ∧ Below w.heap.size w w' := by
  have HN := Lib.hid (norm_calls 3 A n c l w (by omega) (by omega) h hf hn)
  have hb := norm_bd 3 hf (by rw [h.1]; exact hn)
  have hxx : 0 ≤ x ∧ x ≤ 4611686018427387904 := ⟨h0, by omega⟩
  have HR := Lib.hid (fun w' => rounded_calls (x) (vq.norm 3 l) w' hxx.1 hxx.2 (by omega) (by omega))
  clear h hf
  generalize vq.norm 3 l = nn at *
  go_enter Tryd.func63, Tryd.ntmps63
  go_wp2_with fail
  refine HN.out.mono ?_
  rintro e w' ⟨rfl, hb'⟩
  have HB := Lib.hid hb'
  clear hb'
  go_wp2_with fail
  refine (HR.out _).mono ?_
  rintro e w2 ⟨rfl, rfl⟩
  go_wp2_with fail
  go_ret
  exact ⟨rfl, HB.out⟩
set_option maxRecDepth 100000 in
theorem seuc_calls (x : Int) (A : Option Addr) (n c : Nat) (l : List Int) (w : World) (h : wo.IsI w A n c l) (hf : Few l) (hn : n ≤ 32) (h0 : 0 ≤ x) (h1 : x ≤ 2147483648) :
    Calls Tryd.prog 64 #[.slice A n c, .int .i64 x] w fun e w' => e = .returned (.int .i64 (up (x * x) (vq.norm 2 l))) ∧ Below w.heap.size w w' := by
  have HN := Lib.hid (norm_calls 2 A n c l w (by omega) (by omega) h hf hn)
  have hb := norm_bd 2 hf (by rw [h.1]; exact hn)
  have hxx : 0 ≤ x * x ∧ x * x ≤ 4611686018427387904 := ⟨Int.mul_nonneg h0 h0, by have := Int.mul_le_mul h1 h1 h0 (by omega); omega⟩
  have HR := Lib.hid (fun w' => rounded_calls (x * x) (vq.norm 2 l) w' hxx.1 hxx.2 (by omega) (by omega))
  clear h hf
  generalize vq.norm 2 l = nn at *
  go_enter Tryd.func64, Tryd.ntmps64
  go_wp2_with fail
  refine HN.out.mono ?_
  rintro e w' ⟨rfl, hb'⟩
  have HB := Lib.hid hb'
  clear hb'
  go_wp2_with fail
  refine (HR.out _).mono ?_
  rintro e w2 ⟨rfl, rfl⟩
  go_wp2_with fail
  go_ret
  exact ⟨rfl, HB.out⟩
set_option maxRecDepth 100000 in
theorem smost_calls (x : Int) (A : Option Addr) (n c : Nat) (l : List Int) (w : World) (h : wo.IsI w A n c l) (hf : Few l) (hn : n ≤ 32) (h0 : 0 ≤ x) (h1 : x ≤ 2147483648) :
    Calls Tryd.prog 65 #[.slice A n c, .int .i64 x] w fun e w' => e = .returned (.int .i64 (up (x) (vq.norm 1 l))) ∧ Below w.heap.size w w' := by
  have HN := Lib.hid (norm_calls 1 A n c l w (by omega) (by omega) h hf hn)
  have hb := norm_bd 1 hf (by rw [h.1]; exact hn)
  have hxx : 0 ≤ x ∧ x ≤ 4611686018427387904 := ⟨h0, by omega⟩
  have HR := Lib.hid (fun w' => rounded_calls (x) (vq.norm 1 l) w' hxx.1 hxx.2 (by omega) (by omega))
  clear h hf
  generalize vq.norm 1 l = nn at *
  go_enter Tryd.func65, Tryd.ntmps65
  go_wp2_with fail
  refine HN.out.mono ?_
  rintro e w' ⟨rfl, hb'⟩
  have HB := Lib.hid hb'
  clear hb'
  go_wp2_with fail
  refine (HR.out _).mono ?_
  rintro e w2 ⟨rfl, rfl⟩
  go_wp2_with fail
  go_ret
  exact ⟨rfl, HB.out⟩

theorem ones_bd {m : Int} {L : List (List Int)} {r : List R} {q : List Int} (k : Nat) {l : List Int} {x : R} (h : L[k]? = some l) (h' : r[k]? = some x) : ((ones m L r q).take (k + 1)).foldl max 0 = max (((ones m L r q).take k).foldl max 0) (one m l x q) := by
  rw [jq.take_snoc (ones_at h h'), foldl_max_snoc]
structure BArgs (w : World) (L : List (List Int)) (r : List R) (q : List Int) (d : Nat) (n c : Nat) (A : Option Addr) (c' : Nat) (A' : Option Addr) (c2 : Nat) (A2 : Option Addr) : Prop where
  isL : IsVV w A n c L
  isR : IsR w A' n c' r
  isQ : wo.IsI w A2 d c2 q
  fit : Fit L d
  vec : vq.Vec q
  rng : ∀ x ∈ r, (-2147483648 ≤ x.1 ∧ x.1 ≤ 1073741824) ∧ -1073741824 ≤ x.2 ∧ x.2 ≤ 2147483648
theorem BArgs.below {w w' : World} {L : List (List Int)} {r : List R} {q : List Int} {d n c c' c2 : Nat} {A A' A2 : Option Addr} (h : BArgs w L r q d n c A c' A' c2 A2) (hb : Below w.heap.size w w') : BArgs w' L r q d n c A c' A' c2 A2 :=
  ⟨isVV_below h.isL hb, isR_below h.isR hb, isI_below h.isQ hb, h.fit, h.vec, h.rng⟩
set_option maxRecDepth 100000 in
set_option maxHeartbeats 4000000 in
theorem bound_calls (m : Int) (hm : M3 m) {L : List (List Int)} {r : List R} {qv : List Int} {d n c c' c2 : Nat} {A A' A2 : Option Addr} (w : World) (h : BArgs w L r qv d n c A c' A' c2 A2) :
    Calls Tryd.prog 32 #[.int .i64 m, .slice A n c, .slice A' n c', .slice A2 d c2] w fun e w' => e = .returned (.int .i64 (bound m L r qv)) ∧ Below w.heap.size w w' := by
  have hm1 := h.isL.2.2.1
  have hn1 := h.isL.2.1
  have hm2 := h.isR.2.2.1
  have hn2 := h.isR.2.1
  have H := Lib.hid h
  have HQ := Lib.hid h.isQ
  have HD : Hid (d ≤ 32) := h.fit.d32
  have HFQ : Hid (Few qv) := few_of h.vec
  have HLE := Lib.hid (least_calls m w hm)
  have HM := Lib.hid hm
  obtain ⟨bv, hbv⟩ : ∃ bv, bound m L r qv = bv := ⟨_, rfl⟩
  rw [hbv]
  have HBV := Lib.hid hbv
  clear h hbv
  go_enter Tryd.func32, Tryd.ntmps32
  go_wp2_with fail
  refine HLE.out.mono ?_
  rintro e w' ⟨rfl, rfl⟩
  go_wp2_with fail
  go_loopg [10, 19] n (fun g v x wr => ∃ k : Nat, k + g = n ∧ v = .int .i64 (((ones m L r qv).take k).foldl max 0) ∧ x = .int .i64 (k : Int) ∧ Below w'.heap.size w' wr)
  case atStart => exact ⟨0, by omega, rfl, rfl, Below.refl _ _⟩
  case round =>
    obtain ⟨k, hk, rfl, rfl, hbel⟩ := hrel
    have HK := Lib.hid hk
    have HB := Lib.hid hbel
    have hkn : k ≤ n := by omega
    clear hk hbel
    by_cases hlt : k < n
    · obtain ⟨b, o, A1, n1, c1, l1, rfl, hb1', hc1', hI1', hL1⟩ := isVV_get H.out.isL hlt
      obtain ⟨b2, o2, r1, rfl, hr1', hr2', hb2', hR1, -⟩ := isR_get H.out.isR hlt
      have hmem := List.mem_of_getElem? hL1
      obtain rfl : d = n1 := by rw [← hI1'.1]; exact (H.out.fit.len _ hmem).symm
      have hc1 := (Below.cell (p := ⟨b, o + k, none⟩) HB.out hb1').trans hc1'
      have hr1 := (Below.cell (p := ⟨b2, o2 + k * 2, none⟩) HB.out hb2').trans hr1'
      have hr2 := (Below.cell (p := ⟨b2, o2 + k * 2 + 1, none⟩) HB.out hb2').trans hr2'
      have hb1 := Nat.lt_of_lt_of_le hb1' HB.out.size
      have hb2 := Nat.lt_of_lt_of_le hb2' HB.out.size
      have HL1 := Lib.hid (isI_below hI1' HB.out)
      have HFL : Hid (Few l1) := fun x hx => by have := H.out.fit.lo _ hmem x hx; have := H.out.fit.hi _ hmem x hx; omega
      have HBW : Hid (Below w'.heap.size w' wr) := HB.out
      have hdt := dot_small (a := l1) (b := qv) (fun x hx => ⟨H.out.fit.lo _ hmem x hx, H.out.fit.hi _ hmem x hx⟩) (fun x hx => ⟨H.out.vec.lo x hx, H.out.vec.hi x hx⟩) (by rw [HL1.out.1]; exact HD.out)
      have hrg := H.out.rng r1 (List.mem_of_getElem? hR1)
      have HS0 := Lib.hid (ones_bd (m := m) (q := qv) k hL1 hR1)
      have HONE := Lib.hid (one_sl HM.out l1 r1 qv)
      obtain ⟨dt, hdt0⟩ : ∃ dt, vq.dot l1 qv = dt := ⟨_, rfl⟩
      rw [hdt0] at hdt HONE
      have HDT := Lib.hid hdt0
      obtain ⟨ou, hou0⟩ : ∃ ou, outside r1 dt = ou := ⟨_, rfl⟩
      rw [hou0] at HONE
      have HOU := Lib.hid hou0
      have hob : 0 ≤ ou ∧ ou ≤ 2147483648 := by rw [← hou0]; unfold outside; omega
      have HOB := Lib.hid hob
      have HDB : Hid (-2147483648 ≤ dt ∧ dt ≤ 2147483648) := ⟨by omega, by omega⟩
      have HR1 : Hid ((-2147483648 ≤ r1.1 ∧ r1.1 ≤ 2147483648) ∧ -2147483648 ≤ r1.2 ∧ r1.2 ≤ 2147483648) := ⟨⟨by omega, by omega⟩, by omega, by omega⟩
      obtain ⟨sv, hsv⟩ : ∃ sv, one m l1 r1 qv = sv := ⟨_, rfl⟩
      rw [hsv] at HS0 HONE
      have HSV := HONE
      generalize ((ones m L r qv).take k).foldl max 0 = s at *
      obtain ⟨mx, hmx⟩ : ∃ mx, max s sv = mx := ⟨_, rfl⟩
      rw [hmx] at HS0
      have HS := HS0
      have HMX := Lib.hid hmx
      have hlt0 : (k : Int) < (n : Int) := by omega
      clear hb1' hc1' hI1' hL1 hr1' hr2' hb2' hR1 hmem hdt hdt0 hou0 hrg hob hsv hmx HS0
      rcases (HM.out : m = 1 ∨ m = 2 ∨ m = 3) with rfl | rfl | rfl
      · unfold kf
        go_wp2_with fail
        refine wk.region_tailK 19 [.is (.int .i64 s), .is (.func (.func 63) #[] #[]), .is (.slice (some ⟨b, o, none⟩) n c), .is (.int .i64 (k : Int)), .is (.pointer (some ⟨b, o + k, none⟩)), .is (.slice A1 d c1), .is (.slice (some ⟨b2, o2, none⟩) n c'), .is (.int .i64 (k : Int)), .is (.pointer (some ⟨b2, o2 + k * 2, none⟩)), .is (rgv r1), .is (.slice (some ⟨b, o, none⟩) n c), .is (.int .i64 (k : Int)), .is (.pointer (some ⟨b, o + k, none⟩)), .is (.slice A1 d c1), .is (.slice A2 d c2), .is (.int .i64 dt), .is (.int .i64 ou), .is (.int .i64 sv), .is (.int .i64 mx)] [some 22, some 23, some 24, some 25, some 26, some 27, some 28, some 29, some 30, some 31, some 32, some 33, some 34, some 35, some 36, some 37, some 38, some 39, some 40] (by kernel_rfl) (by kernel_rfl) (by kernel_rfl) (by kernel_rfl) [] (by kernel_rfl) (by intro p hp; cases hp) (by kernel_rfl) (by kernel_rfl) ?hstep ?hdone
        case hstep =>
          intro i o ho hi hns E w4 hb4 D hold
          have hi2 : i = 0 ∨ i = 1 ∨ i = 2 ∨ i = 3 ∨ i = 4 ∨ i = 5 ∨ i = 6 ∨ i = 7 ∨ i = 8 ∨ i = 9 ∨ i = 10 ∨ i = 11 ∨ i = 12 ∨ i = 13 ∨ i = 14 ∨ i = 15 ∨ i = 16 ∨ i = 17 ∨ i = 18 := by omega
          clear hi
          rcases hi2 with rfl | rfl | rfl | rfl | rfl | rfl | rfl | rfl | rfl | rfl | rfl | rfl | rfl | rfl | rfl | rfl | rfl | rfl | rfl
          ·
            have ho2 := (Array.getElem?_eq_some_iff.1 ho).2
            simp only [List.getElem_toArray, List.getElem_cons_zero] at ho2
            subst ho2
            clear ho
            have e10 := hold 10 (by kernel_rfl)
            exact wk.does_move rfl (by rw [e10]; rfl)
          ·
            have ho2 := (Array.getElem?_eq_some_iff.1 ho).2
            simp only [List.getElem_toArray, List.getElem_cons_succ, List.getElem_cons_zero] at ho2
            subst ho2
            clear ho
            have e9 := D.old 9 (by kernel_rfl)
            exact wk.does_move rfl (by rw [e9]; rfl)
          ·
            have ho2 := (Array.getElem?_eq_some_iff.1 ho).2
            simp only [List.getElem_toArray, List.getElem_cons_succ, List.getElem_cons_zero] at ho2
            subst ho2
            clear ho
            have e1 := D.old 1 (by kernel_rfl)
            exact wk.does_move rfl (by rw [e1]; rfl)
          ·
            have ho2 := (Array.getElem?_eq_some_iff.1 ho).2
            simp only [List.getElem_toArray, List.getElem_cons_succ, List.getElem_cons_zero] at ho2
            subst ho2
            clear ho
            have e11 := D.old 11 (by kernel_rfl)
            exact wk.does_move rfl (by rw [e11]; rfl)
          ·
            have ho2 := (Array.getElem?_eq_some_iff.1 ho).2
            simp only [List.getElem_toArray, List.getElem_cons_succ, List.getElem_cons_zero] at ho2
            subst ho2
            clear ho
            have e24 := D.is { on := 2, ground := .data } (by simp) rfl rfl 24 rfl
            have e25 := D.is { on := 3, ground := .data } (by simp) rfl rfl 25 rfl
            exact wk.does_run (by simp only [execOp]; rw [e24, e25]; go_simp) rfl
          ·
            have ho2 := (Array.getElem?_eq_some_iff.1 ho).2
            simp only [List.getElem_toArray, List.getElem_cons_succ, List.getElem_cons_zero] at ho2
            subst ho2
            clear ho
            have e26 := D.is { on := 4, ground := .data } (by simp) rfl rfl 26 rfl
            exact wk.does_load1 rfl e26 ((Below.cell (p := ⟨_, _, none⟩) ((Below.refl _ _).drew.trans hb4 : Below wr.heap.size wr w4) hb1).trans hc1) Tryd.underlying24 rfl rfl
          ·
            have ho2 := (Array.getElem?_eq_some_iff.1 ho).2
            simp only [List.getElem_toArray, List.getElem_cons_succ, List.getElem_cons_zero] at ho2
            subst ho2
            clear ho
            have e2 := D.old 2 (by kernel_rfl)
            exact wk.does_move rfl (by rw [e2]; rfl)
          ·
            have ho2 := (Array.getElem?_eq_some_iff.1 ho).2
            simp only [List.getElem_toArray, List.getElem_cons_succ, List.getElem_cons_zero] at ho2
            subst ho2
            clear ho
            have e11 := D.old 11 (by kernel_rfl)
            exact wk.does_move rfl (by rw [e11]; rfl)
          ·
            have ho2 := (Array.getElem?_eq_some_iff.1 ho).2
            simp only [List.getElem_toArray, List.getElem_cons_succ, List.getElem_cons_zero] at ho2
            subst ho2
            clear ho
            have e28 := D.is { on := 6, ground := .data } (by simp) rfl rfl 28 rfl
            have e29 := D.is { on := 7, ground := .data } (by simp) rfl rfl 29 rfl
            exact wk.does_run (by simp only [execOp]; rw [e28, e29]; go_simp) rfl
          ·
            have ho2 := (Array.getElem?_eq_some_iff.1 ho).2
            simp only [List.getElem_toArray, List.getElem_cons_succ, List.getElem_cons_zero] at ho2
            subst ho2
            clear ho
            have e30 := D.is { on := 8, ground := .data } (by simp) rfl rfl 30 rfl
            exact wk.does_load_agg rfl e30 (cs := [.int .i64 r1.1, .int .i64 r1.2]) (fun j v hj => by
              rcases (by have := (List.getElem?_eq_some_iff.1 hj).1; simp at this; omega : j = 0 ∨ j = 1) with rfl | rfl
              · simp at hj; rw [← hj]; exact ((Below.cell (p := ⟨_, _, none⟩) ((Below.refl _ _).drew.trans hb4 : Below wr.heap.size wr w4) hb2).trans hr1)
              · simp at hj; rw [← hj]; exact ((Below.cell (p := ⟨_, _, none⟩) ((Below.refl _ _).drew.trans hb4 : Below wr.heap.size wr w4) hb2).trans hr2)) Tryd.underlying47 rfl (by kernel_rfl) rfl
          ·
            have ho2 := (Array.getElem?_eq_some_iff.1 ho).2
            simp only [List.getElem_toArray, List.getElem_cons_succ, List.getElem_cons_zero] at ho2
            subst ho2
            clear ho
            have e1 := D.old 1 (by kernel_rfl)
            exact wk.does_move rfl (by rw [e1]; rfl)
          ·
            have ho2 := (Array.getElem?_eq_some_iff.1 ho).2
            simp only [List.getElem_toArray, List.getElem_cons_succ, List.getElem_cons_zero] at ho2
            subst ho2
            clear ho
            have e11 := D.old 11 (by kernel_rfl)
            exact wk.does_move rfl (by rw [e11]; rfl)
          ·
            have ho2 := (Array.getElem?_eq_some_iff.1 ho).2
            simp only [List.getElem_toArray, List.getElem_cons_succ, List.getElem_cons_zero] at ho2
            subst ho2
            clear ho
            have e32 := D.is { on := 10, ground := .data } (by simp) rfl rfl 32 rfl
            have e33 := D.is { on := 11, ground := .data } (by simp) rfl rfl 33 rfl
            exact wk.does_run (by simp only [execOp]; rw [e32, e33]; go_simp) rfl
          ·
            have ho2 := (Array.getElem?_eq_some_iff.1 ho).2
            simp only [List.getElem_toArray, List.getElem_cons_succ, List.getElem_cons_zero] at ho2
            subst ho2
            clear ho
            have e34 := D.is { on := 12, ground := .data } (by simp) rfl rfl 34 rfl
            exact wk.does_load1 rfl e34 ((Below.cell (p := ⟨_, _, none⟩) ((Below.refl _ _).drew.trans hb4 : Below wr.heap.size wr w4) hb1).trans hc1) Tryd.underlying24 rfl rfl
          ·
            have ho2 := (Array.getElem?_eq_some_iff.1 ho).2
            simp only [List.getElem_toArray, List.getElem_cons_succ, List.getElem_cons_zero] at ho2
            subst ho2
            clear ho
            have e3 := D.old 3 (by kernel_rfl)
            exact wk.does_move rfl (by rw [e3]; rfl)
          ·
            have ho2 := (Array.getElem?_eq_some_iff.1 ho).2
            simp only [List.getElem_toArray, List.getElem_cons_succ, List.getElem_cons_zero] at ho2
            subst ho2
            clear ho
            have e35 := D.is { on := 13, ground := .data } (by simp) rfl rfl 35 rfl
            have e36 := D.is { on := 14, ground := .data } (by simp) rfl rfl 36 rfl
            refine wk.does_fn (f := 46) (vs := #[.slice A1 d c1, .slice A2 d c2]) rfl (D.fn _) (by simp [e35, e36]) (by go_simp) ?_
            refine (dot_calls A1 A2 d c1 c2 l1 qv w4 (isI_below HL1.out ((Below.refl _ _).drew.trans hb4 : Below wr.heap.size wr w4)) (isI_below HQ.out (Below.andThen HBW.out ((Below.refl _ _).drew.trans hb4 : Below wr.heap.size wr w4))) HFL.out HFQ.out HD.out).mono ?_
            rintro e w5 ⟨rfl, hb5⟩
            exact ⟨_, rfl, hb5, by rw [HDT.out]; rfl⟩
          ·
            have ho2 := (Array.getElem?_eq_some_iff.1 ho).2
            simp only [List.getElem_toArray, List.getElem_cons_succ, List.getElem_cons_zero] at ho2
            subst ho2
            clear ho
            have e31 := D.is { on := 9, ground := .data } (by simp) rfl rfl 31 rfl
            have e37 := D.is { on := 15, ground := .data } (by simp) rfl rfl 37 rfl
            refine wk.does_fn (f := 48) (vs := #[rgv r1, .int .i64 dt]) rfl (D.fn _) (by simp [e31, e37]) (by go_simp) ?_
            refine (outside_calls r1 dt w4 HR1.out.1 HR1.out.2 HDB.out).mono ?_
            rintro e w5 ⟨rfl, hb5⟩
            exact ⟨_, rfl, hb5, by rw [HOU.out]; rfl⟩
          ·
            have ho2 := (Array.getElem?_eq_some_iff.1 ho).2
            simp only [List.getElem_toArray, List.getElem_cons_succ, List.getElem_cons_zero] at ho2
            subst ho2
            clear ho
            have e23 := D.is { on := 1, ground := .data } (by simp) rfl rfl 23 rfl
            have e27 := D.is { on := 5, ground := .data } (by simp) rfl rfl 27 rfl
            have e38 := D.is { on := 16, ground := .data } (by simp) rfl rfl 38 rfl
            refine wk.does_fn (f := 63) (vs := #[.slice A1 d c1, .int .i64 ou]) rfl e23 (by simp [e27, e38]) (by go_simp) ?_
            refine (ssum_calls ou A1 d c1 l1 w4 (isI_below HL1.out ((Below.refl _ _).drew.trans hb4 : Below wr.heap.size wr w4)) HFL.out HD.out HOB.out.1 HOB.out.2).mono ?_
            rintro e w5 ⟨rfl, hb5⟩
            exact ⟨_, rfl, hb5, by exact congrArg (Value.int .i64) HSV.out.symm⟩
          ·
            have ho2 := (Array.getElem?_eq_some_iff.1 ho).2
            simp only [List.getElem_toArray, List.getElem_cons_succ, List.getElem_cons_zero] at ho2
            subst ho2
            clear ho
            have e22 := D.is { on := 0, ground := .data } (by simp) rfl rfl 22 rfl
            have e39 := D.is { on := 17, ground := .data } (by simp) rfl rfl 39 rfl
            exact wk.does_run (v := .int .i64 mx) (by unfold execOp; first | (go_simp; rw [HMX.out]; done) | (dsimp only; go_simp; rw [HMX.out])) rfl
        case hdone =>
          intro vals w4 hb4 hv
          have h18 := hv 18 (by omega)
          clear hv
          replace h18 : vals 18 = (.int .i64 mx) := h18
          simp only [List.drop_succ_cons, List.drop_zero, wk.setL, List.setIfInBounds_toArray, List.set_cons_zero, List.set_cons_succ, Nat.zero_add, Nat.reduceAdd, h18]
          generalize vals 0 = x0
          generalize vals 1 = x1
          generalize vals 2 = x2
          generalize vals 3 = x3
          generalize vals 4 = x4
          generalize vals 5 = x5
          generalize vals 6 = x6
          generalize vals 7 = x7
          generalize vals 8 = x8
          generalize vals 9 = x9
          generalize vals 10 = x10
          generalize vals 11 = x11
          generalize vals 12 = x12
          generalize vals 13 = x13
          generalize vals 14 = x14
          generalize vals 15 = x15
          generalize vals 16 = x16
          generalize vals 17 = x17
          have HBZ := Lib.hid (HB.out.trans (((Below.refl _ _).drew.trans hb4 : Below wr.heap.size wr w4).mono HB.out.size))
          clear hb4
          go_wp2_with fail
          go_roundg (gk - 1)
          case measure => have := HK.out; omega
          case rel => exact ⟨k + 1, by have := HK.out; omega, by rw [HS.out], by go_num, HBZ.out⟩
      · unfold kf
        go_wp2_with fail
        refine wk.region_tailK 19 [.is (.int .i64 s), .is (.func (.func 64) #[] #[]), .is (.slice (some ⟨b, o, none⟩) n c), .is (.int .i64 (k : Int)), .is (.pointer (some ⟨b, o + k, none⟩)), .is (.slice A1 d c1), .is (.slice (some ⟨b2, o2, none⟩) n c'), .is (.int .i64 (k : Int)), .is (.pointer (some ⟨b2, o2 + k * 2, none⟩)), .is (rgv r1), .is (.slice (some ⟨b, o, none⟩) n c), .is (.int .i64 (k : Int)), .is (.pointer (some ⟨b, o + k, none⟩)), .is (.slice A1 d c1), .is (.slice A2 d c2), .is (.int .i64 dt), .is (.int .i64 ou), .is (.int .i64 sv), .is (.int .i64 mx)] [some 22, some 23, some 24, some 25, some 26, some 27, some 28, some 29, some 30, some 31, some 32, some 33, some 34, some 35, some 36, some 37, some 38, some 39, some 40] (by kernel_rfl) (by kernel_rfl) (by kernel_rfl) (by kernel_rfl) [] (by kernel_rfl) (by intro p hp; cases hp) (by kernel_rfl) (by kernel_rfl) ?hstep ?hdone
        case hstep =>
          intro i o ho hi hns E w4 hb4 D hold
          have hi2 : i = 0 ∨ i = 1 ∨ i = 2 ∨ i = 3 ∨ i = 4 ∨ i = 5 ∨ i = 6 ∨ i = 7 ∨ i = 8 ∨ i = 9 ∨ i = 10 ∨ i = 11 ∨ i = 12 ∨ i = 13 ∨ i = 14 ∨ i = 15 ∨ i = 16 ∨ i = 17 ∨ i = 18 := by omega
          clear hi
          rcases hi2 with rfl | rfl | rfl | rfl | rfl | rfl | rfl | rfl | rfl | rfl | rfl | rfl | rfl | rfl | rfl | rfl | rfl | rfl | rfl
          ·
            have ho2 := (Array.getElem?_eq_some_iff.1 ho).2
            simp only [List.getElem_toArray, List.getElem_cons_zero] at ho2
            subst ho2
            clear ho
            have e10 := hold 10 (by kernel_rfl)
            exact wk.does_move rfl (by rw [e10]; rfl)
          ·
            have ho2 := (Array.getElem?_eq_some_iff.1 ho).2
            simp only [List.getElem_toArray, List.getElem_cons_succ, List.getElem_cons_zero] at ho2
            subst ho2
            clear ho
            have e9 := D.old 9 (by kernel_rfl)
            exact wk.does_move rfl (by rw [e9]; rfl)
          ·
            have ho2 := (Array.getElem?_eq_some_iff.1 ho).2
            simp only [List.getElem_toArray, List.getElem_cons_succ, List.getElem_cons_zero] at ho2
            subst ho2
            clear ho
            have e1 := D.old 1 (by kernel_rfl)
            exact wk.does_move rfl (by rw [e1]; rfl)
          ·
            have ho2 := (Array.getElem?_eq_some_iff.1 ho).2
            simp only [List.getElem_toArray, List.getElem_cons_succ, List.getElem_cons_zero] at ho2
            subst ho2
            clear ho
            have e11 := D.old 11 (by kernel_rfl)
            exact wk.does_move rfl (by rw [e11]; rfl)
          ·
            have ho2 := (Array.getElem?_eq_some_iff.1 ho).2
            simp only [List.getElem_toArray, List.getElem_cons_succ, List.getElem_cons_zero] at ho2
            subst ho2
            clear ho
            have e24 := D.is { on := 2, ground := .data } (by simp) rfl rfl 24 rfl
            have e25 := D.is { on := 3, ground := .data } (by simp) rfl rfl 25 rfl
            exact wk.does_run (by simp only [execOp]; rw [e24, e25]; go_simp) rfl
          ·
            have ho2 := (Array.getElem?_eq_some_iff.1 ho).2
            simp only [List.getElem_toArray, List.getElem_cons_succ, List.getElem_cons_zero] at ho2
            subst ho2
            clear ho
            have e26 := D.is { on := 4, ground := .data } (by simp) rfl rfl 26 rfl
            exact wk.does_load1 rfl e26 ((Below.cell (p := ⟨_, _, none⟩) ((Below.refl _ _).drew.trans hb4 : Below wr.heap.size wr w4) hb1).trans hc1) Tryd.underlying24 rfl rfl
          ·
            have ho2 := (Array.getElem?_eq_some_iff.1 ho).2
            simp only [List.getElem_toArray, List.getElem_cons_succ, List.getElem_cons_zero] at ho2
            subst ho2
            clear ho
            have e2 := D.old 2 (by kernel_rfl)
            exact wk.does_move rfl (by rw [e2]; rfl)
          ·
            have ho2 := (Array.getElem?_eq_some_iff.1 ho).2
            simp only [List.getElem_toArray, List.getElem_cons_succ, List.getElem_cons_zero] at ho2
            subst ho2
            clear ho
            have e11 := D.old 11 (by kernel_rfl)
            exact wk.does_move rfl (by rw [e11]; rfl)
          ·
            have ho2 := (Array.getElem?_eq_some_iff.1 ho).2
            simp only [List.getElem_toArray, List.getElem_cons_succ, List.getElem_cons_zero] at ho2
            subst ho2
            clear ho
            have e28 := D.is { on := 6, ground := .data } (by simp) rfl rfl 28 rfl
            have e29 := D.is { on := 7, ground := .data } (by simp) rfl rfl 29 rfl
            exact wk.does_run (by simp only [execOp]; rw [e28, e29]; go_simp) rfl
          ·
            have ho2 := (Array.getElem?_eq_some_iff.1 ho).2
            simp only [List.getElem_toArray, List.getElem_cons_succ, List.getElem_cons_zero] at ho2
            subst ho2
            clear ho
            have e30 := D.is { on := 8, ground := .data } (by simp) rfl rfl 30 rfl
            exact wk.does_load_agg rfl e30 (cs := [.int .i64 r1.1, .int .i64 r1.2]) (fun j v hj => by
              rcases (by have := (List.getElem?_eq_some_iff.1 hj).1; simp at this; omega : j = 0 ∨ j = 1) with rfl | rfl
              · simp at hj; rw [← hj]; exact ((Below.cell (p := ⟨_, _, none⟩) ((Below.refl _ _).drew.trans hb4 : Below wr.heap.size wr w4) hb2).trans hr1)
              · simp at hj; rw [← hj]; exact ((Below.cell (p := ⟨_, _, none⟩) ((Below.refl _ _).drew.trans hb4 : Below wr.heap.size wr w4) hb2).trans hr2)) Tryd.underlying47 rfl (by kernel_rfl) rfl
          ·
            have ho2 := (Array.getElem?_eq_some_iff.1 ho).2
            simp only [List.getElem_toArray, List.getElem_cons_succ, List.getElem_cons_zero] at ho2
            subst ho2
            clear ho
            have e1 := D.old 1 (by kernel_rfl)
            exact wk.does_move rfl (by rw [e1]; rfl)
          ·
            have ho2 := (Array.getElem?_eq_some_iff.1 ho).2
            simp only [List.getElem_toArray, List.getElem_cons_succ, List.getElem_cons_zero] at ho2
            subst ho2
            clear ho
            have e11 := D.old 11 (by kernel_rfl)
            exact wk.does_move rfl (by rw [e11]; rfl)
          ·
            have ho2 := (Array.getElem?_eq_some_iff.1 ho).2
            simp only [List.getElem_toArray, List.getElem_cons_succ, List.getElem_cons_zero] at ho2
            subst ho2
            clear ho
            have e32 := D.is { on := 10, ground := .data } (by simp) rfl rfl 32 rfl
            have e33 := D.is { on := 11, ground := .data } (by simp) rfl rfl 33 rfl
            exact wk.does_run (by simp only [execOp]; rw [e32, e33]; go_simp) rfl
          ·
            have ho2 := (Array.getElem?_eq_some_iff.1 ho).2
            simp only [List.getElem_toArray, List.getElem_cons_succ, List.getElem_cons_zero] at ho2
            subst ho2
            clear ho
            have e34 := D.is { on := 12, ground := .data } (by simp) rfl rfl 34 rfl
            exact wk.does_load1 rfl e34 ((Below.cell (p := ⟨_, _, none⟩) ((Below.refl _ _).drew.trans hb4 : Below wr.heap.size wr w4) hb1).trans hc1) Tryd.underlying24 rfl rfl
          ·
            have ho2 := (Array.getElem?_eq_some_iff.1 ho).2
            simp only [List.getElem_toArray, List.getElem_cons_succ, List.getElem_cons_zero] at ho2
            subst ho2
            clear ho
            have e3 := D.old 3 (by kernel_rfl)
            exact wk.does_move rfl (by rw [e3]; rfl)
          ·
            have ho2 := (Array.getElem?_eq_some_iff.1 ho).2
            simp only [List.getElem_toArray, List.getElem_cons_succ, List.getElem_cons_zero] at ho2
            subst ho2
            clear ho
            have e35 := D.is { on := 13, ground := .data } (by simp) rfl rfl 35 rfl
            have e36 := D.is { on := 14, ground := .data } (by simp) rfl rfl 36 rfl
            refine wk.does_fn (f := 46) (vs := #[.slice A1 d c1, .slice A2 d c2]) rfl (D.fn _) (by simp [e35, e36]) (by go_simp) ?_
            refine (dot_calls A1 A2 d c1 c2 l1 qv w4 (isI_below HL1.out ((Below.refl _ _).drew.trans hb4 : Below wr.heap.size wr w4)) (isI_below HQ.out (Below.andThen HBW.out ((Below.refl _ _).drew.trans hb4 : Below wr.heap.size wr w4))) HFL.out HFQ.out HD.out).mono ?_
            rintro e w5 ⟨rfl, hb5⟩
            exact ⟨_, rfl, hb5, by rw [HDT.out]; rfl⟩
          ·
            have ho2 := (Array.getElem?_eq_some_iff.1 ho).2
            simp only [List.getElem_toArray, List.getElem_cons_succ, List.getElem_cons_zero] at ho2
            subst ho2
            clear ho
            have e31 := D.is { on := 9, ground := .data } (by simp) rfl rfl 31 rfl
            have e37 := D.is { on := 15, ground := .data } (by simp) rfl rfl 37 rfl
            refine wk.does_fn (f := 48) (vs := #[rgv r1, .int .i64 dt]) rfl (D.fn _) (by simp [e31, e37]) (by go_simp) ?_
            refine (outside_calls r1 dt w4 HR1.out.1 HR1.out.2 HDB.out).mono ?_
            rintro e w5 ⟨rfl, hb5⟩
            exact ⟨_, rfl, hb5, by rw [HOU.out]; rfl⟩
          ·
            have ho2 := (Array.getElem?_eq_some_iff.1 ho).2
            simp only [List.getElem_toArray, List.getElem_cons_succ, List.getElem_cons_zero] at ho2
            subst ho2
            clear ho
            have e23 := D.is { on := 1, ground := .data } (by simp) rfl rfl 23 rfl
            have e27 := D.is { on := 5, ground := .data } (by simp) rfl rfl 27 rfl
            have e38 := D.is { on := 16, ground := .data } (by simp) rfl rfl 38 rfl
            refine wk.does_fn (f := 64) (vs := #[.slice A1 d c1, .int .i64 ou]) rfl e23 (by simp [e27, e38]) (by go_simp) ?_
            refine (seuc_calls ou A1 d c1 l1 w4 (isI_below HL1.out ((Below.refl _ _).drew.trans hb4 : Below wr.heap.size wr w4)) HFL.out HD.out HOB.out.1 HOB.out.2).mono ?_
            rintro e w5 ⟨rfl, hb5⟩
            exact ⟨_, rfl, hb5, by exact congrArg (Value.int .i64) HSV.out.symm⟩
          ·
            have ho2 := (Array.getElem?_eq_some_iff.1 ho).2
            simp only [List.getElem_toArray, List.getElem_cons_succ, List.getElem_cons_zero] at ho2
            subst ho2
            clear ho
            have e22 := D.is { on := 0, ground := .data } (by simp) rfl rfl 22 rfl
            have e39 := D.is { on := 17, ground := .data } (by simp) rfl rfl 39 rfl
            exact wk.does_run (v := .int .i64 mx) (by unfold execOp; first | (go_simp; rw [HMX.out]; done) | (dsimp only; go_simp; rw [HMX.out])) rfl
        case hdone =>
          intro vals w4 hb4 hv
          have h18 := hv 18 (by omega)
          clear hv
          replace h18 : vals 18 = (.int .i64 mx) := h18
          simp only [List.drop_succ_cons, List.drop_zero, wk.setL, List.setIfInBounds_toArray, List.set_cons_zero, List.set_cons_succ, Nat.zero_add, Nat.reduceAdd, h18]
          generalize vals 0 = x0
          generalize vals 1 = x1
          generalize vals 2 = x2
          generalize vals 3 = x3
          generalize vals 4 = x4
          generalize vals 5 = x5
          generalize vals 6 = x6
          generalize vals 7 = x7
          generalize vals 8 = x8
          generalize vals 9 = x9
          generalize vals 10 = x10
          generalize vals 11 = x11
          generalize vals 12 = x12
          generalize vals 13 = x13
          generalize vals 14 = x14
          generalize vals 15 = x15
          generalize vals 16 = x16
          generalize vals 17 = x17
          have HBZ := Lib.hid (HB.out.trans (((Below.refl _ _).drew.trans hb4 : Below wr.heap.size wr w4).mono HB.out.size))
          clear hb4
          go_wp2_with fail
          go_roundg (gk - 1)
          case measure => have := HK.out; omega
          case rel => exact ⟨k + 1, by have := HK.out; omega, by rw [HS.out], by go_num, HBZ.out⟩
      · unfold kf
        go_wp2_with fail
        refine wk.region_tailK 19 [.is (.int .i64 s), .is (.func (.func 65) #[] #[]), .is (.slice (some ⟨b, o, none⟩) n c), .is (.int .i64 (k : Int)), .is (.pointer (some ⟨b, o + k, none⟩)), .is (.slice A1 d c1), .is (.slice (some ⟨b2, o2, none⟩) n c'), .is (.int .i64 (k : Int)), .is (.pointer (some ⟨b2, o2 + k * 2, none⟩)), .is (rgv r1), .is (.slice (some ⟨b, o, none⟩) n c), .is (.int .i64 (k : Int)), .is (.pointer (some ⟨b, o + k, none⟩)), .is (.slice A1 d c1), .is (.slice A2 d c2), .is (.int .i64 dt), .is (.int .i64 ou), .is (.int .i64 sv), .is (.int .i64 mx)] [some 22, some 23, some 24, some 25, some 26, some 27, some 28, some 29, some 30, some 31, some 32, some 33, some 34, some 35, some 36, some 37, some 38, some 39, some 40] (by kernel_rfl) (by kernel_rfl) (by kernel_rfl) (by kernel_rfl) [] (by kernel_rfl) (by intro p hp; cases hp) (by kernel_rfl) (by kernel_rfl) ?hstep ?hdone
        case hstep =>
          intro i o ho hi hns E w4 hb4 D hold
          have hi2 : i = 0 ∨ i = 1 ∨ i = 2 ∨ i = 3 ∨ i = 4 ∨ i = 5 ∨ i = 6 ∨ i = 7 ∨ i = 8 ∨ i = 9 ∨ i = 10 ∨ i = 11 ∨ i = 12 ∨ i = 13 ∨ i = 14 ∨ i = 15 ∨ i = 16 ∨ i = 17 ∨ i = 18 := by omega
          clear hi
          rcases hi2 with rfl | rfl | rfl | rfl | rfl | rfl | rfl | rfl | rfl | rfl | rfl | rfl | rfl | rfl | rfl | rfl | rfl | rfl | rfl
          ·
            have ho2 := (Array.getElem?_eq_some_iff.1 ho).2
            simp only [List.getElem_toArray, List.getElem_cons_zero] at ho2
            subst ho2
            clear ho
            have e10 := hold 10 (by kernel_rfl)
            exact wk.does_move rfl (by rw [e10]; rfl)
          ·
            have ho2 := (Array.getElem?_eq_some_iff.1 ho).2
            simp only [List.getElem_toArray, List.getElem_cons_succ, List.getElem_cons_zero] at ho2
            subst ho2
            clear ho
            have e9 := D.old 9 (by kernel_rfl)
            exact wk.does_move rfl (by rw [e9]; rfl)
          ·
            have ho2 := (Array.getElem?_eq_some_iff.1 ho).2
            simp only [List.getElem_toArray, List.getElem_cons_succ, List.getElem_cons_zero] at ho2
            subst ho2
            clear ho
            have e1 := D.old 1 (by kernel_rfl)
            exact wk.does_move rfl (by rw [e1]; rfl)
          ·
            have ho2 := (Array.getElem?_eq_some_iff.1 ho).2
            simp only [List.getElem_toArray, List.getElem_cons_succ, List.getElem_cons_zero] at ho2
            subst ho2
            clear ho
            have e11 := D.old 11 (by kernel_rfl)
            exact wk.does_move rfl (by rw [e11]; rfl)
          ·
            have ho2 := (Array.getElem?_eq_some_iff.1 ho).2
            simp only [List.getElem_toArray, List.getElem_cons_succ, List.getElem_cons_zero] at ho2
            subst ho2
            clear ho
            have e24 := D.is { on := 2, ground := .data } (by simp) rfl rfl 24 rfl
            have e25 := D.is { on := 3, ground := .data } (by simp) rfl rfl 25 rfl
            exact wk.does_run (by simp only [execOp]; rw [e24, e25]; go_simp) rfl
          ·
            have ho2 := (Array.getElem?_eq_some_iff.1 ho).2
            simp only [List.getElem_toArray, List.getElem_cons_succ, List.getElem_cons_zero] at ho2
            subst ho2
            clear ho
            have e26 := D.is { on := 4, ground := .data } (by simp) rfl rfl 26 rfl
            exact wk.does_load1 rfl e26 ((Below.cell (p := ⟨_, _, none⟩) ((Below.refl _ _).drew.trans hb4 : Below wr.heap.size wr w4) hb1).trans hc1) Tryd.underlying24 rfl rfl
          ·
            have ho2 := (Array.getElem?_eq_some_iff.1 ho).2
            simp only [List.getElem_toArray, List.getElem_cons_succ, List.getElem_cons_zero] at ho2
            subst ho2
            clear ho
            have e2 := D.old 2 (by kernel_rfl)
            exact wk.does_move rfl (by rw [e2]; rfl)
          ·
            have ho2 := (Array.getElem?_eq_some_iff.1 ho).2
            simp only [List.getElem_toArray, List.getElem_cons_succ, List.getElem_cons_zero] at ho2
            subst ho2
            clear ho
            have e11 := D.old 11 (by kernel_rfl)
            exact wk.does_move rfl (by rw [e11]; rfl)
          ·
            have ho2 := (Array.getElem?_eq_some_iff.1 ho).2
            simp only [List.getElem_toArray, List.getElem_cons_succ, List.getElem_cons_zero] at ho2
            subst ho2
            clear ho
            have e28 := D.is { on := 6, ground := .data } (by simp) rfl rfl 28 rfl
            have e29 := D.is { on := 7, ground := .data } (by simp) rfl rfl 29 rfl
            exact wk.does_run (by simp only [execOp]; rw [e28, e29]; go_simp) rfl
          ·
            have ho2 := (Array.getElem?_eq_some_iff.1 ho).2
            simp only [List.getElem_toArray, List.getElem_cons_succ, List.getElem_cons_zero] at ho2
            subst ho2
            clear ho
            have e30 := D.is { on := 8, ground := .data } (by simp) rfl rfl 30 rfl
            exact wk.does_load_agg rfl e30 (cs := [.int .i64 r1.1, .int .i64 r1.2]) (fun j v hj => by
              rcases (by have := (List.getElem?_eq_some_iff.1 hj).1; simp at this; omega : j = 0 ∨ j = 1) with rfl | rfl
              · simp at hj; rw [← hj]; exact ((Below.cell (p := ⟨_, _, none⟩) ((Below.refl _ _).drew.trans hb4 : Below wr.heap.size wr w4) hb2).trans hr1)
              · simp at hj; rw [← hj]; exact ((Below.cell (p := ⟨_, _, none⟩) ((Below.refl _ _).drew.trans hb4 : Below wr.heap.size wr w4) hb2).trans hr2)) Tryd.underlying47 rfl (by kernel_rfl) rfl
          ·
            have ho2 := (Array.getElem?_eq_some_iff.1 ho).2
            simp only [List.getElem_toArray, List.getElem_cons_succ, List.getElem_cons_zero] at ho2
            subst ho2
            clear ho
            have e1 := D.old 1 (by kernel_rfl)
            exact wk.does_move rfl (by rw [e1]; rfl)
          ·
            have ho2 := (Array.getElem?_eq_some_iff.1 ho).2
            simp only [List.getElem_toArray, List.getElem_cons_succ, List.getElem_cons_zero] at ho2
            subst ho2
            clear ho
            have e11 := D.old 11 (by kernel_rfl)
            exact wk.does_move rfl (by rw [e11]; rfl)
          ·
            have ho2 := (Array.getElem?_eq_some_iff.1 ho).2
            simp only [List.getElem_toArray, List.getElem_cons_succ, List.getElem_cons_zero] at ho2
            subst ho2
            clear ho
            have e32 := D.is { on := 10, ground := .data } (by simp) rfl rfl 32 rfl
            have e33 := D.is { on := 11, ground := .data } (by simp) rfl rfl 33 rfl
            exact wk.does_run (by simp only [execOp]; rw [e32, e33]; go_simp) rfl
          ·
            have ho2 := (Array.getElem?_eq_some_iff.1 ho).2
            simp only [List.getElem_toArray, List.getElem_cons_succ, List.getElem_cons_zero] at ho2
            subst ho2
            clear ho
            have e34 := D.is { on := 12, ground := .data } (by simp) rfl rfl 34 rfl
            exact wk.does_load1 rfl e34 ((Below.cell (p := ⟨_, _, none⟩) ((Below.refl _ _).drew.trans hb4 : Below wr.heap.size wr w4) hb1).trans hc1) Tryd.underlying24 rfl rfl
          ·
            have ho2 := (Array.getElem?_eq_some_iff.1 ho).2
            simp only [List.getElem_toArray, List.getElem_cons_succ, List.getElem_cons_zero] at ho2
            subst ho2
            clear ho
            have e3 := D.old 3 (by kernel_rfl)
            exact wk.does_move rfl (by rw [e3]; rfl)
          ·
            have ho2 := (Array.getElem?_eq_some_iff.1 ho).2
            simp only [List.getElem_toArray, List.getElem_cons_succ, List.getElem_cons_zero] at ho2
            subst ho2
            clear ho
            have e35 := D.is { on := 13, ground := .data } (by simp) rfl rfl 35 rfl
            have e36 := D.is { on := 14, ground := .data } (by simp) rfl rfl 36 rfl
            refine wk.does_fn (f := 46) (vs := #[.slice A1 d c1, .slice A2 d c2]) rfl (D.fn _) (by simp [e35, e36]) (by go_simp) ?_
            refine (dot_calls A1 A2 d c1 c2 l1 qv w4 (isI_below HL1.out ((Below.refl _ _).drew.trans hb4 : Below wr.heap.size wr w4)) (isI_below HQ.out (Below.andThen HBW.out ((Below.refl _ _).drew.trans hb4 : Below wr.heap.size wr w4))) HFL.out HFQ.out HD.out).mono ?_
            rintro e w5 ⟨rfl, hb5⟩
            exact ⟨_, rfl, hb5, by rw [HDT.out]; rfl⟩
          ·
            have ho2 := (Array.getElem?_eq_some_iff.1 ho).2
            simp only [List.getElem_toArray, List.getElem_cons_succ, List.getElem_cons_zero] at ho2
            subst ho2
            clear ho
            have e31 := D.is { on := 9, ground := .data } (by simp) rfl rfl 31 rfl
            have e37 := D.is { on := 15, ground := .data } (by simp) rfl rfl 37 rfl
            refine wk.does_fn (f := 48) (vs := #[rgv r1, .int .i64 dt]) rfl (D.fn _) (by simp [e31, e37]) (by go_simp) ?_
            refine (outside_calls r1 dt w4 HR1.out.1 HR1.out.2 HDB.out).mono ?_
            rintro e w5 ⟨rfl, hb5⟩
            exact ⟨_, rfl, hb5, by rw [HOU.out]; rfl⟩
          ·
            have ho2 := (Array.getElem?_eq_some_iff.1 ho).2
            simp only [List.getElem_toArray, List.getElem_cons_succ, List.getElem_cons_zero] at ho2
            subst ho2
            clear ho
            have e23 := D.is { on := 1, ground := .data } (by simp) rfl rfl 23 rfl
            have e27 := D.is { on := 5, ground := .data } (by simp) rfl rfl 27 rfl
            have e38 := D.is { on := 16, ground := .data } (by simp) rfl rfl 38 rfl
            refine wk.does_fn (f := 65) (vs := #[.slice A1 d c1, .int .i64 ou]) rfl e23 (by simp [e27, e38]) (by go_simp) ?_
            refine (smost_calls ou A1 d c1 l1 w4 (isI_below HL1.out ((Below.refl _ _).drew.trans hb4 : Below wr.heap.size wr w4)) HFL.out HD.out HOB.out.1 HOB.out.2).mono ?_
            rintro e w5 ⟨rfl, hb5⟩
            exact ⟨_, rfl, hb5, by exact congrArg (Value.int .i64) HSV.out.symm⟩
          ·
            have ho2 := (Array.getElem?_eq_some_iff.1 ho).2
            simp only [List.getElem_toArray, List.getElem_cons_succ, List.getElem_cons_zero] at ho2
            subst ho2
            clear ho
            have e22 := D.is { on := 0, ground := .data } (by simp) rfl rfl 22 rfl
            have e39 := D.is { on := 17, ground := .data } (by simp) rfl rfl 39 rfl
            exact wk.does_run (v := .int .i64 mx) (by unfold execOp; first | (go_simp; rw [HMX.out]; done) | (dsimp only; go_simp; rw [HMX.out])) rfl
        case hdone =>
          intro vals w4 hb4 hv
          have h18 := hv 18 (by omega)
          clear hv
          replace h18 : vals 18 = (.int .i64 mx) := h18
          simp only [List.drop_succ_cons, List.drop_zero, wk.setL, List.setIfInBounds_toArray, List.set_cons_zero, List.set_cons_succ, Nat.zero_add, Nat.reduceAdd, h18]
          generalize vals 0 = x0
          generalize vals 1 = x1
          generalize vals 2 = x2
          generalize vals 3 = x3
          generalize vals 4 = x4
          generalize vals 5 = x5
          generalize vals 6 = x6
          generalize vals 7 = x7
          generalize vals 8 = x8
          generalize vals 9 = x9
          generalize vals 10 = x10
          generalize vals 11 = x11
          generalize vals 12 = x12
          generalize vals 13 = x13
          generalize vals 14 = x14
          generalize vals 15 = x15
          generalize vals 16 = x16
          generalize vals 17 = x17
          have HBZ := Lib.hid (HB.out.trans (((Below.refl _ _).drew.trans hb4 : Below wr.heap.size wr w4).mono HB.out.size))
          clear hb4
          go_wp2_with fail
          go_roundg (gk - 1)
          case measure => have := HK.out; omega
          case rel => exact ⟨k + 1, by have := HK.out; omega, by rw [HS.out], by go_num, HBZ.out⟩
    · have hkk : k = n := by omega
      have hv := HBV.out
      have hE : (ones m L r qv).take k = ones m L r qv := List.take_of_length_le (by rw [ones_len, H.out.isL.1, H.out.isR.1]; omega)
      rw [hE]
      unfold bound at hv
      rw [hv]
      clear hv hE
      go_wp2_with fail
      go_ret
      exact ⟨rfl, HB.out⟩
end Go.Proofs.YtjhagfggelhpkaaDoor.jk
/- Projections and their ranges: the program. -/
namespace Go.Proofs.YtjhagfggelhpkaaDoor.jk

open Go.ChangeShapes Go.WideShapes Go.ChangeAt Go.RowKit

open Go.Proofs.YtjhagfggelhpkaaDoor.jq Go.Proofs.YtjhagfggelhpkaaDoor.vk Go.Proofs.YtjhagfggelhpkaaDoor.wk

set_option linter.unusedVariables false
set_option maxRecDepth 100000 in
set_option maxHeartbeats 4000000 in
theorem apply_calls {L : List (List Int)} {qv : List Int} {d n c c2 : Nat} {A A2 : Option Addr} (w : World) (h : IsVV w A n c L) (h2 : wo.IsI w A2 d c2 qv) (hf : Fit L d) (hv : vq.Vec qv) :
    Calls Tryd.prog 24 #[.slice A n c, .slice A2 d c2] w fun e w' => ∃ v', e = .returned v' ∧ w'.ownsRow w.heap.size 3 1 v' n (iv (apply L qv)) ∧ Below w.heap.size w w' := by
  obtain ⟨i0, hi, hz0, hz1, hz2⟩ := info_parts wi.infoI
  have hm := h.2.2.1
  have hnc := h.2.1
  have hn8 : n ≤ 8 := by rw [← h.1]; exact hf.l8
  have H := Lib.hid h
  have H2 := Lib.hid h2
  have HF := Lib.hid hf
  have HV := Lib.hid hv
  have HAL : Hid ((apply L qv).length = n) := by show _ = _; rw [apply_len, h.1]
  clear h h2 hf hv
  have hnI : (i0.bytes : Nat) * n ≤ 281474976710656 := by rw [hz2]; omega
  obtain ⟨w1, hmk, hown, hgr⟩ := run_make_own (P := Tryd.prog) w (w).heap.size 24 3 i0 (.int .i64 0) 1 Tryd.underlying24 hi hz0 hz1 .i64 .i64 n hnI (by unfold maxLen; omega) (Nat.le_refl _)
  have HB1 : Hid (Below (w).heap.size (w) w1) := (Below.refl _ _).grown hgr (Nat.le_refl _) (fun k hk => by cases hk)
  have HOWN := Lib.hid hown
  clear hown hgr
  generalize hG : w.heap.size = B at *
  have HG := Lib.hid hG
  clear hG
  go_enter Tryd.func24, Tryd.ntmps24
  go_wp2_with fail
  go_loopg [5, 13] n (fun g v x wr => ∃ (k : Nat), k + g = n ∧ x = .int .i64 (k : Int) ∧ wr.ownsRow B 3 1 v k (iv ((apply L qv).take k)) ∧ Below B w wr)
  case atStart => exact ⟨0, by omega, rfl, HOWN.out, HB1.out⟩
  case round =>
    obtain ⟨k, hk, rfl, hown, hbel⟩ := hrel
    have HK := Lib.hid hk
    have HOWN2 := Lib.hid hown
    have HBEL := Lib.hid hbel
    have hkn : k ≤ n := by omega
    by_cases hlt : k < n
    · have hb1 : Below w.heap.size w wr := by rw [HG.out]; exact hbel
      obtain ⟨b, o, A1, n1, c1, l1, rfl, hbb, hcc, hI1, hL1⟩ := isVV_get (isVV_below H.out hb1) hlt
      have hmem := List.mem_of_getElem? hL1
      obtain rfl : d = n1 := by rw [← hI1.1]; exact (HF.out.len _ hmem).symm
      have HFL : Hid (Few l1) := fun x hx => by have := HF.out.lo _ hmem x hx; have := HF.out.hi _ hmem x hx; omega
      have HDC := Lib.hid (dot_calls A1 A2 d c1 c2 l1 qv wr hI1 (isI_below H2.out hb1) HFL.out (few_of HV.out) HF.out.d32)
      have HS : Hid ((apply L qv).take (k + 1) = (apply L qv).take k ++ [vq.dot l1 qv]) := jq.take_snoc (apply_at hL1)
      have h1' : (k : Int) < (n : Int) := by omega
      generalize vq.dot l1 qv = z at *
      clear hown hbel hb1 hk hbb hI1 hL1 hmem
      go_wp2_with fail
      refine HDC.out.mono ?_
      rintro e w5 ⟨rfl, hb5⟩
      have hB5 : B ≤ wr.heap.size := by have := HBEL.out.size; have := HG.out; omega
      have HOWN3 := Lib.hid (keptB HOWN2.out hb5)
      have HBEL5 := Lib.hid (HBEL.out.trans (hb5.mono hB5))
      have HBW : Hid (B ≤ w5.heap.size) := by have := hb5.size; show _ ≤ _; omega
      clear hb5 hB5
      go_wp2_with (at_builtin; refine wpList_append_own _ rfl _ _ 24 rfl B 3 i0 (.int .i64 0) 1 8 Tryd.underlying24 hi hz0 hz1 hz2 rfl (by decide) _ _ _ rfl (HOWN3.out.alloc _) ⟨w5.heap.size, 0, none⟩ 1 1 [.int .i64 z] rfl rfl ?c1 ?c2 ?c3 ?c4 ?c5 ?_)
      case c1 => exact cell_one_new _ _ _
      case c2 => simp [Value.oneCell']
      case c3 => unfold maxLen; omega
      case c4 => omega
      case c5 => have := HBW.out; simp; omega
      intro v' w2 hown2 hgrow _
      have hbe : Below B w w2 := (HBEL5.out.alloc HBW.out _).grown hgrow (by have := HBW.out; simp; omega) (fun q hq => (HOWN3.out.lt q hq).1)
      have HB2 := Lib.hid hbe
      have HO2 := Lib.hid hown2
      clear hown2 hgrow hbe
      go_wp2_with fail
      go_roundg (gk - 1)
      case measure => have := HK.out; omega
      case rel =>
        refine ⟨k + 1, by have := HK.out; omega, by go_num, ?_, HB2.out⟩
        have h := HO2.out
        rw [HS.out]
        unfold iv at h ⊢
        rw [List.map_append]
        simpa using h
    · obtain rfl : k = n := by omega
      have ho := hown
      rw [List.take_of_length_le (by have := HAL.out; omega)] at ho
      have HI2 := Lib.hid ho
      clear ho hown hbel
      go_wp2_with fail
      go_ret
      exact ⟨_, rfl, by first | exact HI2.out | (rw [HG.out]; exact HI2.out), by first | exact HBEL.out | (rw [HG.out]; exact HBEL.out)⟩
theorem apply_bd {L : List (List Int)} {qv : List Int} {d : Nat} (hf : Fit L d) (hv : vq.Vec qv) : ∀ x ∈ apply L qv, -512000 ≤ x ∧ x ≤ 512000 := fun x hx => by
  simp only [apply, List.mem_map] at hx
  obtain ⟨l, hl, rfl⟩ := hx
  exact dot_small (a := l) (b := qv) (fun x hx => ⟨hf.lo _ hl x hx, hf.hi _ hl x hx⟩) (fun x hx => ⟨hv.lo x hx, hv.hi x hx⟩) (by rw [hf.len _ hl]; exact hf.d32)
theorem apply_is {L : List (List Int)} {qv : List Int} {d n B : Nat} {v : Value} {w : World} (hf : Fit L d) (hv : vq.Vec qv) (h : w.ownsRow B 3 1 v n (iv (apply L qv))) : ∃ A c, v = .slice A n c ∧ wo.IsI w A n c (apply L qv) :=
  isI_of_own h fun x hx => by have := apply_bd hf hv x hx; omega
theorem pts_wd {s : List Int} (h : ∀ x ∈ s, -9223372036854775808 ≤ x ∧ x ≤ 9223372036854775807) : ∀ r ∈ pts s, Wd r := fun r hr => by
  simp only [pts, List.mem_map] at hr
  obtain ⟨x, hx, rfl⟩ := hr
  exact ⟨h x hx, h x hx⟩
set_option maxRecDepth 100000 in
set_option maxHeartbeats 4000000 in
theorem of1_calls {L : List (List Int)} {qv : List Int} {d n c c2 g : Nat} {A A2 : Option Addr} (w : World) (h : IsVV w A n c L) (h2 : wo.IsI w A2 d c2 qv) (hf : Fit L d) (hv : vq.Vec qv) (hg : Box w g (.slice A n c)) :
    Calls Tryd.prog 43 #[.slice A2 d c2, .pointer (some ⟨g, 0, none⟩)] w fun e w' => ∃ A' c', e = .returned (.slice A' n c') ∧ IsR w' A' n c' (pts (apply L qv)) ∧ Below w.heap.size w w' := by
  obtain ⟨i0, hi, hz0, hz1, hz2⟩ := info_parts infoRg
  have hm := h.2.2.1
  have hnc := h.2.1
  have hn8 : n ≤ 8 := by rw [← h.1]; exact hf.l8
  have hcell := hg.cell
  have HBX := Lib.hid hg
  have H := Lib.hid h
  have H2 := Lib.hid h2
  have HF := Lib.hid hf
  have HV := Lib.hid hv
  clear h h2 hf hv hg
  have hnI : (i0.bytes : Nat) * n ≤ 281474976710656 := by rw [hz2]; omega
  obtain ⟨w1, hmk, hown, hgr⟩ := run_make_own (P := Tryd.prog) w (w).heap.size 29 47 i0 (.agg #[.int .i64 0, .int .i64 0]) 2 Tryd.underlying29 hi hz0 hz1 .i64 .i64 n hnI (by unfold maxLen; omega) (Nat.le_refl _)
  have HB1 : Hid (Below (w).heap.size (w) w1) := (Below.refl _ _).grown hgr (Nat.le_refl _) (fun k hk => by cases hk)
  have HOWN := Lib.hid hown
  clear hown hgr
  have HAP := Lib.hid (apply_calls w1 (isVV_below H.out HB1.out) (isI_below H2.out HB1.out) HF.out HV.out)
  have hcell1 := (HBX.out.below HB1.out).cell
  have HBX1 := Lib.hid (HBX.out.below HB1.out)
  go_enter Tryd.func43, Tryd.ntmps43
  go_wp2_with fail
  refine HAP.out.mono ?_
  rintro e w2 ⟨v3, rfl, ho3, hb2⟩
  have HO3 := Lib.hid ho3
  obtain ⟨A3, c3, rfl, hI3⟩ := apply_is HF.out HV.out ho3
  have HOWNa := Lib.hid (keptB HOWN.out hb2)
  have HB2 := Lib.hid (Below.andThen HB1.out hb2)
  have hn3 := hI3.2.1
  have hm3 := hI3.2.2.1
  have HAL : Hid ((pts (apply L qv)).length = n) := by show _ = _; rw [pts_len, hI3.1]
  have HBND := Lib.hid (pts_wd hI3.2.2.2.2)
  clear hI3 hb2 hcell hcell1 HAP ho3
  generalize hG : w.heap.size = B at *
  have HG := Lib.hid hG
  clear hG
  go_wp2_with fail
  go_loopg [4, 14] n (fun g v x wr => ∃ (k : Nat), k + g = n ∧ x = .int .i64 (k : Int) ∧ wr.ownsRow B 47 2 v k (fl ((pts (apply L qv)).take k)) ∧ Below B w wr ∧ wr.ownsRow w1.heap.size 3 1 (.slice A3 n c3) n (iv (apply L qv)))
  case atStart => exact ⟨0, by omega, rfl, HOWNa.out, HB2.out, HO3.out⟩
  case round =>
    obtain ⟨k, hk, rfl, hown, hbel, ho4⟩ := hrel
    have HK := Lib.hid hk
    have HOWN2 := Lib.hid hown
    have HBEL := Lib.hid hbel
    have HO4 := Lib.hid ho4
    obtain ⟨A5, c5, e5, hI4⟩ := apply_is HF.out HV.out ho4
    cases e5
    have hkn : k ≤ n := by omega
    have HBW : Hid (B ≤ wr.heap.size) := by have := hbel.size; have := HG.out; show _ ≤ _; omega
    by_cases hlt : k < n
    · obtain ⟨b, o, z, rfl, hcc, hz, -, -⟩ := isI_at hI4 hlt
      have HS : Hid ((pts (apply L qv)).take (k + 1) = (pts (apply L qv)).take k ++ [(z, z)]) := jq.take_snoc (pts_at hz)
      have h1' : (k : Int) < (n : Int) := by omega
      clear hown hbel hk hz hI4 ho4
      go_wp2_with (at_builtin; refine wpList_append_own _ rfl _ _ 29 rfl B 47 i0 (.agg #[.int .i64 0, .int .i64 0]) 2 16 Tryd.underlying29 hi hz0 hz1 hz2 rfl (by decide) _ _ _ rfl (HOWN2.out.alloc _) ⟨wr.heap.size, 0, none⟩ 1 1 [.int .i64 z, .int .i64 z] rfl rfl ?c1 ?c2 ?c3 ?c4 ?c5 ?_)
      case c1 => exact cell_two_new _ _ _ _
      case c2 => exact ones2
      case c3 => unfold maxLen; omega
      case c4 => omega
      case c5 => have := HBW.out; simp; omega
      intro v' w4 hown2 hgrow _
      have hbe : Below B w w4 := (HBEL.out.alloc HBW.out _).grown hgrow (by have := HBW.out; simp; omega) (fun q hq => (HOWN2.out.lt q hq).1)
      have hI5 : w4.ownsRow w1.heap.size 3 1 (.slice (some ⟨b, o, none⟩) n c3) n (iv (apply L qv)) := World.ownsRow.kept (HO4.out.alloc _) hgrow (own_apart HOWN2.out HO4.out (by decide))
      have HB4 := Lib.hid hbe
      have HI5 := Lib.hid hI5
      have HO2 := Lib.hid hown2
      clear hown2 hgrow hbe hI5
      go_wp2_with fail
      go_roundg (gk - 1)
      case measure => have := HK.out; omega
      case rel =>
        refine ⟨k + 1, by have := HK.out; omega, by go_num, ?_, HB4.out, HI5.out⟩
        have h := HO2.out
        rw [HS.out, fl_append]
        exact h
    · obtain rfl : k = n := by omega
      have ho := hown
      rw [List.take_of_length_le (by have := HAL.out; omega)] at ho
      obtain ⟨A2, c2, rfl, hI⟩ := isR_of_own ho HBND.out
      have HI2 := Lib.hid hI
      clear ho hI hown hbel hI4 ho4
      go_wp2_with fail
      go_ret
      exact ⟨A2, c2, rfl, HI2.out, by first | exact HBEL.out | (rw [HG.out]; exact HBEL.out)⟩
set_option maxRecDepth 100000 in
set_option maxHeartbeats 4000000 in
theorem pjoin_calls {a b' : List R} {n c c' : Nat} {A A' : Option Addr} (w : World) (h : IsR w A n c a) (h' : IsR w A' n c' b') (hn : n ≤ 1000) :
    Calls Tryd.prog 22 #[.slice A n c, .slice A' n c'] w fun e w' => ∃ v', e = .returned v' ∧ w'.ownsRow w.heap.size 47 2 v' n (fl (join a b')) ∧ Below w.heap.size w w' := by
  obtain ⟨i0, hi, hz0, hz1, hz2⟩ := info_parts infoRg
  have hm := h.2.2.1
  have hnc := h.2.1
  have hm' := h'.2.2.1
  have hnc' := h'.2.1
  have H := Lib.hid h
  have H' := Lib.hid h'
  have HAL : Hid ((join a b').length = n) := by show _ = _; rw [join_len (by rw [h.1, h'.1]), h.1]
  clear h h'
  have hnI : (i0.bytes : Nat) * n ≤ 281474976710656 := by rw [hz2]; omega
  obtain ⟨w1, hmk, hown, hgr⟩ := run_make_own (P := Tryd.prog) w (w).heap.size 29 47 i0 (.agg #[.int .i64 0, .int .i64 0]) 2 Tryd.underlying29 hi hz0 hz1 .i64 .i64 n hnI (by unfold maxLen; omega) (Nat.le_refl _)
  have HB1 : Hid (Below (w).heap.size (w) w1) := (Below.refl _ _).grown hgr (Nat.le_refl _) (fun k hk => by cases hk)
  have HOWN := Lib.hid hown
  clear hown hgr
  generalize hG : w.heap.size = B at *
  have HG := Lib.hid hG
  clear hG
  go_enter Tryd.func22, Tryd.ntmps22
  go_wp2_with fail
  go_loopg [6, 16] n (fun g v x wr => ∃ (k : Nat) (v0 : Value), k + g = n ∧ v0 = v ∧ x = .int .i64 (k : Int) ∧ wr.ownsRow B 47 2 v0 k (fl ((join a b').take k)) ∧ Below B w wr)
  case atStart => exact ⟨0, _, by omega, rfl, rfl, HOWN.out, HB1.out⟩
  case round =>
    obtain ⟨k, v0, hk, rfl, rfl, hown, hbel⟩ := hrel
    have HK := Lib.hid hk
    have HOWN2 := Lib.hid hown
    have HBEL := Lib.hid hbel
    have HBW : Hid (B ≤ wr.heap.size) := by have := hbel.size; have := HG.out; show _ ≤ _; omega
    have hkn : k ≤ n := by omega
    by_cases hlt : k < n
    · have hb0 : Below w.heap.size w wr := by rw [HG.out]; exact hbel
      obtain ⟨b, o, ⟨x1, x2⟩, rfl, hx1, hx2, hb1, hX, hwx⟩ := isR_get (isR_below H.out hb0) hlt
      obtain ⟨b2, o2, ⟨y1, y2⟩, rfl, hy1, hy2, hb2, hY, hwy⟩ := isR_get (isR_below H'.out hb0) hlt
      dsimp only at hx1 hx2 hy1 hy2
      have hS := jq.take_snoc (join_at hX hY)
      unfold join1 at hS
      dsimp only at hS
      obtain ⟨mn, hmn⟩ : ∃ mn, min x1 y1 = mn := ⟨_, rfl⟩
      obtain ⟨mx, hmx⟩ : ∃ mx, max x2 y2 = mx := ⟨_, rfl⟩
      rw [hmn, hmx] at hS
      have HMN := Lib.hid hmn
      have HMX := Lib.hid hmx
      have HS := Lib.hid hS
      have h1' : (k : Int) < (n : Int) := by omega
      clear hown hbel hb0 hk hX hY hwx hwy hS hmn hmx
      go_wp2_with fail
      refine wk.region_tailK 25 [.is (v0), .is (.slice (some ⟨b, o, none⟩) n c), .is (.int .i64 (k : Int)), .is (.pointer (some ⟨b, o + k * 2, none⟩)), .is (.pointer (some ⟨b, o + k * 2, none⟩)), .is (.int .i64 x1), .is (.slice (some ⟨b2, o2, none⟩) n c'), .is (.int .i64 (k : Int)), .is (.pointer (some ⟨b2, o2 + k * 2, none⟩)), .is (.pointer (some ⟨b2, o2 + k * 2, none⟩)), .is (.int .i64 y1), .is (.int .i64 mn), .is (.slice (some ⟨b, o, none⟩) n c), .is (.int .i64 (k : Int)), .is (.pointer (some ⟨b, o + k * 2, none⟩)), .is (.pointer (some ⟨b, o + k * 2 + 1, none⟩)), .is (.int .i64 x2), .is (.slice (some ⟨b2, o2, none⟩) n c'), .is (.int .i64 (k : Int)), .is (.pointer (some ⟨b2, o2 + k * 2, none⟩)), .is (.pointer (some ⟨b2, o2 + k * 2 + 1, none⟩)), .is (.int .i64 y2), .is (.int .i64 mx), .is (.agg #[.int .i64 mn, .int .i64 mx]), .st (fun u x => ∃ g, x = .slice (some ⟨g, 0, none⟩) 1 1 ∧ RowR u g (mn) (mx)) (fun u u2 x h hb => by obtain ⟨g, h1, h2⟩ := h; exact ⟨g, h1, h2.below hb⟩)] [some 19, some 20, some 21, some 22, some 23, some 24, some 25, some 26, some 27, some 28, some 29, some 30, some 31, some 32, some 33, some 34, some 35, some 36, some 37, some 38, some 39, some 40, some 41, some 42, some 43] (by kernel_rfl) (by kernel_rfl) (by kernel_rfl) (by kernel_rfl) [] (by kernel_rfl) (by intro p hp; cases hp) (by kernel_rfl) (by kernel_rfl) ?hstep ?hdone
      case hstep =>
        intro i o ho hi hns E w4 hb4 D hold
        have hi2 : i = 0 ∨ i = 1 ∨ i = 2 ∨ i = 3 ∨ i = 4 ∨ i = 5 ∨ i = 6 ∨ i = 7 ∨ i = 8 ∨ i = 9 ∨ i = 10 ∨ i = 11 ∨ i = 12 ∨ i = 13 ∨ i = 14 ∨ i = 15 ∨ i = 16 ∨ i = 17 ∨ i = 18 ∨ i = 19 ∨ i = 20 ∨ i = 21 ∨ i = 22 ∨ i = 23 ∨ i = 24 := by omega
        clear hi
        rcases hi2 with rfl | rfl | rfl | rfl | rfl | rfl | rfl | rfl | rfl | rfl | rfl | rfl | rfl | rfl | rfl | rfl | rfl | rfl | rfl | rfl | rfl | rfl | rfl | rfl | rfl
        ·
          have ho2 := (Array.getElem?_eq_some_iff.1 ho).2
          simp only [List.getElem_toArray, List.getElem_cons_zero] at ho2
          subst ho2
          clear ho
          have e6 := hold 6 (by kernel_rfl)
          exact wk.does_move rfl (by rw [e6]; rfl)
        ·
          have ho2 := (Array.getElem?_eq_some_iff.1 ho).2
          simp only [List.getElem_toArray, List.getElem_cons_succ, List.getElem_cons_zero] at ho2
          subst ho2
          clear ho
          have e0 := D.old 0 (by kernel_rfl)
          exact wk.does_move rfl (by rw [e0]; rfl)
        ·
          have ho2 := (Array.getElem?_eq_some_iff.1 ho).2
          simp only [List.getElem_toArray, List.getElem_cons_succ, List.getElem_cons_zero] at ho2
          subst ho2
          clear ho
          have e7 := D.old 7 (by kernel_rfl)
          exact wk.does_move rfl (by rw [e7]; rfl)
        ·
          have ho2 := (Array.getElem?_eq_some_iff.1 ho).2
          simp only [List.getElem_toArray, List.getElem_cons_succ, List.getElem_cons_zero] at ho2
          subst ho2
          clear ho
          have e20 := D.is { on := 1, ground := .data } (by simp) rfl rfl 20 rfl
          have e21 := D.is { on := 2, ground := .data } (by simp) rfl rfl 21 rfl
          exact wk.does_run (by simp only [execOp]; rw [e20, e21]; go_simp) rfl
        ·
          have ho2 := (Array.getElem?_eq_some_iff.1 ho).2
          simp only [List.getElem_toArray, List.getElem_cons_succ, List.getElem_cons_zero] at ho2
          subst ho2
          clear ho
          have e22 := D.is { on := 3, ground := .data } (by simp) rfl rfl 22 rfl
          exact wk.does_run (by simp only [execOp]; rw [e22]; go_simp) rfl
        ·
          have ho2 := (Array.getElem?_eq_some_iff.1 ho).2
          simp only [List.getElem_toArray, List.getElem_cons_succ, List.getElem_cons_zero] at ho2
          subst ho2
          clear ho
          have e23 := D.is { on := 4, ground := .data } (by simp) rfl rfl 23 rfl
          exact wk.does_load1 rfl e23 ((Below.cell (p := ⟨_, _, none⟩) ((Below.refl _ _).drew.trans hb4 : Below wr.heap.size wr w4) hb1).trans hx1) Tryd.underlying3 rfl rfl
        ·
          have ho2 := (Array.getElem?_eq_some_iff.1 ho).2
          simp only [List.getElem_toArray, List.getElem_cons_succ, List.getElem_cons_zero] at ho2
          subst ho2
          clear ho
          have e1 := D.old 1 (by kernel_rfl)
          exact wk.does_move rfl (by rw [e1]; rfl)
        ·
          have ho2 := (Array.getElem?_eq_some_iff.1 ho).2
          simp only [List.getElem_toArray, List.getElem_cons_succ, List.getElem_cons_zero] at ho2
          subst ho2
          clear ho
          have e7 := D.old 7 (by kernel_rfl)
          exact wk.does_move rfl (by rw [e7]; rfl)
        ·
          have ho2 := (Array.getElem?_eq_some_iff.1 ho).2
          simp only [List.getElem_toArray, List.getElem_cons_succ, List.getElem_cons_zero] at ho2
          subst ho2
          clear ho
          have e25 := D.is { on := 6, ground := .data } (by simp) rfl rfl 25 rfl
          have e26 := D.is { on := 7, ground := .data } (by simp) rfl rfl 26 rfl
          exact wk.does_run (by simp only [execOp]; rw [e25, e26]; go_simp) rfl
        ·
          have ho2 := (Array.getElem?_eq_some_iff.1 ho).2
          simp only [List.getElem_toArray, List.getElem_cons_succ, List.getElem_cons_zero] at ho2
          subst ho2
          clear ho
          have e27 := D.is { on := 8, ground := .data } (by simp) rfl rfl 27 rfl
          exact wk.does_run (by simp only [execOp]; rw [e27]; go_simp) rfl
        ·
          have ho2 := (Array.getElem?_eq_some_iff.1 ho).2
          simp only [List.getElem_toArray, List.getElem_cons_succ, List.getElem_cons_zero] at ho2
          subst ho2
          clear ho
          have e28 := D.is { on := 9, ground := .data } (by simp) rfl rfl 28 rfl
          exact wk.does_load1 rfl e28 ((Below.cell (p := ⟨_, _, none⟩) ((Below.refl _ _).drew.trans hb4 : Below wr.heap.size wr w4) hb2).trans hy1) Tryd.underlying3 rfl rfl
        ·
          have ho2 := (Array.getElem?_eq_some_iff.1 ho).2
          simp only [List.getElem_toArray, List.getElem_cons_succ, List.getElem_cons_zero] at ho2
          subst ho2
          clear ho
          have e24 := D.is { on := 5, ground := .data } (by simp) rfl rfl 24 rfl
          have e29 := D.is { on := 10, ground := .data } (by simp) rfl rfl 29 rfl
          exact wk.does_run (v := .int .i64 mn) (by unfold execOp; first | (go_simp; rw [HMN.out]; done) | (dsimp only; go_simp; rw [HMN.out])) rfl
        ·
          have ho2 := (Array.getElem?_eq_some_iff.1 ho).2
          simp only [List.getElem_toArray, List.getElem_cons_succ, List.getElem_cons_zero] at ho2
          subst ho2
          clear ho
          have e0 := D.old 0 (by kernel_rfl)
          exact wk.does_move rfl (by rw [e0]; rfl)
        ·
          have ho2 := (Array.getElem?_eq_some_iff.1 ho).2
          simp only [List.getElem_toArray, List.getElem_cons_succ, List.getElem_cons_zero] at ho2
          subst ho2
          clear ho
          have e7 := D.old 7 (by kernel_rfl)
          exact wk.does_move rfl (by rw [e7]; rfl)
        ·
          have ho2 := (Array.getElem?_eq_some_iff.1 ho).2
          simp only [List.getElem_toArray, List.getElem_cons_succ, List.getElem_cons_zero] at ho2
          subst ho2
          clear ho
          have e31 := D.is { on := 12, ground := .data } (by simp) rfl rfl 31 rfl
          have e32 := D.is { on := 13, ground := .data } (by simp) rfl rfl 32 rfl
          exact wk.does_run (by simp only [execOp]; rw [e31, e32]; go_simp) rfl
        ·
          have ho2 := (Array.getElem?_eq_some_iff.1 ho).2
          simp only [List.getElem_toArray, List.getElem_cons_succ, List.getElem_cons_zero] at ho2
          subst ho2
          clear ho
          have e33 := D.is { on := 14, ground := .data } (by simp) rfl rfl 33 rfl
          exact wk.does_run (by simp only [execOp]; rw [e33]; go_simp) rfl
        ·
          have ho2 := (Array.getElem?_eq_some_iff.1 ho).2
          simp only [List.getElem_toArray, List.getElem_cons_succ, List.getElem_cons_zero] at ho2
          subst ho2
          clear ho
          have e34 := D.is { on := 15, ground := .data } (by simp) rfl rfl 34 rfl
          exact wk.does_load1 rfl e34 ((Below.cell (p := ⟨_, _, none⟩) ((Below.refl _ _).drew.trans hb4 : Below wr.heap.size wr w4) hb1).trans hx2) Tryd.underlying3 rfl rfl
        ·
          have ho2 := (Array.getElem?_eq_some_iff.1 ho).2
          simp only [List.getElem_toArray, List.getElem_cons_succ, List.getElem_cons_zero] at ho2
          subst ho2
          clear ho
          have e1 := D.old 1 (by kernel_rfl)
          exact wk.does_move rfl (by rw [e1]; rfl)
        ·
          have ho2 := (Array.getElem?_eq_some_iff.1 ho).2
          simp only [List.getElem_toArray, List.getElem_cons_succ, List.getElem_cons_zero] at ho2
          subst ho2
          clear ho
          have e7 := D.old 7 (by kernel_rfl)
          exact wk.does_move rfl (by rw [e7]; rfl)
        ·
          have ho2 := (Array.getElem?_eq_some_iff.1 ho).2
          simp only [List.getElem_toArray, List.getElem_cons_succ, List.getElem_cons_zero] at ho2
          subst ho2
          clear ho
          have e36 := D.is { on := 17, ground := .data } (by simp) rfl rfl 36 rfl
          have e37 := D.is { on := 18, ground := .data } (by simp) rfl rfl 37 rfl
          exact wk.does_run (by simp only [execOp]; rw [e36, e37]; go_simp) rfl
        ·
          have ho2 := (Array.getElem?_eq_some_iff.1 ho).2
          simp only [List.getElem_toArray, List.getElem_cons_succ, List.getElem_cons_zero] at ho2
          subst ho2
          clear ho
          have e38 := D.is { on := 19, ground := .data } (by simp) rfl rfl 38 rfl
          exact wk.does_run (by simp only [execOp]; rw [e38]; go_simp) rfl
        ·
          have ho2 := (Array.getElem?_eq_some_iff.1 ho).2
          simp only [List.getElem_toArray, List.getElem_cons_succ, List.getElem_cons_zero] at ho2
          subst ho2
          clear ho
          have e39 := D.is { on := 20, ground := .data } (by simp) rfl rfl 39 rfl
          exact wk.does_load1 rfl e39 ((Below.cell (p := ⟨_, _, none⟩) ((Below.refl _ _).drew.trans hb4 : Below wr.heap.size wr w4) hb2).trans hy2) Tryd.underlying3 rfl rfl
        ·
          have ho2 := (Array.getElem?_eq_some_iff.1 ho).2
          simp only [List.getElem_toArray, List.getElem_cons_succ, List.getElem_cons_zero] at ho2
          subst ho2
          clear ho
          have e35 := D.is { on := 16, ground := .data } (by simp) rfl rfl 35 rfl
          have e40 := D.is { on := 21, ground := .data } (by simp) rfl rfl 40 rfl
          exact wk.does_run (v := .int .i64 mx) (by unfold execOp; first | (go_simp; rw [HMX.out]; done) | (dsimp only; go_simp; rw [HMX.out])) rfl
        ·
          have ho2 := (Array.getElem?_eq_some_iff.1 ho).2
          simp only [List.getElem_toArray, List.getElem_cons_succ, List.getElem_cons_zero] at ho2
          subst ho2
          clear ho
          have e30 := D.is { on := 11, ground := .data } (by simp) rfl rfl 30 rfl
          have e41 := D.is { on := 22, ground := .data } (by simp) rfl rfl 41 rfl
          exact wk.does_run (by simp only [execOp, List.map_toArray, List.map_cons, List.map_nil]; rw [e30, e41]; go_simp) rfl
        ·
          have ho2 := (Array.getElem?_eq_some_iff.1 ho).2
          simp only [List.getElem_toArray, List.getElem_cons_succ, List.getElem_cons_zero] at ho2
          subst ho2
          clear ho
          have e42 := D.is { on := 23, ground := .data } (by simp) rfl rfl 42 rfl
          refine wk.does_new (v := .slice (some ⟨w4.heap.size, 0, none⟩) 1 1) (w' := w4.alloc (.cells #[.int .i64 (mn), .int .i64 (mx)] 47)) (by simp only [execOp, List.map_toArray, List.map_cons, List.map_nil]; rw [e42]; go_simp) (below_new _ _) ⟨_, rfl, RowR.new _ _ _⟩
      case hdone =>
        intro vals w4 hb4 hv
        have h0 := hv 0 (by omega)
        have h24 := hv 24 (by omega)
        clear hv
        replace h0 : vals 0 = (v0) := h0
        simp only [List.drop_succ_cons, List.drop_zero, wk.setL, List.setIfInBounds_toArray, List.set_cons_zero, List.set_cons_succ, Nat.zero_add, Nat.reduceAdd, h0]
        generalize vals 1 = x1
        generalize vals 2 = x2
        generalize vals 3 = x3
        generalize vals 4 = x4
        generalize vals 5 = x5
        generalize vals 6 = x6
        generalize vals 7 = x7
        generalize vals 8 = x8
        generalize vals 9 = x9
        generalize vals 10 = x10
        generalize vals 11 = x11
        generalize vals 12 = x12
        generalize vals 13 = x13
        generalize vals 14 = x14
        generalize vals 15 = x15
        generalize vals 16 = x16
        generalize vals 17 = x17
        generalize vals 18 = x18
        generalize vals 19 = x19
        generalize vals 20 = x20
        generalize vals 21 = x21
        generalize vals 22 = x22
        generalize vals 23 = x23
        generalize vals 24 = x24 at *
        obtain ⟨g, rfl, hg⟩ := h24
        have HOW := Lib.hid (keptB HOWN2.out ((Below.refl _ _).drew.trans hb4 : Below wr.heap.size wr w4))
        have HCG := Lib.hid hg.cells
        have HBELx := Lib.hid (HBEL.out.trans (((Below.refl _ _).drew.trans hb4 : Below wr.heap.size wr w4).mono HBW.out))
        have HBWx : Hid (B ≤ w4.heap.size) := by have := HBW.out; have := ((Below.refl _ _).drew.trans hb4 : Below wr.heap.size wr w4).size; show _ ≤ _; omega
        clear hb4 hg
        go_wp2_with (at_builtin; refine wpList_append_own _ rfl _ _ 29 rfl B 47 i0 (.agg #[.int .i64 0, .int .i64 0]) 2 16 Tryd.underlying29 hi hz0 hz1 hz2 rfl (by decide) _ _ _ rfl HOW.out ⟨g, 0, none⟩ 1 1 [.int .i64 mn, .int .i64 mx] rfl rfl HCG.out ?c2 ?c3 ?c4 ?c5 ?_)
        case c2 => exact ones2
        case c3 => unfold maxLen; omega
        case c4 => omega
        case c5 => exact HBWx.out
        intro v' w5 hown2 hgrow _
        have hbe : Below B w w5 := HBELx.out.grown hgrow (by have := HBWx.out; omega) (fun q hq => (HOW.out.lt q hq).1)
        have HB5 := Lib.hid hbe
        have HO5 := Lib.hid hown2
        clear hown2 hgrow hbe
        go_wp2_with fail
        go_roundg (gk - 1)
        case measure => have := HK.out; omega
        case rel =>
          refine ⟨k + 1, _, by have := HK.out; omega, rfl, by go_num, ?_, HB5.out⟩
          have h := HO5.out
          rw [HS.out, fl_append]
          exact h
    · obtain rfl : k = n := by omega
      have ho := hown
      rw [List.take_of_length_le (by have := HAL.out; omega)] at ho
      have HI2 := Lib.hid ho
      clear ho hown hbel
      go_wp2_with fail
      go_ret
      exact ⟨_, rfl, by first | exact HI2.out | (rw [HG.out]; exact HI2.out), by first | exact HBEL.out | (rw [HG.out]; exact HBEL.out)⟩
end Go.Proofs.YtjhagfggelhpkaaDoor.jk
/- Of, Has, Widest: the program. -/
namespace Go.Proofs.YtjhagfggelhpkaaDoor.jk

open Go.ChangeShapes Go.WideShapes Go.ChangeAt Go.RowKit

open Go.Proofs.YtjhagfggelhpkaaDoor.jq Go.Proofs.YtjhagfggelhpkaaDoor.vk Go.Proofs.YtjhagfggelhpkaaDoor.wk

set_option linter.unusedVariables false
theorem isVV_tail {w : World} {b o n c : Nat} {m : List Int} {T : List (List Int)} (h : IsVV w (some ⟨b, o, none⟩) n c (m :: T)) :
    ∃ A2, (∀ w', (Instr.slice 22 (.slice (some ⟨b, o, none⟩) n c) (some (.int .i64 1)) none none).run Tryd.prog w' = .ok (.slice A2 (n - 1) (c - 1)) w') ∧ IsVV w A2 (n - 1) (c - 1) T := by
  have hl : T.length + 1 = n := h.1
  have hnc := h.2.1
  have hm := h.2.2.1
  refine ⟨_, fun w' => run_tail w' (some ⟨b, o, none⟩) n c (by omega) hnc, by omega, by omega, by omega, fun k l hk => ?_⟩
  have hkT : k < T.length := (List.getElem?_eq_some_iff.1 hk).1
  obtain ⟨b', o', A', n', c', e, hb, hc, hI⟩ := h.2.2.2 (k + 1) l (by simpa using hk)
  cases e
  refine ⟨b, o + 1, A', n', c', ?_, hb, ?_, hI⟩
  · rw [if_neg (by omega)]; simp [wk.add_at]
  · rw [← hc]; congr 2; omega
def ofk (L : List (List Int)) (m : List Int) (T : List (List Int)) : List R := T.foldl (fun acc v => join acc (pts (apply L v))) (pts (apply L m))
theorem ofk_snoc (L : List (List Int)) (m : List Int) {T : List (List Int)} {k : Nat} {l : List Int} (h : T[k]? = some l) : ofk L m (T.take (k + 1)) = join (ofk L m (T.take k)) (pts (apply L l)) := by
  unfold ofk
  rw [jq.take_snoc h, List.foldl_append]; rfl
theorem ofk_len (L : List (List Int)) (m : List Int) (T : List (List Int)) : (ofk L m T).length = L.length := ofR_len_aux L T _ (by rw [pts_len, apply_len])
theorem join_wd {a b : List R} (ha : ∀ r ∈ a, Wd r) (hb : ∀ r ∈ b, Wd r) : ∀ r ∈ join a b, Wd r := fun r hr => by
  simp only [join, List.mem_map] at hr
  obtain ⟨⟨x, y⟩, hp, rfl⟩ := hr
  have h1 := List.of_mem_zip hp
  have hx := ha _ h1.1
  have hy := hb _ h1.2
  unfold Wd join1 at *
  dsimp only
  omega
set_option maxRecDepth 100000 in
set_option maxHeartbeats 4000000 in
theorem of_calls {L V : List (List Int)} {d n c nv cv : Nat} {A AV : Option Addr} (w : World) (h : IsVV w A n c L) (hV : IsVV w AV nv cv V) (hf : Fit L d) (h1 : 1 ≤ nv) (hn : nv ≤ 1000) (hd : ∀ l ∈ V, l.length = d) (hv : ∀ l ∈ V, vq.Vec l) :
    Calls Tryd.prog 17 #[.slice A n c, .slice AV nv cv] w fun e w' => ∃ A' c', e = .returned (.slice A' n c') ∧ IsR w' A' n c' (ofR L V) ∧ Below w.heap.size w w' := by
  have hlV := hV.1
  obtain ⟨m, T, rfl⟩ : ∃ m T, V = m :: T := by
    cases V with
    | nil => simp at hlV; omega
    | cons m T => exact ⟨m, T, rfl⟩
  have hn8 : n ≤ 8 := by rw [← h.1]; exact hf.l8
  have hmA := h.2.2.1
  have hncA := h.2.1
  have hmV := hV.2.2.1
  have hncV := hV.2.1
  have HB := Lib.hid (below_new w (.cells #[.slice A n c] 22))
  have HG := Lib.hid (Box.new w (.slice A n c) 22)
  have H := Lib.hid (isVV_below h HB.out)
  have hV' := isVV_below hV HB.out
  obtain ⟨b, o, A0, n0, c0, l0, rfl, hb0, hc0, hI0, hL0⟩ := isVV_get hV' (k := 0) (by omega)
  simp at hL0
  subst hL0
  rw [Nat.add_zero] at hc0
  obtain rfl : d = n0 := by rw [← hI0.1]; exact (hd m (by simp)).symm
  obtain ⟨A2, hcut, hT⟩ := isVV_tail hV'
  have hTl : T.length + 1 = nv := hlV
  have hne : ((nv : Int) == 0) = false := by simp; omega
  have HT := Lib.hid hT
  have HF := Lib.hid hf
  have HVM := Lib.hid (hv m (by simp))
  have HTV : Hid (∀ l ∈ T, l.length = d ∧ vq.Vec l) := fun l hl => ⟨hd l (by simp [hl]), hv l (by simp [hl])⟩
  have HTL := Lib.hid hTl
  have HC := Lib.hid (of1_calls _ H.out hI0 hf HVM.out HG.out)
  have hOF : ofR L (m :: T) = ofk L m T := rfl
  rw [hOF]
  have h1' : (0 : Int) < (nv : Int) := by omega
  have h1'' : 0 < nv := by omega
  have h2' : nv - 1 ≤ cv - 1 := by omega
  have HA2 := Lib.hid hcut
  clear h hV hV' hI0 hf hd hv hT hOF hb0 hlV
  go_enter Tryd.func17, Tryd.ntmps17
  go_wp2_with fail
  refine HC.out.mono ?_
  rintro e w1 ⟨A1, c1, rfl, hR1, hb1⟩
  have HR1 := Lib.hid hR1
  have HB1 := Lib.hid (Below.andThen HB.out hb1)
  have HT1 := Lib.hid (isVV_below HT.out hb1)
  have H1 := Lib.hid (isVV_below H.out hb1)
  have HG1 := Lib.hid (HG.out.below hb1)
  clear hR1 hb1 HC hc0
  go_wp2_with fail
  generalize hBB : w.heap.size = B at *
  have HBB := Lib.hid hBB
  clear hBB
  go_loopg [6, 21] (nv - 1) (fun g v x wr => ∃ (k : Nat) (A' : Option Addr) (c' : Nat), k + g = nv - 1 ∧ v = .slice A' n c' ∧ x = .int .i64 (k : Int) ∧ IsR wr A' n c' (ofk L m (T.take k)) ∧ Below w1.heap.size w1 wr)
  case atStart => exact ⟨0, _, _, by omega, rfl, rfl, HR1.out, Below.refl _ _⟩
  case round =>
    obtain ⟨k, A', c', hk, rfl, rfl, hR, hbel⟩ := hrel
    have HK := Lib.hid hk
    have HR := Lib.hid hR
    have HBEL := Lib.hid hbel
    have hkn : k ≤ nv - 1 := by omega
    by_cases hlt : k < nv - 1
    · obtain ⟨b', o', A3, n3, c3, l3, rfl, hb3, hc3, hI3, hL3⟩ := isVV_get (isVV_below HT1.out hbel) hlt
      have hmem := HTV.out _ (List.mem_of_getElem? hL3)
      obtain rfl : d = n3 := by rw [← hI3.1]; exact hmem.1.symm
      have HC := Lib.hid (of1_calls wr (isVV_below H1.out hbel) hI3 HF.out hmem.2 (HG1.out.below hbel))
      have HS := Lib.hid (ofk_snoc L m hL3)
      have HLE : Hid (∀ r ∈ pts (apply L l3), Wd r) := pts_wd (fun x hx => by have := apply_bd HF.out hmem.2 x hx; omega)
      have h3' : (k : Int) < ((nv - 1 : Nat) : Int) := by omega
      clear hk hR hbel hb3 hI3 hL3 hmem
      go_wp2_with fail
      refine HC.out.mono ?_
      rintro e w4 ⟨A4, c4, rfl, hR4, hb4⟩
      have HJ := Lib.hid (pjoin_calls w4 (isR_below HR.out hb4) hR4 (by omega))
      have HB4 := Lib.hid (HBEL.out.trans (hb4.mono HBEL.out.size))
      clear hR4 hb4 HC
      go_wp2_with fail
      refine HJ.out.mono ?_
      rintro e w5 ⟨v5, rfl, ho5, hb5⟩
      obtain ⟨A5, c5, rfl, hR5⟩ := isR_of_own ho5 (join_wd HR.out.2.2.2.2 HLE.out)
      have HR5 := Lib.hid hR5
      have HB5 := Lib.hid (HB4.out.trans (hb5.mono HB4.out.size))
      clear ho5 hR5 hb5 HJ
      go_wp2_with fail
      go_roundg (gk - 1)
      case measure => have := HK.out; omega
      case rel => exact ⟨k + 1, A5, c5, by have := HK.out; omega, rfl, by go_num, by rw [HS.out]; exact HR5.out, HB5.out⟩
    · obtain rfl : k = nv - 1 := by omega
      have hR' := hR
      rw [List.take_of_length_le (by have := HTL.out; omega)] at hR'
      have HR' := Lib.hid hR'
      have HBZ : Hid (Below B w wr) := HB1.out.trans (hbel.mono (by have := HB1.out.size; rw [HBB.out] at this; exact this))
      clear hR hR' hbel
      go_wp2_with fail
      go_ret
      exact ⟨_, _, rfl, HR'.out, by first | exact HBZ.out | (rw [HBB.out]; exact HBZ.out)⟩
theorem hasAll_snoc {r : List R} {s : List Int} {k : Nat} {x : R} {y : Int} (h : r[k]? = some x) (h' : s[k]? = some y) : ((r.zip s).take (k + 1)).all (fun p => in1 p.1 p.2) = (((r.zip s).take k).all (fun p => in1 p.1 p.2) && in1 x y) := by
  rw [jq.take_snoc (jq.zip_at h h'), List.all_append]; simp
set_option maxRecDepth 100000 in
set_option maxHeartbeats 4000000 in
theorem has_calls {r : List R} {s : List Int} {n c n' c' : Nat} {A A' : Option Addr} (w : World) (h : IsR w A n c r) (h' : wo.IsI w A' n' c' s) :
    Calls Tryd.prog 25 #[.slice A n c, .slice A' n' c'] w fun e w' => e = .returned (.bool (has r s)) ∧ ∃ q, w' = w.drewN q := by
  have hm := h.2.2.1
  have hnc := h.2.1
  have hm' := h'.2.2.1
  have hnc' := h'.2.1
  by_cases hnn : n = n'
  · subst hnn
    have hE : has r s = hasAll r s := by unfold has; rw [h.1, h'.1]; simp
    rw [hE]
    have H := Lib.hid h
    have H' := Lib.hid h'
    have HZ : Hid ((r.zip s).length = n) := by show _ = _; rw [List.length_zip, h.1, h'.1]; omega
    clear h h' hE
    go_enter Tryd.func25, Tryd.ntmps25
    go_wp2_with fail
    go_loopg [13] n (fun g x wr => ∃ k q : Nat, k + g = n ∧ x = .int .i64 (k : Int) ∧ wr = w.drewN q ∧ ((r.zip s).take k).all (fun p => in1 p.1 p.2) = true)
    case atStart => exact ⟨0, 0, by omega, rfl, rfl, by simp⟩
    case round =>
      obtain ⟨k, q, hk, rfl, rfl, hr⟩ := hrel
      have HK := Lib.hid hk
      have HR := Lib.hid hr
      have hkn : k ≤ n := by omega
      clear hk hr
      by_cases hlt : k < n
      · obtain ⟨b, o, ⟨lo, hi⟩, rfl, hx1, hx2, hb1, hX, hwx⟩ := isR_get H.out hlt
        obtain ⟨b2, o2, y, rfl, hy1, hY, -, -⟩ := isI_at H'.out hlt
        dsimp only at hx1 hx2
        have HS := Lib.hid (hasAll_snoc hX hY)
        have HXY : Hid ((r.zip s)[k]? = some ((lo, hi), y)) := jq.zip_at hX hY
        have hlt0 : (k : Int) < (n : Int) := by omega
        clear hX hY hwx hb1
        by_cases g1 : y < lo
        · have HN : Hid (in1 (lo, hi) y = false) := by show _ = _; unfold in1; simp; omega
          go_wp2_with fail
          go_quiet (fail)
          go_wp2_with fail
          go_ret
          refine ⟨?_, _, by first | rfl | exact drewN_add _ _ _⟩
          have h1 : hasAll r s = false := by
            unfold hasAll
            rw [List.all_eq_false]
            exact ⟨_, List.mem_of_getElem? HXY.out, by simp [HN.out]⟩
          rw [h1]; rfl
        · by_cases g2 : hi < y
          · have HN : Hid (in1 (lo, hi) y = false) := by show _ = _; unfold in1; simp; omega
            go_wp2_with fail
            go_quiet (fail)
            go_wp2_with fail
            go_ret
            refine ⟨?_, _, by first | rfl | exact drewN_add _ _ _⟩
            have h1 : hasAll r s = false := by
              unfold hasAll
              rw [List.all_eq_false]
              exact ⟨_, List.mem_of_getElem? HXY.out, by simp [HN.out]⟩
            rw [h1]; rfl
          · have HN : Hid (in1 (lo, hi) y = true) := by show _ = _; unfold in1; simp; omega
            go_wp2_with fail
            go_quiet (fail)
            go_wp2_with fail
            go_roundg (gk - 1)
            case measure => have := HK.out; omega
            case rel => exact ⟨k + 1, _, by have := HK.out; omega, by go_num, by first | rfl | exact drewN_add _ _ _, by rw [HS.out, HR.out, HN.out]; rfl⟩
      · go_wp2_with fail
        go_ret
        refine ⟨?_, q, rfl⟩
        have h1 := HR.out
        rw [List.take_of_length_le (by have := HZ.out; omega)] at h1
        unfold hasAll
        rw [h1]; rfl
  · have hE : has r s = false := by unfold has; rw [h.1, h'.1]; simp [hnn]
    rw [hE]
    have hne : ((n : Int) == (n' : Int)) = false := by simp; omega
    clear h h' hE
    go_enter Tryd.func25, Tryd.ntmps25
    go_wp2_with fail
    go_ret
    exact ⟨rfl, 0, rfl⟩
theorem getD_at {r : List R} {k : Nat} {x : R} (h : r[k]? = some x) : r.getD k (0, 0) = x := by
  rw [List.getD_eq_getElem?_getD, h]; rfl
set_option maxRecDepth 100000 in
set_option maxHeartbeats 4000000 in
theorem widest_calls {r : List R} {n c : Nat} {A : Option Addr} (w : World) (h : IsR w A n c r) (hb : ∀ x ∈ r, (-2147483648 ≤ x.1 ∧ x.1 ≤ 2147483648) ∧ -2147483648 ≤ x.2 ∧ x.2 ≤ 2147483648) :
    Calls Tryd.prog 27 #[.slice A n c] w fun e w' => e = .returned (.int .i64 (widest r : Nat)) ∧ ∃ q, w' = w.drewN q := by
  have hm := h.2.2.1
  have hnc := h.2.1
  have hE : widest r = widk r n := by unfold widest; rw [h.1]
  rw [hE]
  have H := Lib.hid h
  have HBD := Lib.hid hb
  clear h hE hb
  go_enter Tryd.func27, Tryd.ntmps27
  go_wp2_with fail
  go_loopg [3, 7] (n - 0) (fun g v x wr => ∃ k q : Nat, k + g = n ∧ 0 ≤ k ∧ x = .int .i64 (k : Int) ∧ v = .int .i64 (widk r k : Nat) ∧ wr = w.drewN q)
  case atStart => exact ⟨0, 0, by omega, by omega, rfl, rfl, rfl⟩
  case round =>
    obtain ⟨k, q, hk, hk1, rfl, rfl, rfl⟩ := hrel
    have HK := Lib.hid hk
    have hkn : k ≤ n := by omega
    clear hk
    by_cases hlt : k < n
    · obtain ⟨b, o, ⟨lo, hi⟩, rfl, hx1, hx2, hb1, hX, hwx⟩ := isR_get H.out hlt
      have hwk : widk r k < n := by have := widk_lt r k; omega
      have HS := Lib.hid (widk_succ r k)
      generalize widk r k = wk at *
      obtain ⟨b2, o2, ⟨lo2, hi2⟩, e2, hy1, hy2, hb2, hY, hwy⟩ := isR_get H.out hwk
      cases e2
      dsimp only at hx1 hx2 hy1 hy2
      have q1 := HBD.out _ (List.mem_of_getElem? hX)
      have q2 := HBD.out _ (List.mem_of_getElem? hY)
      have HT : Hid (wstep r wk k = if hi - lo > hi2 - lo2 then k else wk) := by
        show _ = _
        unfold wstep wide
        rw [getD_at hX, getD_at hY]
      have hlt0 : (k : Int) < (n : Int) := by omega
      have hlt1 : (wk : Int) < (n : Int) := by omega
      clear hX hY hwx hwy hb1 hb2
      by_cases hg : hi - lo > hi2 - lo2
      · have HT2 : Hid (wstep r wk k = k) := by show _ = _; rw [HT.out, if_pos hg]
        go_wp2_with fail
        go_quiet (fail)
        go_wp2_with fail
        go_roundg (gk - 1)
        case measure => have := HK.out; omega
        case rel => exact ⟨k + 1, _, by have := HK.out; omega, by omega, by go_num, by rw [HS.out, HT2.out], by first | rfl | exact drewN_add _ _ _⟩
      · have HT2 : Hid (wstep r wk k = wk) := by show _ = _; rw [HT.out, if_neg hg]
        go_wp2_with fail
        go_quiet (fail)
        go_wp2_with fail
        go_roundg (gk - 1)
        case measure => have := HK.out; omega
        case rel => exact ⟨k + 1, _, by have := HK.out; omega, by omega, by go_num, by rw [HS.out, HT2.out], by first | rfl | exact drewN_add _ _ _⟩
    · obtain rfl : k = n := by omega
      go_wp2_with fail
      go_ret
      exact ⟨rfl, q, rfl⟩
end Go.Proofs.YtjhagfggelhpkaaDoor.jk
/- Plain arithmetic of the check: no program here. -/
namespace Go.Proofs.YtjhagfggelhpkaaDoor.hp

def POLY : Nat := 0x0004820009
/-- one bit further -/
def T (a : Nat) : Nat := (2 * a) % 1099511627776 ^^^ (if a.testBit 39 then POLY else 0)

theorem xor_mod (a b k : Nat) : (a ^^^ b) % 2 ^ k = a % 2 ^ k ^^^ b % 2 ^ k := by
  apply Nat.eq_of_testBit_eq; intro i
  simp only [Nat.testBit_xor, Nat.testBit_mod_two_pow]
  cases decide (i < k) <;> simp
theorem xor_shl (a b k : Nat) : (a ^^^ b) * 2 ^ k = a * 2 ^ k ^^^ b * 2 ^ k := by
  rw [← Nat.shiftLeft_eq, ← Nat.shiftLeft_eq, ← Nat.shiftLeft_eq]
  exact Nat.shiftLeft_xor_distrib
theorem xor_shr (a b k : Nat) : (a ^^^ b) / 2 ^ k = a / 2 ^ k ^^^ b / 2 ^ k := by
  rw [← Nat.shiftRight_eq_div_pow, ← Nat.shiftRight_eq_div_pow, ← Nat.shiftRight_eq_div_pow]
  exact Nat.shiftRight_xor_distrib
theorem xor4 (a b c d : Nat) : (a ^^^ b) ^^^ (c ^^^ d) = (a ^^^ c) ^^^ (b ^^^ d) := by
  rw [Nat.xor_assoc, Nat.xor_assoc, ← Nat.xor_assoc b c d, ← Nat.xor_assoc c b d, Nat.xor_comm b c]

/-- kept by exclusive or -/
def Lin (f : Nat → Nat) : Prop := ∀ a b, f (a ^^^ b) = f a ^^^ f b
theorem Lin.zero {f : Nat → Nat} (h : Lin f) : f 0 = 0 := by
  have := h 0 0
  rw [Nat.xor_self, Nat.xor_self] at this
  exact this
theorem Lin.comp {f g : Nat → Nat} (hf : Lin f) (hg : Lin g) : Lin fun a => f (g a) := fun a b => by
  show f (g (a ^^^ b)) = _
  rw [hg, hf]
theorem Lin.xor {f g : Nat → Nat} (hf : Lin f) (hg : Lin g) : Lin fun a => f a ^^^ g a := fun a b => by
  show f (a ^^^ b) ^^^ g (a ^^^ b) = _
  rw [hf, hg, xor4]
theorem lin_id : Lin fun a => a := fun _ _ => rfl
theorem lin_mod (k : Nat) : Lin fun a => a % 2 ^ k := fun a b => xor_mod a b k
theorem lin_shl (k : Nat) : Lin fun a => a * 2 ^ k := fun a b => xor_shl a b k
theorem lin_shr (k : Nat) : Lin fun a => a / 2 ^ k := fun a b => xor_shr a b k
theorem lin_bit (k c : Nat) : Lin fun a => if a.testBit k then c else 0 := fun a b => by
  show (if (a ^^^ b).testBit k then c else 0) = (if a.testBit k then c else 0) ^^^ (if b.testBit k then c else 0)
  rw [Nat.testBit_xor]
  cases a.testBit k <;> cases b.testBit k <;> simp

theorem split_top {a k : Nat} (h : a < 2 ^ (k + 1)) (h2 : ¬ a < 2 ^ k) : a = 2 ^ k ^^^ (a - 2 ^ k) ∧ a - 2 ^ k < 2 ^ k := by
  have h3 : a - 2 ^ k < 2 ^ k := by rw [Nat.pow_succ] at h; omega
  refine ⟨?_, h3⟩
  apply Nat.eq_of_testBit_eq; intro i
  rw [Nat.testBit_xor, Nat.testBit_two_pow]
  have e : a = 2 ^ k + (a - 2 ^ k) := by omega
  rcases Nat.lt_trichotomy i k with hi | hi | hi
  · rw [e, Nat.testBit_two_pow_add_gt hi, Nat.add_sub_cancel_left, decide_eq_false (by omega : ¬ k = i)]; simp
  · subst hi
    rw [e, Nat.testBit_two_pow_add_eq, Nat.add_sub_cancel_left]; simp
  · have h4 : a.testBit i = false := Nat.testBit_lt_two_pow (Nat.lt_of_lt_of_le h (Nat.pow_le_pow_right (by decide) hi))
    have h5 : (a - 2 ^ k).testBit i = false := Nat.testBit_lt_two_pow (Nat.lt_of_lt_of_le h3 (Nat.pow_le_pow_right (by decide) (Nat.le_of_lt hi)))
    rw [h4, h5]; simp; omega

theorem basis {f g : Nat → Nat} (hf : Lin f) (hg : Lin g) : ∀ k, (∀ i, i < k → f (2 ^ i) = g (2 ^ i)) → ∀ a, a < 2 ^ k → f a = g a
  | 0, _, a, ha => by
    have : a = 0 := by simpa using ha
    rw [this, hf.zero, hg.zero]
  | k + 1, h, a, ha => by
    have ih := basis hf hg k fun i hi => h i (by omega)
    by_cases h2 : a < 2 ^ k
    · exact ih a h2
    · obtain ⟨e, hlt⟩ := split_top ha h2
      rw [e, hf, hg, h k (by omega), ih _ hlt]

theorem T_lin : Lin T := by
  have h : Lin fun a => (2 * a) % 2 ^ 40 ^^^ (if a.testBit 39 then POLY else 0) :=
    Lin.xor (Lin.comp (lin_mod 40) (fun a b => by
      show 2 * (a ^^^ b) = 2 * a ^^^ 2 * b
      have := xor_shl a b 1
      rw [Nat.pow_one] at this
      rw [Nat.mul_comm 2 (a ^^^ b), Nat.mul_comm 2 a, Nat.mul_comm 2 b]; exact this)) (lin_bit 39 POLY)
  exact h
theorem T_lt (a : Nat) : T a < 1099511627776 := by
  unfold T
  refine Nat.xor_lt_two_pow (n := 40) (Nat.mod_lt _ (by decide)) ?_
  split <;> decide

/-- n bits further -/
def Tn : Nat → Nat → Nat
  | 0, a => a
  | n + 1, a => T (Tn n a)
theorem Tn_lin : ∀ n, Lin (Tn n)
  | 0 => lin_id
  | n + 1 => fun a b => by
    show T (Tn n (a ^^^ b)) = T (Tn n a) ^^^ T (Tn n b)
    rw [Tn_lin n, T_lin]
theorem Tn_add (n m a : Nat) : Tn (n + m) a = Tn n (Tn m a) := by
  induction n with
  | zero => rw [Nat.zero_add]; rfl
  | succ n ih => rw [Nat.succ_add]; show T _ = T _; rw [ih]
theorem Tn_lt (n : Nat) {a : Nat} (h : a < 1099511627776) : Tn n a < 1099511627776 := by
  cases n with
  | zero => exact h
  | succ n => exact T_lt _

/-- 'raise' -/
def raise (a n : Nat) : Nat := (a * 2 ^ n) % 2 ^ 40 ^^^ a / 2 ^ (40 - n) * 2 ^ 26 ^^^ a / 2 ^ (40 - n) * 2 ^ 23 ^^^ a / 2 ^ (40 - n) * 2 ^ 17 ^^^ a / 2 ^ (40 - n) * 2 ^ 3 ^^^ a / 2 ^ (40 - n)
theorem raise_lin (n : Nat) : Lin fun a => raise a n := by
  have hs := lin_shr (40 - n)
  exact ((((Lin.comp (lin_mod 40) (lin_shl n)).xor (Lin.comp (lin_shl 26) hs)).xor (Lin.comp (lin_shl 23) hs)).xor (Lin.comp (lin_shl 17) hs)).xor (Lin.comp (lin_shl 3) hs) |>.xor hs
theorem raise_1 {a : Nat} (h : a < 1099511627776) : raise a 1 = T a :=
  basis (raise_lin 1) T_lin 40 (by decide +kernel) a h
theorem raise_8 {a : Nat} (h : a < 1099511627776) : raise a 8 = Tn 8 a :=
  basis (raise_lin 8) (Tn_lin 8) 40 (by decide +kernel) a h

/-- 'multiply', k bits of the second number -/
def mulK : Nat → Nat → Nat → Nat
  | 0, _, _ => 0
  | k + 1, a, b => (if b.testBit 0 then a else 0) ^^^ mulK k (T a) (b / 2)
theorem mulK_lin2 : ∀ k a, Lin (mulK k a)
  | 0, _ => fun _ _ => by simp [mulK]
  | k + 1, a => Lin.xor (lin_bit 0 a) (Lin.comp (mulK_lin2 k (T a)) (by have := lin_shr 1; rw [Nat.pow_one] at this; exact this))
theorem mulK_lin1 : ∀ k b, Lin fun a => mulK k a b
  | 0, _ => fun _ _ => by simp [mulK]
  | k + 1, b => Lin.xor (f := fun a => if b.testBit 0 then a else 0) (fun a c => by
      show (if b.testBit 0 then a ^^^ c else 0) = (if b.testBit 0 then a else 0) ^^^ (if b.testBit 0 then c else 0)
      cases b.testBit 0 <;> simp) (Lin.comp (mulK_lin1 k (b / 2)) T_lin)
theorem mulK_zero : ∀ k a, mulK k a 0 = 0 := fun k a => (mulK_lin2 k a).zero
theorem mulK_pow : ∀ (k a i : Nat), i < k → mulK k a (2 ^ i) = Tn i a
  | 0, _, i, h => absurd h (by omega)
  | k + 1, a, 0, _ => by
    show (if Nat.testBit 1 0 then a else 0) ^^^ mulK k (T a) (1 / 2) = a
    rw [show 1 / 2 = 0 from rfl, mulK_zero]; simp
  | k + 1, a, i + 1, h => by
    show (if Nat.testBit (2 ^ (i + 1)) 0 then a else 0) ^^^ mulK k (T a) (2 ^ (i + 1) / 2) = Tn (i + 1) a
    have e : 2 ^ (i + 1) / 2 = 2 ^ i := by rw [Nat.pow_succ]; omega
    rw [e, mulK_pow k (T a) i (by omega)]
    have : Nat.testBit (2 ^ (i + 1)) 0 = false := by rw [Nat.testBit_two_pow]; simp
    rw [this, show i + 1 = i + 1 from rfl, Tn_add i 1 a]
    simp [Tn]
theorem mulK_T {a b : Nat} (ha : a < 1099511627776) (hb : b < 1099511627776) : mulK 40 a (T b) = T (mulK 40 a b) := by
  refine basis (f := fun b => mulK 40 a (T b)) (g := fun b => T (mulK 40 a b)) (Lin.comp (mulK_lin2 40 a) T_lin) (Lin.comp T_lin (mulK_lin2 40 a)) 40 ?_ b hb
  intro i hi
  show mulK 40 a (T (2 ^ i)) = T (mulK 40 a (2 ^ i))
  rw [mulK_pow 40 a i hi]
  rcases Nat.lt_or_ge i 39 with h | h
  · have e : T (2 ^ i) = 2 ^ (i + 1) := by
      have : ∀ i, i < 39 → T (2 ^ i) = 2 ^ (i + 1) := by decide +kernel
      exact this i h
    rw [e, mulK_pow 40 a (i + 1) (by omega)]
    rfl
  · obtain rfl : i = 39 := by omega
    show _ = Tn 40 a
    exact basis (f := fun a => mulK 40 a (T (2 ^ 39))) (g := Tn 40) (mulK_lin1 40 _) (Tn_lin 40) 40 (by decide +kernel) a ha
theorem mulK_Tn {a : Nat} (ha : a < 1099511627776) : ∀ n, mulK 40 a (Tn n 1) = Tn n a
  | 0 => mulK_pow 40 a 0 (by decide)
  | n + 1 => by
    show mulK 40 a (T (Tn n 1)) = T (Tn n a)
    rw [mulK_T ha (Tn_lt n (by decide)), mulK_Tn ha n]

/-- the register behind some bytes -/
def reg : Nat → List UInt8 → Nat
  | r, [] => r
  | r, c :: l => reg (Tn 8 (r ^^^ c.toNat * 4294967296)) l
theorem reg_append (r : Nat) (a b : List UInt8) : reg r (a ++ b) = reg (reg r a) b := by
  induction a generalizing r with
  | nil => rfl
  | cons c a ih => exact ih _
theorem byte_lt (c : UInt8) : c.toNat * 4294967296 < 1099511627776 := by have := c.toNat_lt; omega
theorem reg_lt {r : Nat} (h : r < 1099511627776) (l : List UInt8) : reg r l < 1099511627776 := by
  induction l generalizing r with
  | nil => exact h
  | cons c l ih => exact ih (Tn_lt 8 (Nat.xor_lt_two_pow (n := 40) h (byte_lt c)))
theorem reg_xor (a b : Nat) (l : List UInt8) : reg (a ^^^ b) l = Tn (8 * l.length) a ^^^ reg b l := by
  induction l generalizing a b with
  | nil => rfl
  | cons c l ih =>
    show reg (Tn 8 (a ^^^ b ^^^ c.toNat * 4294967296)) l = Tn (8 * (l.length + 1)) a ^^^ reg (Tn 8 (b ^^^ c.toNat * 4294967296)) l
    rw [Nat.xor_assoc, Tn_lin 8, ih, Nat.mul_add, Tn_add]
def FULL : Nat := 1099511627775
/-- the check -/
def crc (l : List UInt8) : Nat := reg FULL l ^^^ FULL
/-- two checks joined -/
def join (a b n : Nat) : Nat := Tn (8 * n) (a % 1099511627776) ^^^ b % 1099511627776
theorem crc_lt (l : List UInt8) : crc l < 1099511627776 := Nat.xor_lt_two_pow (n := 40) (reg_lt (by decide) l) (by decide)
theorem join_crc (a b : List UInt8) : join (crc a) (crc b) b.length = crc (a ++ b) := by
  have h1 : Tn (8 * b.length) (crc a) = Tn (8 * b.length) (reg FULL a) ^^^ Tn (8 * b.length) FULL := Tn_lin _ _ _
  have h2 : reg FULL b = Tn (8 * b.length) FULL ^^^ reg 0 b := by have := reg_xor FULL 0 b; rw [Nat.xor_zero] at this; exact this
  have h3 : reg (reg FULL a) b = Tn (8 * b.length) (reg FULL a) ^^^ reg 0 b := by have := reg_xor (reg FULL a) 0 b; rw [Nat.xor_zero] at this; exact this
  unfold join
  rw [Nat.mod_eq_of_lt (crc_lt a), Nat.mod_eq_of_lt (crc_lt b), h1]
  unfold crc
  rw [reg_append, h2, h3]
  generalize Tn (8 * b.length) (reg FULL a) = x
  generalize Tn (8 * b.length) FULL = y
  generalize reg 0 b = z
  have e : y ^^^ (y ^^^ (z ^^^ FULL)) = z ^^^ FULL := by rw [← Nat.xor_assoc, Nat.xor_self, Nat.zero_xor]
  rw [Nat.xor_assoc x y, Nat.xor_assoc y z, e, Nat.xor_assoc]

/-- the specification's step -/
def sstep (r b : Nat) : Nat := T (r ^^^ b * 549755813888)
end Go.Proofs.YtjhagfggelhpkaaDoor.hp
/- Unsigned words as natural numbers: what 'bits' gives; no program here. -/
namespace Go.Proofs.YtjhagfggelhpkaaDoor.hb

theorem bits_xor_nat (k : IntKind) (j : Nat) (hj : j ≤ k.bits) (hk : ∀ n : Int, 0 ≤ n → n < 2 ^ j → k.wrap n = n) (a b : Nat) (ha : a < 2 ^ j) (hb : b < 2 ^ j) :
    bits .xor k a b = ((a ^^^ b : Nat) : Int) := by
  have hp : 2 ^ j ≤ 2 ^ k.bits := Nat.pow_le_pow_right (by decide) hj
  have ha' : a % 2 ^ k.bits = a := Nat.mod_eq_of_lt (Nat.lt_of_lt_of_le ha hp)
  have hb' : b % 2 ^ k.bits = b := Nat.mod_eq_of_lt (Nat.lt_of_lt_of_le hb hp)
  have cast : ∀ n : Nat, n < 2 ^ j → ((n : Nat) : Int) < 2 ^ j := fun n h => by exact_mod_cast h
  simp only [bits, BitVec.ofInt_natCast, BitVec.toNat_xor, BitVec.toNat_ofNat, ha', hb']
  exact hk _ (Int.natCast_nonneg _) (cast _ (Nat.xor_lt_two_pow ha hb))

theorem w64 (n : Int) (h0 : 0 ≤ n) (h1 : n < 2 ^ 64) : IntKind.u64.wrap n = n := by
  simp [IntKind.wrap, IntKind.bits, IntKind.signed]; omega
theorem w32 (n : Int) (h0 : 0 ≤ n) (h1 : n < 2 ^ 32) : IntKind.u32.wrap n = n := by
  rw [IntKind.wrap_u32]; omega
theorem w8 (n : Int) (h0 : 0 ≤ n) (h1 : n < 2 ^ 8) : IntKind.u8.wrap n = n := by
  rw [IntKind.wrap_u8]; omega

/-- a word that is a number -/
structure U (j : Nat) (x : Int) (a : Nat) : Prop where
  eq : x = (a : Int)
  lt : a < 2 ^ j
theorem U.nat {j a : Nat} (h : a < 2 ^ j) : U j (a : Int) a := ⟨rfl, h⟩
theorem U.mul {j : Nat} {x : Int} {a : Nat} (h : U j x a) (c : Nat) (hc : a * c < 2 ^ j) : U j (x * (c : Int)) (a * c) := ⟨by rw [h.eq]; simp, hc⟩
theorem U.div {j : Nat} {x : Int} {a : Nat} (h : U j x a) (c : Nat) : U j (x / (c : Int)) (a / c) := ⟨by rw [h.eq]; simp, Nat.lt_of_le_of_lt (Nat.div_le_self _ _) h.lt⟩
theorem U.xor64 {x y : Int} {a b : Nat} (h : U 64 x a) (g : U 64 y b) : U 64 (bits .xor .u64 x y) (a ^^^ b) :=
  ⟨by rw [h.eq, g.eq]; exact bits_xor_nat .u64 64 (by decide) w64 a b h.lt g.lt, Nat.xor_lt_two_pow h.lt g.lt⟩
theorem U.and64 {x y : Int} {a b : Nat} (h : U 64 x a) (g : U 64 y b) : U 64 (bits .and .u64 x y) (a &&& b) :=
  ⟨by rw [h.eq, g.eq]; exact (bits_nat .u64 64 (by decide) w64 a b h.lt g.lt).1, Nat.and_lt_two_pow _ g.lt⟩
theorem U.or64 {x y : Int} {a b : Nat} (h : U 64 x a) (g : U 64 y b) : U 64 (bits .or .u64 x y) (a ||| b) :=
  ⟨by rw [h.eq, g.eq]; exact (bits_nat .u64 64 (by decide) w64 a b h.lt g.lt).2, Nat.or_lt_two_pow h.lt g.lt⟩
theorem U.xor32 {x y : Int} {a b : Nat} (h : U 32 x a) (g : U 32 y b) : U 32 (bits .xor .u32 x y) (a ^^^ b) :=
  ⟨by rw [h.eq, g.eq]; exact bits_xor_nat .u32 32 (by decide) w32 a b h.lt g.lt, Nat.xor_lt_two_pow h.lt g.lt⟩
theorem U.and32 {x y : Int} {a b : Nat} (h : U 32 x a) (g : U 32 y b) : U 32 (bits .and .u32 x y) (a &&& b) :=
  ⟨by rw [h.eq, g.eq]; exact (bits_nat .u32 32 (by decide) w32 a b h.lt g.lt).1, Nat.and_lt_two_pow _ g.lt⟩
theorem U.or32 {x y : Int} {a b : Nat} (h : U 32 x a) (g : U 32 y b) : U 32 (bits .or .u32 x y) (a ||| b) :=
  ⟨by rw [h.eq, g.eq]; exact (bits_nat .u32 32 (by decide) w32 a b h.lt g.lt).2, Nat.or_lt_two_pow h.lt g.lt⟩
theorem U.mask40 {x : Int} {a : Nat} (h : U 64 x a) : U 64 (bits .and .u64 x 1099511627775) (a % 1099511627776) := by
  have := h.and64 (U.nat (j := 64) (a := 1099511627775) (by decide))
  rw [show (1099511627775 : Nat) = 2 ^ 40 - 1 from rfl, Nat.and_two_pow_sub_one_eq_mod] at this
  exact this
theorem bit0_i64 (n : Nat) (h : n < 9223372036854775808) : bits .and .i64 (n : Int) 1 = ((n % 2 : Nat) : Int) := by
  have := bits_mask .i64 63 (by decide) (fun n h0 h1 => by rw [IntKind.wrap_i64]; omega) 1 (by decide) (n : Int) (by omega) (by omega)
  simpa using this
theorem bit0_u64 (n : Nat) (h : n < 18446744073709551616) : bits .and .u64 (n : Int) 1 = ((n % 2 : Nat) : Int) := by
  have := bits_mask .u64 64 (by decide) w64 1 (by decide) (n : Int) (by omega) (by omega)
  simpa using this
theorem U.wrap32 {x : Int} {a : Nat} (h : x = (a : Int)) : U 32 (IntKind.u32.wrap x) (a % 4294967296) := ⟨by rw [h, IntKind.wrap_u32]; omega, Nat.mod_lt _ (by decide)⟩
theorem U.add32 {x y : Int} {a b : Nat} (h : U 32 x a) (g : U 32 y b) : U 32 (IntKind.u32.wrap (x + y)) ((a + b) % 4294967296) := ⟨by rw [h.eq, g.eq, IntKind.wrap_u32]; omega, Nat.mod_lt _ (by decide)⟩
theorem xor_swap (r : Nat) : bits .xor .u64 ((r : Nat) : Int) 1099511627775 = bits .xor .u64 ((r : Nat) : Int) 1099511627775 := rfl
end Go.Proofs.YtjhagfggelhpkaaDoor.hb

namespace Go.Proofs.YtjhagfggelhpkaaDoor.hi

open Go.ChangeShapes Go.WideShapes Go.ChangeAt Go.RowKit

theorem ret_u64 {a b : Int} (h : a = b) : Ending.returned (.int .u64 a) = .returned (.int .u64 b) := by rw [h]
theorem ret_i64 {a b : Int} (h : a = b) : Ending.returned (.int .i64 a) = .returned (.int .i64 b) := by rw [h]

/-- a register as the program's struct -/
def crcV (r : Nat) : Value := .agg #[.int .u64 (r : Int)]

theorem below_store {B : Nat} {a w : World} {g : Nat} (h : Below B a w) (hg : B ≤ g) (u : Value) : Below B a (w.setCell ⟨g, 0, none⟩ u) := h.setCell (p := ⟨g, 0, none⟩) hg u

theorem drop_byte (s : ByteArray) {k : Nat} (h : k < s.size) : s.data.toList.drop k = s[k] :: s.data.toList.drop (k + 1) := by
  have hz : s.data.toList.length = s.size := by rw [Array.length_toList]; rfl
  rw [List.drop_eq_getElem_cons (by omega)]
  rfl

end Go.Proofs.YtjhagfggelhpkaaDoor.hi
