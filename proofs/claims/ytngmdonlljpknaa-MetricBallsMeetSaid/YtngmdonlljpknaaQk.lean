/- The reference's: Difference, Dot, Sub, Norm, Key. -/
import Derived.Test.YtngmdonlljpknaaQj

namespace Go.Proofs.Ytngmdonlljpknaa.vq
def okd (x : Int) : Bool := decide (-2000 ≤ x) && decide (x ≤ 2000)
def diff (v : List Int) : Bool := decide (1 ≤ v.length) && decide (v.length ≤ 32) && v.all okd
theorem diff_iff {v : List Int} : diff v = true ↔ 1 ≤ v.length ∧ v.length ≤ 32 ∧ ∀ x ∈ v, -2000 ≤ x ∧ x ≤ 2000 := by
  simp [diff, okd, List.all_eq_true, and_assoc]
def growR (m n x : Int) : Int := if m = 1 then n + ab x else if m = 2 then n + x * x else max n (ab x)
theorem growR_eq {m n x : Int} (h1 : 1 ≤ m) (h2 : m ≤ 3) : growR m n x = grow m n x := by
  unfold growR grow ab
  split
  · rfl
  · split
    · rfl
    · rw [if_pos (by omega)]; omega
end Go.Proofs.Ytngmdonlljpknaa.vq

namespace Go.Proofs.Ytngmdonlljpknaa.vk

open Go.ChangeShapes Go.WideShapes Go.ChangeAt Go.RowKit

set_option linter.unusedVariables false
theorem few_diff {l : List Int} (h : vq.diff l = true) : Few l := (vq.diff_iff.1 h).2.2
set_option maxRecDepth 100000 in
theorem size_calls (x : Int) (w : World) (h1 : -2000 ≤ x) (h2 : x ≤ 2000) : Calls Try.prog 50 #[.int .i64 x] w fun e w' => e = .returned (.int .i64 (vq.ab x)) ∧ w' = w := by
  by_cases h : x < 0
  all_goals
    go_enter Try.func50, Try.ntmps50
    go_wp2_with fail
    go_ret
    exact ⟨wp.ret_i64 (by unfold vq.ab; omega), rfl⟩
set_option maxRecDepth 100000 in
set_option maxHeartbeats 1000000 in
theorem rsub_calls (A A' : Option Addr) (n c c' : Nat) (a b : List Int) (w : World) (h : wo.IsI w A n c a) (h' : wo.IsI w A' n c' b) (ha : Few a) (hb : Few b) (hn : n ≤ 32) :
    Calls Try.prog 40 #[.slice A n c, .slice A' n c'] w fun e w' => ∃ A2 c2, e = .returned (.slice A2 n c2) ∧ wo.IsI w' A2 n c2 (vq.sub a b) ∧ Below w.heap.size w w' := by
  obtain ⟨i0, hi, hz0, hz1, hz2⟩ := info_parts wi.infoI
  have hls := vq.sub_length (a := a) (b := b) (by have := h.1; have := h'.1; omega)
  have HE : Hid ((vq.sub a b).take n = vq.sub a b) := List.take_of_length_le (by have := h.1; omega)
  have HBD : Hid (∀ x ∈ vq.sub a b, -9223372036854775808 ≤ x ∧ x ≤ 9223372036854775807) := fun x hx => by
    obtain ⟨p, hp, rfl⟩ := List.mem_map.1 hx
    have h1 := List.of_mem_zip hp
    have := ha _ h1.1; have := hb _ h1.2
    omega
  have H := Lib.hid h
  have H' := Lib.hid h'
  have hm := h.2.2.1
  have hnc := h.2.1
  have hm' := h'.2.2.1
  have hnc' := h'.2.1
  have HA := Lib.hid ha
  have HB := Lib.hid hb
  clear h h' ha hb hls
  go_enter Try.func40, Try.ntmps40
  go_wp2_with fail
  generalize hG : w.heap.size = B at *
  have HG := Lib.hid hG
  clear hG
  go_loopg [5, 6] n (fun g v x wr => ∃ (k : Nat), k + g = n ∧ x = .int .i64 (k : Int) ∧ wr.ownsRow B 3 1 v k (iv ((vq.sub a b).take k)) ∧ Below B w wr)
  case atStart => exact ⟨0, by omega, rfl, World.ownsRow_nil _ _ _ _, Below.refl _ _⟩
  case round =>
    obtain ⟨k, hk, rfl, hown, hbel⟩ := hrel
    have HK := Lib.hid hk
    have HOWN := Lib.hid hown
    have HBEL := Lib.hid hbel
    have hkn : k ≤ n := by omega
    have HBW : Hid (B ≤ wr.heap.size) := by have := hbel.size; have := HG.out; show _ ≤ _; omega
    clear hk hown hbel
    by_cases hlt : k < n
    · obtain ⟨b1, o1, x, rfl, hc, hx, -, -⟩ := isI_at (isI_below H.out (by rw [HG.out]; exact HBEL.out)) hlt
      obtain ⟨b2, o2, y, rfl, hc', hy, -, -⟩ := isI_at (isI_below H'.out (by rw [HG.out]; exact HBEL.out)) hlt
      have f1 := HA.out.at hx
      have f2 := HB.out.at hy
      have HS := Lib.hid (vq.take_snoc (vq.sub_at hx hy))
      have HM1 : Hid (k + 1 ≤ maxLen) := by show _ ≤ _; unfold maxLen; omega
      have HM2 : Hid ((k + 1) * 8 ≤ 140737488355328) := by show _ ≤ _; omega
      have HM3 : Hid (B ≤ (wr.alloc (.cells #[.int .i64 (x - y)] 3)).drew.heap.size) := by have := HBW.out; show _ ≤ _; simp; omega
      have HO : Hid (∀ u ∈ [Value.int .i64 (x - y)], u.oneCell' = true) := by intro u hu; simp at hu; subst hu; rfl
      have HCN : Hid (∀ j u, [Value.int .i64 (x - y)][j]? = some u → (wr.alloc (.cells #[.int .i64 (x - y)] 3)).drew.cell? ((⟨wr.heap.size, 0, none⟩ : Addr).add j) = some u) := wk.cells_new wr [.int .i64 (x - y)] 3
      have hwr : IntKind.i64.wrap (x - y) = x - y := by rw [IntKind.wrap_i64]; omega
      clear hx hy
      go_wp2_with fail
      go_region_law (rw [if_pos (by rfl)]; refine wp_append_own _ (.tmp 13) (.tmp 23) 33 rfl B 3 i0 (.int .i64 0) 1 8 Try.underlying33 hi hz0 hz1 hz2 rfl (by decide) _ _ _ rfl (HOWN.out.drew.alloc _) ⟨wr.heap.size, 0, none⟩ 1 1 [.int .i64 (x - y)] rfl rfl HCN.out HO.out HM1.out HM2.out HM3.out ?_; intro v' w2 hown' hgrow _)
      all_goals
        have hb2 : Below B wr w2 := (((Below.refl _ _).alloc HBW.out _).drew).grown hgrow (by have := HBW.out; simp; omega) (fun g hg => (HOWN.out.lt g hg).1)
        have HB2 := Lib.hid hb2
        have HO2 := Lib.hid hown'
        clear hb2 hgrow hown'
        go_wp2_with fail
        go_roundg (gk - 1)
        case measure => have := HK.out; omega
        case rel =>
          refine ⟨k + 1, by have := HK.out; omega, by go_num, ?_, HBEL.out.trans HB2.out⟩
          have h := HO2.out
          rw [HS.out]
          unfold iv
          rw [List.map_append]
          exact h
    · have hkn2 : k = n := by omega
      have ho := HOWN.out
      rw [hkn2, HE.out] at ho
      obtain ⟨A2, c2, rfl, hI⟩ := isI_of_own ho HBD.out
      have HI := Lib.hid hI
      clear ho hI
      go_wp2_with fail
      go_ret
      exact ⟨A2, c2, rfl, HI.out, by rw [HG.out]; exact HBEL.out⟩
set_option maxRecDepth 100000 in
set_option maxHeartbeats 1000000 in
theorem rnorm1_calls (A : Option Addr) (n c : Nat) (a : List Int) (w : World) (h : wo.IsI w A n c a) (ha : Few a) (hn : n ≤ 32) :
    Calls Try.prog 39 #[.int .i64 1, .slice A n c] w fun e w' => e = .returned (.int .i64 (vq.norm 1 a)) ∧ ∃ q, w' = w.drewN q := by
  have H := Lib.hid h
  have hm := h.2.2.1
  have hnc := h.2.1
  have HA := Lib.hid ha
  have HE : Hid (a.take n = a) := List.take_of_length_le (by have := h.1; omega)
  clear h ha
  go_enter Try.func39, Try.ntmps39
  go_wp2_with fail
  go_loopg [5, 6] n (fun g s x wr => ∃ (k q : Nat) (z : Int), k + g = n ∧ x = .int .i64 (k : Int) ∧ s = .int .i64 z ∧ z = vq.norm 1 (a.take k) ∧ 0 ≤ z ∧ z ≤ 4000000 * k ∧ wr = w.drewN q)
  case atStart => exact ⟨0, 0, 0, by omega, rfl, rfl, rfl, by omega, by omega, rfl⟩
  case round =>
    obtain ⟨k, q, z, hk, rfl, rfl, hz, hlo, hhi, rfl⟩ := hrel
    have HK := Lib.hid hk
    have HZ := Lib.hid hz
    have hkn : k ≤ n := by omega
    clear hk hz
    by_cases hlt : k < n
    · obtain ⟨b1, o1, x, rfl, hc, hx, -, -⟩ := isI_at H.out hlt
      have f1 := HA.out.at hx
      have hm := vq.sq_le2000 f1.1 f1.2
      have hm2 := vq.sq_nonneg x
      have hab : 0 ≤ vq.ab x ∧ vq.ab x ≤ 2000 := by unfold vq.ab; omega
      have HS := Lib.hid (vq.norm_snoc 1 hx)
      have HC := Lib.hid (fun w' => size_calls x w' f1.1 f1.2)
      clear hx
      go_wp2_with fail
      refine (HC.out _).mono ?_
      rintro e w' ⟨rfl, rfl⟩
      go_wp2_with fail
      all_goals
        go_roundg (gk - 1)
        case measure => have := HK.out; omega
        case rel => exact ⟨k + 1, _, _, by have := HK.out; omega, by go_num, rfl, by rw [HS.out, ← HZ.out]; unfold vq.grow; first | rfl | (unfold vq.ab at *; simp; omega) | (unfold vq.ab; simp), by omega, by omega, rfl⟩
    · go_wp2_with fail
      go_ret
      have hkn2 : k = n := by omega
      subst hkn2
      have := HZ.out
      rw [HE.out] at this
      exact ⟨by rw [← this]; rfl, q, rfl⟩
set_option maxRecDepth 100000 in
set_option maxHeartbeats 1000000 in
theorem rnorm2_calls (A : Option Addr) (n c : Nat) (a : List Int) (w : World) (h : wo.IsI w A n c a) (ha : Few a) (hn : n ≤ 32) :
    Calls Try.prog 39 #[.int .i64 2, .slice A n c] w fun e w' => e = .returned (.int .i64 (vq.norm 2 a)) ∧ ∃ q, w' = w.drewN q := by
  have H := Lib.hid h
  have hm := h.2.2.1
  have hnc := h.2.1
  have HA := Lib.hid ha
  have HE : Hid (a.take n = a) := List.take_of_length_le (by have := h.1; omega)
  clear h ha
  go_enter Try.func39, Try.ntmps39
  go_wp2_with fail
  go_loopg [5, 6] n (fun g s x wr => ∃ (k q : Nat) (z : Int), k + g = n ∧ x = .int .i64 (k : Int) ∧ s = .int .i64 z ∧ z = vq.norm 2 (a.take k) ∧ 0 ≤ z ∧ z ≤ 4000000 * k ∧ wr = w.drewN q)
  case atStart => exact ⟨0, 0, 0, by omega, rfl, rfl, rfl, by omega, by omega, rfl⟩
  case round =>
    obtain ⟨k, q, z, hk, rfl, rfl, hz, hlo, hhi, rfl⟩ := hrel
    have HK := Lib.hid hk
    have HZ := Lib.hid hz
    have hkn : k ≤ n := by omega
    clear hk hz
    by_cases hlt : k < n
    · obtain ⟨b1, o1, x, rfl, hc, hx, -, -⟩ := isI_at H.out hlt
      have f1 := HA.out.at hx
      have hm := vq.sq_le2000 f1.1 f1.2
      have hm2 := vq.sq_nonneg x
      have hab : 0 ≤ vq.ab x ∧ vq.ab x ≤ 2000 := by unfold vq.ab; omega
      have HS := Lib.hid (vq.norm_snoc 2 hx)
      have HC := Lib.hid (fun w' => size_calls x w' f1.1 f1.2)
      clear hx
      go_wp2_with fail
      go_quiet (fail)
      go_wp2_with fail
      all_goals
        go_roundg (gk - 1)
        case measure => have := HK.out; omega
        case rel => exact ⟨k + 1, _, _, by have := HK.out; omega, by go_num, rfl, by rw [HS.out, ← HZ.out]; unfold vq.grow; first | rfl | (unfold vq.ab at *; simp; omega) | (unfold vq.ab; simp), by omega, by omega, rfl⟩
    · go_wp2_with fail
      go_ret
      have hkn2 : k = n := by omega
      subst hkn2
      have := HZ.out
      rw [HE.out] at this
      exact ⟨by rw [← this]; rfl, q, rfl⟩
set_option maxRecDepth 100000 in
set_option maxHeartbeats 1000000 in
theorem rnorm3_calls (A : Option Addr) (n c : Nat) (a : List Int) (w : World) (h : wo.IsI w A n c a) (ha : Few a) (hn : n ≤ 32) :
    Calls Try.prog 39 #[.int .i64 3, .slice A n c] w fun e w' => e = .returned (.int .i64 (vq.norm 3 a)) ∧ ∃ q, w' = w.drewN q := by
  have H := Lib.hid h
  have hm := h.2.2.1
  have hnc := h.2.1
  have HA := Lib.hid ha
  have HE : Hid (a.take n = a) := List.take_of_length_le (by have := h.1; omega)
  clear h ha
  go_enter Try.func39, Try.ntmps39
  go_wp2_with fail
  go_loopg [5, 6] n (fun g s x wr => ∃ (k q : Nat) (z : Int), k + g = n ∧ x = .int .i64 (k : Int) ∧ s = .int .i64 z ∧ z = vq.norm 3 (a.take k) ∧ 0 ≤ z ∧ z ≤ 4000000 * k ∧ wr = w.drewN q)
  case atStart => exact ⟨0, 0, 0, by omega, rfl, rfl, rfl, by omega, by omega, rfl⟩
  case round =>
    obtain ⟨k, q, z, hk, rfl, rfl, hz, hlo, hhi, rfl⟩ := hrel
    have HK := Lib.hid hk
    have HZ := Lib.hid hz
    have hkn : k ≤ n := by omega
    clear hk hz
    by_cases hlt : k < n
    · obtain ⟨b1, o1, x, rfl, hc, hx, -, -⟩ := isI_at H.out hlt
      have f1 := HA.out.at hx
      have hm := vq.sq_le2000 f1.1 f1.2
      have hm2 := vq.sq_nonneg x
      have hab : 0 ≤ vq.ab x ∧ vq.ab x ≤ 2000 := by unfold vq.ab; omega
      have HS := Lib.hid (vq.norm_snoc 3 hx)
      have HC := Lib.hid (fun w' => size_calls x w' f1.1 f1.2)
      clear hx
      go_wp2_with fail
      refine (HC.out _).mono ?_
      rintro e w' ⟨rfl, rfl⟩
      go_wp2_with fail
      all_goals
        go_roundg (gk - 1)
        case measure => have := HK.out; omega
        case rel => exact ⟨k + 1, _, _, by have := HK.out; omega, by go_num, rfl, by rw [HS.out, ← HZ.out]; unfold vq.grow; first | rfl | (unfold vq.ab at *; simp; omega) | (unfold vq.ab; simp), by omega, by omega, rfl⟩
    · go_wp2_with fail
      go_ret
      have hkn2 : k = n := by omega
      subst hkn2
      have := HZ.out
      rw [HE.out] at this
      exact ⟨by rw [← this]; rfl, q, rfl⟩
theorem rnorm_calls (m : Int) (A : Option Addr) (n c : Nat) (a : List Int) (w : World) (h1 : 1 ≤ m) (h2 : m ≤ 3) (h : wo.IsI w A n c a) (ha : Few a) (hn : n ≤ 32) :
    Calls Try.prog 39 #[.int .i64 m, .slice A n c] w fun e w' => e = .returned (.int .i64 (vq.norm m a)) ∧ ∃ q, w' = w.drewN q := by
  rcases (by omega : m = 1 ∨ m = 2 ∨ m = 3) with rfl | rfl | rfl
  · exact rnorm1_calls A n c a w h ha hn
  · exact rnorm2_calls A n c a w h ha hn
  · exact rnorm3_calls A n c a w h ha hn
set_option maxRecDepth 100000 in
theorem rkey_calls (m : Int) (A A' : Option Addr) (n c c' : Nat) (a b : List Int) (w : World) (h1 : 1 ≤ m) (h2 : m ≤ 3) (h : wo.IsI w A n c a) (h' : wo.IsI w A' n c' b) (ha : Few a) (hb : Few b) (hf : Few (vq.sub a b)) (hn : n ≤ 32) :
    Calls Try.prog 30 #[.int .i64 m, .slice A n c, .slice A' n c'] w fun e w' => e = .returned (.int .i64 (vq.key m a b)) ∧ Below w.heap.size w w' := by
  have HS := Lib.hid (rsub_calls A A' n c c' a b w h h' ha hb hn)
  have HN := Lib.hid (fun A2 c2 w' (hi : wo.IsI w' A2 n c2 (vq.sub a b)) => rnorm_calls m A2 n c2 (vq.sub a b) w' h1 h2 hi hf hn)
  clear h h' ha hb hf
  go_enter Try.func30, Try.ntmps30
  go_wp2_with fail
  refine HS.out.mono ?_
  rintro e w1 ⟨A2, c2, rfl, hI, hb⟩
  have HN1 := Lib.hid (HN.out A2 c2 w1 hI)
  have HB := Lib.hid hb
  clear hI hb HN
  go_wp2_with fail
  refine HN1.out.mono ?_
  rintro e w2 ⟨rfl, q, rfl⟩
  go_wp2_with fail
  go_ret
  exact ⟨rfl, below_drewN HB.out q⟩
end Go.Proofs.Ytngmdonlljpknaa.vk
