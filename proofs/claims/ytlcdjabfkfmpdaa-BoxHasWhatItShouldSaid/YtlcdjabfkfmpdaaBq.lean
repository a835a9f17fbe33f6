/- The reference's Key, Nearest, Farthest; the law's inner. -/
import Derived.Test.YtlcdjabfkfmpdaaBp

import Derived.Lib.MinMax

namespace Go.Proofs.Ytlcdjabfkfmpdaa.bk

open Go.ChangeShapes Go.WideShapes Go.ChangeAt Go.RowKit

open Go.Proofs.Ytlcdjabfkfmpdaa.bq Go.Proofs.Ytlcdjabfkfmpdaa.vk Go.Proofs.Ytlcdjabfkfmpdaa.wk

set_option linter.unusedVariables false
theorem dists_snoc (a b : List Int) {k : Nat} (hk : k < a.length) : (dists a b).take (k + 1) = (dists a b).take k ++ [max (at' a k - at' b k) (at' b k - at' a k)] := by
  rw [List.take_add_one]
  congr 1
  simp [dists, hk]
set_option maxRecDepth 100000 in
set_option maxHeartbeats 4000000 in
theorem rkey_calls (m : Int) (hmm : m = 1 ∨ m = 2 ∨ m = 3) (A A' : Option Addr) (n c n' c' : Nat) (a b : List Int) (w : World) (h : wo.IsI w A n c a) (h' : wo.IsI w A' n' c' b) (hnn : n ≤ n') (hn : n ≤ 32)
    (hd : ∀ i, i < n → -4000 ≤ at' a i ∧ at' a i ≤ 4000 ∧ -4000 ≤ at' b i ∧ at' b i ≤ 4000 ∧ at' a i - at' b i ≤ 2000 ∧ at' b i - at' a i ≤ 2000) :
    Calls Try.prog 38 #[.int .i64 m, .slice A n c, .slice A' n' c'] w fun e w' => e = .returned (.int .i64 (keyf m (dists a b))) ∧ ∃ q, w' = w.drewN q := by
  have hm := h.2.2.1
  have hm' := h'.2.2.1
  have hnc := h.2.1
  have hnc' := h'.2.1
  have H := Lib.hid h
  have H' := Lib.hid h'
  have HD := Lib.hid hd
  have HKB : Hid (∀ k, k ≤ n → 0 ≤ keyf m ((dists a b).take k) ∧ keyf m ((dists a b).take k) ≤ 4000000 * k) := by
    intro k hk
    have h1 := keyf_bd m ((dists a b).take k) (fun d hd' => by
      have h2 := List.mem_of_mem_take hd'
      simp only [dists, List.mem_map, List.mem_range] at h2
      obtain ⟨i, hi, rfl⟩ := h2
      have := HD.out i (by rw [H.out.1] at hi; exact hi)
      omega)
    have h2 : ((dists a b).take k).length = k := by rw [List.length_take, dists, List.length_map, List.length_range, H.out.1]; omega
    rw [h2] at h1
    exact h1
  obtain ⟨KV, hKV⟩ : ∃ KV, keyf m (dists a b) = KV := ⟨_, rfl⟩
  rw [hKV]
  have HKV := Lib.hid hKV
  clear h h' hd hKV
  go_enter Try.func38, Try.ntmps38
  go_wp2_with fail
  go_loopg [7, 8] n (fun g v x wr => ∃ k q : Nat, k + g = n ∧ x = .int .i64 (k : Int) ∧ wr = w.drewN q ∧ v = .int .i64 (keyf m ((dists a b).take k)))
  case atStart => exact ⟨0, 0, by omega, rfl, rfl, rfl⟩
  case round =>
    obtain ⟨k, q, hk, rfl, rfl, rfl⟩ := hrel
    have HK := Lib.hid hk
    have hkn : k ≤ n := by omega
    have hkb := HKB.out k hkn
    clear hk
    by_cases hlt : k < n
    · obtain ⟨b1, o1, rfl, hc1, hb1⟩ := isI_get H.out hlt
      obtain ⟨b2, o2, rfl, hc2, hb2⟩ := isI_get H'.out (show k < n' by omega)
      have hlt0 : (k : Int) < (n : Int) := by omega
      have hlt1 : (k : Int) < (n' : Int) := by omega
      have hkk : k < n' := by omega
      have hdk := HD.out k hlt
      have HS : Hid ((dists a b).take (k + 1) = (dists a b).take k ++ [max (at' a k - at' b k) (at' b k - at' a k)]) := dists_snoc a b (by rw [H.out.1]; exact hlt)
      generalize (dists a b).take k = ds at *
      generalize at' a k = x at *
      generalize at' b k = y at *
      obtain ⟨d, hdd⟩ : ∃ d, max (x - y) (y - x) = d := ⟨_, rfl⟩
      have hd0 : 0 ≤ d ∧ d ≤ 2000 := by omega
      have hdq : 0 ≤ d * d ∧ d * d ≤ 4000000 := ⟨Int.mul_nonneg hd0.1 hd0.1, by have := Int.mul_le_mul hd0.2 hd0.2 hd0.1 (by omega); omega⟩
      have hks : keyf m (ds ++ [d]) = bq.step m (keyf m ds) d := keyf_snoc _ _ _
      have HS2 : Hid ((dists a b).take (k + 1) = ds ++ [d]) := by show _ = _; rw [HS.out, hdd]
      have HKS := Lib.hid hks
      clear hks HS
      generalize hks0 : keyf m ds = s at *
      clear hks0
      obtain ⟨mx, hmx⟩ : ∃ mx, max s d = mx := ⟨_, rfl⟩
      rcases hmm with rfl | rfl | rfl
      · have HST : Hid (bq.step 1 s d = s + d) := rfl
        go_wp2_with fail
        go_quiet (fail)
        go_wp2_with fail
        go_roundg (gk - 1)
        case measure => have := HK.out; omega
        case rel => exact ⟨k + 1, _, by have := HK.out; omega, by go_num, by first | rfl | exact dr_add _ _ _, by rw [HS2.out, HKS.out, HST.out]⟩
      · have HST : Hid (bq.step 2 s d = s + d * d) := rfl
        go_wp2_with fail
        go_quiet (fail)
        go_wp2_with fail
        go_roundg (gk - 1)
        case measure => have := HK.out; omega
        case rel => exact ⟨k + 1, _, by have := HK.out; omega, by go_num, by first | rfl | exact dr_add _ _ _, by rw [HS2.out, HKS.out, HST.out]⟩
      · have HST : Hid (bq.step 3 s d = mx) := hmx
        go_wp2_with fail
        go_quiet (fail)
        go_wp2_with fail
        go_roundg (gk - 1)
        case measure => have := HK.out; omega
        case rel => exact ⟨k + 1, _, by have := HK.out; omega, by go_num, by first | rfl | exact dr_add _ _ _, by rw [HS2.out, HKS.out, HST.out]⟩
    · have hkv := HKV.out
      rw [← List.take_of_length_le (l := dists a b) (i := k) (by rw [dists, List.length_map, List.length_range, H.out.1]; omega)] at hkv
      have HKW := Lib.hid hkv
      clear hkv
      generalize keyf m ((dists a b).take k) = kk at *
      go_wp2_with fail
      go_ret
      exact ⟨by rw [← HKW.out]; rfl, q, rfl⟩
end Go.Proofs.Ytlcdjabfkfmpdaa.bk
