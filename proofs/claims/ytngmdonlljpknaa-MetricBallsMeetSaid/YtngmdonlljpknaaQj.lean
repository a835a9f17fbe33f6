/- The reference's: Valid, Alike, Compare, Same, Metric. -/
import Derived.Test.YtngmdonlljpknaaQi

namespace Go.Proofs.Ytngmdonlljpknaa.vk

open Go.ChangeShapes Go.WideShapes Go.ChangeAt Go.RowKit

set_option linter.unusedVariables false
theorem all_drop {l : List Int} {k : Nat} {x : Int} {p : Int → Bool} (h : l[k]? = some x) : (l.drop k).all p = (p x && (l.drop (k + 1)).all p) := by
  rw [drop_at h]; rfl
set_option maxRecDepth 100000 in
theorem rvalid_calls (A : Option Addr) (n c : Nat) (l : List Int) (w : World) (h : wo.IsI w A n c l) :
    Calls Try.prog 38 #[.slice A n c] w fun e w' => e = .returned (.bool (vq.valid l)) ∧ w' = w := by
  have hl := h.1
  have hE : vq.valid l = (decide (1 ≤ n) && decide (n ≤ 32) && l.all vq.okc) := by simp only [vq.valid, hl]
  rw [hE]
  have H := Lib.hid h
  have hm := h.2.2.1
  have hnc := h.2.1
  clear h hE hl
  go_enter Try.func38, Try.ntmps38
  go_wp2_with fail
  go_loopg [3] n (fun g x wr => ∃ k : Nat, k + g = n ∧ x = .int .i64 (k : Int) ∧ wr = w ∧ (l.drop k).all vq.okc = l.all vq.okc)
  case atStart => exact ⟨0, by omega, rfl, rfl, rfl⟩
  case round =>
    obtain ⟨k, hk, rfl, rfl, hr⟩ := hrel
    have HK := Lib.hid hk
    have HR := Lib.hid hr
    have hkn : k ≤ n := by omega
    clear hk hr
    by_cases hlt : k < n
    · obtain ⟨b, o, x, rfl, hc, hx, -, -⟩ := isI_at H.out hlt
      have hr := HR.out
      rw [all_drop hx] at hr
      have HR2 := Lib.hid hr
      clear hr hx
      by_cases h3 : x < -1000
      · go_wp2_with fail
        go_ret
        have := HR2.out
        have hx : vq.okc x = false := by simp [vq.okc]; omega
        rw [hx, Bool.false_and] at this
        refine ⟨?_, rfl⟩
        rw [← this]
        simp
      · by_cases h4 : 1000 < x
        · go_wp2_with fail
          go_ret
          have := HR2.out
          have hx : vq.okc x = false := by simp [vq.okc]; omega
          rw [hx, Bool.false_and] at this
          refine ⟨?_, rfl⟩
          rw [← this]
          simp
        · go_wp2_with fail
          go_roundg (gk - 1)
          case measure => have := HK.out; omega
          case rel =>
            refine ⟨k + 1, by have := HK.out; omega, by go_num, rfl, ?_⟩
            have := HR2.out
            have hx : vq.okc x = true := by simp [vq.okc]; omega
            rw [hx, Bool.true_and] at this
            exact this
    · have hall : l.all vq.okc = true := by
        have := HR.out
        rw [List.drop_of_length_le (by have := H.out.1; omega)] at this
        exact this.symm
      have HALL := Lib.hid hall
      clear hall
      by_cases h1 : 1 ≤ n
      · go_wp2_with fail
        go_ret
        exact ⟨by rw [HALL.out]; simp [h1]; omega, rfl⟩
      · go_wp2_with fail
        go_ret
        exact ⟨by first | rfl | simp [h1], rfl⟩
theorem decide_cast (a b : Nat) : decide ((a : Int) ≤ (b : Int)) = decide (a ≤ b) := by simp
set_option maxRecDepth 100000 in
theorem ralike_calls (A A' : Option Addr) (n n' c c' : Nat) (a b : List Int) (w : World) (h : wo.IsI w A n c a) (h' : wo.IsI w A' n' c' b) :
    Calls Try.prog 29 #[.slice A n c, .slice A' n' c'] w fun e w' => e = .returned (.bool (vq.alike a b)) ∧ w' = w := by
  have hl := h.1
  have hl' := h'.1
  have HA := Lib.hid (rvalid_calls A n c a w h)
  have HB := Lib.hid (rvalid_calls A' n' c' b w h')
  have hE : vq.alike a b = (decide (n = n') && vq.valid a && vq.valid b) := by simp only [vq.alike, hl, hl']
  rw [hE]
  clear h h' hl hl' hE
  cases hva : vq.valid a
  · rw [hva] at HA
    go_enter Try.func29, Try.ntmps29
    go_wp2_with fail
    refine HA.out.mono ?_
    rintro e w' ⟨rfl, rfl⟩
    go_wp2_with fail
    go_ret
    exact ⟨by simp, rfl⟩
  · cases hvb : vq.valid b
    · rw [hva] at HA
      rw [hvb] at HB
      go_enter Try.func29, Try.ntmps29
      go_wp2_with fail
      refine HA.out.mono ?_
      rintro e w' ⟨rfl, rfl⟩
      go_wp2_with fail
      refine HB.out.mono ?_
      rintro e w' ⟨rfl, rfl⟩
      go_wp2_with fail
      go_ret
      exact ⟨by simp, rfl⟩
    · rw [hva] at HA
      rw [hvb] at HB
      go_enter Try.func29, Try.ntmps29
      go_wp2_with fail
      refine HA.out.mono ?_
      rintro e w' ⟨rfl, rfl⟩
      go_wp2_with fail
      refine HB.out.mono ?_
      rintro e w' ⟨rfl, rfl⟩
      go_wp2_with fail
      go_ret
      refine ⟨?_, rfl⟩
      simp
      rw [Bool.eq_iff_iff]
      simp <;> omega
end Go.Proofs.Ytngmdonlljpknaa.vk
