/- Mean, walked. -/
import Derived.Test.YtbnemcggiopdmaaQm

namespace Go.Proofs.Ytbnemcggiopdmaa.vk

open Go.ChangeShapes Go.WideShapes Go.ChangeAt Go.RowKit

set_option linter.unusedVariables false
theorem own_form {w : World} {B n : Nat} {v : Value} {xs : List Value} {e : TypeId} (h : w.ownsRow B e 1 v n xs) (hn : 1 ≤ n) : ∃ g cap, v = .slice (some ⟨g, 0, none⟩) n cap ∧ B ≤ g ∧ g < w.heap.size ∧ n ≤ cap ∧ cap ≤ 9223372036854775807 := by
  rcases h.2 with ⟨_, h0⟩ | ⟨g, cap, cur, rfl, hb, hg, h1, h2, _⟩
  · omega
  · refine ⟨g, cap, rfl, hb, ?_, h1, by unfold maxLen at h2; omega⟩
    rcases Nat.lt_or_ge g w.heap.size with h' | h'
    · exact h'
    · rw [Array.getElem?_eq_none h'] at hg; cases hg
theorem ediv_bd {y : Int} {n : Nat} (h : 1 ≤ n) : -(y.natAbs : Int) ≤ y / (n : Int) ∧ y / (n : Int) ≤ y.natAbs := by
  rcases Int.le_total 0 y with h' | h'
  · have a := Int.ediv_le_self (n : Int) h'
    have b := Int.ediv_nonneg h' (show (0 : Int) ≤ n by omega)
    omega
  · have a : y ≤ y / (n : Int) := by
      rw [Int.le_ediv_iff_mul_le (by omega)]
      have := Int.mul_nonneg (show 0 ≤ -y by omega) (show 0 ≤ (n : Int) - 1 by omega)
      grind
    have b : y / (n : Int) ≤ 0 := by
      have := Int.ediv_le_ediv (c := (n : Int)) (by omega) h'
      rw [Int.zero_ediv] at this
      exact this
    omega
set_option maxRecDepth 100000 in
set_option maxHeartbeats 4000000 in
theorem mean_calls (A : Option Addr) (n c d : Nat) (L : List (List Int)) (w : World) (h : IsVV w A n c L) (hd : ∀ l ∈ L, l.length = d) (hv : ∀ l ∈ L, vq.Vec l) (h1 : 1 ≤ n) (hn : n ≤ 1000) :
    Calls Try.prog 30 #[.slice A n c] w fun e w' => ∃ A' c', e = .returned (.slice A' d c') ∧ wo.IsI w' A' d c' (vq.mean L) ∧ Below w.heap.size w w' := by
  obtain ⟨hLn, hnc, hc, hel⟩ := h
  obtain ⟨m, T, rfl⟩ : ∃ m T, L = m :: T := by
    cases L with
    | nil => simp at hLn; omega
    | cons m T => exact ⟨m, T, rfl⟩
  have hmd := hd m (by simp)
  have hmv := hv m (by simp)
  have hTn : T.length = n - 1 := by simp at hLn; omega
  have hT : ∀ l ∈ T, l.length = d := fun l hl => hd l (by simp [hl])
  have hTv : ∀ l ∈ T, vq.Vec l := fun l hl => hv l (by simp [hl])
  have hd1 : 1 ≤ d := by have := hmv.pos; omega
  have hd2 : d ≤ 32 := by have := hmv.le; omega
  obtain ⟨b, o, A0, n0, c0, rfl, hbw, hc0, hI0⟩ := hel 0 m rfl
  have hn0 : n0 = d := by have := hI0.1; omega
  subst hn0
  rw [Nat.add_zero] at hc0
  have hne : ((n : Int) == 0) = false := by simp; omega
  have HEL := Lib.hid (fun k l (hk : T[k]? = some l) => hel (k + 1) l (by simpa using hk))
  have HCL := Lib.hid (clone_calls A0 n0 c0 m w hI0 hd1 (by omega))
  obtain ⟨A2, hcut, hA2⟩ : ∃ A2, (∀ w', (Instr.slice 31 (.slice (some ⟨b, o, none⟩) n c) (some (.int .i64 1)) none none).run Try.prog w' = .ok (.slice A2 (n - 1) (c - 1)) w') ∧ (2 ≤ n → A2 = some ⟨b, o + 1, none⟩) :=
    ⟨_, fun w' => run_tail w' (some ⟨b, o, none⟩) n c h1 hnc, fun h => by rw [if_neg (by omega)]; simp [wk.add_at]⟩
  have HA2 := Lib.hid hA2
  clear hA2
  have HS : Hid (∀ k, ∀ x ∈ vq.sums m (T.take k), -1001000 ≤ x ∧ x ≤ 1001000) := fun k x hx => by
    have := vq.sums_bd (T.take k) m 1000 (fun x hx => ⟨hmv.lo x hx, hmv.hi x hx⟩) (fun l hl x hx => ⟨(hTv l (List.mem_of_mem_take hl)).lo x hx, (hTv l (List.mem_of_mem_take hl)).hi x hx⟩) x hx
    have h2 : (T.take k).length ≤ n - 1 := by rw [List.length_take]; omega
    omega
  have HSL : Hid (∀ k, (vq.sums m (T.take k)).length = n0) := fun k => vq.sums_length (T.take k) m hmd (fun l hl => hT l (List.mem_of_mem_take hl))
  have HTN := Lib.hid hTn
  have HTV := Lib.hid hTv
  have HTD := Lib.hid hT
  have HM : Hid (vq.mean (m :: T) = (vq.sums m T).map (· / (n : Int))) := by show _ = _; rw [vq.mean, hLn]; rfl
  clear hel hI0 hmd hmv hT hTv hd hv hLn hTn
  go_enter Try.func30, Try.ntmps30
  go_wp2_with fail
  refine HCL.out.mono ?_
  rintro e w1 ⟨v, rfl, hown, hbel⟩
  obtain ⟨g, cap, rfl, hg, hgw, hncap, hcap⟩ := own_form hown hd1
  generalize hB : w.heap.size = B at *
  have HB := Lib.hid hB
  have HOWN := Lib.hid hown
  have HBEL := Lib.hid hbel
  clear hB hown hbel hgw HCL
  go_wp2_with fail
  have hTlen : (n - 1 : Nat) ≤ 1000 := by omega
  go_loopg [19] (n - 1) (fun gq x wr => ∃ k : Nat, k + gq = n - 1 ∧ x = .int .i64 (k : Int) ∧ wr.ownsRow B 3 1 (.slice (some ⟨g, 0, none⟩) n0 cap) n0 (iv (vq.sums m (T.take k))) ∧ Below B w wr)
  case atStart => exact ⟨0, by omega, rfl, HOWN.out, HBEL.out⟩
  case round =>
    obtain ⟨k, hk, rfl, hown, hbel⟩ := hrel
    have HK := Lib.hid hk
    have HO := Lib.hid hown
    have HBE := Lib.hid hbel
    have hkn : k ≤ n - 1 := by omega
    clear hk hown hbel HOWN HBEL
    by_cases hlt : k < n - 1
    · have hkT : k < T.length := by have := HTN.out; omega
      have hTk : T[k]? = some T[k] := List.getElem?_eq_getElem hkT
      obtain ⟨b', o', A1, n1, c1, hbe, hb1, hc1, hI1⟩ := HEL.out k _ hTk
      cases hbe
      have hn1 : n1 = n0 := by have := hI1.1; have := HTD.out _ (List.getElem_mem hkT); omega
      subst hn1
      obtain rfl := HA2.out (by omega)
      have hck : wr.cell? ⟨b, o + 1 + k, none⟩ = some (.slice A1 n1 c1) := by
        rw [HBE.out.cell (p := ⟨b, o + 1 + k, none⟩) hb1, Nat.add_assoc, Nat.add_comm 1 k]; exact hc1
      have HI1 := Lib.hid hI1
      have HTV1 := Lib.hid (HTV.out _ (List.getElem_mem hkT))
      have HSN := Lib.hid (vq.sums_snoc m hTk)
      have HCM := Lib.hid (fun w' => common_same (some ⟨g, 0, none⟩) A1 n1 cap c1 w' (by omega))
      clear hc1 hI1 hTk
      generalize T[k] = l at *
      go_wp2_with fail
      refine (HCM.out _).mono ?_
      rintro e w' ⟨rfl, rfl⟩
      go_wp2_with fail
      have hSb := HS.out k
      have hSl := HSL.out k
      have hll := HI1.out.1
      generalize vq.sums m (T.take k) = S at *
      have HSB := Lib.hid hSb
      have HSLN := Lib.hid hSl
      have HLL := Lib.hid hll
      clear hSb hSl hll
      go_loopg [26] n1 (fun g2 x wr2 => ∃ i : Nat, i + g2 = n1 ∧ x = .int .i64 (i : Int) ∧ wr2.ownsRow B 3 1 (.slice (some ⟨g, 0, none⟩) n1 cap) n1 (iv (vq.part (vq.vadd S l) S i)) ∧ Below B w wr2)
      case atStart => exact ⟨0, by omega, rfl, by rw [vq.part_zero]; exact HO.out, HBE.out⟩
      case round =>
        obtain ⟨i, hi, rfl, hown2, hbel2⟩ := hrel
        have HI := Lib.hid hi
        have HO2 := Lib.hid hown2
        have HB2 := Lib.hid hbel2
        have hin : i ≤ n1 := by omega
        clear hi hown2 hbel2
        by_cases hlt2 : i < n1
        · obtain ⟨b2, o2, y, rfl, hc2, hy, -, -⟩ := isI_at (isI_below HI1.out (by rw [HB.out]; exact HB2.out)) hlt2
          obtain ⟨x, hx⟩ : ∃ x, S[i]? = some x := ⟨_, len_of (l := S) (k := i) (by have := HSLN.out; omega)⟩
          have hxb := HSB.out _ (List.mem_of_getElem? hx)
          have hyb1 := HTV1.out.lo _ (List.mem_of_getElem? hy)
          have hyb2 := HTV1.out.hi _ (List.mem_of_getElem? hy)
          have hpl : i ≤ (vq.vadd S l).length := by rw [vq.vadd_length (by have := HSLN.out; have := HLL.out; omega)]; have := HSLN.out; omega
          have hcx := HO2.out.cellAt i (by omega)
          have hfx := HO2.out.frozenAt i
          have hpa := vq.part_at hpl hx
          have HPS := Lib.hid (vq.part_set (vq.vadd_at hx hy) hx)
          have hcx' : wr.cell? ⟨g, i, none⟩ = some (.int .i64 x) := by rw [hcx]; simp [iv, hpa]
          have hst := HO2.out.stored i (.int .i64 (x + y))
          have HST := Lib.hid hst.1
          have hwr : IntKind.i64.wrap (x + y) = x + y := by rw [IntKind.wrap_i64]; omega
          clear hcx hx hy hpl hpa hst
          go_wp2_with fail
          go_region
          all_goals
            go_wp2_with fail
            go_roundg (gk - 1)
            case measure => have := HI.out; omega
            case rel =>
              refine ⟨i + 1, by have := HI.out; omega, by go_num, ?_, (HB2.out.setCell hg _).drew⟩
              have h := HST.out
              rw [← HPS.out]
              unfold iv at h ⊢
              rw [List.map_set]
              exact h
        · have hin2 : i = n1 := by omega
          have h := HO2.out
          rw [vq.part_end (by rw [vq.vadd_length (by have := HSLN.out; have := HLL.out; omega)]; have := HSLN.out; omega) (by have := HSLN.out; omega), ← HSN.out] at h
          have HO3 := Lib.hid h
          clear h
          go_wp2_with fail
          go_roundg (n - 1 - (k + 1))
          case measure => have := HK.out; omega
          case rel => exact ⟨k + 1, by have := HK.out; omega, by go_num, HO3.out, HB2.out⟩
    · obtain rfl : k = n - 1 := by omega
      have h := HO.out
      have hSb := HS.out (n - 1)
      have hSl := HSL.out (n - 1)
      rw [List.take_of_length_le (by have := HTN.out; omega)] at h hSb hSl
      have HM2 := Lib.hid HM.out
      generalize vq.sums m T = S at *
      have HOS := Lib.hid h
      have HSB := Lib.hid hSb
      have HSLN := Lib.hid hSl
      clear h hSb hSl HM
      go_wp2_with fail
      go_loopg [43] n0 (fun g2 x wr2 => ∃ i : Nat, i + g2 = n0 ∧ x = .int .i64 (i : Int) ∧ wr2.ownsRow B 3 1 (.slice (some ⟨g, 0, none⟩) n0 cap) n0 (iv (vq.part (S.map (· / (n : Int))) S i)) ∧ Below B w wr2)
      case atStart => exact ⟨0, by omega, rfl, by rw [vq.part_zero]; exact HOS.out, HBE.out⟩
      case round =>
        obtain ⟨i, hi, rfl, hown2, hbel2⟩ := hrel
        have HI := Lib.hid hi
        have HO2 := Lib.hid hown2
        have HB2 := Lib.hid hbel2
        have hin : i ≤ n0 := by omega
        clear hi hown2 hbel2
        by_cases hlt2 : i < n0
        · obtain ⟨x, hx⟩ : ∃ x, S[i]? = some x := ⟨_, len_of (l := S) (k := i) (by have := HSLN.out; omega)⟩
          have hxb := HSB.out _ (List.mem_of_getElem? hx)
          have hcx := HO2.out.cellAt i (by omega)
          have hfx := HO2.out.frozenAt i
          have hpa := vq.part_at (p := S.map (· / (n : Int))) (by rw [List.length_map]; have := HSLN.out; omega) hx
          have HPS := Lib.hid (vq.part_set (vq.map_at (n := (n : Int)) hx) hx)
          have hcx' : wr.cell? ⟨g, i, none⟩ = some (.int .i64 x) := by rw [hcx]; simp [iv, hpa]
          have hst := HO2.out.stored i (.int .i64 (x / (n : Int)))
          have HST := Lib.hid hst.1
          have HQ := Lib.hid (quotient_calls x n wr h1 (by omega) (by omega) (by omega))
          clear hcx hx hpa hst
          go_wp2_with fail
          refine HQ.out.mono ?_
          rintro e w' ⟨rfl, rfl⟩
          go_wp2_with fail
          go_roundg (gk - 1)
          case measure => have := HI.out; omega
          case rel =>
            refine ⟨i + 1, by have := HI.out; omega, by go_num, ?_, HB2.out.setCell hg _⟩
            have h := HST.out
            rw [← HPS.out]
            unfold iv at h ⊢
            rw [List.map_set]
            exact h
        · have hin2 : i = n0 := by omega
          have h := HO2.out
          rw [vq.part_end (by rw [List.length_map]; have := HSLN.out; omega) (by have := HSLN.out; omega), ← HM2.out] at h
          obtain ⟨A3, c3, e3, hI3⟩ := isI_of_own h (fun x hx => by
            rw [HM2.out] at hx
            obtain ⟨y, hy, rfl⟩ := List.mem_map.1 hx
            have := HSB.out _ hy
            have := ediv_bd (y := y) (n := n) h1
            omega)
          cases e3
          have HI3 := Lib.hid hI3
          clear h hI3
          go_wp2_with fail
          go_ret
          exact ⟨some ⟨g, 0, none⟩, cap, rfl, HI3.out, by rw [HB.out]; exact HB2.out⟩
end Go.Proofs.Ytbnemcggiopdmaa.vk
