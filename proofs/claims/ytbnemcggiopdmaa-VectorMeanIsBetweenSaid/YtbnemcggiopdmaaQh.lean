/- Compare, Alike. -/
import Derived.Test.YtbnemcggiopdmaaQg

import Derived.Test.YtbnemcggiopdmaaMem

namespace Go.Proofs.Ytbnemcggiopdmaa.vk

open Go.ChangeShapes Go.WideShapes Go.ChangeAt Go.RowKit

set_option linter.unusedVariables false
set_option maxRecDepth 100000 in
theorem isNaN_calls (x : Int) (w : World) : Calls Try.prog 57 #[.int .i64 x] w fun e w' => e = .returned (.bool false) ∧ w' = w := by
  go_enter Try.func57, Try.ntmps57
  go_wp2_with fail
  go_ret
  exact ⟨by simp, rfl⟩
set_option maxRecDepth 100000 in
theorem cmpI_calls (x y : Int) (w : World) : Calls Try.prog 39 #[.int .i64 x, .int .i64 y] w fun e w' => e = .returned (.int .i64 (vq.cmpI x y)) ∧ w' = w := by
  have HN := Lib.hid (fun x => isNaN_calls x w)
  unfold vq.cmpI
  by_cases h1 : x < y
  · rw [if_pos h1]
    go_enter Try.func39, Try.ntmps39
    go_wp2_with fail
    refine (HN.out _).mono ?_
    rintro e w' ⟨rfl, rfl⟩
    go_wp2_with fail
    refine (HN.out _).mono ?_
    rintro e w' ⟨rfl, rfl⟩
    go_wp2_with fail
    go_ret
    exact ⟨rfl, rfl⟩
  · rw [if_neg h1]
    by_cases h2 : y < x
    · rw [if_pos h2]
      go_enter Try.func39, Try.ntmps39
      go_wp2_with fail
      refine (HN.out _).mono ?_
      rintro e w' ⟨rfl, rfl⟩
      go_wp2_with fail
      refine (HN.out _).mono ?_
      rintro e w' ⟨rfl, rfl⟩
      go_wp2_with fail
      go_ret
      exact ⟨rfl, rfl⟩
    · rw [if_neg h2]
      go_enter Try.func39, Try.ntmps39
      go_wp2_with fail
      refine (HN.out _).mono ?_
      rintro e w' ⟨rfl, rfl⟩
      go_wp2_with fail
      refine (HN.out _).mono ?_
      rintro e w' ⟨rfl, rfl⟩
      go_wp2_with fail
      go_ret
      exact ⟨rfl, rfl⟩
def orI : List Int → Int
  | [] => 0
  | x :: l => if x = 0 then orI l else x
theorem drop_at {l : List Int} {k : Nat} {x : Int} (h : l[k]? = some x) : l.drop k = x :: l.drop (k + 1) := by
  obtain ⟨hk, rfl⟩ := List.getElem?_eq_some_iff.1 h
  exact List.drop_eq_getElem_cons hk
set_option maxRecDepth 100000 in
theorem or_calls (A : Option Addr) (n c : Nat) (l : List Int) (w : World) (h : wo.IsI w A n c l) (hn : n ≤ 1000) :
    Calls Try.prog 38 #[.slice A n c] w fun e w' => e = .returned (.int .i64 (orI l)) ∧ w' = w := by
  have H := Lib.hid h
  have hm := h.2.2.1
  have hnc := h.2.1
  clear h
  go_enter Try.func38, Try.ntmps38
  go_wp2_with fail
  go_loopg [8] n (fun g x wr => ∃ k : Nat, k + g = n ∧ x = .int .i64 (k : Int) ∧ wr = w ∧ orI (l.drop k) = orI l)
  case atStart => exact ⟨0, by omega, rfl, rfl, rfl⟩
  case round =>
    obtain ⟨k, hk, rfl, rfl, hr⟩ := hrel
    have HK := Lib.hid hk
    have HR := Lib.hid hr
    have hkn : k ≤ n := by omega
    clear hk hr
    by_cases hlt : k < n
    · obtain ⟨b, o, x, rfl, hc, hx, -, -⟩ := isI_at H.out hlt
      have HX := Lib.hid (drop_at hx)
      clear hx
      by_cases h0 : x = 0
      · subst h0
        go_wp2_with fail
        go_roundg (gk - 1)
        case measure => have := HK.out; omega
        case rel =>
          refine ⟨k + 1, by have := HK.out; omega, by go_num, rfl, ?_⟩
          have := HR.out
          rw [HX.out, orI, if_pos rfl] at this
          exact this
      · go_wp2_with fail
        go_ret
        have := HR.out
        rw [HX.out, orI, if_neg h0] at this
        exact ⟨by rw [← this]; rfl, rfl⟩
    · go_wp2_with fail
      go_ret
      have := HR.out
      rw [List.drop_of_length_le (by have := H.out.1; omega)] at this
      exact ⟨by rw [← this]; rfl, rfl⟩
set_option maxRecDepth 100000 in
set_option maxHeartbeats 1000000 in
theorem lex_calls (A A' : Option Addr) (n n' c c' : Nat) (a b : List Int) (w : World) (h : wo.IsI w A n c a) (h' : wo.IsI w A' n' c' b) :
    Calls Try.prog 40 #[.slice A n c, .slice A' n' c'] w fun e w' => e = .returned (.int .i64 (vq.lex a b)) ∧ w' = w := by
  have H := Lib.hid h
  have H' := Lib.hid h'
  have hm := h.2.2.1
  have hnc := h.2.1
  have hm' := h'.2.2.1
  have hnc' := h'.2.1
  have HC := Lib.hid (fun x y => cmpI_calls x y w)
  clear h h'
  go_enter Try.func40, Try.ntmps40
  go_wp2_with fail
  go_loopg [11] n (fun g x wr => ∃ k : Nat, k + g = n ∧ x = .int .i64 (k : Int) ∧ wr = w ∧ k ≤ n' ∧ vq.lex (a.drop k) (b.drop k) = vq.lex a b)
  case atStart => exact ⟨0, by omega, rfl, rfl, by omega, rfl⟩
  case round =>
    obtain ⟨k, hk, rfl, rfl, hkn', hr⟩ := hrel
    have HK := Lib.hid hk
    have HR := Lib.hid hr
    have hkn : k ≤ n := by omega
    clear hk hr
    by_cases hlt : k < n
    · obtain ⟨b1, o1, x, rfl, hc, hx, -, -⟩ := isI_at H.out hlt
      have HX := Lib.hid (drop_at hx)
      clear hx
      by_cases hlt' : k < n'
      · obtain ⟨b2, o2, y, rfl, hc', hy, -, -⟩ := isI_at H'.out hlt'
        have HY := Lib.hid (drop_at hy)
        clear hy
        have hr := HR.out
        rw [HX.out, HY.out, vq.lex] at hr
        have HR2 := Lib.hid hr
        clear hr
        by_cases h0 : vq.cmpI x y = 0
        · go_wp2_with fail
          refine (HC.out _ _).mono ?_
          rintro e w' ⟨rfl, rfl⟩
          go_wp2_with fail
          go_roundg (gk - 1)
          case measure => have := HK.out; omega
          case rel =>
            refine ⟨k + 1, by have := HK.out; omega, by go_num, rfl, by omega, ?_⟩
            have := HR2.out
            unfold vq.cmpI at h0
            split at h0
            · omega
            · split at h0
              · omega
              · rename_i q1 q2
                rw [if_neg q1, if_neg q2] at this
                exact this
        · go_wp2_with fail
          refine (HC.out _ _).mono ?_
          rintro e w' ⟨rfl, rfl⟩
          go_wp2_with fail
          go_ret
          refine ⟨?_, rfl⟩
          have := HR2.out
          unfold vq.cmpI at h0 ⊢
          rw [← this]
          refine wp.ret_i64 ?_
          split
          · rfl
          · split
            · rfl
            · rename_i q1 q2
              rw [if_neg q1, if_neg q2] at h0
              exact absurd rfl h0
      · go_wp2_with fail
        go_ret
        have := HR.out
        rw [HX.out, List.drop_of_length_le (l := b) (by have := H'.out.1; omega), vq.lex] at this
        exact ⟨by rw [← this]; rfl, rfl⟩
    · have hkn2 : k = n := by omega
      by_cases hlt' : n < n'
      · go_wp2_with fail
        go_ret
        have := HR.out
        obtain ⟨_, _, y, _, _, hy, -, -⟩ := isI_at H'.out (k := k) (by omega)
        rw [List.drop_of_length_le (l := a) (by have := H.out.1; omega), drop_at hy, vq.lex] at this
        exact ⟨by rw [← this]; rfl, rfl⟩
      · go_wp2_with fail
        go_ret
        have := HR.out
        rw [List.drop_of_length_le (l := a) (by have := H.out.1; omega), List.drop_of_length_le (l := b) (by have := H'.out.1; omega), vq.lex] at this
        exact ⟨by rw [← this]; rfl, rfl⟩
theorem isI_new {w : World} {g : Nat} (hg : w.heap.size = g) (l : List Int) {cs : Array Value} (hcs : cs = (iv l).toArray) (n : Nat) (hn : l.length = n) (h40 : n ≤ 1099511627776) (hb : ∀ x ∈ l, -9223372036854775808 ≤ x ∧ x ≤ 9223372036854775807) (t : TypeId) : wo.IsI (w.alloc (.cells cs t)) (some ⟨g, 0, none⟩) n n l :=
  ⟨hn, Nat.le_refl _, by omega, wi.RC_new hg _ _ hcs, hb⟩
theorem cmpI_bd (x y : Int) : -1 ≤ vq.cmpI x y ∧ vq.cmpI x y ≤ 1 := by
  unfold vq.cmpI
  split
  · omega
  · split <;> omega
theorem lex_bd (a b : List Int) : -1 ≤ vq.lex a b ∧ vq.lex a b ≤ 1 := by have := vq.lex_range a b; omega
theorem or_cmp (a b : List Int) : orI [vq.cmpI a.length b.length, vq.lex a b] = vq.cmp a b := by
  have := vq.lex_range a b
  unfold orI orI orI vq.cmpI vq.cmp
  repeat' split
  all_goals omega
set_option maxRecDepth 100000 in
theorem compare_calls (A A' : Option Addr) (n n' c c' : Nat) (a b : List Int) (w : World) (h : wo.IsI w A n c a) (h' : wo.IsI w A' n' c' b) :
    Calls Try.prog 16 #[.slice A n c, .slice A' n' c'] w fun e w' => e = .returned (.int .i64 (vq.cmp a b)) ∧ Below w.heap.size w w' := by
  have hl := h.1
  have hl' := h'.1
  have HC := Lib.hid (cmpI_calls n n' w)
  have HL := Lib.hid (lex_calls A A' n n' c c' a b w h h')
  have HO := Lib.hid (or_calls _ 2 2 _ _ (isI_new (w := w) rfl [vq.cmpI n n', vq.lex a b] rfl 2 rfl (by omega) (by intro x hx; have := cmpI_bd n n'; have := lex_bd a b; simp at hx; omega) 3) (by omega))
  have HE : Hid (orI [vq.cmpI n n', vq.lex a b] = vq.cmp a b) := by show _ = _; rw [← or_cmp, hl, hl']
  clear h h' hl hl'
  go_enter Try.func16, Try.ntmps16
  go_wp2_with fail
  refine HC.out.mono ?_
  rintro e w' ⟨rfl, rfl⟩
  go_wp2_with fail
  refine HL.out.mono ?_
  rintro e w' ⟨rfl, rfl⟩
  go_wp2_with fail
  refine HO.out.mono ?_
  rintro e w' ⟨rfl, rfl⟩
  go_wp2_with fail
  go_ret
  exact ⟨by rw [← HE.out]; rfl, below_new _ _⟩
end Go.Proofs.Ytbnemcggiopdmaa.vk
