/- The reference's Worst and Common. -/
import Derived.Test.YteeoogcchgiffaaHy

namespace Go.Proofs.Yteeoogcchgiffaa.bk

open Go.ChangeShapes Go.WideShapes Go.ChangeAt Go.RowKit

open Go.Proofs.Yteeoogcchgiffaa.bq Go.Proofs.Yteeoogcchgiffaa.vk Go.Proofs.Yteeoogcchgiffaa.wk

set_option linter.unusedVariables false
attribute [local go_sem] Oper.semAt_some
theorem getLast_at {l : List H} {n : Nat} {y : H} (hl : l.length = n) (h : l[n - 1]? = some y) : l.getLast? = some y := by
  rw [List.getLast?_eq_getElem?, hl]; exact h
set_option maxRecDepth 100000 in
set_option maxHeartbeats 4000000 in
theorem rworst_calls {l : List H} {A : Option Addr} {n c : Nat} (k : Int) (w : World) (h : IsH w A n c l) (hk : 1 ≤ k) (hp : ∀ x ∈ l, 0 ≤ x.2.2) : Calls Try.prog 28 #[.slice A n c, .int .i64 k] w fun e w' => e = .returned (.int .i64 (worst l k)) ∧ w' = w := by
  have hm := h.2.2.1
  have hnc := h.2.1
  have hl := h.1
  by_cases hlt : (n : Int) < k
  · have HV := Lib.hid (worst_less (l := l) (k := k) (by rw [hl]; exact hlt))
    clear h hp
    go_enter Try.func28, Try.ntmps28
    go_wp2_with fail
    go_ret
    exact ⟨by rw [HV.out]; rfl, rfl⟩
  · obtain ⟨m, hm1⟩ : ∃ m, m + 1 = n := ⟨n - 1, by omega⟩
    obtain ⟨b, o, x, rfl, hx1, hx2, hx3, hb1, hX, hwx⟩ := isH_get (k := m) h (by omega)
    have hx0 := hp x (List.mem_of_getElem? hX)
    have hlast := getLast_at (y := x) hl (by rw [show n - 1 = m by omega]; exact hX)
    have HV : Hid (worst l k = x.2.2 - 1) := by
      show _ = _
      unfold worst
      rw [if_neg (by rw [hl]; omega), hlast]; rfl
    have hb2 := hwx.2.2.2
    have hmi : (m : Int) < (n : Int) := by omega
    have hwr : IntKind.i64.wrap ((n : Int) - 1) = (m : Int) := by rw [IntKind.wrap_i64]; omega
    clear h hp hX hwx hx1 hx2 hb1 hlast hl
    go_enter Try.func28, Try.ntmps28
    go_wp2_with fail
    go_ret
    exact ⟨by rw [HV.out]; rfl, rfl⟩
theorem filt_snoc {a : List H} {p : H → Bool} {k : Nat} {x : H} (hx : a[k]? = some x) : ((a.take (k + 1)).filter p).length = ((a.take k).filter p).length + if p x then 1 else 0 := by
  rw [take_succ' hx, List.filter_append, List.length_append, List.filter_cons]
  cases p x <;> rfl
set_option maxRecDepth 100000 in
set_option maxHeartbeats 4000000 in
theorem rcommon_calls {a b : List H} {A A' : Option Addr} {n c n' c' : Nat} (w : World) (h : IsH w A n c a) (h' : IsH w A' n' c' b) (hn : n ≤ 1000000) : Calls Try.prog 30 #[.slice A n c, .slice A' n' c'] w fun e w' => e = .returned (.int .i64 ((a.filter (hasI b)).length : Int)) ∧ w' = w := by
  have hm := h.2.2.1
  have hnc := h.2.1
  have hm' := h'.2.2.1
  have hnc' := h'.2.1
  have H := Lib.hid h
  have H' := Lib.hid h'
  have HLN := Lib.hid h.1
  clear h h'
  go_enter Try.func30, Try.ntmps30
  go_wp2_with fail
  go_loopg [5, 6] n (fun g y x wr => ∃ k q : Nat, k + g = n ∧ x = .int .i64 (k : Int) ∧ y = .int .i64 (q : Int) ∧ wr = w ∧ q = ((a.take k).filter (hasI b)).length)
  case atStart => exact ⟨0, 0, by omega, rfl, rfl, rfl, rfl⟩
  case round =>
    obtain ⟨k, q, hk, rfl, rfl, rfl, hr⟩ := hrel
    have HK := Lib.hid hk
    have HR := Lib.hid hr
    have hkn : k ≤ n := by omega
    have hqn : q ≤ k := by rw [hr]; have := List.length_filter_le (hasI b) (a.take k); rw [List.length_take] at this; omega
    clear hk hr
    by_cases hlt : k < n
    · obtain ⟨bb, o, x, rfl, hx1, hx2, hx3, hb1, hX, hwx⟩ := isH_get H.out hlt
      have HS := Lib.hid (filt_snoc (p := hasI b) hX)
      have hlt0 : (k : Int) < (n : Int) := by omega
      clear hX hwx hb1 hx2 hx3
      cases hh : hasI b x with
      | true =>
        have HH := Lib.hid hh
        go_wp2_with fail
        refine (rhas_calls x.1 _ H'.out).mono ?_
        rintro e w' ⟨rfl, hw'⟩
        rw [hw']
        clear hw' w'
        rw [show (b.any fun r => r.1 == x.1) = true from HH.out]
        go_wp2_with fail
        go_roundg (gk - 1)
        case measure => have := HK.out; omega
        case rel => exact ⟨k + 1, q + 1, by have := HK.out; omega, by go_num, by go_num, rfl, by rw [HS.out, HH.out, ← HR.out]; rfl⟩
      | false =>
        have HH := Lib.hid hh
        go_wp2_with fail
        refine (rhas_calls x.1 _ H'.out).mono ?_
        rintro e w' ⟨rfl, hw'⟩
        rw [hw']
        clear hw' w'
        rw [show (b.any fun r => r.1 == x.1) = false from HH.out]
        go_wp2_with fail
        go_roundg (gk - 1)
        case measure => have := HK.out; omega
        case rel => exact ⟨k + 1, q, by have := HK.out; omega, by go_num, rfl, rfl, by rw [HS.out, HH.out, ← HR.out]; rfl⟩
    · have h1 := HR.out
      rw [List.take_of_length_le (by rw [HLN.out]; omega)] at h1
      have H1 := Lib.hid h1
      clear h1
      go_wp2_with fail
      go_ret
      exact ⟨by rw [← H1.out]; rfl, rfl⟩
end Go.Proofs.Yteeoogcchgiffaa.bk
