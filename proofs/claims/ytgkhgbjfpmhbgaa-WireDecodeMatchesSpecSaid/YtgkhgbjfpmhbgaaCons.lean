import Derived.Test.YtgkhgbjfpmhbgaaSan
import Derived.Test.YtgkhgbjfpmhbgaaPl3
import Derived.Test.YtgkhgbjfpmhbgaaOpen
namespace Go.Proofs.Ytgkhgbjfpmhbgaa.wi
open Go.ChangeShapes Go.WideShapes Go.ChangeAt Go.RowKit
set_option linter.unusedVariables false

theorem consumed_err (b c : Value) (u : Value) (e : Int) (w : World) (he : 0 < e) :
    Calls Try.prog 35 #[b, c, u, .int .i64 e] w fun e' w' => e' = .returned (.bool true) ∧ w = w' := by
  have hb : (e != 0) = true := by rw [bne_iff_ne]; omega
  go_enter Try.func35, Try.ntmps35
  go_wp2_with fail
  go_ret
  exact ⟨rfl, rfl⟩

set_option maxRecDepth 100000 in
theorem consumed_ok (A A' : Option Addr) (n c n' c' : Nat) (l l' : List UInt8) (u : Int) (w : World) (h : wo.IsB w A n c l) (hu0 : 0 ≤ u) (hu : u ≤ n) (hl' : l'.length = n') (hr' : wp.RB w A' l') (he : l.take u.toNat = l') :
    Calls Try.prog 35 #[.slice A n c, .slice A' n' c', .int .i64 u, .int .i64 0] w fun e' w' => e' = .returned (.bool true) ∧ w = w' := by
  obtain ⟨hl, hnc, hc, hr⟩ := h
  obtain ⟨k, rfl⟩ := Int.eq_ofNat_of_zero_le hu0
  rw [Int.toNat_natCast] at he
  have hkn : k ≤ n := by omega
  have hr2 : wp.RB w A (l.take k) := fun hl => by
    obtain ⟨b, o, hA, hb, hc⟩ := hr (by rw [List.length_take] at hl; omega)
    refine ⟨b, o, hA, hb, fun j u hu => hc j u ?_⟩
    rw [List.getElem?_take] at hu
    split at hu
    · exact hu
    · cases hu
  have hlk : (l.take k).length = k := by rw [List.length_take]; omega
  subst he
  have HS := Lib.hid (same_true A' A n' c' k c (l.take k) w hl' hlk hr' hr2)
  clear hr hr2 hr' hl' hlk hl
  rcases Nat.eq_zero_or_pos k with h0 | h0
  all_goals
    first | subst h0 | skip
    go_enter Try.func35, Try.ntmps35
    go_wp2_with fail
    refine HS.out.mono ?_
    rintro e w1 ⟨rfl, rfl⟩
    go_wp2_with fail
    go_ret
    exact ⟨rfl, rfl⟩

theorem consumed_any (A A' : Option Addr) (n c n' c' : Nat) (l l' : List UInt8) (u e : Int) (w : World) (h : wo.IsB w A n c l) (he0 : 0 ≤ e) (hl' : l'.length = n') (hr' : wp.RB w A' l') (hok : e = 0 → 0 ≤ u ∧ u ≤ n ∧ l.take u.toNat = l') :
    Calls Try.prog 35 #[.slice A n c, .slice A' n' c', .int .i64 u, .int .i64 e] w fun e' w' => e' = .returned (.bool true) ∧ w = w' := by
  rcases Int.lt_or_eq_of_le he0 with h' | h'
  · exact consumed_err _ _ _ e w h'
  · subst h'
    obtain ⟨h1, h2, h3⟩ := hok rfl
    exact consumed_ok A A' n c n' c' l l' u w h h1 h2 hl' hr' h3
end Go.Proofs.Ytgkhgbjfpmhbgaa.wi
namespace Go.Proofs.Ytgkhgbjfpmhbgaa.wo
open Go.RowKit
theorem IsB.below {w w' : World} {A : Option Addr} {n c : Nat} {l : List UInt8} (h : IsB w A n c l) (hb : Below w.heap.size w w') : IsB w' A n c l := ⟨h.1, h.2.1, h.2.2.1, wk.RB.below h.2.2.2 hb⟩
end Go.Proofs.Ytgkhgbjfpmhbgaa.wo
namespace Go.Proofs.Ytgkhgbjfpmhbgaa.wp
open Go.RowKit
theorem getN_all {α : Type} {one : List UInt8 → α × Int × Int} {p : α → Prop} (h : ∀ l, p (one l).1) (l : List UInt8) : ∀ (k : Nat) (acc : List α) (used : Int), (∀ x ∈ acc, p x) → ∀ x ∈ (getN one l k acc used).1, p x
  | 0, acc, used, ha => by simpa [getN] using ha
  | k + 1, acc, used, ha => by
    rw [getN]
    split
    · simp
    · exact getN_all h l k _ _ fun x hx => by
        rcases List.mem_append.1 hx with h' | h'
        · exact ha x h'
        · rw [List.mem_singleton.1 h']; exact h _
theorem getL_all {α : Type} {one : List UInt8 → α × Int × Int} {p : α → Prop} (h : ∀ l, p (one l).1) (least : Nat) (l : List UInt8) : ∀ x ∈ (getL one least l).1, p x := by
  unfold getL
  split
  · simp
  · exact getN_all h l _ _ _ (by simp)
theorem getN_err {α : Type} {one : List UInt8 → α × Int × Int} (l : List UInt8) : ∀ (k : Nat) (acc : List α) (used : Int), (getN one l k acc used).2.2 ≠ 0 → (getN one l k acc used).1 = []
  | 0, acc, used, h => by simp [getN] at h
  | k + 1, acc, used, h => by
    rw [getN] at h ⊢
    split
    · rfl
    · rename_i h'
      rw [if_neg h'] at h
      exact getN_err l k _ _ h
theorem getL_err {α : Type} {one : List UInt8 → α × Int × Int} (least : Nat) (l : List UInt8) (h : (getL one least l).2.2 ≠ 0) : (getL one least l).1 = [] := by
  unfold getL at h ⊢
  split
  · rfl
  · rename_i h'
    rw [if_neg h'] at h
    exact getN_err l _ _ _ h
theorem getN_nonneg {α : Type} {one : List UInt8 → α × Int × Int} (h : ∀ l, 0 ≤ (one l).2.2) (l : List UInt8) : ∀ (k : Nat) (acc : List α) (used : Int), 0 ≤ (getN one l k acc used).2.2
  | 0, acc, used => by simp [getN]
  | k + 1, acc, used => by
    rw [getN]
    split
    · exact h _
    · exact getN_nonneg h l k _ _
theorem getL_nonneg {α : Type} {one : List UInt8 → α × Int × Int} (h : ∀ l, 0 ≤ (one l).2.2) (least : Nat) (h1 : 1 ≤ least) (l : List UInt8) : 0 ≤ (getL one least l).2.2 := by
  unfold getL
  split
  · exact (getC_facts l least h1).2.2.2.2.1
  · exact getN_nonneg h l _ _ _
theorem small_of {l : List UInt8} {e : Int} {enc : List UInt8} {u : Int} (h1 : e ≠ 0 → enc.length ≤ 1) (h2 : e = 0 → l.take u.toNat = enc) : enc.length ≤ l.length + 1 := by
  by_cases h : e = 0
  · rw [← h2 h, List.length_take]; omega
  · have := h1 h; omega
theorem one_zero : (encI 0).length = 1 := by simp [encI, Lib.zigzag, Lib.uvarint_small]
end Go.Proofs.Ytgkhgbjfpmhbgaa.wp
