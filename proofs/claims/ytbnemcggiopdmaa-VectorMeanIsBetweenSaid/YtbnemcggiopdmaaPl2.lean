/- Plain facts on what is written and what is read: no program here. -/
import Derived.Test.YtbnemcggiopdmaaPlain

namespace Go.Proofs.Ytbnemcggiopdmaa.wp

open Go.RowKit

theorem ret_bool {b : Bool} (h : b = true) : Ending.returned (.bool b) = .returned (.bool true) := by rw [h]

/-- a text: all bytes but the last one have the mark, the last one has not, and is not 0 where there are more -/
def Whole : List UInt8 → Prop
  | [] => False
  | [c] => c.toNat < 128
  | c :: d :: r => 128 ≤ c.toNat ∧ Whole (d :: r) ∧ (r = [] → d.toNat ≠ 0)

theorem whole_uvarint (q : Nat) : Whole (Lib.uvarint q) ∧ gv (Lib.uvarint q) = q ∧ (0 < q → Lib.uvarint q ≠ [0]) := by
  induction q using Nat.strongRecOn with
  | _ q ih =>
    rcases Nat.lt_or_ge q 128 with h | h
    · rw [Lib.uvarint_small h]
      have e : q.toUInt8.toNat = q := by simp [Nat.toUInt8, UInt8.toNat_ofNat']; omega
      refine ⟨by show _ < _; omega, by simp [gv, e]; omega, fun h0 h1 => ?_⟩
      have h2 : q.toUInt8 = 0 := by simpa using h1
      rw [h2] at e
      simp at e
      omega
    · obtain ⟨h1, h2, h3⟩ := ih (q / 128) (by omega)
      rw [Lib.uvarint_big h]
      have e : (q % 128 + 128).toUInt8.toNat = q % 128 + 128 := by simp [Nat.toUInt8, UInt8.toNat_ofNat']; omega
      refine ⟨?_, ?_, ?_⟩
      · have h4 := Lib.uvarint_pos (q / 128)
        cases hu : Lib.uvarint (q / 128) with
        | nil => rw [hu] at h4; simp at h4
        | cons d r =>
          rw [hu] at h1
          refine ⟨by omega, h1, fun hr hd => ?_⟩
          subst hr
          have hd0 : d = 0 := by rw [← UInt8.toNat_inj]; simpa using hd
          exact h3 (by omega) (by rw [hu, hd0])
      · simp only [gv, h2, e]; omega
      · intro _ hh
        have := congrArg List.length hh
        have h4 := Lib.uvarint_pos (q / 128)
        simp only [List.length_cons, List.length_nil] at this
        omega

theorem gv_pos : ∀ (l : List UInt8), Whole l → (∀ c, l = [c] → c.toNat ≠ 0) → 0 < gv l
  | [], h, _ => h.elim
  | [c], h, h0 => by have := h0 c rfl; have h' : c.toNat < 128 := h; simp [gv]; omega
  | c :: d :: r, h, _ => by
    have := gv_pos (d :: r) h.2.1 (fun e he => by
      have : r = [] ∧ d = e := by simpa [and_comm] using he
      rw [← this.2]; exact h.2.2 this.1)
    simp only [gv] at this ⊢
    omega

theorem uvarint_gv : ∀ (l : List UInt8), Whole l → Lib.uvarint (gv l) = l
  | [], h => h.elim
  | [c], h => by
    have h' : c.toNat < 128 := h
    have e : gv [c] = c.toNat := by simp [gv]; omega
    rw [e, Lib.uvarint_small h']
    simp [Nat.toUInt8]
  | c :: d :: r, h => by
    have hr := uvarint_gv (d :: r) h.2.1
    have hp := gv_pos (d :: r) h.2.1 (fun e he => by
      have : r = [] ∧ d = e := by simpa [and_comm] using he
      rw [← this.2]; exact h.2.2 this.1)
    have hc := h.1
    have hc2 := c.toNat_lt
    have e1 : gv (c :: d :: r) % 128 = c.toNat % 128 := by rw [gv]; omega
    have e2 : gv (c :: d :: r) / 128 = gv (d :: r) := by rw [gv]; omega
    rw [Lib.uvarint_big (by rw [gv]; omega), e1, e2, hr]
    congr 1
    rw [← UInt8.toNat_inj]
    simp [Nat.toUInt8, UInt8.toNat_ofNat']
    omega

theorem whole_high : ∀ (l t : List UInt8), Whole l → High (l ++ t) (l.length - 1) ∧ ∃ c, (l ++ t)[l.length - 1]? = some c ∧ c.toNat < 128 ∧ (0 < l.length - 1 → c.toNat ≠ 0)
  | [], _, h => h.elim
  | [c], t, h => ⟨High.zero _, c, by simp, h, fun h0 => absurd h0 (by simp)⟩
  | c :: d :: r, t, h => by
    obtain ⟨h1, e, he, h2, h3⟩ := whole_high (d :: r) t h.2.1
    have el : (d :: r).length - 1 + 1 = (c :: d :: r).length - 1 := by simp
    refine ⟨?_, e, ?_, h2, fun _ => ?_⟩
    · rw [← el]
      intro j u hj hu
      cases j with
      | zero => simp at hu; rw [← hu]; exact h.1
      | succ j => exact h1 j u (by omega) (by simpa using hu)
    · rw [← el]; simpa using he
    · rcases Nat.eq_zero_or_pos ((d :: r).length - 1) with h0 | h0
      · have hr : r = [] := List.eq_nil_of_length_eq_zero (by simpa using h0)
        subst hr
        have : d = e := by simpa using he
        rw [← this]; exact h.2.2 rfl
      · exact h3 h0

/-- what is written is read again, whatever follows it -/
theorem getI_encI {n : Int} (h0 : -9223372036854775808 ≤ n) (h1 : n ≤ 9223372036854775807) (t : List UInt8) : getI (encI n ++ t) = (n, ((encI n).length : Int), 0) := by
  obtain ⟨hw, hg, _⟩ := whole_uvarint (Lib.zigzag n)
  have hz := Lib.zigzag_lt h0 h1
  obtain ⟨hh, c, hc, hc1, hc2⟩ := whole_high _ t hw
  have hl := encI_length h0 h1
  have hp := encI_pos n
  unfold encI at *
  have hk : (Lib.uvarint (Lib.zigzag n)).length - 1 < 10 := by omega
  have ht : (Lib.uvarint (Lib.zigzag n) ++ t).take ((Lib.uvarint (Lib.zigzag n)).length - 1 + 1) = Lib.uvarint (Lib.zigzag n) := by
    rw [show (Lib.uvarint (Lib.zigzag n)).length - 1 + 1 = (Lib.uvarint (Lib.zigzag n)).length by omega]; simp
  have hgt := gv_take hc
  rw [ht, hg] at hgt
  rw [getI_some hh hk hc hc1, ht, hg, unz_zigzag, if_neg]
  · rw [show (Lib.uvarint (Lib.zigzag n)).length - 1 + 1 = (Lib.uvarint (Lib.zigzag n)).length by omega]
  · rintro (⟨h9, hx⟩ | ⟨ha, hb⟩)
    · rw [h9] at hgt
      have h5 : 128 ^ 9 * 2 ≤ 128 ^ 9 * (c.toNat % 128) := Nat.mul_le_mul_left _ (by omega)
      omega
    · exact hc2 ha hb

/-- what is read has been written -/
theorem whole_of_high : ∀ (l : List UInt8) (k : Nat), High l k → ∀ c, l[k]? = some c → c.toNat < 128 → (0 < k → c.toNat ≠ 0) → Whole (l.take (k + 1))
  | [], k, _, c, hc, _, _ => by simp at hc
  | a :: r, 0, _, c, hc, h8, _ => by
    have : a = c := by simpa using hc
    subst this
    simpa [Whole] using h8
  | a :: r, k + 1, h, c, hc, h8, h0 => by
    have hr : High r k := fun j u hj hu => h (j + 1) u (by omega) (by simpa using hu)
    have hc' : r[k]? = some c := by simpa using hc
    have h9 := h0 (by omega)
    have ih := whole_of_high r k hr c hc' h8 (fun _ => h9)
    have ha := h 0 a (by omega) (by simp)
    cases r with
    | nil => simp at hc'
    | cons b s =>
      rw [List.take_succ_cons, List.take_succ_cons] at *
      refine ⟨ha, ih, fun hs => ?_⟩
      rcases k with _ | k
      · have : b = c := by simpa using hc'
        rw [this]; exact h9
      · exfalso
        have : s = [] := by simpa using hs
        subst this
        simp at hc'

theorem encI_getI (l : List UInt8) (h : (getI l).2.2 = 0) : l.take (getI l).2.1.toNat = encI (getI l).1 ∧ ((encI (getI l).1).length : Int) = (getI l).2.1 := by
  by_cases hk : ∃ k c, High l k ∧ k < 10 ∧ l[k]? = some c ∧ c.toNat < 128
  · obtain ⟨k, c, hh, hk10, hc, h8⟩ := hk
    have hs := getI_some hh hk10 hc h8
    rw [hs] at h ⊢
    split at h
    · cases h
    · rename_i hno
      rw [if_neg hno]
      have hw := whole_of_high l k hh c hc h8 (fun h0 h1 => hno (.inr ⟨h0, h1⟩))
      have hkl : k < l.length := by
        rcases Nat.lt_or_ge k l.length with h' | h'
        · exact h'
        · rw [List.getElem?_eq_none h'] at hc; cases hc
      dsimp only
      have e : encI (unz (gv (l.take (k + 1)))) = l.take (k + 1) := by
        unfold encI
        rw [zigzag_unz, uvarint_gv _ hw]
      rw [e]
      refine ⟨by rw [Int.toNat_natCast], ?_⟩
      rw [List.length_take, Nat.min_eq_left (by omega)]
  · exfalso
    have hall : High l (min l.length 10) := by
      have : ∀ k, k ≤ min l.length 10 → High l k := by
        intro k
        induction k with
        | zero => intro _; exact High.zero _
        | succ k ih =>
          intro hk'
          have hkl : k < l.length := by omega
          have hlk : l[k]? = some l[k] := List.getElem?_eq_getElem hkl
          refine (ih (by omega)).succ hlk ?_
          rcases Nat.lt_or_ge l[k].toNat 128 with h' | h'
          · exact absurd ⟨k, l[k], ih (by omega), by omega, hlk, h'⟩ hk
          · exact h'
      exact this _ (Nat.le_refl _)
    rw [getI_none hall rfl] at h
    split at h <;> simp at h

/-- a beginning of a text is too short -/
theorem getI_short {n : Int} (h0 : -9223372036854775808 ≤ n) (h1 : n ≤ 9223372036854775807) {k : Nat} (hk : k < (encI n).length) : getI ((encI n).take k) = (0, 0, 10) := by
  obtain ⟨hw, _, _⟩ := whole_uvarint (Lib.zigzag n)
  obtain ⟨hh, _⟩ := whole_high _ [] hw
  have hl := encI_length h0 h1
  unfold encI at *
  rw [List.append_nil] at hh
  have hlen : ((Lib.uvarint (Lib.zigzag n)).take k).length = k := by rw [List.length_take]; omega
  have hhk : High ((Lib.uvarint (Lib.zigzag n)).take k) k := fun j u hj hu => by
    rw [List.getElem?_take_of_lt hj] at hu
    exact hh j u (by omega) hu
  rw [getI_none hhk (by rw [hlen]; omega), if_neg (by rw [hlen]; omega)]
end Go.Proofs.Ytbnemcggiopdmaa.wp
