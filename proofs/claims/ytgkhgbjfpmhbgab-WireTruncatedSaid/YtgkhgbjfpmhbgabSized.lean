import Derived.Test.YtgkhgbjfpmhbgabOpen
import Derived.SizedLaws
namespace Go.Proofs.Ytgkhgbjfpmhbgab.wo
open Go.ChangeShapes Go.WideShapes Go.ChangeAt Go.RowKit

section
variable {H : Type} {enc : TypeId × Value → H} {P : Program} {w : World} {base : Nat} {spare : Nat → Bool} {held : Bool} {t e : TypeId} {a : Option Addr} {n c fuel : Nat} {x : DataW H × List MemPlace}

theorem weights_of {ts : List TypeId} {ds : List (DataW H)} (h : (DataW.weightsEach P ts ds).all (· ≤ reachBytes) = true) {j : Nat} {d : DataW H} (ht : ts[j]? = some t) (hd : ds[j]? = some d) : ∀ k ∈ d.weights P t, k ≤ 140737488351232 := fun k hk => by
  have := List.all_eq_true.1 h k (DataW.weights_mem_each ht hd k hk)
  have h2 : reachBytes = 140737488351232 := by decide
  rw [h2] at this
  exact of_decide_eq_true this

theorem slice_reach (hw : ∀ k ∈ x.1.weights P t, k ≤ 140737488351232) (ht : P.underlying t = some (.slice e)) (hb : 1 ≤ P.bytesOf e) (h : DataW.trod enc P w base spare held fuel t [.slice a n c] = some x) : n ≤ 140737488351232 := by
  rcases DataW.trod_slice ht h with ⟨hcs, _⟩ | ⟨ad, len, cap, elems, rest, m, _, hcs, rfl, _, hl, hm, hlen, hel, _⟩
  · simp only [List.cons.injEq, Value.slice.injEq, and_true] at hcs
    omega
  · simp only [List.cons.injEq, Value.slice.injEq, and_true] at hcs
    obtain ⟨rfl, rfl, rfl⟩ := hcs
    have := hw ((elems.length + rest.length) * P.bytesOf e) (by simp [DataW.weights, ht])
    have h2 : (elems.length + rest.length) * 1 ≤ (elems.length + rest.length) * P.bytesOf e := Nat.mul_le_mul_left _ hb
    omega
theorem string_reach {s : ByteArray} (hw : ∀ k ∈ (DataW.lit (H := H) (.string s.data.toList)).weights P t, k ≤ 140737488351232) : s.size ≤ 140737488351232 := by
  have := hw s.data.toList.length (by simp [DataW.weights])
  have h5 : s.data.toList.length = s.size := by rw [Array.length_toList]; rfl
  omega

theorem weights_strs (ss : List ByteArray) (s : ByteArray) (hs : s ∈ ss) : s.size ∈ DataW.weightsAll P e (strs ss : List (DataW H)) := by
  induction ss with
  | nil => cases hs
  | cons y r ih =>
    have e1 : (strs (y :: r) : List (DataW H)) = .lit (.string y.data.toList) :: strs r := rfl
    have h5 : y.data.toList.length = y.size := by rw [Array.length_toList]; rfl
    rw [e1]
    simp only [DataW.weightsAll, DataW.weights, List.mem_append, List.mem_singleton, h5]
    rcases List.mem_cons.1 hs with h | h
    · left; rw [h]
    · right; exact ih h

theorem openS_reach (hw : ∀ k ∈ x.1.weights P t, k ≤ 140737488351232) (ht : P.underlying t = some (.slice e)) (he : P.underlying e = some .string) (hc : P.cellsOf e = 1) (h : DataW.trod enc P w base spare held fuel t [.slice a n c] = some x) :
    ∃ l, IsS w a n c l ∧ ∀ s ∈ l, s.size ≤ 140737488351232 := by
  rcases open_strings ht he hc h with ⟨hcs, rfl⟩ | ⟨ad, l, c', ss, hcs, _, hl, hm, hz, rfl, hcell, hws⟩
  · simp only [List.cons.injEq, Value.slice.injEq, and_true] at hcs
    obtain ⟨rfl, rfl, rfl⟩ := hcs
    exact ⟨[], ⟨rfl, Nat.le_refl _, by omega, fun h => absurd h (by simp), by simp⟩, by simp⟩
  · simp only [List.cons.injEq, Value.slice.injEq, and_true] at hcs
    obtain ⟨rfl, rfl, rfl⟩ := hcs
    have hzl : n ≤ ss.length := by rw [hz]; split <;> omega
    refine ⟨ss.take n, ⟨by simp; omega, hl, by unfold maxLen at hm; omega, rc_of fun i u hu => ?_, fun y hy => hws y (List.mem_of_mem_take hy)⟩, fun s hs => ?_⟩
    · have hi : i < n := by
        rcases Nat.lt_or_ge i n with h' | h'
        · exact h'
        · rw [List.getElem?_eq_none (by simp; omega)] at hu; cases hu
      rw [hcell i (by omega), ← hu]
      simp [List.getD, List.getElem?_take_of_lt hi, List.getElem?_eq_getElem (show i < ss.length by omega)]
    · exact hw _ (by
        simp only [DataW.weights, ht]
        exact List.mem_cons_of_mem _ (List.mem_append_left _ (weights_strs (ss.take n) s hs)))
end
end Go.Proofs.Ytgkhgbjfpmhbgab.wo
