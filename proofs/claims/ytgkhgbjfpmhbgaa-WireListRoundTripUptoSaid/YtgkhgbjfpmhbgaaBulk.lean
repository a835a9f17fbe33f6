import Derived.Test.YtgkhgbjfpmhbgaaRows
import Derived.Test.YtgkhgbjfpmhbgaaOpen
import Derived.Test.YtgkhgbjfpmhbgaaLive
namespace Go.Proofs.Ytgkhgbjfpmhbgaa.wo
open Go.ChangeShapes Go.WideShapes Go.ChangeAt Go.RowKit

theorem bulk_mem {H : Type} {d : DataW H} {l : List (DataW H)} (h : d ∈ l) : Rows.uptoBulk d ≤ Rows.uptoBulkAll l := by
  induction l with
  | nil => cases h
  | cons x r ih =>
    simp only [Rows.uptoBulkAll]
    rcases List.mem_cons.1 h with e | e
    · subst e; omega
    · have := ih e; omega
theorem bulk_strs {H : Type} (l : List ByteArray) : Rows.uptoBulkAll (strs l : List (DataW H)) = wp.total l := by
  induction l with
  | nil => rfl
  | cons x r ih =>
    have e : (strs (x :: r) : List (DataW H)) = .lit (.string x.data.toList) :: strs r := rfl
    have h5 : x.data.toList.length = x.size := by rw [Array.length_toList]; rfl
    rw [e]
    simp only [Rows.uptoBulkAll, Rows.uptoBulk, h5, ih]
    unfold wp.total
    simp only [List.length_cons, List.map_cons, List.sum_cons]
    omega

section
variable {H : Type} {enc : TypeId × Value → H} {P : Program} {w : World} {base : Nat} {spare : Nat → Bool} {held : Bool} {t e : TypeId} {a : Option Addr} {n c fuel : Nat} {x : DataW H × List MemPlace}

theorem openS_bulk (ht : P.underlying t = some (.slice e)) (he : P.underlying e = some .string) (hc : P.cellsOf e = 1) (h : DataW.trod enc P w base spare held fuel t [.slice a n c] = some x) :
    ∃ l, IsS w a n c l ∧ wp.total l ≤ Rows.uptoBulk x.1 := by
  rcases open_strings ht he hc h with ⟨hcs, rfl⟩ | ⟨ad, l, c', ss, hcs, _, hl, hm, hz, rfl, hcell, hws⟩
  · simp only [List.cons.injEq, Value.slice.injEq, and_true] at hcs
    obtain ⟨rfl, rfl, rfl⟩ := hcs
    exact ⟨[], ⟨rfl, Nat.le_refl _, by omega, fun h => absurd h (by simp), by simp⟩, by simp [wp.total]⟩
  · simp only [List.cons.injEq, Value.slice.injEq, and_true] at hcs
    obtain ⟨rfl, rfl, rfl⟩ := hcs
    have hzl : n ≤ ss.length := by rw [hz]; split <;> omega
    refine ⟨ss.take n, ⟨by simp; omega, hl, by unfold maxLen at hm; omega, rc_of fun i u hu => ?_, fun y hy => hws y (List.mem_of_mem_take hy)⟩, ?_⟩
    · have hi : i < n := by
        rcases Nat.lt_or_ge i n with h' | h'
        · exact h'
        · rw [List.getElem?_eq_none (by simp; omega)] at hu; cases hu
      rw [hcell i (by omega), ← hu]
      simp [List.getD, List.getElem?_take_of_lt hi, List.getElem?_eq_getElem (show i < ss.length by omega)]
    · simp only [Rows.uptoBulk, bulk_strs]
      omega

theorem bulk_len {l : List (DataW H)} : l.length ≤ Rows.uptoBulkAll l := by
  induction l with
  | nil => simp
  | cons x r ih =>
    have : 1 ≤ Rows.uptoBulk x := by
      cases x with
      | lit l => cases l <;> simp [Rows.uptoBulk]
      | nil => simp [Rows.uptoBulk]
      | ptr d => simp [Rows.uptoBulk]
      | slice elems spare => simp [Rows.uptoBulk]
      | agg parts => simp [Rows.uptoBulk]
      | iface t d => simp [Rows.uptoBulk]
      | map entries => simp [Rows.uptoBulk]
      | held h => simp [Rows.uptoBulk]
    simp only [Rows.uptoBulkAll, List.length_cons]
    omega
theorem slice_bulk (ht : P.underlying t = some (.slice e)) (h : DataW.trod enc P w base spare held fuel t [.slice a n c] = some x) : n ≤ Rows.uptoBulk x.1 := by
  rcases DataW.trod_slice ht h with ⟨hcs, _⟩ | ⟨ad, len, cap, elems, rest, m, _, hcs, rfl, hb, hl, hm, hlen, hel, _⟩
  · simp only [List.cons.injEq, Value.slice.injEq, and_true] at hcs
    omega
  · simp only [List.cons.injEq, Value.slice.injEq, and_true] at hcs
    obtain ⟨rfl, rfl, rfl⟩ := hcs
    have := bulk_len (l := elems.map (·.1))
    simp only [Rows.uptoBulk, List.length_map] at this ⊢
    omega
theorem string_bulk (s : ByteArray) : s.size ≤ Rows.uptoBulk (DataW.lit (H := H) (.string s.data.toList)) := by
  have h5 : s.data.toList.length = s.size := by rw [Array.length_toList]; rfl
  simp only [Rows.uptoBulk, h5]
  omega
end
end Go.Proofs.Ytgkhgbjfpmhbgaa.wo
