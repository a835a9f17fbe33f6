/- Peaks that a call returns beside an error, laid into a cell of their own: what holds in the middle of such a region. -/
import Derived.Test.YtmjmkkdmphgdnaaDoorNc

import Derived.Test.YtmjmkkdmphgdnaaDoorVal3

namespace Go.Proofs.YtmjmkkdmphgdnaaDoor.mk

open Go.ChangeShapes Go.WideShapes Go.ChangeAt Go.RowKit

set_option linter.unusedVariables false
theorem ownsRow_setRow_ty {w : World} {base : Nat} {e t : TypeId} {size n g : Nat} {v : Value} {xs : List Value} {old : Array Value} {fr : Nat × Nat} (h : w.ownsRow base e size v n xs) (hg : w.heap[g]? = some (.cells old t fr)) (hne : t ≠ e) (cs : Array Value) : (w.setRow g cs).ownsRow base e size v n xs := by
  refine ⟨h.1, ?_⟩
  rcases h.2 with hn | ⟨g', cap, cur, hv, hb, hh, r⟩
  · exact .inl hn
  · have hgg : g ≠ g' := by
      rintro rfl
      rw [hg] at hh
      injection hh with hh
      injection hh with h1 h2 h3
      exact hne h2
    exact .inr ⟨g', cap, cur, hv, hb, by rw [heap_setRow_ne hgg]; exact hh, r⟩
def GRel (lo : Nat) (pl : Nat → Value) (k1 : Int) (m : Nat) (xs : List Value) (L : Nat → Bool) : Nat → World → Value → Prop
  | 5, w, v => ∃ v2, v = .tuple #[pk k1 v2, .int .i64 0] ∧ w.ownsRow lo 31 16 v2 m xs
  | 6, w, v => ∃ v2, v = .tuple #[pk k1 v2, .int .i64 0] ∧ w.ownsRow lo 31 16 v2 m xs
  | 7, w, v => ∃ v2, v = pk k1 v2 ∧ w.ownsRow lo 31 16 v2 m xs
  | 9, w, v => ∃ g, v = .pointer (some ⟨g, 0, none⟩) ∧ lo ≤ g ∧ (L 10 = false → w.heap[g]? = some (.cells #[.int .i64 0, .slice none 0 0] 43 (0, 0))) ∧
      (L 10 = true → ∃ v2, w.heap[g]? = some (.cells #[.int .i64 k1, v2] 43 (0, 0)) ∧ w.ownsRow lo 31 16 v2 m xs)
  | 10, _, _ => True
  | j, _, v => v = pl j
theorem GRel.next {lo : Nat} {pl : Nat → Value} {k1 : Int} {m : Nat} {xs : List Value} {L L' : Nat → Bool} {w w' : World} (hL : L' 10 = L 10) (hb : Below w.heap.size w w') : ∀ j u, GRel lo pl k1 m xs L j w u → GRel lo pl k1 m xs L' j w' u := by
  intro j u h
  unfold GRel at h ⊢
  split at h
  · obtain ⟨v2, h1, h2⟩ := h; exact ⟨v2, h1, wk.ownsRow_below h2 hb⟩
  · obtain ⟨v2, h1, h2⟩ := h; exact ⟨v2, h1, wk.ownsRow_below h2 hb⟩
  · obtain ⟨v2, h1, h2⟩ := h; exact ⟨v2, h1, wk.ownsRow_below h2 hb⟩
  · obtain ⟨g, h1, h2, h3, h4⟩ := h
    exact ⟨g, h1, h2, fun q => wk.row_below (h3 (hL ▸ q)) hb, fun q => by
      obtain ⟨v2, h5, h6⟩ := h4 (hL ▸ q)
      exact ⟨v2, wk.row_below h5 hb, wk.ownsRow_below h6 hb⟩⟩
  · trivial
  · exact h
theorem ones_pk {w : World} {base n : Nat} {e : TypeId} {size : Nat} {v : Value} {xs : List Value} (k : Int) (h : w.ownsRow base e size v n xs) : wk.Ones [Value.int .i64 k, v] := fun u hu => by
  rcases List.mem_cons.1 hu with rfl | hu
  · rfl
  · rw [List.mem_singleton] at hu
    subst hu
    rcases h.2 with ⟨hn, _⟩ | ⟨g, cap, cur, hv, _⟩
    · rw [hn]; rfl
    · rw [hv]; rfl
theorem peaks_ne : (43 : TypeId) ≠ 31 := by decide
/-- the store: the peaks go into their cell -/
theorem GRel.store {lo : Nat} {pl : Nat → Value} {k1 : Int} {m : Nat} {xs : List Value} {L : Nat → Bool} {w : World} {g : Nat} {v2 : Value} (hg : w.heap[g]? = some (.cells #[.int .i64 0, .slice none 0 0] 43 (0, 0))) (hv2 : w.ownsRow lo 31 16 v2 m xs)
    (hL : L 10 = false) {V9 : Value} (h9 : V9 = .pointer (some ⟨g, 0, none⟩)) : ∀ j u, (j = 9 → V9 = u) → GRel lo pl k1 m xs L j w u → GRel lo pl k1 m xs (fun j => if j = 10 then true else L j) j (w.setRow g #[.int .i64 k1, v2]) u := by
  intro j u hj h
  have h9' := fun (e : j = 9) => (hj e).symm.trans h9
  unfold GRel at h ⊢
  split at h
  · obtain ⟨v3, h1, h2⟩ := h; exact ⟨v3, h1, ownsRow_setRow_ty h2 hg peaks_ne _⟩
  · obtain ⟨v3, h1, h2⟩ := h; exact ⟨v3, h1, ownsRow_setRow_ty h2 hg peaks_ne _⟩
  · obtain ⟨v3, h1, h2⟩ := h; exact ⟨v3, h1, ownsRow_setRow_ty h2 hg peaks_ne _⟩
  · obtain ⟨g', h1, h2, h3, h4⟩ := h
    have hgg := h9' rfl
    rw [h1] at hgg
    injection hgg with hgg
    injection hgg with hgg
    injection hgg with hgg
    subst hgg
    exact ⟨g', h1, h2, fun q => by simp at q, fun _ => ⟨v2, setRow_heap _ _ _ _ _ _ hg, ownsRow_setRow_ty hv2 hg peaks_ne _⟩⟩
  · trivial
  · exact h
end Go.Proofs.YtmjmkkdmphgdnaaDoor.mk
