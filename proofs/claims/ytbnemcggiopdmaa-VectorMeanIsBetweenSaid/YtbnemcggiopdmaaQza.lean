/- Means lie between; no program here. -/
import Derived.Test.YtbnemcggiopdmaaQy

namespace Go.Proofs.Ytbnemcggiopdmaa.vq
theorem col_between {L : List (List Int)} {i : Nat} {lo hi : Int} (h : ∀ l ∈ L, lo ≤ l.getD i 0 ∧ l.getD i 0 ≤ hi) : L.length * lo ≤ col L i ∧ col L i ≤ L.length * hi := by
  induction L with
  | nil => simp [col, sm]
  | cons l L ih =>
    have h1 := ih fun x hx => h x (by simp [hx])
    have h2 := h l (by simp)
    simp only [col, List.map_cons, sm, List.length_cons] at h1 ⊢
    have e1 : ((L.length + 1 : Nat) : Int) * lo = L.length * lo + lo := by push_cast; rw [Int.add_mul, Int.one_mul]
    have e2 : ((L.length + 1 : Nat) : Int) * hi = L.length * hi + hi := by push_cast; rw [Int.add_mul, Int.one_mul]
    omega
theorem mean_between {L : List (List Int)} {i : Nat} {lo hi : Int} (h1 : 1 ≤ L.length) (h : ∀ l ∈ L, lo ≤ l.getD i 0 ∧ l.getD i 0 ≤ hi) : lo ≤ col L i / (L.length : Int) ∧ col L i / (L.length : Int) ≤ hi := by
  obtain ⟨h2, h3⟩ := col_between h
  have hp : (0 : Int) < (L.length : Int) := by omega
  constructor
  · rw [Int.le_ediv_iff_mul_le hp, Int.mul_comm]; exact h2
  · have : col L i / (L.length : Int) ≤ ((L.length : Int) * hi) / (L.length : Int) := Int.ediv_le_ediv hp h3
    rw [Int.mul_ediv_cancel_left _ (by omega)] at this
    exact this
theorem col_append (a b : List (List Int)) (i : Nat) : col (a ++ b) i = col a i + col b i := by
  simp only [col, List.map_append, sm_append]
theorem mean_ext {L M : List (List Int)} {d : Nat} (hL : 1 ≤ L.length) (hlen : M.length = L.length) (hd : ∀ l ∈ L, l.length = d) (hd' : ∀ l ∈ M, l.length = d) (h : ∀ i, i < d → col M i = col L i) : mean M = mean L := by
  apply List.ext_getElem?
  intro i
  rcases Nat.lt_or_ge i d with hi | hi
  · rw [mean_at hi (by omega) hd', mean_at hi hL hd, h i hi, hlen]
  · rw [List.getElem?_eq_none (by rw [mean_length (by omega) hd']; exact hi), List.getElem?_eq_none (by rw [mean_length hL hd]; exact hi)]
theorem mean_turned {L : List (List Int)} {d : Nat} (k : Nat) (hL : 1 ≤ L.length) (hd : ∀ l ∈ L, l.length = d) : mean (L.drop k ++ L.take k) = mean L := by
  refine mean_ext hL (by simp; omega) hd (fun l hl => ?_) fun i hi => ?_
  · rcases List.mem_append.1 hl with h | h
    · exact hd l (List.mem_of_mem_drop h)
    · exact hd l (List.mem_of_mem_take h)
  · rw [col_append]
    have : col L i = col (L.take k) i + col (L.drop k) i := by rw [← col_append, List.take_append_drop]
    omega
theorem mean_same {x : List Int} : mean [x, x, x] = x := by
  apply List.ext_getElem?
  intro i
  have hd : ∀ l ∈ [x, x, x], l.length = x.length := by intro l hl; simp at hl; rw [hl]
  rcases Nat.lt_or_ge i x.length with hi | hi
  · rw [mean_at hi (by simp) hd, List.getElem?_eq_getElem hi]
    have e : x.getD i 0 = x[i] := by simp [List.getD, List.getElem?_eq_getElem hi]
    simp only [col, List.map_cons, List.map_nil, sm, e, List.length_cons, List.length_nil]
    congr 1
    omega
  · rw [List.getElem?_eq_none (by rw [mean_length (by simp) hd]; exact hi), List.getElem?_eq_none hi]
theorem mean_vec {L : List (List Int)} {d : Nat} (hL : 1 ≤ L.length) (hd : ∀ l ∈ L, l.length = d) (hv : ∀ l ∈ L, Vec l) : Vec (mean L) := by
  obtain ⟨m, T, rfl⟩ : ∃ m T, L = m :: T := by
    cases L with
    | nil => simp at hL
    | cons m T => exact ⟨m, T, rfl⟩
  have hm := hv m (by simp)
  have hml := hd m (by simp)
  have hlen := mean_length hL hd
  have hb : ∀ x ∈ mean (m :: T), -1000 ≤ x ∧ x ≤ 1000 := by
    intro x hx
    obtain ⟨i, hi, rfl⟩ := List.mem_iff_getElem.1 hx
    have h1 := mean_at (show i < d by omega) hL hd
    rw [List.getElem?_eq_getElem hi] at h1
    have h2 : (mean (m :: T))[i] = col (m :: T) i / ((m :: T).length : Int) := by simpa using h1
    rw [h2]
    refine mean_between hL fun l hl => ?_
    have hil : i < l.length := by rw [hd l hl]; omega
    have e : l.getD i 0 = l[i] := by simp [List.getD, List.getElem?_eq_getElem hil]
    rw [e]
    exact ⟨(hv l hl).lo _ (List.getElem_mem hil), (hv l hl).hi _ (List.getElem_mem hil)⟩
  have := hm.pos; have := hm.le
  exact ⟨by omega, by omega, fun x hx => (hb x hx).1, fun x hx => (hb x hx).2⟩
end Go.Proofs.Ytbnemcggiopdmaa.vq
