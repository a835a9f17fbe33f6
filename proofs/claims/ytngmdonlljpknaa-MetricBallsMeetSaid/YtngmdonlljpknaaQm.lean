/- Mean. -/
import Derived.Test.YtngmdonlljpknaaQl

namespace Go.Proofs.Ytngmdonlljpknaa.vq
def vadd (a b : List Int) : List Int := List.zipWith (· + ·) a b
def sums (m : List Int) (T : List (List Int)) : List Int := T.foldl vadd m
def mean (L : List (List Int)) : List Int := (sums (L.headD []) (L.drop 1)).map (· / (L.length : Int))
theorem vadd_length {a b : List Int} (h : a.length = b.length) : (vadd a b).length = a.length := by simp [vadd, h]
theorem vadd_at {a b : List Int} {i : Nat} {x y : Int} (h : a[i]? = some x) (h' : b[i]? = some y) : (vadd a b)[i]? = some (x + y) := by
  simp [vadd, List.getElem?_zipWith, h, h']
theorem sums_length {d : Nat} : ∀ (T : List (List Int)) (m : List Int), m.length = d → (∀ l ∈ T, l.length = d) → (sums m T).length = d
  | [], m, h, _ => h
  | l :: T, m, h, hT => by
    have h1 := hT l (by simp)
    exact sums_length T (vadd m l) (by rw [vadd_length (by omega)]; exact h) (fun x hx => hT x (by simp [hx]))
theorem sums_snoc (m : List Int) {T : List (List Int)} {k : Nat} {l : List Int} (h : T[k]? = some l) : sums m (T.take (k + 1)) = vadd (sums m (T.take k)) l := by
  rw [take_snoc h, sums, List.foldl_append]; rfl
theorem vadd_bd {a b : List Int} {c : Int} (ha : ∀ x ∈ a, -c ≤ x ∧ x ≤ c) (hb : ∀ x ∈ b, -1000 ≤ x ∧ x ≤ 1000) : ∀ x ∈ vadd a b, -(c + 1000) ≤ x ∧ x ≤ c + 1000 := by
  intro x hx
  obtain ⟨i, hi, rfl⟩ := List.mem_iff_getElem.1 hx
  have hi2 : i < a.length ∧ i < b.length := by simp [vadd] at hi; omega
  have h1 := ha _ (List.getElem_mem hi2.1)
  have h2 := hb _ (List.getElem_mem hi2.2)
  simp only [vadd, List.getElem_zipWith]
  omega
theorem sums_bd : ∀ (T : List (List Int)) (m : List Int) (c : Int), (∀ x ∈ m, -c ≤ x ∧ x ≤ c) → (∀ l ∈ T, ∀ x ∈ l, -1000 ≤ x ∧ x ≤ 1000) → ∀ x ∈ sums m T, -(c + 1000 * T.length) ≤ x ∧ x ≤ c + 1000 * T.length
  | [], m, c, h, _ => by intro x hx; have := h x hx; simp; omega
  | l :: T, m, c, h, hT => by
    have h1 := vadd_bd h (hT l (by simp))
    have h2 := sums_bd T (vadd m l) (c + 1000) h1 (fun x hx => hT x (by simp [hx]))
    intro x hx
    have := h2 x hx
    simp only [List.length_cons]
    omega
/-- partly done -/
def part (p q : List Int) (i : Nat) : List Int := p.take i ++ q.drop i
theorem part_zero (p q : List Int) : part p q 0 = q := by simp [part]
theorem part_end {p q : List Int} {i : Nat} (h1 : p.length = i) (h2 : q.length = i) : part p q i = p := by
  rw [part, List.take_of_length_le (by omega), List.drop_of_length_le (by omega), List.append_nil]
theorem part_at {p q : List Int} {i : Nat} {x : Int} (hp : i ≤ p.length) (h : q[i]? = some x) : (part p q i)[i]? = some x := by
  rw [part, List.getElem?_append_right (by rw [List.length_take]; omega), List.length_take, Nat.min_eq_left hp, Nat.sub_self, List.getElem?_drop, Nat.add_zero, h]
theorem part_set {p q : List Int} {i : Nat} {x y : Int} (hp : p[i]? = some x) (hq : q[i]? = some y) : (part p q i).set i x = part p q (i + 1) := by
  obtain ⟨hip, _⟩ := List.getElem?_eq_some_iff.1 hp
  obtain ⟨hiq, _⟩ := List.getElem?_eq_some_iff.1 hq
  rw [part, part, take_snoc hp, List.set_append_right _ _ (by rw [List.length_take]; omega), List.length_take, Nat.min_eq_left (by omega), Nat.sub_self, List.drop_eq_getElem_cons hiq, List.set_cons_zero]
  simp
theorem part_length {p q : List Int} {d i : Nat} (h1 : p.length = d) (h2 : q.length = d) (hi : i ≤ d) : (part p q i).length = d := by
  simp [part, h1, h2]; omega
theorem map_at {a : List Int} {n : Int} {i : Nat} {x : Int} (h : a[i]? = some x) : (a.map (· / n))[i]? = some (x / n) := by simp [h]
end Go.Proofs.Ytngmdonlljpknaa.vq

namespace Go.Proofs.Ytngmdonlljpknaa.vk

open Go.ChangeShapes Go.WideShapes Go.ChangeAt Go.RowKit

set_option linter.unusedVariables false
/-- a slice of slices of integers -/
def IsVV (w : World) (A : Option Addr) (n c : Nat) (L : List (List Int)) : Prop :=
  L.length = n ∧ n ≤ c ∧ c ≤ 9223372036854775807 ∧ ∀ k l, L[k]? = some l → ∃ b o A' n' c', A = some ⟨b, o, none⟩ ∧ b < w.heap.size ∧ w.cell? ⟨b, o + k, none⟩ = some (.slice A' n' c') ∧ wo.IsI w A' n' c' l
theorem isVV_below {w w' : World} {A : Option Addr} {n c : Nat} {L : List (List Int)} (h : IsVV w A n c L) (hb : Below w.heap.size w w') : IsVV w' A n c L :=
  ⟨h.1, h.2.1, h.2.2.1, fun k l hk => by
    obtain ⟨b, o, A', n', c', hA, hlt, hc, hI⟩ := h.2.2.2 k l hk
    exact ⟨b, o, A', n', c', hA, Nat.lt_of_lt_of_le hlt hb.size, (hb.cell (p := ⟨b, o + k, none⟩) hlt).trans hc, isI_below hI hb⟩⟩
theorem isVV_drewN {w : World} {A : Option Addr} {n c : Nat} {L : List (List Int)} (h : IsVV w A n c L) (q : Nat) : IsVV (w.drewN q) A n c L := h
theorem infoV : (Try.prog.info? 33).map (·.size) = some 1 := by kernel_rfl
end Go.Proofs.Ytngmdonlljpknaa.vk
