/- What Of hashes tells the tag and the parts apart. -/
import Derived.Test.YtgcnkdpfdmgpoaaDoorPl3

import Derived.Test.YtgcnkdpfdmgpoaaDoorWCst

namespace Go.Proofs.YtgcnkdpfdmgpoaaDoor.hj

set_option linter.unusedVariables false
def flat (l : List ByteArray) : List UInt8 := l.flatMap fun s => wp.encB s.data.toList
theorem size_eq (s : ByteArray) : s.data.toList.length = s.size := by rw [Array.length_toList]; rfl
theorem encB_pos (s : List UInt8) : 1 ≤ (wp.encB s).length := by
  unfold wp.encB
  rw [List.length_append]
  have := wp.encI_pos (s.length : Int)
  omega
theorem encB_head {s t a b : List UInt8} (hs : s.length ≤ 400) (ht : t.length ≤ 400) (h : wp.encB s ++ a = wp.encB t ++ b) : s = t ∧ a = b := by
  have h1 := wp.getB_round s a (by omega)
  have h2 := wp.getB_round t b (by omega)
  rw [h, h2] at h1
  have e : t = s := congrArg Prod.fst h1
  subst e
  exact ⟨rfl, List.append_cancel_left h⟩
theorem flat_inj : ∀ {l m : List ByteArray}, (∀ s ∈ l, s.size ≤ 400) → (∀ s ∈ m, s.size ≤ 400) → flat l = flat m → l = m
  | [], [], _, _, _ => rfl
  | [], s :: r, _, _, h => by
    have := encB_pos s.data.toList
    have h2 := congrArg List.length h
    unfold flat at h2
    simp only [List.flatMap_nil, List.flatMap_cons, List.length_append, List.length_nil] at h2
    omega
  | s :: r, [], _, _, h => by
    have := encB_pos s.data.toList
    have h2 := congrArg List.length h
    unfold flat at h2
    simp only [List.flatMap_nil, List.flatMap_cons, List.length_append, List.length_nil] at h2
    omega
  | s :: r, t :: q, hl, hm, h => by
    have h' : wp.encB s.data.toList ++ flat r = wp.encB t.data.toList ++ flat q := h
    obtain ⟨e1, e2⟩ := encB_head (by rw [size_eq]; exact hl s (by simp)) (by rw [size_eq]; exact hm t (by simp)) h'
    have e3 : s = t := by apply ByteArray.ext; exact Array.toList_inj.1 e1
    subst e3
    rw [flat_inj (fun x hx => hl x (by simp [hx])) (fun x hx => hm x (by simp [hx])) e2]
theorem flat_le : ∀ {l : List ByteArray}, (∀ s ∈ l, s.size ≤ 400) → (flat l).length ≤ 410 * l.length
  | [], _ => by simp [flat]
  | s :: r, h => by
    have ih := flat_le (l := r) (fun x hx => h x (by simp [hx]))
    have hs := h s (by simp)
    have hz := size_eq s
    have he := wp.encI_length (n := (s.data.toList.length : Int)) (by omega) (by omega)
    show (wp.encB s.data.toList ++ flat r).length ≤ _
    unfold wp.encB
    rw [List.length_append, List.length_append, List.length_cons]
    omega
theorem few_all {l : List ByteArray} (h : hi.fewB l = true) : (∀ s ∈ l, s.size ≤ 400) ∧ l.length ≤ 12 :=
  ⟨fun s hs => hashCrcStreams.few_size h hs, (hashCrcStreams.cat_le_few h).2⟩
theorem tagB_inj {a b : Int} (ha : 0 ≤ a ∧ a ≤ 255) (hb : 0 ≤ b ∧ b ≤ 255) (h : hi.tagB a = hi.tagB b) : a = b := by
  have h1 := hi.tagB_eq a
  have h2 := hi.tagB_eq b
  rw [h, ← h2, IntKind.wrap_u8, IntKind.wrap_u8] at h1
  omega
/-- the whole input tells apart -/
theorem input_inj {a b : Int} {l m : List ByteArray} (ha : 0 ≤ a ∧ a ≤ 255) (hb : 0 ≤ b ∧ b ≤ 255) (hl : hi.fewB l = true) (hm : hi.fewB m = true) (h : hi.tagB a :: flat l = hi.tagB b :: flat m) : a = b ∧ l = m :=
  ⟨tagB_inj ha hb (List.cons.inj h).1, flat_inj (few_all hl).1 (few_all hm).1 (List.cons.inj h).2⟩
/-- 'the same so far' -/
def same (s : Bool) (l m : List ByteArray) (k : Nat) : Bool := s && decide (l.take k = m.take k)
theorem same_zero (s : Bool) (l m : List ByteArray) : same s l m 0 = s := by simp [same]
theorem same_succ {s : Bool} {l m : List ByteArray} {k : Nat} {x y : ByteArray} (hx : l[k]? = some x) (hy : m[k]? = some y) (h : same s l m k = true) : same s l m (k + 1) = decide (x = y) := by
  unfold same at h ⊢
  rw [Bool.and_eq_true, decide_eq_true_iff] at h
  rw [h.1, Bool.true_and, List.take_add_one, List.take_add_one, hx, hy, h.2]
  simp
end Go.Proofs.YtgcnkdpfdmgpoaaDoor.hj
