/- The checks accept the proofs, and refuse other roots: plain mathematics. -/
import Derived.Test.YtmjmkkdmphgdnaaDoorG12

namespace Go.Proofs.YtmjmkkdmphgdnaaDoor.mk

open Go.ChangeShapes Go.WideShapes Go.ChangeAt Go.RowKit

set_option linter.unusedVariables false
theorem split_of {n m : Nat} (h1 : split n < m) (h2 : m ≤ n) : split m = split n := by
  have hp := split_pos n
  have hn : 2 ≤ n := by omega
  have h3 := split_le hn
  unfold split at *
  congr 1
  refine (Nat.log2_eq_iff (by omega)).2 ⟨by omega, ?_⟩
  rw [Nat.pow_succ]; omega
theorem ck_incl : ∀ (n : Nat) (l : List D) (i : Nat) (leaf : D) (rest : List D) (b : Bool), l.length = n → i < n → l[i]? = some leaf → ckD leaf n i (inclD l i ++ rest, b) = (rootD l, (rest, b)) := by
  intro n
  induction n using Nat.strongRecOn with
  | ind n ih =>
    intro l i leaf rest b hl hi hx
    rcases (by omega : n = 1 ∨ 2 ≤ n) with h1 | h2
    · subst h1
      rw [ckD_one, inclD_one i (by omega), rootD_one hl]
      obtain rfl : i = 0 := by omega
      cases l with
      | nil => simp at hl
      | cons x r => simp at hx; subst hx; rfl
    · have hlt := split_lt h2
      have hp := split_pos n
      rw [ckD_two leaf i _ h2, inclD_two i (by omega), rootD_two (l := l) (by omega), hl]
      by_cases hik : i < split n
      · rw [if_pos hik, if_pos hik, List.append_assoc, ih (split n) hlt (l.take (split n)) i leaf _ b (by rw [List.length_take]; omega) hik (by rw [List.getElem?_take]; simp [hik, hx])]
        simp [hdS, nxS]
      · rw [if_neg hik, if_neg hik, List.append_assoc, ih (n - split n) (by omega) (l.drop (split n)) (i - split n) leaf _ b (by rw [List.length_drop]; omega) (by omega) (by rw [List.getElem?_drop, show split n + (i - split n) = i by omega]; exact hx)]
        simp [hdS, nxS]
theorem chkI_true {l : List D} {i : Nat} {leaf : D} (hi : i < l.length) (hx : l[i]? = some leaf) (hn : l.length ≤ 1099511627776) : chkI leaf i l.length (inclP l i) (rootD l) = true := by
  have h := ck_incl l.length l i leaf [] false rfl hi hx
  rw [List.append_nil] at h
  have hp : inclP l (i : Int) = inclD l i := by unfold inclP; rw [if_pos (by omega), Int.toNat_natCast]
  unfold chkI
  rw [if_pos (by omega), hp, Int.toNat_natCast, Int.toNat_natCast, h]
  simp
theorem kc_cons : ∀ (n : Nat) (l : List D) (m : Nat) (mark : Bool) (old : D) (rest : List D) (b : Bool), l.length = n → 1 ≤ m → m ≤ n → (mark = true → old = rootD (l.take m)) → kcD old n m mark (consD l m mark ++ rest, b) = ((rootD (l.take m), rootD l), (rest, b)) := by
  intro n
  induction n using Nat.strongRecOn with
  | ind n ih =>
    intro l m mark old rest b hl h1 h2 ho
    rcases (by omega : m = n ∨ m < n) with hm | hm
    · subst hm
      have ht : l.take m = l := List.take_of_length_le (by omega)
      rw [kcD_all old mark _ h1, consD_all mark hl.symm h1, ht]
      cases mark
      · simp [hdS, nxS]
      · have := ho rfl
        rw [ht] at this
        simp [this]
    · have hlt := split_lt (n := n) (by omega)
      have hp := split_pos n
      rw [kcD_two old mark _ hm h1, consD_two mark (by omega) h1, hl]
      by_cases hmk : m ≤ split n
      · rw [if_pos hmk, if_pos hmk, List.append_assoc]
        have e : (l.take (split n)).take m = l.take m := by rw [List.take_take, Nat.min_eq_left hmk]
        rw [ih (split n) hlt (l.take (split n)) m mark old _ b (by rw [List.length_take]; omega) h1 hmk (fun h => by rw [e]; exact ho h), e, rootD_two (l := l) (by omega), hl]
        simp [hdS, nxS]
      · rw [if_neg hmk, if_neg hmk, List.append_assoc]
        have hs : split m = split n := split_of (by omega) h2
        have e1 : (l.take m).length = m := by rw [List.length_take]; omega
        have e2 : (l.take m).take (split n) = l.take (split n) := by rw [List.take_take, Nat.min_eq_left (by omega)]
        have e3 : (l.take m).drop (split n) = (l.drop (split n)).take (m - split n) := List.drop_take ..
        rw [ih (n - split n) (by omega) (l.drop (split n)) (m - split n) false old _ b (by rw [List.length_drop]; omega) (by omega) (by omega) (fun h => by cases h), rootD_two (l := l) (by omega), hl, rootD_two (l := l.take m) (by omega), e1, hs, e2, e3]
        simp [hdS, nxS]
theorem kc_free : ∀ (n m : Nat) (mark : Bool) (old old' : D) (s : St), 1 ≤ m → m ≤ n → (mark = false ∨ (∀ j, m ≠ 2 ^ j) ∧ m < n) → kcD old n m mark s = kcD old' n m mark s := by
  intro n
  induction n using Nat.strongRecOn with
  | ind n ih =>
    intro m mark old old' s h1 h2 hc
    rcases (by omega : m = n ∨ m < n) with hm | hm
    · subst hm
      have hf : mark = false := by rcases hc with h | h; exact h; omega
      rw [kcD_all old mark _ h1, kcD_all old' mark _ h1, hf]
      rfl
    · have hlt := split_lt (n := n) (by omega)
      have hp := split_pos n
      rw [kcD_two old mark _ hm h1, kcD_two old' mark _ hm h1]
      by_cases hmk : m ≤ split n
      · rw [if_pos hmk, if_pos hmk, ih (split n) hlt m mark old old' s h1 hmk (by
          rcases hc with h | h
          · exact .inl h
          · refine .inr ⟨h.1, ?_⟩
            have : m ≠ split n := h.1 _
            omega)]
      · rw [if_neg hmk, if_neg hmk, ih (n - split n) (by omega) (m - split n) false old old' s (by omega) (by omega) (.inl rfl)]
theorem beq_flip (a b : D) : (a == b) = (b == a) := by
  rw [Bool.eq_iff_iff, beq_iff_eq, beq_iff_eq]; exact ⟨Eq.symm, Eq.symm⟩
theorem consP_pos {l : List D} {m : Nat} (h1 : 1 ≤ m) (h2 : m ≤ l.length) : consP l m = consD l m true := by
  unfold consP; rw [if_pos (by omega), Int.toNat_natCast]
theorem consP_zero (l : List D) : consP l (0 : Nat) = [] := by
  unfold consP; rw [if_neg (by omega)]
theorem chkC_zero {l : List D} (other root : D) (hn : l.length ≤ 1099511627776) : chkC (0 : Nat) l.length other root (consP l (0 : Nat)) = (other == emptyD) := by
  unfold chkC
  rw [if_pos (by omega), if_pos (by omega), consP_zero]
  simp
theorem chkC_old {l : List D} {m : Nat} (root : D) (h1 : 1 ≤ m) (h2 : m ≤ l.length) (hn : l.length ≤ 1099511627776) : chkC m l.length (rootD (l.take m)) root (consP l m) = (rootD l == root) := by
  have h := kc_cons l.length l m true (rootD (l.take m)) [] false rfl h1 h2 (fun _ => rfl)
  rw [List.append_nil] at h
  unfold chkC
  rw [if_pos (by omega), if_neg (by omega), consP_pos h1 h2, Int.toNat_natCast, Int.toNat_natCast, h]
  simp
theorem chkC_other {l : List D} {m : Nat} (other : D) (h1 : 1 ≤ m) (h2 : m ≤ l.length) (hn : l.length ≤ 1099511627776) (hc : m = l.length ∨ ∀ j, m ≠ 2 ^ j) : chkC m l.length other (rootD l) (consP l m) = (other == rootD (l.take m)) := by
  unfold chkC
  rw [if_pos (by omega), if_neg (by omega), consP_pos h1 h2, Int.toNat_natCast, Int.toNat_natCast]
  rcases (by omega : m = l.length ∨ m < l.length) with h | h
  · rw [h, List.take_length, kcD_all other true _ (by omega), consD_all true rfl (by omega)]
    simp
  · have hj : ∀ j, m ≠ 2 ^ j := by rcases hc with q | q; omega; exact q
    have hk := kc_cons l.length l m true (rootD (l.take m)) [] false rfl h1 h2 (fun _ => rfl)
    rw [List.append_nil] at hk
    rw [kc_free l.length m true other (rootD (l.take m)) _ h1 h2 (.inr ⟨hj, h⟩), hk, beq_flip other]
    simp
theorem Asc.tail {x : Int} {r : List Int} (h : Asc (x :: r)) : Asc r := fun i j a b hij ha hb => h (i + 1) (j + 1) a b (by omega) (by simpa using ha) (by simpa using hb)
theorem Asc.head {x y : Int} {r : List Int} (h : Asc (x :: r)) (hy : y ∈ r) : x < y := by
  obtain ⟨i, hi⟩ := List.getElem?_of_mem hy
  exact h 0 (i + 1) x y (by omega) rfl (by simpa using hi)
theorem cnt_part : ∀ (p : List Int) (y : Int), Asc p → (∀ x ∈ p.take (cnt p y), x < y) ∧ ∀ x ∈ p.drop (cnt p y), y ≤ x
  | [], _, _ => ⟨fun x h => by simp at h, fun x h => by simp at h⟩
  | z :: r, y, h => by
    by_cases hz : z < y
    · have e : cnt (z :: r) y = cnt r y + 1 := by unfold cnt; rw [List.takeWhile_cons_of_pos (by simpa using hz)]; rfl
      obtain ⟨h1, h2⟩ := cnt_part r y h.tail
      rw [e]
      refine ⟨fun x hx => ?_, fun x hx => h2 x (by simpa using hx)⟩
      rw [List.take_succ_cons] at hx
      rcases List.mem_cons.1 hx with rfl | hx
      · exact hz
      · exact h1 x hx
    · have e : cnt (z :: r) y = 0 := by unfold cnt; rw [List.takeWhile_cons_of_neg (by simpa using hz)]; rfl
      rw [e]
      refine ⟨fun x hx => by simp at hx, fun x hx => ?_⟩
      rw [List.drop_zero] at hx
      rcases List.mem_cons.1 hx with rfl | hx
      · omega
      · have := h.head hx; omega
theorem mw_mny : ∀ (n : Nat) (l : List D) (st : Int) (p : List Int) (fd rest : List D) (b : Bool), 1 ≤ n → l.length = n → Asc p → (∀ x ∈ p, st ≤ x ∧ x < st + n) → fd.length = p.length → (∀ (j : Nat) (x : Int), p[j]? = some x → fd[j]? = l[(x - st).toNat]?) →
    mwD n st p fd (mnyD l st p ++ rest, b) = (rootD l, (rest, b)) := by
  intro n
  induction n using Nat.strongRecOn with
  | ind n ih =>
    intro l st p fd rest b h1 hl hA hb hfl hf
    by_cases hp : p = []
    · rw [mwD_nil st fd _ hp h1, mnyD_nil st hp (by omega)]
      simp [hdS, nxS]
    · rcases (by omega : n = 1 ∨ 2 ≤ n) with hn | hn
      · subst hn
        rw [mwD_one st fd _ hp, mnyD_one st hp hl, rootD_one hl]
        cases p with
        | nil => exact absurd rfl hp
        | cons x r =>
          have hx := hb x (by simp)
          have := hf 0 x rfl
          rw [show (x - st).toNat = 0 by omega] at this
          cases fd with
          | nil => simp at hfl
          | cons f fr =>
            cases l with
            | nil => simp at hl
            | cons y lr => simp at this; subst this; rfl
      · have hlt := split_lt hn
        have hk := split_pos n
        obtain ⟨c1, c2⟩ := cnt_part p (st + split n) hA
        have cl := cnt_le p (st + split n)
        rw [mwD_two st fd _ hp hn, mnyD_two st hp (by omega), hl]
        generalize hc : cnt p (st + split n) = c at *
        have I1 := ih (split n) hlt (l.take (split n)) st (p.take c) (fd.take c) (mnyD (l.drop (split n)) (st + split n) (p.drop c) ++ rest) b hk (by rw [List.length_take]; omega) (hA.take c)
          (fun x hx => ⟨(hb x (List.mem_of_mem_take hx)).1, c1 x hx⟩) (by rw [List.length_take, List.length_take, hfl]) (fun j x hj => by
            rw [List.getElem?_take] at hj ⊢
            split at hj
            · rename_i hjc
              have := hb x (List.mem_of_getElem? hj)
              have h3 : x < st + split n := c1 x (List.mem_of_getElem? (i := j) (by rw [List.getElem?_take, if_pos hjc]; exact hj))
              rw [if_pos hjc, List.getElem?_take, if_pos (by omega)]
              exact hf j x hj
            · cases hj)
        have I2 := ih (n - split n) (by omega) (l.drop (split n)) (st + split n) (p.drop c) (fd.drop c) rest b (by omega) (by rw [List.length_drop]; omega) (hA.drop c)
          (fun x hx => ⟨c2 x hx, by have := (hb x (List.mem_of_mem_drop hx)).2; omega⟩) (by rw [List.length_drop, List.length_drop, hfl]) (fun j x hj => by
            have hx : x ∈ p.drop c := List.mem_of_getElem? hj
            rw [List.getElem?_drop] at hj ⊢
            have h3 := c2 x hx
            rw [List.getElem?_drop, show split n + (x - (st + (split n : Int))).toNat = (x - st).toNat by omega]
            exact hf _ x hj)
        rw [List.append_assoc, I1]
        simp only []
        rw [I2, rootD_two (l := l) (by omega), hl]
theorem chkM_true {l : List D} {p : List Int} {fd : List D} (hl : l ≠ []) (hn : l.length ≤ 1099511627776) (hp : places l.length 0 p = true) (hfl : fd.length = p.length) (hf : ∀ (j : Nat) (x : Int), p[j]? = some x → fd[j]? = l[x.toNat]?) :
    chkM l.length p fd (manyP l p) (rootD l) = true := by
  have h1 : 1 ≤ l.length := by cases l; exact absurd rfl hl; simp
  obtain ⟨hA, hb⟩ := places_asc p l.length 0 hp
  have h := mw_mny l.length l 0 p fd [] false h1 rfl hA (fun x hx => by have := hb x hx; omega) hfl (fun j x hj => by rw [Int.sub_zero]; exact hf j x hj)
  rw [List.append_nil] at h
  have hm : manyP l p = mnyD l 0 p := by unfold manyP; rw [if_pos ⟨hp, hl⟩]
  unfold chkM
  rw [if_pos ⟨by omega, by omega, hp, hfl⟩, if_neg (by omega), hm, Int.toNat_natCast, h]
  simp
end Go.Proofs.YtmjmkkdmphgdnaaDoor.mk
