/- Plain facts on lists that are written and read: no program here. -/
import Derived.Test.YtbnemcggiopdmaaPl2

namespace Go.Proofs.Ytbnemcggiopdmaa.wp

open Go.RowKit

set_option linter.unusedVariables false

section

variable {α : Type} {one : List UInt8 → α × Int × Int} {enc : α → List UInt8}

/-- what is read one behind the other has been written so -/
theorem getN_canon (h1 : ∀ l, (one l).2.2 = 0 → 0 ≤ (one l).2.1 ∧ (one l).2.1 ≤ l.length ∧ l.take (one l).2.1.toNat = enc (one l).1) (l : List UInt8) :
    ∀ (k : Nat) (acc : List α) (used : Int), 0 ≤ used → used ≤ l.length → (getN one l k acc used).2.2 = 0 →
      ∃ s, (getN one l k acc used).1 = acc ++ s ∧ s.length = k ∧ used ≤ (getN one l k acc used).2.1 ∧ (getN one l k acc used).2.1 ≤ l.length ∧ l.take (getN one l k acc used).2.1.toNat = l.take used.toNat ++ s.flatMap enc
  | 0, acc, used, h0, hl, _ => ⟨[], by simp [getN], rfl, by simp [getN], by simpa [getN] using hl, by simp [getN]⟩
  | k + 1, acc, used, h0, hl, he => by
    rw [getN] at he ⊢
    by_cases hz : (one (l.drop used.toNat)).2.2 = 0
    · obtain ⟨ha, hb, hc⟩ := h1 _ hz
      have hdl : ((l.drop used.toNat).length : Int) = l.length - used := by rw [List.length_drop]; omega
      rw [if_neg (by simp [hz])] at he ⊢
      obtain ⟨s, e1, e2, e3, e4, e5⟩ := getN_canon h1 l k _ _ (by omega) (by omega) he
      refine ⟨(one (l.drop used.toNat)).1 :: s, by rw [e1, List.append_assoc]; rfl, by simp [e2], by omega, e4, ?_⟩
      rw [e5, List.flatMap_cons, ← hc, ← List.append_assoc, show (used + (one (l.drop used.toNat)).2.1).toNat = used.toNat + (one (l.drop used.toNat)).2.1.toNat from by omega, List.take_add]
    · rw [if_pos hz] at he
      exact absurd he hz

/-- what is written one behind the other is read again -/
theorem getN_round (xs : List α) : ∀ (l t : List UInt8) (acc : List α) (used : Int), 0 ≤ used → (∀ x ∈ xs, ∀ t, one (enc x ++ t) = (x, ((enc x).length : Int), 0)) → l.drop used.toNat = xs.flatMap enc ++ t →
      getN one l xs.length acc used = (acc ++ xs, used + ((xs.flatMap enc).length : Int), 0) := by
  induction xs with
  | nil => intro l t acc used _ _ _; simp [getN]
  | cons x r ih =>
    intro l t acc used h0 h1 hd
    have hx := h1 x List.mem_cons_self (r.flatMap enc ++ t)
    rw [List.flatMap_cons, List.append_assoc] at hd
    have hd2 : l.drop (used + ((enc x).length : Int)).toNat = r.flatMap enc ++ t := by
      rw [show (used + ((enc x).length : Int)).toNat = used.toNat + (enc x).length from by omega, ← List.drop_drop, hd, List.drop_left]
    have := ih l t (acc ++ [x]) (used + ((enc x).length : Int)) (by omega) (fun y hy => h1 y (List.mem_cons_of_mem _ hy)) hd2
    rw [List.length_cons, getN, hd, hx, if_neg (by simp), this]
    simp only [List.append_assoc, List.singleton_append, List.flatMap_cons, List.length_append, Int.natCast_add, Int.add_assoc]

/-- a beginning of it is too short -/
theorem getN_short (xs : List α) : ∀ (l : List UInt8) (j : Nat) (acc : List α) (used : Int), 0 ≤ used → (∀ x ∈ xs, ∀ t, one (enc x ++ t) = (x, ((enc x).length : Int), 0)) →
      (∀ x ∈ xs, ∀ i, i < (enc x).length → (one ((enc x).take i)).2.2 = 10) → l.drop used.toNat = (xs.flatMap enc).take j → j < (xs.flatMap enc).length → (getN one l xs.length acc used).2.2 = 10 := by
  induction xs with
  | nil => intro l j acc used _ _ _ _ hj; simp at hj
  | cons x r ih =>
    intro l j acc used h0 h1 h2 hd hj
    rw [List.length_cons, getN]
    rcases Nat.lt_or_ge j (enc x).length with hlt | hge
    · have : l.drop used.toNat = (enc x).take j := by rw [hd, List.flatMap_cons, List.take_append_of_le_length (by omega)]
      have h10 := h2 x List.mem_cons_self j hlt
      rw [this, if_pos (by rw [h10]; decide)]
      exact h10
    · have e1 : (List.flatMap enc (x :: r)).take j = enc x ++ (r.flatMap enc).take (j - (enc x).length) := by
        rw [List.flatMap_cons, List.take_append, List.take_of_length_le (by omega)]
      have hx := h1 x List.mem_cons_self ((r.flatMap enc).take (j - (enc x).length))
      rw [e1] at hd
      rw [hd, hx, if_neg (by simp)]
      refine ih l (j - (enc x).length) _ _ (by dsimp only; omega) (fun y hy => h1 y (List.mem_cons_of_mem _ hy)) (fun y hy => h2 y (List.mem_cons_of_mem _ hy)) ?_ ?_
      · dsimp only
        rw [show (used + ((enc x).length : Int)).toNat = used.toNat + (enc x).length from by omega, ← List.drop_drop, hd, List.drop_left]
      · rw [List.flatMap_cons, List.length_append] at hj
        omega

end

theorem getC_ok {l : List UInt8} {least : Nat} (h : (getC l least).2.2 = 0) : (getI l).2.2 = 0 ∧ getC l least = ((getI l).1, (getI l).2.1, 0) ∧ 0 ≤ (getI l).1 := by
  unfold getC at h ⊢
  split at h
  · rename_i h'; exact absurd h h'
  · rename_i h'
    split at h
    · simp at h
    · rename_i h2
      split at h
      · simp at h
      · rename_i h3
        rw [if_neg h', if_neg h2, if_neg h3]
        exact ⟨by simpa using h', rfl, by omega⟩

/-- a text that is read has been written -/
theorem encB_getB (l : List UInt8) (h : (getB l).2.2 = 0) : l.take (getB l).2.1.toNat = encB (getB l).1 ∧ (getB l).1.length ≤ l.length := by
  unfold getB at h ⊢
  by_cases hc : (getC l 1).2.2 = 0
  · rw [if_neg (by simp [hc])]
    obtain ⟨h1, h2, h3⟩ := getC_ok hc
    have hf := getC_facts l 1 (by decide)
    obtain ⟨e1, e2⟩ := encI_getI l h1
    have hfi := getI_facts l
    rw [h2] at hf ⊢
    simp only at hf ⊢
    have hlen : ((l.drop (getI l).2.1.toNat).take (getI l).1.toNat).length = (getI l).1.toNat := by
      rw [List.length_take, List.length_drop]; omega
    refine ⟨?_, by omega⟩
    unfold encB
    rw [hlen, Int.toNat_of_nonneg h3, ← e1, show ((getI l).2.1 + (getI l).1).toNat = (getI l).2.1.toNat + (getI l).1.toNat from by omega, List.take_add]
  · rw [if_pos hc] at h
    exact absurd h hc

theorem getC_round {cnt least : Nat} (hc : cnt ≤ 9223372036854775807) (h1 : 1 ≤ least) (t : List UInt8) (ht : least * cnt ≤ t.length) : getC (encI (cnt : Int) ++ t) least = ((cnt : Int), ((encI (cnt : Int)).length : Int), 0) := by
  have hr := getI_encI (n := (cnt : Int)) (by omega) (by omega) t
  unfold getC
  rw [hr, if_neg (by simp), if_neg (by simp), if_neg]
  simp only [List.length_append]
  have e : ((encI (cnt : Int)).length + t.length : Nat) - ((encI (cnt : Int)).length : Int) = (t.length : Int) := by omega
  rw [e]
  have : (least * cnt : Int) ≤ t.length := by exact_mod_cast ht
  have h2 : (cnt : Int) ≤ (t.length : Int) / (least : Int) := (Int.le_ediv_iff_mul_le (by omega)).2 (by rw [Int.mul_comm]; exact this)
  omega

theorem getB_round (s t : List UInt8) (hs : s.length ≤ 9223372036854775807) : getB (encB s ++ t) = (s, ((encB s).length : Int), 0) := by
  unfold getB encB
  rw [List.append_assoc, getC_round hs (by decide) (s ++ t) (by simp), if_neg (by simp)]
  simp only [Int.toNat_natCast, List.drop_left, List.take_left, List.length_append, Int.natCast_add]

theorem getC_short {cnt least : Nat} (hc : cnt ≤ 9223372036854775807) (h1 : 1 ≤ least) (t : List UInt8) (j : Nat) (hj : j < (encI (cnt : Int)).length + t.length) (ht : t.length ≤ least * cnt) :
    (getC ((encI (cnt : Int) ++ t).take j) least).2.2 = 10 := by
  rcases Nat.lt_or_ge j (encI (cnt : Int)).length with h | h
  · rw [List.take_append_of_le_length (by omega)]
    have := getI_short (n := (cnt : Int)) (by omega) (by omega) h
    unfold getC
    rw [this, if_pos (by decide)]
  · have e : (encI (cnt : Int) ++ t).take j = encI (cnt : Int) ++ t.take (j - (encI (cnt : Int)).length) := by
      rw [List.take_append, List.take_of_length_le h]
    have hr := getI_encI (n := (cnt : Int)) (by omega) (by omega) (t.take (j - (encI (cnt : Int)).length))
    rw [e]
    unfold getC
    rw [hr, if_neg (by simp), if_neg (by simp), if_pos]
    simp only [List.length_append, List.length_take]
    have e2 : ((encI (cnt : Int)).length + min (j - (encI (cnt : Int)).length) t.length : Nat) - ((encI (cnt : Int)).length : Int) = ((j - (encI (cnt : Int)).length : Nat) : Int) := by omega
    rw [e2]
    refine (Int.ediv_lt_iff_lt_mul (by omega)).2 ?_
    have : (t.length : Int) ≤ (least * cnt : Int) := by exact_mod_cast ht
    rw [Int.mul_comm]
    omega

theorem getB_short (s : List UInt8) (hs : s.length ≤ 9223372036854775807) (j : Nat) (hj : j < (encB s).length) : (getB ((encB s).take j)).2.2 = 10 := by
  unfold encB at *
  have := getC_short (least := 1) hs (by decide) s j (by rw [List.length_append] at hj; exact hj) (by simp)
  unfold getB
  rw [if_pos (by rw [this]; decide)]
  exact this

/-! lists of integers, of texts, of digests -/
theorem getI_one (l : List UInt8) (h : (getI l).2.2 = 0) : 0 ≤ (getI l).2.1 ∧ (getI l).2.1 ≤ l.length ∧ l.take (getI l).2.1.toNat = encI (getI l).1 := by
  have hf := getI_facts l
  exact ⟨hf.2.2.1, hf.2.2.2.1, (encI_getI l h).1⟩
theorem getB_one (l : List UInt8) (h : (getB l).2.2 = 0) : 0 ≤ (getB l).2.1 ∧ (getB l).2.1 ≤ l.length ∧ l.take (getB l).2.1.toNat = encB (getB l).1 := by
  have hf := getB_facts l
  exact ⟨hf.1, hf.2.1, (encB_getB l h).1⟩

theorem getL_canon {α : Type} {one : List UInt8 → α × Int × Int} {enc : α → List UInt8} (h1 : ∀ l, (one l).2.2 = 0 → 0 ≤ (one l).2.1 ∧ (one l).2.1 ≤ l.length ∧ l.take (one l).2.1.toNat = enc (one l).1) (least : Nat) (hl : 1 ≤ least) (l : List UInt8)
    (h : (getL one least l).2.2 = 0) : l.take (getL one least l).2.1.toNat = encI ((getL one least l).1.length : Int) ++ (getL one least l).1.flatMap enc ∧ 0 ≤ (getL one least l).2.1 ∧ (getL one least l).2.1 ≤ l.length := by
  unfold getL at h ⊢
  by_cases hc : (getC l least).2.2 = 0
  · rw [if_neg (by simp [hc])] at h ⊢
    obtain ⟨i1, i2, i3⟩ := getC_ok hc
    have hf := getC_facts l least hl
    obtain ⟨e1, e2⟩ := encI_getI l i1
    have hfi := getI_facts l
    rw [i2] at hf h ⊢
    simp only at hf h ⊢
    obtain ⟨s, s1, s2, s3, s4, s5⟩ := getN_canon h1 l _ [] _ hfi.2.2.1 hfi.2.2.2.1 h
    refine ⟨?_, by omega, s4⟩
    rw [s5, s1, e1, List.nil_append, s2, Int.toNat_of_nonneg i3]
  · rw [if_pos hc] at h
    exact absurd h hc

theorem getL_round {α : Type} {one : List UInt8 → α × Int × Int} {enc : α → List UInt8} (xs : List α) (least : Nat) (hl : 1 ≤ least) (hx : xs.length ≤ 9223372036854775807) (hle : ∀ x ∈ xs, least ≤ (enc x).length)
    (h1 : ∀ x ∈ xs, ∀ t, one (enc x ++ t) = (x, ((enc x).length : Int), 0)) (t : List UInt8) :
    getL one least (encI (xs.length : Int) ++ xs.flatMap enc ++ t) = (xs, ((encI (xs.length : Int) ++ xs.flatMap enc).length : Int), 0) := by
  have hsum : least * xs.length ≤ (xs.flatMap enc).length := by
    clear h1 hx
    induction xs with
    | nil => simp
    | cons x r ih =>
      have := hle x List.mem_cons_self
      have := ih fun y hy => hle y (List.mem_cons_of_mem _ hy)
      rw [List.flatMap_cons, List.length_append, List.length_cons, Nat.mul_add]
      omega
  unfold getL
  rw [List.append_assoc, getC_round hx hl _ (by rw [List.length_append]; omega), if_neg (by simp)]
  simp only [Int.toNat_natCast]
  rw [getN_round xs _ t [] _ (by omega) h1 (by rw [Int.toNat_natCast, List.drop_left])]
  simp

theorem getL_short {α : Type} {one : List UInt8 → α × Int × Int} {enc : α → List UInt8} (xs : List α) (least : Nat) (hl : 1 ≤ least) (hx : xs.length ≤ 9223372036854775807)
    (h1 : ∀ x ∈ xs, ∀ t, one (enc x ++ t) = (x, ((enc x).length : Int), 0)) (h2 : ∀ x ∈ xs, ∀ i, i < (enc x).length → (one ((enc x).take i)).2.2 = 10) (j : Nat) (hj : j < (encI (xs.length : Int) ++ xs.flatMap enc).length) :
    (getL one least ((encI (xs.length : Int) ++ xs.flatMap enc).take j)).2.2 = 10 := by
  have hIl := encI_length (n := (xs.length : Int)) (by omega) (by omega)
  rw [List.length_append] at hj
  unfold getL
  rcases Nat.lt_or_ge j (encI (xs.length : Int)).length with h | h
  · have e : (getC ((encI (xs.length : Int) ++ xs.flatMap enc).take j) least).2.2 = 10 := by
      rw [List.take_append_of_le_length (by omega)]
      have := getI_short (n := (xs.length : Int)) (by omega) (by omega) h
      unfold getC
      rw [this, if_pos (by decide)]
    rw [if_pos (by rw [e]; decide)]
    exact e
  · have e : (encI (xs.length : Int) ++ xs.flatMap enc).take j = encI (xs.length : Int) ++ (xs.flatMap enc).take (j - (encI (xs.length : Int)).length) := by
      rw [List.take_append, List.take_of_length_le h]
    rw [e]
    have hr := getI_encI (n := (xs.length : Int)) (by omega) (by omega) ((xs.flatMap enc).take (j - (encI (xs.length : Int)).length))
    by_cases hc : (getC (encI (xs.length : Int) ++ (xs.flatMap enc).take (j - (encI (xs.length : Int)).length)) least).2.2 = 0
    · obtain ⟨_, i2, _⟩ := getC_ok hc
      rw [if_neg (by simp [hc]), i2, hr]
      simp only [Int.toNat_natCast]
      exact getN_short xs _ (j - (encI (xs.length : Int)).length) [] _ (by omega) h1 h2 (by rw [Int.toNat_natCast, List.drop_left]) (by omega)
    · rw [if_pos hc]
      unfold getC at hc ⊢
      rw [hr] at hc ⊢
      rw [if_neg (by simp)] at hc ⊢
      rw [if_neg (by simp)] at hc ⊢
      split at hc
      · rename_i h'; rw [if_pos h']
      · simp at hc

/-- digests are cut out of the bytes -/
theorem getD1_round (d t : List UInt8) (hd : d.length = 16) : getD1 (id d ++ t) = (d, ((id d).length : Int), 0) := by
  unfold getD1
  simp only [id]
  rw [hd, ← hd, List.take_left, hd]
  rfl
theorem getL_D_short (xs : List (List UInt8)) (h16 : ∀ d ∈ xs, d.length = 16) (hx : xs.length ≤ 576460752303423487) (j : Nat) (hj : j < (encDs xs).length) : (getL getD1 16 ((encDs xs).take j)).2.2 = 10 := by
  have hfl : (xs.flatMap id).length = 16 * xs.length := by
    clear hj hx
    induction xs with
    | nil => rfl
    | cons x r ih =>
      have h1 := h16 x List.mem_cons_self
      have h2 := ih fun d hd => h16 d (List.mem_cons_of_mem _ hd)
      rw [List.flatMap_cons, List.length_append, h2, List.length_cons]
      simp only [id, h1]
      omega
  unfold encDs at *
  have := getC_short (cnt := xs.length) (least := 16) (by omega) (by decide) (xs.flatMap id) j (by rw [List.length_append] at hj; exact hj) (by omega)
  unfold getL
  rw [if_pos (by rw [this]; decide)]
  exact this
theorem getL_D_canon (l : List UInt8) (h : (getL getD1 16 l).2.2 = 0) : l.take (getL getD1 16 l).2.1.toNat = encDs (getL getD1 16 l).1 ∧ 0 ≤ (getL getD1 16 l).2.1 ∧ (getL getD1 16 l).2.1 ≤ l.length ∧ ∀ d ∈ (getL getD1 16 l).1, d.length = 16 := by
  have key : ∀ (k : Nat) (acc : List (List UInt8)) (used : Nat), used + 16 * k ≤ l.length → (∀ d ∈ acc, d.length = 16) →
      ∃ s, getN getD1 l k acc (used : Int) = (acc ++ s, ((used + 16 * k : Nat) : Int), 0) ∧ s.length = k ∧ l.take (used + 16 * k) = l.take used ++ s.flatMap id ∧ ∀ d ∈ acc ++ s, d.length = 16 := by
    intro k
    induction k with
    | zero => intro acc used _ ha; exact ⟨[], by simp [getN], rfl, by simp, by simpa using ha⟩
    | succ k ih =>
      intro acc used hu ha
      have hdl : ((l.drop used).take 16).length = 16 := by rw [List.length_take, List.length_drop]; omega
      obtain ⟨s, s1, s2, s3, s4⟩ := ih (acc ++ [(l.drop used).take 16]) (used + 16) (by omega) (fun d hd => by
        rcases List.mem_append.1 hd with h | h
        · exact ha d h
        · rw [List.mem_singleton.1 h]; exact hdl)
      refine ⟨(l.drop used).take 16 :: s, ?_, by simp [s2], ?_, by simpa using s4⟩
      · rw [getN]
        simp only [getD1, ne_eq, not_true, if_false, Int.toNat_natCast]
        have s1' : getN getD1 l k (acc ++ [(l.drop used).take 16]) ((used : Int) + 16) = _ := s1
        rw [s1', List.append_assoc, show used + 16 + 16 * k = used + 16 * (k + 1) by omega]
        rfl
      · rw [show used + 16 * (k + 1) = used + 16 + 16 * k by omega, s3, List.take_add, List.flatMap_cons, List.append_assoc]
        rfl
  unfold getL at h ⊢
  by_cases hc : (getC l 16).2.2 = 0
  · rw [if_neg (by simp [hc])] at h ⊢
    obtain ⟨i1, i2, i3⟩ := getC_ok hc
    have hf := getC_facts l 16 (by decide)
    obtain ⟨e1, e2⟩ := encI_getI l i1
    have hfi := getI_facts l
    rw [i2] at hf h ⊢
    simp only at hf h ⊢
    obtain ⟨s, s1, s2, s3, s4⟩ := key (getI l).1.toNat [] (getI l).2.1.toNat (by omega) (by simp)
    rw [Int.toNat_of_nonneg hfi.2.2.1] at s1
    rw [s1]
    simp only [List.nil_append] at s4 ⊢
    refine ⟨?_, by omega, by omega, s4⟩
    rw [Int.toNat_natCast, s3, e1]
    unfold encDs
    rw [s2, Int.toNat_of_nonneg i3]
  · rw [if_pos hc] at h
    exact absurd h hc
end Go.Proofs.Ytbnemcggiopdmaa.wp
