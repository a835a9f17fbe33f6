/- Chosen places, and what is found there; powers of two. Plain mathematics, and slices of integers that are owned. -/
import Derived.Test.YtmjmkkdmphgdnaaDoorNe

namespace Go.Proofs.YtmjmkkdmphgdnaaDoor.mk

open Go.ChangeShapes Go.WideShapes Go.ChangeAt Go.RowKit

set_option linter.unusedVariables false
/-- the places below k whose bit is set -/
def sel (ch : Nat) : Nat → List Nat
  | 0 => []
  | k + 1 => if ch / 2 ^ k % 2 = 1 then sel ch k ++ [k] else sel ch k
theorem sel_lt (ch : Nat) : ∀ k, ∀ j ∈ sel ch k, j < k
  | 0, j, h => by cases h
  | k + 1, j, h => by
    rw [sel] at h
    split at h
    · rcases List.mem_append.1 h with h | h
      · have := sel_lt ch k j h; omega
      · rw [List.mem_singleton] at h; omega
    · have := sel_lt ch k j h; omega
theorem sel_le (ch : Nat) : ∀ k, (sel ch k).length ≤ k
  | 0 => Nat.le_refl _
  | k + 1 => by
    have := sel_le ch k
    rw [sel]
    split
    · rw [List.length_append, List.length_singleton]; omega
    · omega
def selZ (ch k : Nat) : List Int := (sel ch k).map fun j : Nat => (j : Int)
def selD (ch k : Nat) (l : List D) : List D := (sel ch k).map fun j => l.getD j []
theorem selZ_snoc {ch k : Nat} (h : ch / 2 ^ k % 2 = 1) : selZ ch (k + 1) = selZ ch k ++ [(k : Int)] := by unfold selZ; rw [sel, if_pos h, List.map_append]; rfl
theorem selZ_skip {ch k : Nat} (h : ¬ ch / 2 ^ k % 2 = 1) : selZ ch (k + 1) = selZ ch k := by unfold selZ; rw [sel, if_neg h]
theorem selD_snoc {ch k : Nat} {l : List D} {d : D} (h : ch / 2 ^ k % 2 = 1) (hd : l[k]? = some d) : selD ch (k + 1) l = selD ch k l ++ [d] := by
  unfold selD; rw [sel, if_pos h, List.map_append, List.map_singleton, List.getD_eq_getElem?_getD, hd]; rfl
theorem selD_skip {ch k : Nat} {l : List D} (h : ¬ ch / 2 ^ k % 2 = 1) : selD ch (k + 1) l = selD ch k l := by unfold selD; rw [sel, if_neg h]
theorem selZ_len (ch k : Nat) : (selZ ch k).length ≤ k := by unfold selZ; rw [List.length_map]; exact sel_le ch k
theorem selD_len (ch k : Nat) (l : List D) : (selD ch k l).length = (selZ ch k).length := by unfold selD selZ; rw [List.length_map, List.length_map]
theorem selD_at {ch k : Nat} {l : List D} (hk : k ≤ l.length) (j : Nat) (x : Int) (h : (selZ ch k)[j]? = some x) : (selD ch k l)[j]? = l[x.toNat]? := by
  unfold selZ at h
  rw [List.getElem?_map] at h
  cases hs : (sel ch k)[j]? with
  | none => rw [hs] at h; cases h
  | some y =>
    rw [hs] at h
    simp only [Option.map_some, Option.some.injEq] at h
    subst h
    have hy := sel_lt ch k y (List.mem_of_getElem? hs)
    unfold selD
    rw [List.getElem?_map, hs, Option.map_some, Int.toNat_natCast, List.getD_eq_getElem?_getD, List.getElem?_eq_getElem (by omega)]
    rfl
theorem selD_16 {ch k : Nat} {l : List D} (hk : k ≤ l.length) (h : ∀ d ∈ l, d.length = 16) : ∀ d ∈ selD ch k l, d.length = 16 := by
  intro d hd
  unfold selD at hd
  obtain ⟨j, hj, rfl⟩ := List.mem_map.1 hd
  have := sel_lt ch k j hj
  rw [List.getD_eq_getElem?_getD, List.getElem?_eq_getElem (by omega)]
  exact h _ (List.getElem_mem _)
theorem places_snoc : ∀ (p : List Int) (n least x : Int), places x least p = true → least ≤ x → (∀ y ∈ p, y < x) → x < n → places n least (p ++ [x]) = true
  | [], n, least, x, _, h1, _, h3 => by
    show (if x < least ∨ n ≤ x then false else places n (x + 1) []) = true
    rw [if_neg (by omega)]; rfl
  | y :: r, n, least, x, h, h1, h2, h3 => by
    rw [places] at h
    split at h
    · cases h
    · rename_i hy
      have hyx := h2 y (by simp)
      show (if y < least ∨ n ≤ y then false else places n (y + 1) (r ++ [x])) = true
      rw [if_neg (by omega)]
      exact places_snoc r n (y + 1) x h (by omega) (fun z hz => h2 z (by simp [hz])) h3
theorem places_wider : ∀ (p : List Int) (n m least : Int), n ≤ m → places n least p = true → places m least p = true
  | [], _, _, _, _, _ => rfl
  | y :: r, n, m, least, h, hp => by
    rw [places] at hp ⊢
    split at hp
    · cases hp
    · rw [if_neg (by omega)]; exact places_wider r n m (y + 1) h hp
theorem selZ_lt (ch k : Nat) : ∀ y ∈ selZ ch k, y < (k : Int) := fun y hy => by
  unfold selZ at hy
  obtain ⟨j, hj, rfl⟩ := List.mem_map.1 hy
  have := sel_lt ch k j hj
  omega
theorem selZ_places (ch : Nat) : ∀ k : Nat, places k 0 (selZ ch k) = true
  | 0 => rfl
  | k + 1 => by
    by_cases h : ch / 2 ^ k % 2 = 1
    · rw [selZ_snoc h]
      exact places_snoc _ _ _ _ (selZ_places ch k) (by omega) (selZ_lt ch k) (by omega)
    · rw [selZ_skip h]
      exact places_wider _ _ _ _ (by omega) (selZ_places ch k)
theorem isZ_own {w : World} {base : Nat} {v : Value} {n : Nat} {p : List Int} (h : w.ownsRow base 3 1 v n (p.map (Value.int .i64))) (hl : p.length = n) (hr : ∀ x ∈ p, -9223372036854775808 ≤ x ∧ x ≤ 9223372036854775807) : ∃ A c, v = .slice A n c ∧ IsZ w A n c p := by
  obtain ⟨A, c, h1, h2, h3, h4⟩ := wp.RC.of_own h
  exact ⟨A, c, h1, hl, h2, h3, h4, hr⟩
theorem power_eq {q m j : Nat} (h1 : m ≤ 2 ^ q) (h2 : q = 0 ∨ 2 ^ (q - 1) < m) (h3 : m = 2 ^ j) : 2 ^ q = m := by
  subst h3
  have hj : j ≤ q := (Nat.pow_le_pow_iff_right (by omega)).1 h1
  rcases h2 with h2 | h2
  · subst h2
    have : j = 0 := by omega
    subst this; rfl
  · have : q - 1 < j := (Nat.pow_lt_pow_iff_right (by omega)).1 h2
    have : q = j := by omega
    rw [this]
theorem inclP_16 {l : List D} (h : ∀ d ∈ l, d.length = 16) (i : Int) : ∀ d ∈ inclP l i, d.length = 16 := by
  unfold inclP
  split
  · exact incl_16 _ _ _ h
  · intro d hd; cases hd
theorem consP_16 {l : List D} (h : ∀ d ∈ l, d.length = 16) (i : Int) : ∀ d ∈ consP l i, d.length = 16 := by
  unfold consP
  split
  · exact cons_16 _ _ _ _ h
  · intro d hd; cases hd
theorem mny_16 : ∀ (f : Nat) (l : List D) (st : Int) (p : List Int), (∀ d ∈ l, d.length = 16) → ∀ d ∈ mny f l st p, d.length = 16
  | 0, _, _, _, _, d, hd => by cases hd
  | f + 1, l, st, p, h, d, hd => by
    rw [mny] at hd
    split at hd
    · rw [List.mem_singleton] at hd; subst hd; exact rootD_length h
    · split at hd
      · cases hd
      · rcases List.mem_append.1 hd with hd | hd
        · exact mny_16 f _ _ _ (fun x hx => h x (List.mem_of_mem_take hx)) d hd
        · exact mny_16 f _ _ _ (fun x hx => h x (List.mem_of_mem_drop hx)) d hd
theorem manyP_16 {l : List D} (h : ∀ d ∈ l, d.length = 16) (p : List Int) : ∀ d ∈ manyP l p, d.length = 16 := by
  unfold manyP
  split
  · exact mny_16 _ _ _ _ h
  · intro d hd; cases hd
theorem inclE_ok {n : Nat} {i : Nat} (h : i < n) : inclE n (i : Int) = 0 := by unfold inclE; rw [if_pos (by omega)]
theorem consE_ok {n : Nat} {m : Nat} (h : m ≤ n) : consE n (m : Int) = 0 := by unfold consE; rw [if_pos (by omega)]
theorem manyE_ok {n : Nat} {p : List Int} (h : places n 0 p = true) : manyE n p = 0 := by unfold manyE; rw [if_pos h]
theorem infoIz : (Tryd.prog.info? 3).map (fun i => (i.zero, i.size, i.bytes)) = some (some (.int .i64 0), 1, 8) := by kernel_rfl
theorem list_appendI {ops : Array Oper} {rest : List Oper} {o : Oper} {a : Act} {w : World} {Q : Exit → Act → World → Prop} (hgd : o.guard = none) (s x : Operand) (ho : o.op = .call { callee := .builtin .append, args := #[s, x], argTypes := #[37, 37] })
    (base : Nat) (v : Value) (m : Nat) (xs : List Value) (hs : a.eval s = v) (hown : w.ownsRow base 3 1 v m xs) (g cap : Nat) (n : Nat) (ys : List Value) (hx : a.eval x = .slice (some ⟨g, 0, none⟩) n cap) (base2 : Nat) (h2 : w.ownsRow base2 3 1 (.slice (some ⟨g, 0, none⟩) n cap) n ys) (hones : wk.Ones ys)
    (hb : m + n ≤ 1000000) (hbase : base ≤ w.heap.size)
    (h : ∀ v' w', w'.ownsRow base 3 1 v' (m + n) (xs ++ ys) → w.grownBy w' v.ownBlock → wpList Tryd.prog ops Q rest (a.put o.dst v') w') : wpList Tryd.prog ops Q (o :: rest) a w := by
  obtain ⟨i0, hi, hz0, hz1, hz2⟩ := info_parts infoIz
  refine wpList_append_own w hgd s x 37 ho base 3 i0 (.int .i64 0) 1 8 Tryd.underlying37 hi hz0 hz1 hz2 rfl (by decide) v m xs hs hown ⟨g, 0, none⟩ n cap ys hx h2.1 (h2.cells rfl) hones (by unfold maxLen; omega) (by omega) hbase ?_
  intro v' w' h7 h8 _
  exact h v' w' h7 h8
theorem own_apart {w : World} {b1 b2 s1 s2 n1 n2 : Nat} {e1 e2 : TypeId} {v1 v2 : Value} {xs1 xs2 : List Value} (h1 : w.ownsRow b1 e1 s1 v1 n1 xs1) (h2 : w.ownsRow b2 e2 s2 v2 n2 xs2) (hne : e1 ≠ e2) : v2.ownBlock = none ∨ v2.ownBlock ≠ v1.ownBlock := by
  rcases h2.2 with ⟨rfl, _⟩ | ⟨g2, cap2, cur2, rfl, _, hh2, _⟩
  · exact .inl rfl
  · refine .inr fun he => ?_
    rcases h1.2 with ⟨rfl, _⟩ | ⟨g1, cap1, cur1, rfl, _, hh1, _⟩
    · cases he
    · have hg : g2 = g1 := by injection he
      subst hg
      rw [hh1] at hh2
      injection hh2 with hh
      injection hh with _ h3 _
      exact hne h3
theorem int_ne_digest : (3 : TypeId) ≠ 31 := by decide
theorem and1u (n : Nat) : bits .and .u64 (n : Int) 1 = ((n % 2 : Nat) : Int) := by
  have e : (BitVec.ofInt 64 1).toNat = 2 ^ 1 - 1 := by decide
  have h : (BitVec.ofInt IntKind.u64.bits (n : Int) &&& BitVec.ofInt IntKind.u64.bits 1).toNat = n % 2 := by
    rw [BitVec.toNat_and, show IntKind.u64.bits = 64 from rfl, e, Nat.and_two_pow_sub_one_eq_mod, BitVec.toNat_ofInt]
    omega
  show IntKind.u64.wrap _ = _
  rw [h]
  unfold IntKind.wrap
  simp [IntKind.signed, IntKind.bits]
  omega
end Go.Proofs.YtmjmkkdmphgdnaaDoor.mk
