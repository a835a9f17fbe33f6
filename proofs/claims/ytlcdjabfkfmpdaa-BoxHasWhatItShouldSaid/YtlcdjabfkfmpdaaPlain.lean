/- Plain facts on base-128 texts of integers, and words for memory: no program here. -/
import Derived.WalkKit

import Derived.Below

import Derived.Lib.Hide

import Derived.Lib.Zigzag

import Derived.ProofKit

import Derived.OwnWalk

import Derived.Maps.AppendAt

import Derived.Outline

import Derived.WalkSpells

import Derived.WalkLawsBesides

import Derived.Deep.LoopGhost

import Derived.Lib.AppendStr

namespace Go.Proofs.Ytlcdjabfkfmpdaa.wp

open Go.RowKit

theorem ret_i64 {a b : Int} (h : a = b) : Ending.returned (.int .i64 a) = .returned (.int .i64 b) := by rw [h]

/-- the cells of bytes -/
def bc (l : List UInt8) : List Value := l.map fun b => Value.int .u8 b.toNat
theorem bc_length (l : List UInt8) : (bc l).length = l.length := by simp [bc]
theorem bc_append (a b : List UInt8) : bc (a ++ b) = bc a ++ bc b := by simp [bc]
theorem bc_one {l : List UInt8} : ∀ u ∈ bc l, u.oneCell' = true := by
  intro u hu
  simp only [bc, List.mem_map] at hu
  obtain ⟨b, _, rfl⟩ := hu
  rfl

/-- a slice's bytes, where it has any: its first cell lies at A -/
def RB (w : World) (A : Option Addr) (l : List UInt8) : Prop :=
  0 < l.length → ∃ b o, A = some ⟨b, o, none⟩ ∧ b < w.heap.size ∧ ∀ j u, l[j]? = some u → w.cell? ⟨b, o + j, none⟩ = some (.int .u8 (u.toNat : Int))

/-- a slice's cells, where it has any -/
def RC (w : World) (A : Option Addr) (xs : List Value) : Prop :=
  0 < xs.length → ∃ b o, A = some ⟨b, o, none⟩ ∧ b < w.heap.size ∧ ∀ j u, xs[j]? = some u → w.cell? ⟨b, o + j, none⟩ = some u
theorem RC.rb {w : World} {A : Option Addr} {l : List UInt8} (h : RC w A (bc l)) : RB w A l := fun hl => by
  obtain ⟨b, o, hA, hb, hc⟩ := h (by rw [bc_length]; exact hl)
  exact ⟨b, o, hA, hb, fun j u hu => hc j _ (by simp [bc, hu])⟩
theorem RC.below {w w' : World} {A : Option Addr} {xs : List Value} (h : RC w A xs) (hb : Below w.heap.size w w') : RC w' A xs := fun hl => by
  obtain ⟨b, o, hA, hlt, hc⟩ := h hl
  exact ⟨b, o, hA, Nat.lt_of_lt_of_le hlt hb.size, fun j u hu => (hb.cell (p := ⟨b, o + j, none⟩) hlt).trans (hc j u hu)⟩
theorem RC.of_own {w : World} {base : Nat} {e : TypeId} {size n : Nat} {v : Value} {xs : List Value} (h : w.ownsRow base e size v n xs) :
    ∃ A c, v = .slice A n c ∧ n ≤ c ∧ c ≤ maxLen ∧ RC w A xs := by
  rcases h.2 with ⟨rfl, rfl⟩ | ⟨g, cap, cur, rfl, hg, hh, hn, hm, hs, ht⟩
  · have : xs = [] := List.eq_nil_of_length_eq_zero (by simpa using h.1)
    subst this
    exact ⟨none, 0, rfl, Nat.le_refl _, Nat.zero_le _, fun h => absurd h (by simp)⟩
  · refine ⟨some ⟨g, 0, none⟩, cap, rfl, hn, hm, fun _ => ⟨g, 0, rfl, ?_, fun j u hu => ?_⟩⟩
    · exact (h.lt g rfl).2
    · have := h.cells (g := g) rfl j u hu
      rw [← this]
      congr 1
      unfold Addr.add
      by_cases hj : j = 0 <;> simp [hj]

/-- the text of an integer -/
def encI (n : Int) : List UInt8 := Lib.uvarint (Lib.zigzag n)
theorem encI_length {n : Int} (h0 : -9223372036854775808 ≤ n) (h1 : n ≤ 9223372036854775807) : (encI n).length ≤ 10 :=
  Lib.uvarint_length64 (Lib.zigzag_lt h0 h1)
theorem encI_pos (n : Int) : 1 ≤ (encI n).length := Lib.uvarint_pos _

/-- the text of a string -/
def encB (s : List UInt8) : List UInt8 := encI (s.length : Int) ++ s
theorem encB_eq (s : ByteArray) : encB s.data.toList = encI (s.size : Int) ++ s.data.toList := by
  unfold encB; rw [Array.length_toList]; rfl

/-- the texts of lists -/
def encIs (l : List Int) : List UInt8 := encI (l.length : Int) ++ l.flatMap encI
def encDs (l : List (List UInt8)) : List UInt8 := encI (l.length : Int) ++ l.flatMap id
def encSs (l : List ByteArray) : List UInt8 := encI (l.length : Int) ++ l.flatMap fun s => encB s.data.toList
theorem flat_snoc {α : Type} (f : α → List UInt8) {l : List α} {k : Nat} {x : α} (h : l[k]? = some x) : (l.take (k + 1)).flatMap f = (l.take k).flatMap f ++ f x := by
  rw [List.take_add_one, h]; simp
theorem flat_le {α : Type} (f : α → List UInt8) (l : List α) (k : Nat) : ((l.take k).flatMap f).length ≤ (l.flatMap f).length := by
  have h : l.flatMap f = (l.take k).flatMap f ++ (l.drop k).flatMap f := by rw [← List.flatMap_append, List.take_append_drop]
  rw [h, List.length_append]; omega

theorem flat_bc_length {l : List (List UInt8)} (h : ∀ d ∈ l, d.length = 16) : (l.flatMap bc).length = 16 * l.length := by
  induction l with
  | nil => rfl
  | cons x r ih =>
    have h1 := h x List.mem_cons_self
    have h2 := ih fun d hd => h d (List.mem_cons_of_mem _ hd)
    rw [List.flatMap_cons, List.length_append, bc_length, h1, h2, List.length_cons]
    omega
theorem flat_bc_at {l : List (List UInt8)} (h : ∀ d ∈ l, d.length = 16) {k j : Nat} {x : List UInt8} (hk : l[k]? = some x) {u : Value} (hu : (bc x)[j]? = some u) : (l.flatMap bc)[16 * k + j]? = some u := by
  induction l generalizing k with
  | nil => simp at hk
  | cons y r ih =>
    have h1 := h y List.mem_cons_self
    rw [List.flatMap_cons]
    cases k with
    | zero =>
      simp only [List.getElem?_cons_zero, Option.some.injEq] at hk
      subst hk
      have hj : j < (bc y).length := by
        rcases Nat.lt_or_ge j (bc y).length with h' | h'
        · exact h'
        · rw [List.getElem?_eq_none h'] at hu; cases hu
      rw [Nat.mul_zero, Nat.zero_add, List.getElem?_append_left hj]
      exact hu
    | succ k =>
      have h2 := ih (fun d hd => h d (List.mem_cons_of_mem _ hd)) (k := k) (by simpa using hk)
      rw [List.getElem?_append_right (by rw [bc_length]; omega), bc_length, h1, show 16 * (k + 1) + j - 16 = 16 * k + j by omega]
      exact h2

/-- one round of the writer -/
theorem uv_big {q : Nat} (h : 128 ≤ q) : bc (Lib.uvarint q) = Value.int .u8 ((q : Int) % 128 + 128) :: bc (Lib.uvarint (q / 128)) := by
  rw [Lib.uvarint_big h]
  simp only [bc, List.map_cons, List.cons.injEq, and_true]
  congr 1
  simp [Nat.toUInt8, UInt8.toNat_ofNat']
  omega
theorem uv_small {q : Nat} (h : q < 128) : bc (Lib.uvarint q) = [Value.int .u8 (q : Int)] := by
  rw [Lib.uvarint_small h]
  simp only [bc, List.map_cons, List.map_nil, List.cons.injEq, and_true]
  congr 1
  simp [Nat.toUInt8, UInt8.toNat_ofNat']
  omega

/-- the number of a text in base 128, least digit first -/
def gv : List UInt8 → Nat
  | [] => 0
  | c :: r => c.toNat % 128 + 128 * gv r

theorem gv_append : ∀ (a b : List UInt8), gv (a ++ b) = gv a + 128 ^ a.length * gv b
  | [], b => by simp [gv]
  | c :: r, b => by
    simp only [List.cons_append, gv, gv_append r b, List.length_cons, Nat.pow_succ, Nat.mul_add, Nat.add_assoc]
    rw [← Nat.mul_assoc, Nat.mul_comm 128 (128 ^ r.length)]
theorem gv_lt : ∀ (l : List UInt8), gv l < 128 ^ l.length
  | [] => by simp [gv]
  | c :: r => by
    have h := gv_lt r
    simp only [gv, List.length_cons, Nat.pow_succ]
    omega
theorem gv_take {l : List UInt8} {k : Nat} {c : UInt8} (h : l[k]? = some c) : gv (l.take (k + 1)) = gv (l.take k) + 128 ^ k * (c.toNat % 128) := by
  have hk : k < l.length := by
    rcases Nat.lt_or_ge k l.length with h' | h'
    · exact h'
    · rw [List.getElem?_eq_none h'] at h; cases h
  rw [List.take_add_one, h, gv_append]
  simp [gv, Nat.min_eq_left (Nat.le_of_lt hk)]

/-- back from the number to the integer -/
def unz (z : Nat) : Int := if z % 2 = 1 then -1 - ((z / 2 : Nat) : Int) else ((z / 2 : Nat) : Int)
theorem unz_zigzag (n : Int) : unz (Lib.zigzag n) = n := by
  unfold unz Lib.zigzag
  split <;> split <;> omega
theorem zigzag_unz (z : Nat) : Lib.zigzag (unz z) = z := by
  unfold unz Lib.zigzag
  split <;> split <;> omega
theorem unz_bd {z : Nat} (h : z < 18446744073709551616) : -9223372036854775808 ≤ unz z ∧ unz z ≤ 9223372036854775807 := by
  unfold unz; split <;> omega

/-- how many bytes ahead of the last one -/
def lead (l : List UInt8) : Nat := (l.take 10).findIdx fun c => decide (c.toNat < 128)

/-- what is read at a text's beginning: the integer, how many bytes, the error -/
def getI (l : List UInt8) : Int × Int × Int :=
  match (l.take 10)[lead l]? with
  | none => if 10 ≤ l.length then (0, 0, 11) else (0, 0, 10)
  | some c => if (lead l = 9 ∧ 1 < c.toNat) ∨ (0 < lead l ∧ c.toNat = 0) then (0, 0, 11) else (unz (gv (l.take (lead l + 1))), ((lead l + 1 : Nat) : Int), 0)

def High (l : List UInt8) (k : Nat) : Prop := ∀ j u, j < k → l[j]? = some u → 128 ≤ u.toNat
theorem High.zero (l : List UInt8) : High l 0 := fun j _ h => absurd h (by omega)
theorem High.succ {l : List UInt8} {k : Nat} (h : High l k) {c : UInt8} (hc : l[k]? = some c) (h8 : 128 ≤ c.toNat) : High l (k + 1) := fun j u hj hu => by
  rcases Nat.lt_or_ge j k with h' | h'
  · exact h j u h' hu
  · obtain rfl : j = k := by omega
    rw [hc] at hu; cases hu; exact h8

theorem lead_none {l : List UInt8} {k : Nat} (h : High l k) (hk : k = min l.length 10) : (l.take 10)[lead l]? = none := by
  have : lead l = (l.take 10).length := by
    unfold lead
    rw [List.findIdx_eq_length]
    intro x hx
    obtain ⟨j, hj, rfl⟩ := List.mem_iff_getElem.1 hx
    have hj' : j < min 10 l.length := by simpa using hj
    have := h j (l[j]'(by omega)) (by omega) (List.getElem?_eq_getElem _)
    simp only [List.getElem_take, decide_eq_false_iff_not]
    omega
  rw [this, List.getElem?_eq_none (Nat.le_refl _)]
theorem getI_none {l : List UInt8} {k : Nat} (h : High l k) (hk : k = min l.length 10) : getI l = if 10 ≤ l.length then (0, 0, 11) else (0, 0, 10) := by
  unfold getI
  rw [lead_none h hk]
theorem lead_some {l : List UInt8} {k : Nat} (h : High l k) (hk : k < 10) {c : UInt8} (hc : l[k]? = some c) (h8 : c.toNat < 128) : lead l = k := by
  have hkl : k < l.length := by
    rcases Nat.lt_or_ge k l.length with h' | h'
    · exact h'
    · rw [List.getElem?_eq_none h'] at hc; cases hc
  have hkl' : k < (l.take 10).length := by simp; omega
  have hcc : l[k] = c := by rw [List.getElem?_eq_getElem hkl] at hc; cases hc; rfl
  unfold lead
  rw [List.findIdx_eq hkl']
  refine ⟨by simp [hcc, h8], fun j hj => ?_⟩
  have := h j (l[j]'(by omega)) hj (List.getElem?_eq_getElem _)
  simp only [List.getElem_take, decide_eq_false_iff_not]
  omega
theorem getI_some {l : List UInt8} {k : Nat} (h : High l k) (hk : k < 10) {c : UInt8} (hc : l[k]? = some c) (h8 : c.toNat < 128) :
    getI l = if (k = 9 ∧ 1 < c.toNat) ∨ (0 < k ∧ c.toNat = 0) then (0, 0, 11) else (unz (gv (l.take (k + 1))), ((k + 1 : Nat) : Int), 0) := by
  unfold getI
  rw [lead_some h hk hc h8, List.getElem?_take_of_lt hk, hc]

/-- the reader's step: 'or' with the digit is adding it -/
theorem or_step {l : List UInt8} {k : Nat} (hk : k ≤ 9) {c : UInt8} (hc : l[k]? = some c) (h9 : k = 9 → c.toNat ≤ 1) :
    bits .or .u64 ((gv (l.take k) : Nat) : Int) (IntKind.u64.wrap (((c.toNat : Nat) : Int) % 128 * 2 ^ (7 * k))) = ((gv (l.take (k + 1)) : Nat) : Int) := by
  have hlt : gv (l.take k) < 128 ^ k := by
    refine Nat.lt_of_lt_of_le (gv_lt _) (Nat.pow_le_pow_right (by decide) ?_)
    simp; omega
  have hc' := c.toNat_lt
  rw [gv_take hc]
  generalize gv (l.take k) = q at *
  generalize c.toNat = d at *
  have hp : (2 : Nat) ^ (7 * k) = 128 ^ k := by rw [Nat.pow_mul]
  have hb : d % 128 * 128 ^ k < 18446744073709551616 := by
    rcases Nat.lt_or_ge k 9 with h | h
    · have h1 : 128 ^ k ≤ 128 ^ 8 := Nat.pow_le_pow_right (by decide) (by omega)
      have h2 : d % 128 * 128 ^ k ≤ 127 * 128 ^ 8 := Nat.mul_le_mul (by omega) h1
      omega
    · obtain rfl : k = 9 := by omega
      have := h9 rfl
      omega
  have e1 : ((d : Nat) : Int) % 128 * 2 ^ (7 * k) = ((d % 128 * 128 ^ k : Nat) : Int) := by
    rw [← hp]; push_cast; rfl
  rw [e1, IntWalk.u64_in _ (by omega)]
  have hq : q < 18446744073709551616 := by
    have : 128 ^ k ≤ 128 ^ 9 := Nat.pow_le_pow_right (by decide) hk
    omega
  rw [bits_or_u64_nat _ _ (by omega) (by omega)]
  congr 1
  rw [Nat.or_comm, Nat.mul_comm, ← hp, ← Nat.two_pow_add_eq_or_of_lt (by rw [hp]; exact hlt), hp]
  omega

theorem getI_cases (l : List UInt8) : (getI l = (0, 0, 10) ∨ getI l = (0, 0, 11)) ∨ ∃ k, k < 10 ∧ k < l.length ∧ gv (l.take (k + 1)) < 18446744073709551616 ∧ getI l = (unz (gv (l.take (k + 1))), ((k + 1 : Nat) : Int), 0) := by
  unfold getI
  split
  · split
    · exact .inl (.inr rfl)
    · exact .inl (.inl rfl)
  · rename_i c hc
    split
    · exact .inl (.inr rfl)
    · rename_i hno
      have hk : lead l < (l.take 10).length := by
        rcases Nat.lt_or_ge (lead l) (l.take 10).length with h' | h'
        · exact h'
        · rw [List.getElem?_eq_none h'] at hc; cases hc
      have hk' : lead l < min 10 l.length := by simpa using hk
      refine .inr ⟨lead l, by omega, by omega, ?_, rfl⟩
      have hc' : l[lead l]? = some c := by rw [List.getElem?_take_of_lt (by omega)] at hc; exact hc
      rw [gv_take hc']
      have h1 := gv_lt (l.take (lead l))
      have h2 : (l.take (lead l)).length = lead l := by simp; omega
      rw [h2] at h1
      rcases Nat.lt_or_ge (lead l) 9 with h | h
      · have h3 : 128 ^ lead l ≤ 128 ^ 8 := Nat.pow_le_pow_right (by decide) (by omega)
        have h4 : 128 ^ lead l * (c.toNat % 128) ≤ 128 ^ 8 * 127 := Nat.mul_le_mul h3 (by omega)
        omega
      · have h9 : lead l = 9 := by omega
        rw [h9] at h1 ⊢
        have h5 : c.toNat ≤ 1 := by omega
        have h4 : 128 ^ 9 * (c.toNat % 128) ≤ 128 ^ 9 * 1 := Nat.mul_le_mul_left _ (by omega)
        omega
/-- what holds of every reading -/
theorem getI_facts (l : List UInt8) : -9223372036854775808 ≤ (getI l).1 ∧ (getI l).1 ≤ 9223372036854775807 ∧ 0 ≤ (getI l).2.1 ∧ (getI l).2.1 ≤ l.length ∧ (getI l).2.1 ≤ 10 ∧ 0 ≤ (getI l).2.2 ∧ (getI l).2.2 ≤ 11 ∧
    ((getI l).2.2 = 0 → 1 ≤ (getI l).2.1) ∧ ((getI l).2.2 ≠ 0 → (getI l).1 = 0 ∧ (getI l).2.1 = 0) := by
  rcases getI_cases l with (h | h) | ⟨k, hk, hl, hg, h⟩
  · rw [h]; simp
  · rw [h]; simp
  · rw [h]
    have := unz_bd hg
    simp only
    omega

/-- the number of things that follow -/
def getC (l : List UInt8) (least : Nat) : Int × Int × Int :=
  if (getI l).2.2 ≠ 0 then (0, 0, (getI l).2.2) else if (getI l).1 < 0 then (0, 0, 11) else if ((l.length : Int) - (getI l).2.1) / (least : Int) < (getI l).1 then (0, 0, 10) else ((getI l).1, (getI l).2.1, 0)

theorem getC_facts (l : List UInt8) (least : Nat) (h1 : 1 ≤ least) : 0 ≤ (getC l least).1 ∧ (getC l least).1 ≤ l.length ∧ 0 ≤ (getC l least).2.1 ∧ (getC l least).2.1 + least * (getC l least).1 ≤ l.length ∧ 0 ≤ (getC l least).2.2 ∧ (getC l least).2.2 ≤ 11 ∧
    ((getC l least).2.2 = 0 → 1 ≤ (getC l least).2.1) ∧ ((getC l least).2.2 ≠ 0 → (getC l least).1 = 0 ∧ (getC l least).2.1 = 0) := by
  have hf := getI_facts l
  unfold getC
  split
  · rename_i h
    dsimp only
    refine ⟨by omega, by omega, by omega, by simp, by omega, by omega, fun h' => by omega, fun _ => ⟨rfl, rfl⟩⟩
  · rename_i h
    split
    · simp
    · rename_i h'
      split
      · simp
      · rename_i h''
        have hd : (least : Int) * (((l.length : Int) - (getI l).2.1) / (least : Int)) ≤ (l.length : Int) - (getI l).2.1 := Int.mul_ediv_self_le (by omega)
        have hm : (least : Int) * (getI l).1 ≤ (least : Int) * (((l.length : Int) - (getI l).2.1) / (least : Int)) := Int.mul_le_mul_of_nonneg_left (by omega) (by omega)
        have hm1 : 1 * (getI l).1 ≤ (least : Int) * (getI l).1 := Int.mul_le_mul_of_nonneg_right (by omega) (by omega)
        simp only
        omega

/-- a text -/
def getB (l : List UInt8) : List UInt8 × Int × Int :=
  if (getC l 1).2.2 ≠ 0 then ([], 0, (getC l 1).2.2) else ((l.drop (getC l 1).2.1.toNat).take (getC l 1).1.toNat, (getC l 1).2.1 + (getC l 1).1, 0)

theorem getB_facts (l : List UInt8) : 0 ≤ (getB l).2.1 ∧ (getB l).2.1 ≤ l.length ∧ 0 ≤ (getB l).2.2 ∧ (getB l).2.2 ≤ 11 ∧ ((getB l).2.2 = 0 → 1 ≤ (getB l).2.1) ∧ ((getB l).2.2 ≠ 0 → (getB l).1 = [] ∧ (getB l).2.1 = 0) := by
  have hf := getC_facts l 1 (by decide)
  unfold getB
  split
  · simp only; simp; omega
  · simp only; simp; omega

/-- a list's things, one behind the other -/
def getN {α : Type} (one : List UInt8 → α × Int × Int) (l : List UInt8) : Nat → List α → Int → List α × Int × Int
  | 0, acc, used => (acc, used, 0)
  | k + 1, acc, used => if (one (l.drop used.toNat)).2.2 ≠ 0 then ([], 0, (one (l.drop used.toNat)).2.2) else getN one l k (acc ++ [(one (l.drop used.toNat)).1]) (used + (one (l.drop used.toNat)).2.1)
def getL {α : Type} (one : List UInt8 → α × Int × Int) (least : Nat) (l : List UInt8) : List α × Int × Int :=
  if (getC l least).2.2 ≠ 0 then ([], 0, (getC l least).2.2) else getN one l (getC l least).1.toNat [] (getC l least).2.1

def getD1 (l : List UInt8) : List UInt8 × Int × Int := (l.take 16, 16, 0)
end Go.Proofs.Ytlcdjabfkfmpdaa.wp
