/- Joined: Plain Kit Kit2 Int Get Dec DecL Enc EncD. -/
import Derived.WalkKit

import Derived.Below

import Derived.Lib.Hide

import Derived.Lib.Zigzag

import Derived.ProofKit

import Derived.OwnWalk

import Derived.Maps.AppendAt

import Derived.Outline

import Derived.WalkSpells

import Derived.WalkLawsBesides

import Derived.Deep.LoopGhost

import Derived.Lib.AppendStr

import Derived.Laws.Tables

import Derived.Laws.Rows

import Derived.Laws.CopyOwn

import Derived.Laws.StructEq

import Derived.Laws.BytesString

import Derived.Laws.BytesArg

import Derived.Deep.QuietTactic

import Derived.BigQuiet

import Derived.ArgAppend

import Derived.Deep.Upon

import Derived.Deep.AppendSrc

import Derived.Test.YtieipbobijnmlaaRows
/- Plain facts on base-128 texts of integers, and words for memory: no program here. -/
namespace Go.Proofs.Ytieipbobijnmlaa.wp

open Go.RowKit

theorem ret_i64 {a b : Int} (h : a = b) : Ending.returned (.int .i64 a) = .returned (.int .i64 b) := by rw [h]

/-- the cells of bytes -/
def bc (l : List UInt8) : List Value := l.map fun b => Value.int .u8 b.toNat
theorem bc_length (l : List UInt8) : (bc l).length = l.length := by simp [bc]
theorem bc_append (a b : List UInt8) : bc (a ++ b) = bc a ++ bc b := by simp [bc]
theorem bc_one {l : List UInt8} : ∀ u ∈ bc l, u.oneCell' = true := by
  intro u hu
  simp only [bc, List.mem_map] at hu
  obtain ⟨b, _, rfl⟩ := hu
  rfl

/-- a slice's bytes, where it has any: its first cell lies at A -/
def RB (w : World) (A : Option Addr) (l : List UInt8) : Prop :=
  0 < l.length → ∃ b o, A = some ⟨b, o, none⟩ ∧ b < w.heap.size ∧ ∀ j u, l[j]? = some u → w.cell? ⟨b, o + j, none⟩ = some (.int .u8 (u.toNat : Int))

/-- a slice's cells, where it has any -/
def RC (w : World) (A : Option Addr) (xs : List Value) : Prop :=
  0 < xs.length → ∃ b o, A = some ⟨b, o, none⟩ ∧ b < w.heap.size ∧ ∀ j u, xs[j]? = some u → w.cell? ⟨b, o + j, none⟩ = some u
theorem RC.rb {w : World} {A : Option Addr} {l : List UInt8} (h : RC w A (bc l)) : RB w A l := fun hl => by
  obtain ⟨b, o, hA, hb, hc⟩ := h (by rw [bc_length]; exact hl)
  exact ⟨b, o, hA, hb, fun j u hu => hc j _ (by simp [bc, hu])⟩
theorem RC.below {w w' : World} {A : Option Addr} {xs : List Value} (h : RC w A xs) (hb : Below w.heap.size w w') : RC w' A xs := fun hl => by
  obtain ⟨b, o, hA, hlt, hc⟩ := h hl
  exact ⟨b, o, hA, Nat.lt_of_lt_of_le hlt hb.size, fun j u hu => (hb.cell (p := ⟨b, o + j, none⟩) hlt).trans (hc j u hu)⟩
theorem RC.of_own {w : World} {base : Nat} {e : TypeId} {size n : Nat} {v : Value} {xs : List Value} (h : w.ownsRow base e size v n xs) :
    ∃ A c, v = .slice A n c ∧ n ≤ c ∧ c ≤ maxLen ∧ RC w A xs := by
  rcases h.2 with ⟨rfl, rfl⟩ | ⟨g, cap, cur, rfl, hg, hh, hn, hm, hs, ht⟩
  · have : xs = [] := List.eq_nil_of_length_eq_zero (by simpa using h.1)
    subst this
    exact ⟨none, 0, rfl, Nat.le_refl _, Nat.zero_le _, fun h => absurd h (by simp)⟩
  · refine ⟨some ⟨g, 0, none⟩, cap, rfl, hn, hm, fun _ => ⟨g, 0, rfl, ?_, fun j u hu => ?_⟩⟩
    · exact (h.lt g rfl).2
    · have := h.cells (g := g) rfl j u hu
      rw [← this]
      congr 1
      unfold Addr.add
      by_cases hj : j = 0 <;> simp [hj]

/-- the text of an integer -/
def encI (n : Int) : List UInt8 := Lib.uvarint (Lib.zigzag n)
theorem encI_length {n : Int} (h0 : -9223372036854775808 ≤ n) (h1 : n ≤ 9223372036854775807) : (encI n).length ≤ 10 :=
  Lib.uvarint_length64 (Lib.zigzag_lt h0 h1)
theorem encI_pos (n : Int) : 1 ≤ (encI n).length := Lib.uvarint_pos _

/-- the text of a string -/
def encB (s : List UInt8) : List UInt8 := encI (s.length : Int) ++ s
theorem encB_eq (s : ByteArray) : encB s.data.toList = encI (s.size : Int) ++ s.data.toList := by
  unfold encB; rw [Array.length_toList]; rfl

/-- the texts of lists -/
def encIs (l : List Int) : List UInt8 := encI (l.length : Int) ++ l.flatMap encI
def encDs (l : List (List UInt8)) : List UInt8 := encI (l.length : Int) ++ l.flatMap id
def encSs (l : List ByteArray) : List UInt8 := encI (l.length : Int) ++ l.flatMap fun s => encB s.data.toList
theorem flat_snoc {α : Type} (f : α → List UInt8) {l : List α} {k : Nat} {x : α} (h : l[k]? = some x) : (l.take (k + 1)).flatMap f = (l.take k).flatMap f ++ f x := by
  rw [List.take_add_one, h]; simp
theorem flat_le {α : Type} (f : α → List UInt8) (l : List α) (k : Nat) : ((l.take k).flatMap f).length ≤ (l.flatMap f).length := by
  have h : l.flatMap f = (l.take k).flatMap f ++ (l.drop k).flatMap f := by rw [← List.flatMap_append, List.take_append_drop]
  rw [h, List.length_append]; omega

theorem flat_bc_length {l : List (List UInt8)} (h : ∀ d ∈ l, d.length = 16) : (l.flatMap bc).length = 16 * l.length := by
  induction l with
  | nil => rfl
  | cons x r ih =>
    have h1 := h x List.mem_cons_self
    have h2 := ih fun d hd => h d (List.mem_cons_of_mem _ hd)
    rw [List.flatMap_cons, List.length_append, bc_length, h1, h2, List.length_cons]
    omega
theorem flat_bc_at {l : List (List UInt8)} (h : ∀ d ∈ l, d.length = 16) {k j : Nat} {x : List UInt8} (hk : l[k]? = some x) {u : Value} (hu : (bc x)[j]? = some u) : (l.flatMap bc)[16 * k + j]? = some u := by
  induction l generalizing k with
  | nil => simp at hk
  | cons y r ih =>
    have h1 := h y List.mem_cons_self
    rw [List.flatMap_cons]
    cases k with
    | zero =>
      simp only [List.getElem?_cons_zero, Option.some.injEq] at hk
      subst hk
      have hj : j < (bc y).length := by
        rcases Nat.lt_or_ge j (bc y).length with h' | h'
        · exact h'
        · rw [List.getElem?_eq_none h'] at hu; cases hu
      rw [Nat.mul_zero, Nat.zero_add, List.getElem?_append_left hj]
      exact hu
    | succ k =>
      have h2 := ih (fun d hd => h d (List.mem_cons_of_mem _ hd)) (k := k) (by simpa using hk)
      rw [List.getElem?_append_right (by rw [bc_length]; omega), bc_length, h1, show 16 * (k + 1) + j - 16 = 16 * k + j by omega]
      exact h2

/-- one round of the writer -/
theorem uv_big {q : Nat} (h : 128 ≤ q) : bc (Lib.uvarint q) = Value.int .u8 ((q : Int) % 128 + 128) :: bc (Lib.uvarint (q / 128)) := by
  rw [Lib.uvarint_big h]
  simp only [bc, List.map_cons, List.cons.injEq, and_true]
  congr 1
  simp [Nat.toUInt8, UInt8.toNat_ofNat']
  omega
theorem uv_small {q : Nat} (h : q < 128) : bc (Lib.uvarint q) = [Value.int .u8 (q : Int)] := by
  rw [Lib.uvarint_small h]
  simp only [bc, List.map_cons, List.map_nil, List.cons.injEq, and_true]
  congr 1
  simp [Nat.toUInt8, UInt8.toNat_ofNat']
  omega

/-- the number of a text in base 128, least digit first -/
def gv : List UInt8 → Nat
  | [] => 0
  | c :: r => c.toNat % 128 + 128 * gv r

theorem gv_append : ∀ (a b : List UInt8), gv (a ++ b) = gv a + 128 ^ a.length * gv b
  | [], b => by simp [gv]
  | c :: r, b => by
    simp only [List.cons_append, gv, gv_append r b, List.length_cons, Nat.pow_succ, Nat.mul_add, Nat.add_assoc]
    rw [← Nat.mul_assoc, Nat.mul_comm 128 (128 ^ r.length)]
theorem gv_lt : ∀ (l : List UInt8), gv l < 128 ^ l.length
  | [] => by simp [gv]
  | c :: r => by
    have h := gv_lt r
    simp only [gv, List.length_cons, Nat.pow_succ]
    omega
theorem gv_take {l : List UInt8} {k : Nat} {c : UInt8} (h : l[k]? = some c) : gv (l.take (k + 1)) = gv (l.take k) + 128 ^ k * (c.toNat % 128) := by
  have hk : k < l.length := by
    rcases Nat.lt_or_ge k l.length with h' | h'
    · exact h'
    · rw [List.getElem?_eq_none h'] at h; cases h
  rw [List.take_add_one, h, gv_append]
  simp [gv, Nat.min_eq_left (Nat.le_of_lt hk)]

/-- back from the number to the integer -/
def unz (z : Nat) : Int := if z % 2 = 1 then -1 - ((z / 2 : Nat) : Int) else ((z / 2 : Nat) : Int)
theorem unz_zigzag (n : Int) : unz (Lib.zigzag n) = n := by
  unfold unz Lib.zigzag
  split <;> split <;> omega
theorem zigzag_unz (z : Nat) : Lib.zigzag (unz z) = z := by
  unfold unz Lib.zigzag
  split <;> split <;> omega
theorem unz_bd {z : Nat} (h : z < 18446744073709551616) : -9223372036854775808 ≤ unz z ∧ unz z ≤ 9223372036854775807 := by
  unfold unz; split <;> omega

/-- how many bytes ahead of the last one -/
def lead (l : List UInt8) : Nat := (l.take 10).findIdx fun c => decide (c.toNat < 128)

/-- what is read at a text's beginning: the integer, how many bytes, the error -/
def getI (l : List UInt8) : Int × Int × Int :=
  match (l.take 10)[lead l]? with
  | none => if 10 ≤ l.length then (0, 0, 11) else (0, 0, 10)
  | some c => if (lead l = 9 ∧ 1 < c.toNat) ∨ (0 < lead l ∧ c.toNat = 0) then (0, 0, 11) else (unz (gv (l.take (lead l + 1))), ((lead l + 1 : Nat) : Int), 0)

def High (l : List UInt8) (k : Nat) : Prop := ∀ j u, j < k → l[j]? = some u → 128 ≤ u.toNat
theorem High.zero (l : List UInt8) : High l 0 := fun j _ h => absurd h (by omega)
theorem High.succ {l : List UInt8} {k : Nat} (h : High l k) {c : UInt8} (hc : l[k]? = some c) (h8 : 128 ≤ c.toNat) : High l (k + 1) := fun j u hj hu => by
  rcases Nat.lt_or_ge j k with h' | h'
  · exact h j u h' hu
  · obtain rfl : j = k := by omega
    rw [hc] at hu; cases hu; exact h8

theorem lead_none {l : List UInt8} {k : Nat} (h : High l k) (hk : k = min l.length 10) : (l.take 10)[lead l]? = none := by
  have : lead l = (l.take 10).length := by
    unfold lead
    rw [List.findIdx_eq_length]
    intro x hx
    obtain ⟨j, hj, rfl⟩ := List.mem_iff_getElem.1 hx
    have hj' : j < min 10 l.length := by simpa using hj
    have := h j (l[j]'(by omega)) (by omega) (List.getElem?_eq_getElem _)
    simp only [List.getElem_take, decide_eq_false_iff_not]
    omega
  rw [this, List.getElem?_eq_none (Nat.le_refl _)]
theorem getI_none {l : List UInt8} {k : Nat} (h : High l k) (hk : k = min l.length 10) : getI l = if 10 ≤ l.length then (0, 0, 11) else (0, 0, 10) := by
  unfold getI
  rw [lead_none h hk]
theorem lead_some {l : List UInt8} {k : Nat} (h : High l k) (hk : k < 10) {c : UInt8} (hc : l[k]? = some c) (h8 : c.toNat < 128) : lead l = k := by
  have hkl : k < l.length := by
    rcases Nat.lt_or_ge k l.length with h' | h'
    · exact h'
    · rw [List.getElem?_eq_none h'] at hc; cases hc
  have hkl' : k < (l.take 10).length := by simp; omega
  have hcc : l[k] = c := by rw [List.getElem?_eq_getElem hkl] at hc; cases hc; rfl
  unfold lead
  rw [List.findIdx_eq hkl']
  refine ⟨by simp [hcc, h8], fun j hj => ?_⟩
  have := h j (l[j]'(by omega)) hj (List.getElem?_eq_getElem _)
  simp only [List.getElem_take, decide_eq_false_iff_not]
  omega
theorem getI_some {l : List UInt8} {k : Nat} (h : High l k) (hk : k < 10) {c : UInt8} (hc : l[k]? = some c) (h8 : c.toNat < 128) :
    getI l = if (k = 9 ∧ 1 < c.toNat) ∨ (0 < k ∧ c.toNat = 0) then (0, 0, 11) else (unz (gv (l.take (k + 1))), ((k + 1 : Nat) : Int), 0) := by
  unfold getI
  rw [lead_some h hk hc h8, List.getElem?_take_of_lt hk, hc]

/-- the reader's step: 'or' with the digit is adding it -/
theorem or_step {l : List UInt8} {k : Nat} (hk : k ≤ 9) {c : UInt8} (hc : l[k]? = some c) (h9 : k = 9 → c.toNat ≤ 1) :
    bits .or .u64 ((gv (l.take k) : Nat) : Int) (IntKind.u64.wrap (((c.toNat : Nat) : Int) % 128 * 2 ^ (7 * k))) = ((gv (l.take (k + 1)) : Nat) : Int) := by
  have hlt : gv (l.take k) < 128 ^ k := by
    refine Nat.lt_of_lt_of_le (gv_lt _) (Nat.pow_le_pow_right (by decide) ?_)
    simp; omega
  have hc' := c.toNat_lt
  rw [gv_take hc]
  generalize gv (l.take k) = q at *
  generalize c.toNat = d at *
  have hp : (2 : Nat) ^ (7 * k) = 128 ^ k := by rw [Nat.pow_mul]
  have hb : d % 128 * 128 ^ k < 18446744073709551616 := by
    rcases Nat.lt_or_ge k 9 with h | h
    · have h1 : 128 ^ k ≤ 128 ^ 8 := Nat.pow_le_pow_right (by decide) (by omega)
      have h2 : d % 128 * 128 ^ k ≤ 127 * 128 ^ 8 := Nat.mul_le_mul (by omega) h1
      omega
    · obtain rfl : k = 9 := by omega
      have := h9 rfl
      omega
  have e1 : ((d : Nat) : Int) % 128 * 2 ^ (7 * k) = ((d % 128 * 128 ^ k : Nat) : Int) := by
    rw [← hp]; push_cast; rfl
  rw [e1, IntWalk.u64_in _ (by omega)]
  have hq : q < 18446744073709551616 := by
    have : 128 ^ k ≤ 128 ^ 9 := Nat.pow_le_pow_right (by decide) hk
    omega
  rw [bits_or_u64_nat _ _ (by omega) (by omega)]
  congr 1
  rw [Nat.or_comm, Nat.mul_comm, ← hp, ← Nat.two_pow_add_eq_or_of_lt (by rw [hp]; exact hlt), hp]
  omega

theorem getI_cases (l : List UInt8) : (getI l = (0, 0, 10) ∨ getI l = (0, 0, 11)) ∨ ∃ k, k < 10 ∧ k < l.length ∧ gv (l.take (k + 1)) < 18446744073709551616 ∧ getI l = (unz (gv (l.take (k + 1))), ((k + 1 : Nat) : Int), 0) := by
  unfold getI
  split
  · split
    · exact .inl (.inr rfl)
    · exact .inl (.inl rfl)
  · rename_i c hc
    split
    · exact .inl (.inr rfl)
    · rename_i hno
      have hk : lead l < (l.take 10).length := by
        rcases Nat.lt_or_ge (lead l) (l.take 10).length with h' | h'
        · exact h'
        · rw [List.getElem?_eq_none h'] at hc; cases hc
      have hk' : lead l < min 10 l.length := by simpa using hk
      refine .inr ⟨lead l, by omega, by omega, ?_, rfl⟩
      have hc' : l[lead l]? = some c := by rw [List.getElem?_take_of_lt (by omega)] at hc; exact hc
      rw [gv_take hc']
      have h1 := gv_lt (l.take (lead l))
      have h2 : (l.take (lead l)).length = lead l := by simp; omega
      rw [h2] at h1
      rcases Nat.lt_or_ge (lead l) 9 with h | h
      · have h3 : 128 ^ lead l ≤ 128 ^ 8 := Nat.pow_le_pow_right (by decide) (by omega)
        have h4 : 128 ^ lead l * (c.toNat % 128) ≤ 128 ^ 8 * 127 := Nat.mul_le_mul h3 (by omega)
        omega
      · have h9 : lead l = 9 := by omega
        rw [h9] at h1 ⊢
        have h5 : c.toNat ≤ 1 := by omega
        have h4 : 128 ^ 9 * (c.toNat % 128) ≤ 128 ^ 9 * 1 := Nat.mul_le_mul_left _ (by omega)
        omega
/-- what holds of every reading -/
theorem getI_facts (l : List UInt8) : -9223372036854775808 ≤ (getI l).1 ∧ (getI l).1 ≤ 9223372036854775807 ∧ 0 ≤ (getI l).2.1 ∧ (getI l).2.1 ≤ l.length ∧ (getI l).2.1 ≤ 10 ∧ 0 ≤ (getI l).2.2 ∧ (getI l).2.2 ≤ 11 ∧
    ((getI l).2.2 = 0 → 1 ≤ (getI l).2.1) ∧ ((getI l).2.2 ≠ 0 → (getI l).1 = 0 ∧ (getI l).2.1 = 0) := by
  rcases getI_cases l with (h | h) | ⟨k, hk, hl, hg, h⟩
  · rw [h]; simp
  · rw [h]; simp
  · rw [h]
    have := unz_bd hg
    simp only
    omega

/-- the number of things that follow -/
def getC (l : List UInt8) (least : Nat) : Int × Int × Int :=
  if (getI l).2.2 ≠ 0 then (0, 0, (getI l).2.2) else if (getI l).1 < 0 then (0, 0, 11) else if ((l.length : Int) - (getI l).2.1) / (least : Int) < (getI l).1 then (0, 0, 10) else ((getI l).1, (getI l).2.1, 0)

theorem getC_facts (l : List UInt8) (least : Nat) (h1 : 1 ≤ least) : 0 ≤ (getC l least).1 ∧ (getC l least).1 ≤ l.length ∧ 0 ≤ (getC l least).2.1 ∧ (getC l least).2.1 + least * (getC l least).1 ≤ l.length ∧ 0 ≤ (getC l least).2.2 ∧ (getC l least).2.2 ≤ 11 ∧
    ((getC l least).2.2 = 0 → 1 ≤ (getC l least).2.1) ∧ ((getC l least).2.2 ≠ 0 → (getC l least).1 = 0 ∧ (getC l least).2.1 = 0) := by
  have hf := getI_facts l
  unfold getC
  split
  · rename_i h
    dsimp only
    refine ⟨by omega, by omega, by omega, by simp, by omega, by omega, fun h' => by omega, fun _ => ⟨rfl, rfl⟩⟩
  · rename_i h
    split
    · simp
    · rename_i h'
      split
      · simp
      · rename_i h''
        have hd : (least : Int) * (((l.length : Int) - (getI l).2.1) / (least : Int)) ≤ (l.length : Int) - (getI l).2.1 := Int.mul_ediv_self_le (by omega)
        have hm : (least : Int) * (getI l).1 ≤ (least : Int) * (((l.length : Int) - (getI l).2.1) / (least : Int)) := Int.mul_le_mul_of_nonneg_left (by omega) (by omega)
        have hm1 : 1 * (getI l).1 ≤ (least : Int) * (getI l).1 := Int.mul_le_mul_of_nonneg_right (by omega) (by omega)
        simp only
        omega

/-- a text -/
def getB (l : List UInt8) : List UInt8 × Int × Int :=
  if (getC l 1).2.2 ≠ 0 then ([], 0, (getC l 1).2.2) else ((l.drop (getC l 1).2.1.toNat).take (getC l 1).1.toNat, (getC l 1).2.1 + (getC l 1).1, 0)

theorem getB_facts (l : List UInt8) : 0 ≤ (getB l).2.1 ∧ (getB l).2.1 ≤ l.length ∧ 0 ≤ (getB l).2.2 ∧ (getB l).2.2 ≤ 11 ∧ ((getB l).2.2 = 0 → 1 ≤ (getB l).2.1) ∧ ((getB l).2.2 ≠ 0 → (getB l).1 = [] ∧ (getB l).2.1 = 0) := by
  have hf := getC_facts l 1 (by decide)
  unfold getB
  split
  · simp only; simp; omega
  · simp only; simp; omega

/-- a list's things, one behind the other -/
def getN {α : Type} (one : List UInt8 → α × Int × Int) (l : List UInt8) : Nat → List α → Int → List α × Int × Int
  | 0, acc, used => (acc, used, 0)
  | k + 1, acc, used => if (one (l.drop used.toNat)).2.2 ≠ 0 then ([], 0, (one (l.drop used.toNat)).2.2) else getN one l k (acc ++ [(one (l.drop used.toNat)).1]) (used + (one (l.drop used.toNat)).2.1)
def getL {α : Type} (one : List UInt8 → α × Int × Int) (least : Nat) (l : List UInt8) : List α × Int × Int :=
  if (getC l least).2.2 ≠ 0 then ([], 0, (getC l least).2.2) else getN one l (getC l least).1.toNat [] (getC l least).2.1

def getD1 (l : List UInt8) : List UInt8 × Int × Int := (l.take 16, 16, 0)
end Go.Proofs.Ytieipbobijnmlaa.wp
/- Laws of memory that this seat's proofs use: an array's cells read out of a longer row; no program here. -/
namespace Go.Proofs.Ytieipbobijnmlaa.wk

open Go.RowKit

theorem add_at (b o j : Nat) : (⟨b, o, none⟩ : Addr).add j = ⟨b, o + j, none⟩ := by
  unfold Addr.add
  by_cases hj : j = 0 <;> simp [hj]

theorem cells_new (w : World) (cs : List Value) (t : TypeId) : ∀ j u, cs[j]? = some u → (w.alloc (.cells cs.toArray t)).cell? ((⟨w.heap.size, 0, none⟩ : Addr).add j) = some u := fun j u hu => by
  rw [add_at, Nat.zero_add, cell_of_row _ _ _ _ _ _ (heap_alloc_new w _)]
  simpa using hu

theorem cells_new' {w : World} {g : Nat} (hg : w.heap.size = g) (cs : List Value) (t : TypeId) : ∀ j u, cs[j]? = some u → (w.alloc (.cells cs.toArray t)).cell? ((⟨g, 0, none⟩ : Addr).add j) = some u := by
  subst hg; exact cells_new w cs t

theorem cells_under (w : World) (cs : List Value) (t : TypeId) (O : Obj) : ∀ j u, cs[j]? = some u → ((w.alloc (.cells cs.toArray t)).alloc O).cell? ((⟨w.heap.size, 0, none⟩ : Addr).add j) = some u := fun j u hu => by
  rw [add_at, Nat.zero_add, cell_of_row _ _ _ _ _ _ (heap_alloc2_old w _ _)]
  simpa using hu

theorem bc_at {l : List UInt8} {j : Nat} {u : Value} : (wp.bc l)[j]? = some u ↔ ∃ x, l[j]? = some x ∧ Value.int .u8 (x.toNat : Int) = u := by
  simp [wp.bc]

theorem ownsRow_below {w w' : World} {base : Nat} {e : TypeId} {size n : Nat} {v : Value} {xs : List Value} (h : w.ownsRow base e size v n xs) (hb : Below w.heap.size w w') : w'.ownsRow base e size v n xs := by
  refine ⟨h.1, ?_⟩
  rcases h.2 with h2 | ⟨g, cap, cur, hv, hg, hh, hr⟩
  · exact .inl h2
  · refine .inr ⟨g, cap, cur, hv, hg, ?_, hr⟩
    have hlt : g < w.heap.size := (h.lt g (by rw [hv]; rfl)).2
    rw [hb.block g hlt]
    exact hh

/-- cells laid one by one over a row -/
theorem fold_set (l : List Value) : ∀ (pre z : List Value), z.length = l.length → (l.zipIdx pre.length).foldl (fun cs x => cs.setIfInBounds x.2 x.1) (pre ++ z).toArray = (pre ++ l).toArray := by
  induction l with
  | nil => intro pre z hz; simp [List.eq_nil_of_length_eq_zero hz]
  | cons a r ih =>
    intro pre z hz
    obtain ⟨b, z', rfl⟩ : ∃ b z', z = b :: z' := by
      cases z with
      | nil => simp at hz
      | cons b z' => exact ⟨b, z', rfl⟩
    have h := ih (pre ++ [a]) z' (by simpa using hz)
    simp only [List.zipIdx_cons, List.foldl_cons]
    have e : (pre ++ b :: z').toArray.setIfInBounds pre.length a = (pre ++ [a] ++ z').toArray := by
      apply Array.toList_inj.1
      simp
    rw [e]
    simpa using h

section

variable {P : Program}

theorem run_load_agg (w : World) (a : Addr) (ty : TypeId) (cs : List Value) (d : TypeDesc) (hc : ∀ j v, cs[j]? = some v → w.cell? (a.add j) = some v)
    (hu : P.underlying ty = some d) (hd : (match d with | .struct _ | .array _ _ => true | _ => false) = true) (hi : (P.info? ty).map (·.size) = some cs.length) :
    (loadVar ty a).run P w = .ok (.agg cs.toArray) w := by
  have hl : (loadCells a cs.length).run P w = .ok cs.toArray w := run_loadCells_list (P := P) w a cs hc
  cases hq : P.info? ty with
  | none => simp [hq] at hi
  | some i =>
    have hs : i.size = cs.length := by simpa [hq] using hi
    have hagg : (isAgg ty).run P w = .ok true w := by
      unfold isAgg
      rw [Sem.run_bind, run_underlying hu w]
      cases d <;> simp_all
    simp [loadVar, Sem.run_bind, hagg, sizeOf, typeInfo, hq, hs, hl]

theorem load_agg {ops : Array Oper} {rest : List Oper} {o : Oper} {a : Act} {w : World} {Q : Exit → Act → World → Prop} (hgd : o.guard = none) (ty : TypeId) (x : Operand) (ho : o.op = .load ty x)
    (ad : Addr) (hx : a.eval x = .pointer (some ad)) (cs : List Value) (d : TypeDesc) (hc : ∀ j v, cs[j]? = some v → w.cell? (ad.add j) = some v)
    (hu : P.underlying ty = some d) (hd : (match d with | .struct _ | .array _ _ => true | _ => false) = true) (hi : (P.info? ty).map (·.size) = some cs.length)
    (h : wpList P ops Q rest (a.put o.dst (.agg cs.toArray)) w) : wpList P ops Q (o :: rest) a w :=
  wpList_plain hgd fun K hK => by
    unfold Oper.wp execOp
    simp only [ho, hx, Instr.loadAt, Instr.sureAddr, Sem.run_bind, Sem.run_pure, Result.andThen_ok, run_load_agg w ad ty cs d hc hu hd hi]
    exact hK _ _ h

theorem setRow_alloc (w : World) (old cs : Array Value) (t : TypeId) : (w.alloc (.cells old t)).setRow w.heap.size cs = w.alloc (.cells cs t) := by
  simp only [World.setRow, World.alloc]
  congr 1
  apply Array.ext_getElem?
  intro i
  rw [Array.getElem?_modify, Array.getElem?_push, Array.getElem?_push]
  by_cases hi : i = w.heap.size
  · subst hi; simp
  · rw [if_neg (fun h => hi h.symm), if_neg hi, if_neg hi]

theorem store_new {ops : Array Oper} {rest : List Oper} {o : Oper} {a : Act} {w : World} {Q : Exit → Act → World → Prop} (hgd : o.guard = none) (ty : TypeId) (x y : Operand) (ho : o.op = .store ty x y)
    (t : TypeId) (old : Array Value) (cs : List Value) (hx : a.eval x = .pointer (some ⟨w.heap.size, 0, none⟩)) (hy : a.eval y = .agg cs.toArray)
    (hi : (P.info? ty).map (·.size) = some cs.length) (hold : old.size = cs.length) (h1 : ∀ u ∈ cs, u.oneCell' = true)
    (h : wpList P ops Q rest (a.put o.dst undef) (w.alloc (.cells cs.toArray t))) : wpList P ops Q (o :: rest) a (w.alloc (.cells old t)) := by
  refine wpList_store_row hgd ty x y ho w.heap.size cs.toArray hx hy t old (heap_alloc_new w _) (by simpa using hi) (by simpa using hold) (Array.all_eq_true_iff_forall_mem.2 fun u hu => h1 u (by simpa using hu)) ?_
  rw [setRow_alloc]
  exact h

/-- a cut keeps the bytes -/
theorem RB.cut {w : World} {A : Option Addr} {l : List UInt8} (h : wp.RB w A l) {k m c : Nat} (hc : l.length ≤ c) : wp.RB w (if c = k then A else A.map (·.add (k * 1))) ((l.drop k).take m) := fun hl => by
  have hlen : 0 < min m (l.length - k) := by simpa using hl
  obtain ⟨b, o, rfl, hb, hcell⟩ := h (by omega)
  rw [if_neg (by omega)]
  refine ⟨b, o + k, by simp [add_at], hb, fun j u hu => ?_⟩
  rw [Nat.add_assoc]
  refine hcell _ u ?_
  rw [List.getElem?_take] at hu
  split at hu
  · rw [← hu, List.getElem?_drop]
  · cases hu

theorem run_sizeOf (w : World) (e : TypeId) (n : Nat) (hz : (P.info? e).map (·.size) = some n) : (Go.sizeOf e).run P w = .ok n w := by
  cases hq : P.info? e with
  | none => simp [hq] at hz
  | some i =>
    have : i.size = n := by simpa [hq] using hz
    simp [Go.sizeOf, typeInfo, hq, this]

theorem cut_lh (w : World) (t e : TypeId) (ht : P.underlying t = some (.slice e)) (hz : (P.info? e).map (·.size) = some 1) (A : Option Addr) (n c : Nat) (l : List UInt8) (hn : l.length = n) (hnc : n ≤ c)
    (h : wp.RB w A l) (lo hi : Int) (h0 : 0 ≤ lo) (h1 : lo ≤ hi) (h2 : hi ≤ n) :
    ∃ A2 m c2, (∀ w', (Instr.slice t (.slice A n c) (some (.int .i64 lo)) (some (.int .i64 hi)) none).run P w' = .ok (.slice A2 m c2) w') ∧ m ≤ c2 ∧ c2 ≤ c ∧ ((l.drop lo.toNat).take (hi - lo).toNat).length = m ∧ wp.RB w A2 ((l.drop lo.toNat).take (hi - lo).toNat) := by
  have ht' : P.underlying t = some (.slice (P.elem t)) := by simp [Program.elem, ht]
  have he : P.elem t = e := by simp [Program.elem, ht]
  refine ⟨_, (hi - lo).toNat, c - lo.toNat, fun w' => ?_, by omega, by omega, by simp; omega, RB.cut h (k := lo.toNat) (m := (hi - lo).toNat) (c := c) (by omega)⟩
  rw [run_slice_lh w' t A n c ht' .i64 .i64 lo hi h0 h1 (by omega), he, run_sizeOf w' e 1 hz]
  simp only [Result.andThen, sliced]
  rw [show hi.toNat - lo.toNat = (hi - lo).toNat from by omega]

theorem cut_l (w : World) (t e : TypeId) (ht : P.underlying t = some (.slice e)) (hz : (P.info? e).map (·.size) = some 1) (A : Option Addr) (n c : Nat) (l : List UInt8) (hn : l.length = n) (hnc : n ≤ c)
    (h : wp.RB w A l) (lo : Int) (h0 : 0 ≤ lo) (h2 : lo ≤ n) :
    ∃ A2 m c2, (∀ w', (Instr.slice t (.slice A n c) (some (.int .i64 lo)) none none).run P w' = .ok (.slice A2 m c2) w') ∧ m ≤ c2 ∧ c2 ≤ c ∧ (l.drop lo.toNat).length = m ∧ wp.RB w A2 (l.drop lo.toNat) := by
  have ht' : P.underlying t = some (.slice (P.elem t)) := by simp [Program.elem, ht]
  have he : P.elem t = e := by simp [Program.elem, ht]
  have hr := RB.cut h (k := lo.toNat) (m := l.length) (c := c) (by omega)
  rw [List.take_of_length_le (by simp)] at hr
  refine ⟨_, n - lo.toNat, c - lo.toNat, fun w' => ?_, by omega, by omega, by simp; omega, hr⟩
  rw [run_slice_l w' t A n c ht' .i64 lo h0 (by omega), he, run_sizeOf w' e 1 hz]
  simp only [Result.andThen, sliced]

/-- a text out of bytes -/
theorem conv_str (w : World) (src e dst : TypeId) (hs : P.underlying src = some (.slice e)) (he : P.underlying e = some (.int .u8)) (hd : P.underlying dst = some .string) (A : Option Addr) (n c : Nat) (l : List UInt8) (hn : l.length = n)
    (h : wp.RB w A l) : (convert src dst (.slice A n c)).run P w = .ok (.string ⟨l.toArray⟩) w := by
  rw [run_convert_bytes_string w src dst e _ n c hs he hd]
  cases A with
  | none =>
    have : l = [] := by
      rcases Nat.eq_zero_or_pos l.length with h0 | h0
      · exact List.eq_nil_of_length_eq_zero h0
      · obtain ⟨_, _, hx, _⟩ := h h0; cases hx
    subst this
    simp [Conv.bytesToString, ByteArray.empty, ByteArray.emptyWithCapacity]
    rfl
  | some ad =>
    have hl : (loadCells ad n).run P w = .ok ((l.map fun u => (u.toNat : Int)).map (Value.int .u8)).toArray w := by
      have := run_loadCells_list (P := P) w ad ((l.map fun u => (u.toNat : Int)).map (Value.int .u8)) (fun j v hv => by
        have hjl : j < l.length := by
          rcases Nat.lt_or_ge j l.length with h | h
          · exact h
          · simp [List.getElem?_eq_none h] at hv
        obtain ⟨b, o, hx, _, hc⟩ := h (by omega)
        cases hx
        rw [add_at, hc j l[j] (List.getElem?_eq_getElem hjl)]
        simp [List.getElem?_eq_getElem hjl] at hv
        rw [← hv])
      simpa [hn] using this
    rw [run_bytesToString w _ n c _ hl, foldl_push_bytes]
    congr 2
    simp [ByteArray.empty, ByteArray.emptyWithCapacity]
    have e : ((fun n : Int => UInt8.ofNat n.toNat) ∘ fun u : UInt8 => (u.toNat : Int)) = id := by funext u; simp
    rw [e, List.map_id]
    rfl

theorem RB.below {w w' : World} {A : Option Addr} {l : List UInt8} (h : wp.RB w A l) (hb : Below w.heap.size w w') : wp.RB w' A l := fun hl => by
  obtain ⟨b, o, hA, hlt, hc⟩ := h hl
  exact ⟨b, o, hA, Nat.lt_of_lt_of_le hlt hb.size, fun j u hu => (hb.cell (p := ⟨b, o + j, none⟩) hlt).trans (hc j u hu)⟩

/-- 'copy(d[:], b)' where d is the block that was made last -/
theorem copy_new {w : World} {ops : Array Oper} {rest : List Oper} {o : Oper} {a : Act} {Q : Exit → Act → World → Prop} (hgd : o.guard = none) (d s : Operand) (dT sT : TypeId)
    (ho : o.op = .call { callee := .builtin .copy, args := #[d, s], argTypes := #[dT, sT] }) (elem : TypeId) (hu : P.underlying dT = some (.slice elem)) (hsz : (P.info? elem).map (·.size) = some 1)
    (t : TypeId) (old : Array Value) (ad : Addr) (m dc sLen sCap : Nat) (g : Nat) (hd : a.eval d = .slice (some ⟨g, 0, none⟩) m dc) (hg : w.heap.size = g) (hs : a.eval s = .slice (some ad) sLen sCap) (cs : List Value)
    (hm : cs.length = m) (hold : old.size = m) (hle : m ≤ sLen) (hsrc : ∀ j v, cs[j]? = some v → (w.alloc (.cells old t)).cell? (ad.add j) = some v) (h1 : ∀ v ∈ cs, v.oneCell' = true)
    (h : wpList P ops Q rest (a.put o.dst (goInt m)) (w.alloc (.cells cs.toArray t))) : wpList P ops Q (o :: rest) a (w.alloc (.cells old t)) := by
  subst hg
  refine wpList_copy_own hgd d s dT sT ho elem hu hsz w.heap.size 0 m dc ad sLen sCap hd hs old t (heap_alloc_new w _) cs (by rw [hm]; exact (Nat.min_eq_right hle).symm) hsrc (by omega) h1 ?_
  have e : (old.toList.take 0 ++ (cs ++ old.toList.drop (0 + cs.length))).toArray = cs.toArray := by
    rw [List.drop_eq_nil_of_le (by simp; omega)]; simp
  rw [e, setRow_alloc, hm]
  exact h

/-- a store into the block below the last one -/
theorem store_below {ops : Array Oper} {rest : List Oper} {o : Oper} {a : Act} {w : World} {Q : Exit → Act → World → Prop} (hgd : o.guard = none) (ty : TypeId) (x y : Operand) (ho : o.op = .store ty x y)
    (t : TypeId) (old : Array Value) (O : Obj) (cs : List Value) (hx : a.eval x = .pointer (some ⟨w.heap.size, 0, none⟩)) (hy : a.eval y = .agg cs.toArray)
    (hi : (P.info? ty).map (·.size) = some cs.length) (hold : old.size = cs.length) (h1 : ∀ u ∈ cs, u.oneCell' = true)
    (h : wpList P ops Q rest (a.put o.dst undef) ((w.alloc (.cells cs.toArray t)).alloc O)) : wpList P ops Q (o :: rest) a ((w.alloc (.cells old t)).alloc O) := by
  have hg : ((w.alloc (.cells old t)).alloc O).heap[w.heap.size]? = some (.cells old t (0, 0)) := heap_alloc2_old w _ _
  refine wpList_store_row hgd ty x y ho w.heap.size cs.toArray hx hy t old hg (by simpa using hi) (by simpa using hold) (Array.all_eq_true_iff_forall_mem.2 fun u hu => h1 u (by simpa using hu)) ?_
  have e : ((w.alloc (.cells old t)).alloc O).setRow w.heap.size cs.toArray = (w.alloc (.cells cs.toArray t)).alloc O := by
    simp only [World.setRow, World.alloc]
    congr 1
    apply Array.ext_getElem?
    intro i
    simp only [Array.getElem?_modify, Array.getElem?_push, Array.size_push]
    by_cases h2 : i = w.heap.size + 1
    · subst h2
      simp
    · by_cases hi : i = w.heap.size
      · subst hi
        simp
      · simp [h2, hi]
        intro h
        exact absurd h.symm hi
  rw [e]
  exact h

theorem results_cell2 {fn : Func} {p u v : Tmp} {ty : TypeId} (h : fn.results = #[.cell p ty, .tmp u, .tmp v]) (tmps : Array Value) (w : World) (ad : Addr) (cs : List Value) (d : TypeDesc)
    (hp : tmps.getD p undef = .pointer (some ad)) (hc : ∀ j x, cs[j]? = some x → w.cell? (ad.add j) = some x)
    (hu : P.underlying ty = some d) (hd : (match d with | .struct _ | .array _ _ => true | _ => false) = true) (hi : (P.info? ty).map (·.size) = some cs.length) :
    (results fn tmps).run P w = .ok (.tuple #[.agg cs.toArray, tmps.getD u undef, tmps.getD v undef]) w := by
  have hp' : tmps[p]?.getD undef = .pointer (some ad) := by simpa using hp
  simp [results, h, hp', asAddr, run_load_agg w ad ty cs d hc hu hd hi, Result.andThen]

theorem run_part (w : World) (e : TypeId) (k : IntKind) (he : P.underlying e = some (.int k)) (cs : Array Value) (i : Nat) (v : Value) (h : cs[i]? = some v) : (part e cs i).run P w = .ok v w := by
  have ha : (isAgg e).run P w = .ok false w := by
    unfold isAgg
    rw [Sem.run_bind, run_underlying he w]
    simp [Result.andThen]
  simp [part, ha, h, Result.andThen]

theorem run_eq_arr (w : World) (d : Nat) (t e : TypeId) (n : Nat) (ht : P.underlying t = some (.array n e)) (he : P.underlying e = some (.int .u8)) (hs : (P.info? e).map (·.size) = some 1) (xs ys : List UInt8)
    (hx : xs.length = n) (hy : ys.length = n) : (Op.equalIn (d + 2) t (.agg (wp.bc xs).toArray) (.agg (wp.bc ys).toArray)).run P w = .ok (xs == ys) w := by
  have hone : ∀ (a b : UInt8), (Op.equalIn (d + 1) e (.int .u8 (a.toNat : Int)) (.int .u8 (b.toNat : Int))).run P w = .ok (a == b) w := fun a b => by
    rw [run_equalIn_int w d e .u8 .u8 _ _ he]
    congr 1
    rw [Bool.eq_iff_iff, beq_iff_eq, beq_iff_eq, ← UInt8.toNat_inj]
    omega
  have hp : ∀ (l : List UInt8) (i : Nat) (x : UInt8), l[i]? = some x → (part e (wp.bc l).toArray i).run P w = .ok (.int .u8 (x.toNat : Int)) w := fun l i x hi => run_part w e .u8 he _ i _ (by simp [wp.bc, hi])
  rw [Op.equalIn]
  simp only [Sem.run_bind, run_underlying ht, Result.andThen_ok, run_sizeOf w e 1 hs, Nat.mul_one]
  rw [Std.Legacy.Range.forIn_eq_forIn_range']
  have key : ∀ (k s : Nat), s + k = n → (forIn (List.range' s k) ((none : Option Bool), ()) fun i __s => do
            let a ← part e (wp.bc xs).toArray i
            let b ← part e (wp.bc ys).toArray i
            let r ← Op.equalIn (d + 1) e a b
            if (!r) = true then pure (ForInStep.done (some false, ())) else pure (ForInStep.yield (none, ()))).run P w = .ok (if xs.drop s == ys.drop s then (none, ()) else (some false, ())) w := by
    intro k
    induction k with
    | zero => intro s h; simp [List.drop_eq_nil_of_le (show xs.length ≤ s by omega), List.drop_eq_nil_of_le (show ys.length ≤ s by omega)]
    | succ k ih =>
      intro s h
      have h1 : s < xs.length := by omega
      have h2 : s < ys.length := by omega
      rw [List.range'_succ, List.forIn_cons]
      simp only [Sem.run_bind, hp xs s xs[s] (List.getElem?_eq_getElem h1), hp ys s ys[s] (List.getElem?_eq_getElem h2), Result.andThen_ok, hone]
      have hdrop : (xs.drop s == ys.drop s) = (xs[s] == ys[s] && xs.drop (s + 1) == ys.drop (s + 1)) := by
        rw [List.drop_eq_getElem_cons h1, List.drop_eq_getElem_cons h2]; rfl
      rw [hdrop]
      cases hq : xs[s] == ys[s]
      · simp only [Bool.not_false, if_true, Bool.false_and, Bool.false_eq_true, if_false, Sem.run_pure, Result.andThen_ok]
      · simp only [Bool.not_true, Bool.false_eq_true, if_false, Bool.true_and, Sem.run_pure, Result.andThen_ok]
        exact ih (s + 1) (by omega)
  have := key n 0 (by omega)
  simp only [List.drop_zero] at this
  have hsz : [:n].size = n := by simp [Std.Legacy.Range.size]
  show ((Sem.run P (forIn (List.range' 0 [:n].size 1) ((none : Option Bool), ()) _) w).andThen _) = _
  rw [hsz, this]
  cases hq : xs == ys <;> simp [Result.andThen]

theorem run_ne_arr_same (t e : TypeId) (n : Nat) (ht : P.underlying t = some (.array n e)) (he : P.underlying e = some (.int .u8)) (hs : (P.info? e).map (·.size) = some 1) (xs : List UInt8)
    (hx : xs.length = n) (w : World) : (binOp .neq t (.agg (wp.bc xs).toArray) (.agg (wp.bc xs).toArray)).run P w = .ok (.bool false) w := by
  rw [run_neq_struct, run_eq_arr w 9998 t e n ht he hs xs xs hx hx]
  simp [Result.andThen]
end

end Go.Proofs.Ytieipbobijnmlaa.wk

namespace Go.Proofs.Ytieipbobijnmlaa.wk

open Go.RowKit

section

variable {P : Program}

theorem run_loadAt_agg (w : World) (a : Addr) (ty : TypeId) (cs : List Value) (d : TypeDesc) (hc : ∀ j v, cs[j]? = some v → w.cell? (a.add j) = some v)
    (hu : P.underlying ty = some d) (hd : (match d with | .struct _ | .array _ _ => true | _ => false) = true) (hi : (P.info? ty).map (·.size) = some cs.length) :
    (Instr.loadAt ty (.pointer (some a))).run P w = .ok (.agg cs.toArray) w := by
  simp only [Instr.loadAt, Instr.sureAddr, Sem.run_bind, Sem.run_pure, Result.andThen_ok, run_load_agg w a ty cs d hc hu hd hi]

theorem quiet_load_agg {ops : Array Oper} {C : World → Prop} {Q : Act → Prop} {a : Act} {o : Oper} {rest : List Oper} (hgd : o.guard = none) (ty : TypeId) (x : Operand) (ho : o.op = .load ty x)
    (ad : Addr) (hx : a.eval x = .pointer (some ad)) (cs : List Value) (d : TypeDesc) (hc : ∀ w, C w → ∀ j v, cs[j]? = some v → w.cell? (ad.add j) = some v)
    (hu : P.underlying ty = some d) (hd : (match d with | .struct _ | .array _ _ => true | _ => false) = true) (hi : (P.info? ty).map (·.size) = some cs.length)
    (h : wpQuiet P ops C Q rest (a.put o.dst (.agg cs.toArray))) : wpQuiet P ops C Q (o :: rest) a := by
  refine BigFrame.wpQuiet_want (by simp [Region.wanted, hgd]) fun K hK => ⟨.agg cs.toArray, fun w hw => ?_, hK _ h⟩
  unfold Oper.quietAt execOp
  simp only [ho, hx, run_loadAt_agg w ad ty cs d (hc w hw) hu hd hi, Sem.run_bind, Sem.run_pure, Result.andThen_ok, Oper.quietUpon]
  exact ⟨trivial, trivial⟩

theorem RB.nil_of {w : World} {l : List UInt8} (h : wp.RB w none l) : l = [] := by
  rcases Nat.eq_zero_or_pos l.length with h0 | h0
  · exact List.eq_nil_of_length_eq_zero h0
  · obtain ⟨_, _, hx, _⟩ := h h0; cases hx

theorem RB.cells {w : World} {ad : Addr} {l : List UInt8} (h : wp.RB w (some ad) l) : ∀ j u, (wp.bc l)[j]? = some u → w.cell? (ad.add j) = some u := fun j u hu => by
  have hl : j < (wp.bc l).length := by
    rcases Nat.lt_or_ge j (wp.bc l).length with h' | h'
    · exact h'
    · rw [List.getElem?_eq_none h'] at hu; cases hu
  rw [wp.bc_length] at hl
  obtain ⟨b, o, hA, _, hc⟩ := h (by omega)
  cases hA
  obtain ⟨x, hx, rfl⟩ := bc_at.1 hu
  rw [add_at]
  exact hc j x hx

/-- 'append(b[:len(b):len(b)], t...)' -/
theorem append_full (w : World) {ops : Array Oper} {rest : List Oper} {o : Oper} {a : Act} {Q : Exit → Act → World → Prop}
    (hgd : o.guard = none) (s x : Operand) (t : TypeId) (hop : o.op = Op.call { callee := Callee.builtin Builtin.append, args := #[s, x], argTypes := #[t, t] })
    (e : TypeId) (h1 : P.underlying t = some (.slice e)) (h2 : (P.info? e).map (fun i => (i.zero, i.size, i.bytes)) = some (some (.int .u8 0), 1, 1))
    (A A' : Option Addr) (n m c' : Nat) (l l' : List UInt8) (hs : a.eval s = .slice A n n) (hx : a.eval x = .slice A' m c') (hl : l.length = n) (hl' : l'.length = m) (hr : wp.RB w A l) (hr' : wp.RB w A' l') (hb : n + m ≤ 140737488355328)
    (hK : ∀ A2 c2 w', n + m ≤ c2 → c2 ≤ 9223372036854775807 → wp.RB w' A2 (l ++ l') → Below w.heap.size w w' → wpList P ops Q rest (a.put o.dst (.slice A2 (n + m) c2)) w') : wpList P ops Q (o :: rest) a w := by
  obtain ⟨i, hi, hz0, hz1, hz2⟩ := info_parts h2
  rcases Nat.eq_zero_or_pos m with h0 | h0
  · subst h0
    have : l' = [] := List.eq_nil_of_length_eq_zero hl'
    subst this
    have hsrc : Src P i.size t (.slice A' 0 c') 0 [] w := by
      cases A' with
      | none => exact Src.ofNil w h1 c'
      | some ad => exact Src.ofSlice w h1 ad 0 c' [] (by simp) (by simp) (by simp)
    refine wpList_plain hgd fun K hK' => ?_
    have hrun := run_append_nothing (P := P) w t t o.type e i h1 hi A n n (Nat.le_refl _) _ hsrc
    unfold Oper.wp execOp
    simp only [hop, resolve, invoke, builtin, Sem.run_bind, Sem.run_pure, Result.andThen_ok, List.map_toArray, List.map_cons, List.map_nil, hs, hx, hrun]
    exact hK' _ _ (hK A n w (Nat.le_refl _) (by omega) (by rw [List.append_nil]; exact hr) (Below.refl _ _))
  · obtain ⟨b', o', rfl, _, _⟩ := hr' (by omega)
    refine wpList_append_grows w hgd s x t hop e i (.int .u8 0) 1 1 h1 hi hz0 hz1 hz2 rfl (by decide) A n n (wp.bc l) hs (fun hA => ?_) (by rw [wp.bc_length]; omega) (fun b hA => ?_) ⟨b', o', none⟩ m c' (wp.bc l') hx (by rw [wp.bc_length]; omega) (RB.cells hr') wp.bc_one (by omega) (by unfold maxLen; omega) (by omega) ?_
    · subst hA
      have := RB.nil_of hr
      subst this
      simp at hl; omega
    · subst hA
      exact RB.cells hr
    · intro v' w' hown hgr
      obtain ⟨A2, c2, rfl, hc1, hc2, hR⟩ := wp.RC.of_own hown
      rw [← wp.bc_append] at hR
      exact hK A2 c2 w' hc1 (by unfold maxLen at hc2; omega) hR.rb ((Below.refl _ _).grown hgr (Nat.le_refl _) (fun k hk => by cases hk))

/-- 'b[:len(b):len(b)]' -/
theorem run_cut_full (w' : World) (t e : TypeId) (ht : P.underlying t = some (.slice e)) (hz : (P.info? e).map (·.size) = some 1) (ad : Addr) (n c : Nat) (hnc : n ≤ c) :
    (Instr.slice t (.slice (some ad) n c) none (some (.int .i64 (n : Int))) (some (.int .i64 (n : Int)))).run P w' = .ok (.slice (some ad) n n) w' := by
  have ht' : P.underlying t = some (.slice (P.elem t)) := by simp [Program.elem, ht]
  have he : P.elem t = e := by simp [Program.elem, ht]
  rw [run_slice_hm w' t (some ad) n c ht' .i64 .i64 (n : Int) (n : Int) (by omega) (Int.le_refl _) (by omega), he, run_sizeOf w' e 1 hz]
  simp only [Result.andThen, sliced, Int.toNat_natCast]
  split <;> simp [Addr.add]
end

end Go.Proofs.Ytieipbobijnmlaa.wk

namespace Go.Proofs.Ytieipbobijnmlaa.wi

open Go.ChangeShapes Go.WideShapes Go.ChangeAt Go.RowKit

theorem ret_u64 {a b : Int} (h : a = b) : Ending.returned (.int .u64 a) = .returned (.int .u64 b) := by rw [h]

theorem fold_any (n : Int) (w : World) (h0 : -9223372036854775808 ≤ n) (h1 : n ≤ 9223372036854775807) :
    Calls Try.prog 77 #[.int .i64 n] w fun e w' => e = .returned (.int .u64 (Lib.zigzag n : Nat)) ∧ w = w' := by
  by_cases hn : n < 0
  · have H := Lib.hid (Lib.zigzag_neg h0 hn)
    go_enter Try.func77, Try.ntmps77
    go_wp2
    go_ret
    exact ⟨ret_u64 H.out, rfl⟩
  · have hn' : 0 ≤ n := by omega
    have H := Lib.hid (Lib.zigzag_nonneg hn')
    go_enter Try.func77, Try.ntmps77
    go_wp2
    go_ret
    exact ⟨ret_u64 H.out.symm, rfl⟩

theorem info5 : (Try.prog.info? 5).map (fun i => (i.zero, i.size, i.bytes)) = some (some (.int .u8 0), 1, 1) := by kernel_rfl

set_option maxRecDepth 100000 in
set_option maxHeartbeats 1000000 in
theorem appendInt_own (base k : Nat) (v : Value) (xs : List Value) (n : Int) (w : World) (h0 : -9223372036854775808 ≤ n) (h1 : n ≤ 9223372036854775807)
    (hown : w.ownsRow base 5 1 v k xs) (hb : base ≤ w.heap.size) (hk : k + 10 ≤ 140737488355328) :
    Calls Try.prog 68 #[v, .int .i64 n] w fun e w' => ∃ v', e = .returned v' ∧ w'.ownsRow base 5 1 v' (k + (wp.encI n).length) (xs ++ wp.bc (wp.encI n)) ∧ Below base w w' := by
  obtain ⟨i0, hi, hz0, hz1, hz2⟩ := info_parts info5
  have hlen := wp.encI_length h0 h1
  unfold wp.encI at *
  have hz : Lib.zigzag n < 18446744073709551616 := Lib.zigzag_lt h0 h1
  go_enter Try.func68, Try.ntmps68
  go_wp2_with (go_at_call 77; refine (fold_any _ _ h0 h1).mono ?_; rintro e w' ⟨rfl, rfl⟩)
  generalize hgq : Lib.zigzag n = q0 at *
  have HQ := Lib.hid hgq
  clear hgq
  go_loopw [0, 5] (fun v z wr => ∃ (q m : Nat) (ys : List Value), z = .int .u64 (q : Int) ∧ q ≤ q0 ∧ ys ++ wp.bc (Lib.uvarint q) = wp.bc (Lib.uvarint q0) ∧ m + (Lib.uvarint q).length = (Lib.uvarint q0).length ∧ wr.ownsRow base 5 1 v (k + m) (xs ++ ys) ∧ Below base w wr) (fun _ z _ => (intOf z).toNat)
  case atStart => exact ⟨q0, 0, [], rfl, Nat.le_refl _, rfl, by omega, by simpa using hown, Below.refl _ _⟩
  case round =>
    obtain ⟨q, m, ys, rfl, hq, hys, hm, hown1, hbel⟩ := hrel
    have HYS := Lib.hid hys
    have HM := Lib.hid hm
    clear hown hm hys
    by_cases hlt : q < 128
    · have hU : (Lib.uvarint q).length = 1 := by rw [Lib.uvarint_small hlt]; rfl
      have HU := Lib.hid (wp.uv_small hlt)
      have hkm : k + m + 1 = k + (Lib.uvarint q0).length := by have := HM.out; omega
      have hkm' : k + m + 1 ≤ 140737488355328 := by omega
      clear hz h0 h1 hk hU hlen
      have HKM := Lib.hid hkm
      clear hkm
      go_wp2_with (at_builtin; refine wpList_append_own _ rfl _ _ 42 rfl base 5 i0 (.int .u8 0) 1 1 Try.underlying42 hi hz0 hz1 hz2 rfl (by decide) _ _ _ rfl (hown1.alloc _) ⟨wr.heap.size, 0, none⟩ 1 1 [.int .u8 (q : Int)] rfl rfl ?c1 ?c2 ?c3 ?c4 ?c5 ?_)
      case c1 => exact cell_one_new _ _ _
      case c2 => simp [Value.oneCell']
      case c3 => unfold maxLen; omega
      case c4 => omega
      case c5 => have := hbel.size; simp; omega
      intro v' w1 hown' hgrow _
      go_wp2
      go_ret
      refine ⟨v', rfl, ?_, ?_⟩
      · rw [HQ.out, ← HKM.out, ← HYS.out, HU.out]; exact hown'
      · exact (hbel.alloc (by have := hbel.size; omega) _).grown hgrow (by have := hbel.size; simp; omega) (fun g hg => (hown1.lt g hg).1)
    · have hU : (Lib.uvarint q).length = (Lib.uvarint (q / 128)).length + 1 := by rw [Lib.uvarint_big (by omega)]; rfl
      have HU := Lib.hid (wp.uv_big (q := q) (by omega))
      have hu1 : 1 ≤ (Lib.uvarint (q / 128)).length := Lib.uvarint_pos _
      have hkm' : k + m + 2 ≤ 140737488355328 := by have := HM.out; omega
      have HM' : Hid (m + 1 + (Lib.uvarint (q / 128)).length = (Lib.uvarint q0).length) := by have := HM.out; show _ = _; omega
      have hq64 : (q : Int) ≤ 18446744073709551615 := by omega
      clear hz h0 h1 hk hlen hu1 HM hU
      go_wp2_with (at_builtin; refine wpList_append_own _ rfl _ _ 42 rfl base 5 i0 (.int .u8 0) 1 1 Try.underlying42 hi hz0 hz1 hz2 rfl (by decide) _ _ _ rfl (hown1.alloc _) ⟨wr.heap.size, 0, none⟩ 1 1 [.int .u8 ((q : Int) % 128 + 128)] rfl rfl ?c1 ?c2 ?c3 ?c4 ?c5 ?_)
      case c1 => exact cell_one_new _ _ _
      case c2 => simp [Value.oneCell']
      case c3 => unfold maxLen; omega
      case c4 => omega
      case c5 => have := hbel.size; simp; omega
      intro v' w1 hown' hgrow _
      go_wp2
      go_roundw
      case rel =>
        refine ⟨q / 128, m + 1, ys ++ [.int .u8 ((q : Int) % 128 + 128)], by simp, by omega, ?_, HM'.out, ?_, ?_⟩
        · rw [← HYS.out, HU.out, List.append_assoc]; rfl
        · rw [← Nat.add_assoc]; exact hown'
        · exact (hbel.alloc (by have := hbel.size; omega) _).grown hgrow (by have := hbel.size; simp; omega) (fun g hg => (hown1.lt g hg).1)
      case measure => simp [intOf]; omega
end Go.Proofs.Ytieipbobijnmlaa.wi

namespace Go.Proofs.Ytieipbobijnmlaa.wi

open Go.ChangeShapes Go.WideShapes Go.ChangeAt Go.RowKit

theorem unfold_any (z : Int) (q : Nat) (w : World) (hq : z = (q : Int)) (h : q < 18446744073709551616) :
    Calls Try.prog 79 #[.int .u64 z] w fun e w' => e = .returned (.int .i64 (wp.unz q)) ∧ w = w' := by
  subst hq
  have h1 : (q : Int) < 18446744073709551616 := by omega
  have hand := Lib.u64_and1 (q : Int) (by omega) h1
  by_cases h2 : q % 2 = 1
  · have hb : ((q : Int) % 2 == 1) = true := by rw [beq_iff_eq]; omega
    have hx := Lib.i64_not (q / 2) (by omega)
    have HX := Lib.hid hx
    clear hx
    have HU : Hid (wp.unz q = -((q / 2 : Nat) : Int) - 1) := by show _ = _; unfold wp.unz; rw [if_pos h2]; omega
    have h3 : (q : Int) ≤ 18446744073709551615 := by omega
    clear h2 h h1
    go_enter Try.func79, Try.ntmps79
    go_wp2
    go_ret
    exact ⟨wp.ret_i64 (by rw [HU.out, ← HX.out]; rfl), rfl⟩
  · have hb : ((q : Int) % 2 == 1) = false := by rw [beq_eq_false_iff_ne]; omega
    have HU : Hid (wp.unz q = ((q / 2 : Nat) : Int)) := by show _ = _; unfold wp.unz; rw [if_neg h2]
    have h3 : (q : Int) ≤ 18446744073709551615 := by omega
    clear h2 h h1
    go_enter Try.func79, Try.ntmps79
    go_wp2
    go_ret
    exact ⟨wp.ret_i64 (by rw [HU.out]; rfl), rfl⟩

set_option maxRecDepth 100000 in
set_option maxHeartbeats 1000000 in
theorem getInt_any (A : Option Addr) (n c : Nat) (l : List UInt8) (w : World) (hn : n ≤ c) (hc : c ≤ 9223372036854775807) (hln : l.length = n) (hl : wp.RB w A l) :
    Calls Try.prog 70 #[.slice A n c] w fun e w' => e = .returned (.tuple #[.int .i64 (wp.getI l).1, .int .i64 (wp.getI l).2.1, .int .i64 (wp.getI l).2.2]) ∧ w = w' := by
  have HLN := Lib.hid hln
  have HL := Lib.hid hl
  clear hln hl
  have hcase : ∃ m : Nat, Hid (m = min l.length 10) ∧ m ≤ n ∧ m ≤ 10 ∧ (n ≤ 10 ∧ n ≤ m ∨ 10 < n ∧ 10 ≤ m) := by
    refine ⟨min n 10, ?_, by omega, by omega, by omega⟩
    show _ = _
    rw [HLN.out]
  obtain ⟨m, HM, hm1, hm2, hcase⟩ := hcase
  rcases hcase with ⟨h10, hm3⟩ | ⟨h10, hm3⟩
  · obtain rfl : m = n := by omega
    clear hm1 hm3
    go_enter Try.func70, Try.ntmps70
    go_wp2_with fail
    go_step3
    go_wp2_with fail
    go_step3
    go_wp2_with fail
    go_loopg [5, 6, 15] m (fun g z u x wr => ∃ (k : Nat) (zz : Int), k + g = m ∧ wp.High l k ∧ (k ≤ 9 → zz = (wp.gv (l.take k) : Nat)) ∧ z = .int .u64 zz ∧ u = .int .i64 0 ∧ x = .int .i64 (k : Int) ∧ w = wr)
    case atStart => exact ⟨0, 0, by omega, wp.High.zero _, fun _ => rfl, rfl, rfl, rfl, rfl⟩
    case round =>
      obtain ⟨k, q, hk, hhi, hq, rfl, rfl, rfl, rfl⟩ := hrel
      have hkm : k ≤ m := by omega
      have HK := Lib.hid hk
      have HQ := Lib.hid hq
      have HH := Lib.hid hhi
      clear hk hq hhi
      by_cases hlt : k < m
      · obtain ⟨b, o, rfl, hbw, hcell⟩ := HL.out (by have := HM.out; omega)
        have hkl : k < l.length := by have := HM.out; omega
        have hlk : l[k]? = some l[k] := List.getElem?_eq_getElem hkl
        have hck := hcell k l[k] hlk
        have HLK := Lib.hid hlk
        have HO := Lib.hid (fun h9 => wp.or_step (l := l) (k := k) (by omega) hlk h9)
        have HS := Lib.hid (fun h8 => wp.getI_some HH.out (by omega) hlk h8)
        have hb : (l[k].toNat : Int) < 256 := by have := l[k].toNat_lt; omega
        rw [← HQ.out (by omega)] at HO
        have HC8 : Hid (128 ≤ l[k].toNat → wp.High l (k + 1)) := fun h => HH.out.succ hlk h
        clear hcell hlk
        generalize hgk : l[k].toNat = ck at *
        have HCK := Lib.hid hgk
        clear hgk
        by_cases hc8 : 128 ≤ ck
        · go_wp2_with fail
          go_roundg (gk - 1)
          case measure => have := HK.out; omega
          case rel =>
            exact ⟨k + 1, _, by have := HK.out; omega, HC8.out hc8, fun h9 => HO.out (by omega), rfl, rfl, by go_num, rfl⟩
        · have HG : Hid (wp.gv (l.take (k + 1)) < 18446744073709551616 ∨ 9 < k ∨ (9 ≤ k ∧ 1 < ck)) := by
            show _ ∨ _
            rcases Nat.lt_or_ge k 9 with h | h
            · left
              have hp : 128 ^ (l.take (k + 1)).length ≤ 128 ^ 9 := Nat.pow_le_pow_right (by decide) (by simp; omega)
              have hp' := wp.gv_lt (l.take (k + 1))
              omega
            · rcases Nat.lt_or_ge 1 ck with h1 | h1
              · right; right; exact ⟨h, h1⟩
              · left
                obtain rfl : k = 9 := by omega
                have hp := wp.gv_take HLK.out
                have hp' := wp.gv_lt (l.take 9)
                have hp2 : 128 ^ (l.take 9).length ≤ 128 ^ 9 := Nat.pow_le_pow_right (by decide) (by simp; omega)
                have hp3 : 128 ^ 9 * (l[9].toNat % 128) ≤ 128 ^ 9 * 1 := Nat.mul_le_mul_left _ (by rw [HCK.out]; omega)
                omega
          have hcs : (9 ≤ k ∧ 1 < ck ∨ 0 < k ∧ ck ≤ 0) ∨ (k ≤ 8 ∧ 0 < ck ∨ k ≤ 0 ∨ 9 ≤ k ∧ 1 ≤ ck ∧ ck ≤ 1) := by omega
          rcases hcs with (⟨hx1, hx2⟩ | ⟨hx1, hx2⟩) | (⟨hx1, hx2⟩ | hx1 | ⟨hx1, hx2, hx3⟩)
          · have hk9 : ((k : Int) == 9) = true := by rw [beq_iff_eq]; omega
            go_wp2_with fail
            all_goals
              rw [Exit.noGoto_ret]
              go_ret3
              exact ⟨by rw [HS.out (by omega), if_pos (by omega)]; rfl, rfl⟩
          · have hc0 : ((ck : Int) == 0) = true := by rw [beq_iff_eq]; omega
            go_wp2_with fail
            all_goals
              rw [Exit.noGoto_ret]
              go_ret3
              exact ⟨by rw [HS.out (by omega), if_pos (by omega)]; rfl, rfl⟩
          · have hc0 : ((ck : Int) == 0) = false := by rw [beq_eq_false_iff_ne]; omega
            have hk9 : ((k : Int) == 9) = false := by rw [beq_eq_false_iff_ne]; omega
            go_wp2_with fail
            all_goals
              refine (unfold_any _ _ w (HO.out (by omega)) (by rcases HG.out with h | h | h <;> omega)).mono ?_
              rintro e w' ⟨rfl, rfl⟩
              go_wp2_with fail
              rw [Exit.noGoto_ret]
              go_ret3
              exact ⟨by rw [HS.out (by omega), if_neg (by omega)]; push_cast; rfl, rfl⟩
          · go_wp2_with fail
            all_goals
              refine (unfold_any _ _ w (HO.out (by omega)) (by rcases HG.out with h | h | h <;> omega)).mono ?_
              rintro e w' ⟨rfl, rfl⟩
              go_wp2_with fail
              rw [Exit.noGoto_ret]
              go_ret3
              exact ⟨by rw [HS.out (by omega), if_neg (by omega)]; push_cast; rfl, rfl⟩
          · have hc0 : ((ck : Int) == 0) = false := by rw [beq_eq_false_iff_ne]; omega
            have hk9 : ((k : Int) == 9) = true := by rw [beq_iff_eq]; omega
            go_wp2_with fail
            all_goals
              refine (unfold_any _ _ w (HO.out (by omega)) (by rcases HG.out with h | h | h <;> omega)).mono ?_
              rintro e w' ⟨rfl, rfl⟩
              go_wp2_with fail
              rw [Exit.noGoto_ret]
              go_ret3
              exact ⟨by rw [HS.out (by omega), if_neg (by omega)]; push_cast; rfl, rfl⟩
      · go_wp2_with fail
        all_goals
          rw [Exit.noGoto_ret]
          go_ret3
          exact ⟨by rw [wp.getI_none HH.out (by have := HM.out; omega)]; first | (rw [if_neg (by have := HLN.out; omega)]; rfl) | (rw [if_pos (by have := HLN.out; omega)]; rfl), rfl⟩
  · clear hm1
    have hmx : max (10 : Int) 0 = 10 := by decide
    go_enter Try.func70, Try.ntmps70
    go_wp2_with fail
    go_step3
    go_wp2_with fail
    go_step3
    go_wp2_with fail
    go_loopg [5, 6, 15] m (fun g z u x wr => ∃ (k : Nat) (zz : Int), k + g = m ∧ wp.High l k ∧ (k ≤ 9 → zz = (wp.gv (l.take k) : Nat)) ∧ z = .int .u64 zz ∧ u = .int .i64 0 ∧ x = .int .i64 (k : Int) ∧ w = wr)
    case atStart => exact ⟨0, 0, by omega, wp.High.zero _, fun _ => rfl, rfl, rfl, rfl, rfl⟩
    case round =>
      obtain ⟨k, q, hk, hhi, hq, rfl, rfl, rfl, rfl⟩ := hrel
      have hkm : k ≤ m := by omega
      have HK := Lib.hid hk
      have HQ := Lib.hid hq
      have HH := Lib.hid hhi
      clear hk hq hhi
      by_cases hlt : k < m
      · obtain ⟨b, o, rfl, hbw, hcell⟩ := HL.out (by have := HM.out; omega)
        have hkl : k < l.length := by have := HM.out; omega
        have hlk : l[k]? = some l[k] := List.getElem?_eq_getElem hkl
        have hck := hcell k l[k] hlk
        have HLK := Lib.hid hlk
        have HO := Lib.hid (fun h9 => wp.or_step (l := l) (k := k) (by omega) hlk h9)
        have HS := Lib.hid (fun h8 => wp.getI_some HH.out (by omega) hlk h8)
        have hb : (l[k].toNat : Int) < 256 := by have := l[k].toNat_lt; omega
        rw [← HQ.out (by omega)] at HO
        have HC8 : Hid (128 ≤ l[k].toNat → wp.High l (k + 1)) := fun h => HH.out.succ hlk h
        clear hcell hlk
        generalize hgk : l[k].toNat = ck at *
        have HCK := Lib.hid hgk
        clear hgk
        by_cases hc8 : 128 ≤ ck
        · go_wp2_with fail
          go_roundg (gk - 1)
          case measure => have := HK.out; omega
          case rel =>
            exact ⟨k + 1, _, by have := HK.out; omega, HC8.out hc8, fun h9 => HO.out (by omega), rfl, rfl, by go_num, rfl⟩
        · have HG : Hid (wp.gv (l.take (k + 1)) < 18446744073709551616 ∨ 9 < k ∨ (9 ≤ k ∧ 1 < ck)) := by
            show _ ∨ _
            rcases Nat.lt_or_ge k 9 with h | h
            · left
              have hp : 128 ^ (l.take (k + 1)).length ≤ 128 ^ 9 := Nat.pow_le_pow_right (by decide) (by simp; omega)
              have hp' := wp.gv_lt (l.take (k + 1))
              omega
            · rcases Nat.lt_or_ge 1 ck with h1 | h1
              · right; right; exact ⟨h, h1⟩
              · left
                obtain rfl : k = 9 := by omega
                have hp := wp.gv_take HLK.out
                have hp' := wp.gv_lt (l.take 9)
                have hp2 : 128 ^ (l.take 9).length ≤ 128 ^ 9 := Nat.pow_le_pow_right (by decide) (by simp; omega)
                have hp3 : 128 ^ 9 * (l[9].toNat % 128) ≤ 128 ^ 9 * 1 := Nat.mul_le_mul_left _ (by rw [HCK.out]; omega)
                omega
          have hcs : (9 ≤ k ∧ 1 < ck ∨ 0 < k ∧ ck ≤ 0) ∨ (k ≤ 8 ∧ 0 < ck ∨ k ≤ 0 ∨ 9 ≤ k ∧ 1 ≤ ck ∧ ck ≤ 1) := by omega
          rcases hcs with (⟨hx1, hx2⟩ | ⟨hx1, hx2⟩) | (⟨hx1, hx2⟩ | hx1 | ⟨hx1, hx2, hx3⟩)
          · have hk9 : ((k : Int) == 9) = true := by rw [beq_iff_eq]; omega
            go_wp2_with fail
            all_goals
              rw [Exit.noGoto_ret]
              go_ret3
              exact ⟨by rw [HS.out (by omega), if_pos (by omega)]; rfl, rfl⟩
          · have hc0 : ((ck : Int) == 0) = true := by rw [beq_iff_eq]; omega
            go_wp2_with fail
            all_goals
              rw [Exit.noGoto_ret]
              go_ret3
              exact ⟨by rw [HS.out (by omega), if_pos (by omega)]; rfl, rfl⟩
          · have hc0 : ((ck : Int) == 0) = false := by rw [beq_eq_false_iff_ne]; omega
            have hk9 : ((k : Int) == 9) = false := by rw [beq_eq_false_iff_ne]; omega
            go_wp2_with fail
            all_goals
              refine (unfold_any _ _ w (HO.out (by omega)) (by rcases HG.out with h | h | h <;> omega)).mono ?_
              rintro e w' ⟨rfl, rfl⟩
              go_wp2_with fail
              rw [Exit.noGoto_ret]
              go_ret3
              exact ⟨by rw [HS.out (by omega), if_neg (by omega)]; push_cast; rfl, rfl⟩
          · go_wp2_with fail
            all_goals
              refine (unfold_any _ _ w (HO.out (by omega)) (by rcases HG.out with h | h | h <;> omega)).mono ?_
              rintro e w' ⟨rfl, rfl⟩
              go_wp2_with fail
              rw [Exit.noGoto_ret]
              go_ret3
              exact ⟨by rw [HS.out (by omega), if_neg (by omega)]; push_cast; rfl, rfl⟩
          · have hc0 : ((ck : Int) == 0) = false := by rw [beq_eq_false_iff_ne]; omega
            have hk9 : ((k : Int) == 9) = true := by rw [beq_iff_eq]; omega
            go_wp2_with fail
            all_goals
              refine (unfold_any _ _ w (HO.out (by omega)) (by rcases HG.out with h | h | h <;> omega)).mono ?_
              rintro e w' ⟨rfl, rfl⟩
              go_wp2_with fail
              rw [Exit.noGoto_ret]
              go_ret3
              exact ⟨by rw [HS.out (by omega), if_neg (by omega)]; push_cast; rfl, rfl⟩
      · go_wp2_with fail
        all_goals
          rw [Exit.noGoto_ret]
          go_ret3
          exact ⟨by rw [wp.getI_none HH.out (by have := HM.out; omega), if_pos (by have := HLN.out; omega)]; rfl, rfl⟩
end Go.Proofs.Ytieipbobijnmlaa.wi

namespace Go.Proofs.Ytieipbobijnmlaa.wi

open Go.ChangeShapes Go.WideShapes Go.ChangeAt Go.RowKit

theorem size5 : (Try.prog.info? 5).map (·.size) = some 1 := by kernel_rfl

set_option maxRecDepth 100000 in
set_option maxHeartbeats 1000000 in
theorem getCount_any (A : Option Addr) (n c least : Nat) (l : List UInt8) (w : World) (hn : n ≤ c) (hc : c ≤ 9223372036854775807) (hln : l.length = n) (hl : wp.RB w A l) (h1 : 1 ≤ least) (h2 : least ≤ 1000) :
    Calls Try.prog 78 #[.slice A n c, .int .i64 (least : Int)] w fun e w' => e = .returned (.tuple #[.int .i64 (wp.getC l least).1, .int .i64 (wp.getC l least).2.1, .int .i64 (wp.getC l least).2.2]) ∧ w = w' := by
  have HG := Lib.hid (getInt_any A n c l w hn hc hln hl)
  have hf := wp.getI_facts l
  have HE : Hid (wp.getC l least = if (wp.getI l).2.2 ≠ 0 then (0, 0, (wp.getI l).2.2) else if (wp.getI l).1 < 0 then (0, 0, 11) else if ((n : Int) - (wp.getI l).2.1) / (least : Int) < (wp.getI l).1 then (0, 0, 10) else ((wp.getI l).1, (wp.getI l).2.1, 0)) := by
    show _ = _
    unfold wp.getC
    rw [hln]
  obtain ⟨f1, f2, f3, f4, f5, f6, f7, f8, -⟩ := hf
  rw [hln] at f4
  clear hl hln
  generalize wp.getI l = r at *
  obtain ⟨r1, r2, r3⟩ := r
  simp only at *
  have HR : Hid (wp.getC l least = if r3 ≠ 0 then (0, 0, r3) else if r1 < 0 then (0, 0, 11) else if ((n : Int) - r2) / (least : Int) < r1 then (0, 0, 10) else (r1, r2, 0)) := HE.out
  clear HE
  have hdiv : 0 ≤ ((n : Int) - r2) / (least : Int) := Int.ediv_nonneg (by omega) (by omega)
  by_cases h3 : 0 < r3
  · have hb : (r3 != 0) = true := by rw [bne_iff_ne]; omega
    go_enter Try.func78, Try.ntmps78
    go_wp2_with fail
    refine HG.out.mono ?_
    rintro e w' ⟨rfl, rfl⟩
    go_wp2_with fail
    go_ret3
    exact ⟨by rw [HR.out, if_pos (by omega)]; rfl, rfl⟩
  · have hb : (r3 != 0) = false := by rw [bne_eq_false_iff_eq]; omega
    by_cases h4 : r1 < 0
    · go_enter Try.func78, Try.ntmps78
      go_wp2_with fail
      refine HG.out.mono ?_
      rintro e w' ⟨rfl, rfl⟩
      go_wp2_with fail
      go_ret3
      exact ⟨by rw [HR.out, if_neg (by omega), if_pos (by omega)]; rfl, rfl⟩
    · by_cases h5 : ((n : Int) - r2) / (least : Int) < r1
      · go_enter Try.func78, Try.ntmps78
        go_wp2_with fail
        refine HG.out.mono ?_
        rintro e w' ⟨rfl, rfl⟩
        go_wp2_with fail
        go_ret3
        exact ⟨by rw [HR.out, if_neg (by omega), if_neg (by omega), if_pos h5]; rfl, rfl⟩
      · go_enter Try.func78, Try.ntmps78
        go_wp2_with fail
        refine HG.out.mono ?_
        rintro e w' ⟨rfl, rfl⟩
        go_wp2_with fail
        go_ret3
        exact ⟨by rw [HR.out, if_neg (by omega), if_neg (by omega), if_neg (Int.not_lt.2 h5)]; rfl, rfl⟩

end Go.Proofs.Ytieipbobijnmlaa.wi

namespace Go.Proofs.Ytieipbobijnmlaa.wi

open Go.ChangeShapes Go.WideShapes Go.ChangeAt Go.RowKit

theorem infoI : (Try.prog.info? 3).map (fun i => (i.zero, i.size, i.bytes)) = some (some (.int .i64 0), 1, 8) := by kernel_rfl
theorem infoS : (Try.prog.info? 9).map (fun i => (i.zero, i.size, i.bytes)) = some (some (.string ByteArray.empty), 1, 16) := by kernel_rfl

set_option maxRecDepth 100000 in
set_option maxHeartbeats 1000000 in
theorem getList_I (A : Option Addr) (n c : Nat) (l : List UInt8) (w : World) (hn : n ≤ c) (hc : c ≤ 9223372036854775807) (hln : l.length = n) (hl : wp.RB w A l) (h40 : n ≤ 1099511627776) :
    Calls Try.prog 69 #[.slice A n c, .int .i64 1, .func (.func 70) #[] #[]] w fun e w' => ∃ v, e = .returned (.tuple #[v, .int .i64 (wp.getL wp.getI 1 l).2.1, .int .i64 (wp.getL wp.getI 1 l).2.2]) ∧ w'.ownsRow w.heap.size 3 1 v (wp.getL wp.getI 1 l).1.length ((wp.getL wp.getI 1 l).1.map (Value.int .i64)) ∧ Below w.heap.size w w' := by
  obtain ⟨i0, hi, hz0, hz1, hz2⟩ := info_parts infoI
  have HG := Lib.hid (getCount_any A n c 1 l w hn hc hln hl (by decide) (by decide))
  have hf := wp.getC_facts l 1 (by decide)
  have hE : wp.getL wp.getI 1 l = if (wp.getC l 1).2.2 ≠ 0 then ([], 0, (wp.getC l 1).2.2) else wp.getN wp.getI l (wp.getC l 1).1.toNat [] (wp.getC l 1).2.1 := rfl
  obtain ⟨f1, f2, f3, f4, f5, f6, f7, -⟩ := hf
  rw [hln] at f2 f4
  have HL := Lib.hid hl
  have HLN := Lib.hid hln
  clear hl hln
  have HE := Lib.hid hE
  clear hE
  generalize wp.getC l 1 = r at *
  obtain ⟨r1, r2, r3⟩ := r
  dsimp only at *
  generalize wp.getL wp.getI 1 l = RES at *
  obtain ⟨cnt, rfl⟩ := Int.eq_ofNat_of_zero_le f1
  rw [Int.toNat_natCast] at HE
  by_cases h3 : 0 < r3
  · have hb : (r3 != 0) = true := by rw [bne_iff_ne]; omega
    go_enter Try.func69, Try.ntmps69
    go_wp2_with fail
    refine HG.out.mono ?_
    rintro e w' ⟨rfl, rfl⟩
    go_wp2_with fail
    go_ret3
    exact ⟨_, by rw [HE.out, if_pos (by omega)]; rfl, by rw [HE.out, if_pos (by omega)]; exact World.ownsRow_nil _ _ _ _, Below.refl _ _⟩
  · have hb : (r3 != 0) = false := by rw [bne_eq_false_iff_eq]; omega
    have HE' : Hid (RES = wp.getN wp.getI l cnt [] r2) := by show _ = _; rw [HE.out, if_neg (by omega)]
    clear HE f5 f6 f7 f1
    go_enter Try.func69, Try.ntmps69
    go_wp2_with fail
    refine HG.out.mono ?_
    rintro e w' ⟨rfl, rfl⟩
    clear HG
    go_wp2_with (at_make; refine wpList_make_own _ rfl _ _ 22 rfl w.heap.size 3 i0 (.int .i64 0) 1 Try.underlying22 hi hz0 hz1 _ _ _ cnt rfl rfl rfl ?b2 ?b3 ?b4 ?_)
    case b2 => rw [hz2]; omega
    case b3 => unfold maxLen; omega
    case b4 => exact Nat.le_refl _
    intro w1 hown1 hgr1
    have hbel1 : Below w.heap.size w w1 := (Below.refl _ _).grown hgr1 (Nat.le_refl _) (fun k hk => by cases hk)
    go_wp2_with fail
    generalize hB : w.heap.size = B at *
    have HB := Lib.hid hB
    clear hB
    go_loopg [10, 12, 29] cnt (fun g u v x wr => ∃ (k : Nat) (used : Int) (acc : List Int), k + g = cnt ∧ x = .int .i64 (k : Int) ∧ u = .int .i64 used ∧ 0 ≤ used ∧ used ≤ n ∧ acc.length = k ∧ wp.getN wp.getI l g acc used = RES ∧ wr.ownsRow B 3 1 v k (acc.map (Value.int .i64)) ∧ Below B w wr)
    case atStart => exact ⟨0, r2, [], by omega, rfl, rfl, by omega, by omega, rfl, HE'.out.symm, hown1, hbel1⟩
    case round =>
      obtain ⟨k, used, acc, hk, rfl, rfl, hu0, hun, hacc, hres, hown, hbel⟩ := hrel
      have HK := Lib.hid hk
      have HACC := Lib.hid hacc
      have hkc : k ≤ cnt := by omega
      have HBW : Hid (B ≤ wr.heap.size) := by have := hbel.size; have := HB.out; show _ ≤ _; omega
      clear hk hown1 hbel1 hacc
      by_cases hlt : k < cnt
      · obtain ⟨g, rfl⟩ : ∃ g, gk = g + 1 := ⟨gk - 1, by have := HK.out; omega⟩
        have hrb : wp.RB wr A l := wk.RB.below HL.out (by rw [HB.out]; exact hbel)
        obtain ⟨A2, m, c2, hcut, hm2, hc2, hlen2, hrb2⟩ := wk.cut_l (P := Try.prog) wr 42 5 Try.underlying42 size5 A n c l HLN.out hn hrb used hu0 hun
        have HC := Lib.hid (getInt_any A2 m c2 (l.drop used.toNat) wr hm2 (by omega) hlen2 hrb2)
        have hfo := wp.getI_facts (l.drop used.toNat)
        have hlen3 : ((l.drop used.toNat).length : Int) = n - used := by rw [List.length_drop, HLN.out]; omega
        rw [hlen3] at hfo
        rw [wp.getN] at hres
        have HRES := Lib.hid hres
        clear hres hrb hlen2 hrb2 hlen3
        generalize wp.getI (l.drop used.toNat) = s at *
        obtain ⟨s1, s2, s3⟩ := s
        dsimp only at *
        obtain ⟨g1, g2, g3, g4, g5, g6, g7, g8, -⟩ := hfo
        have hkm : k + 1 ≤ 1099511627776 := by omega
        clear f2 f4
        by_cases h4 : 0 < s3
        · have hb4 : (s3 != 0) = true := by rw [bne_iff_ne]; omega
          go_wp2_with fail
          refine HC.out.mono ?_
          rintro e w' ⟨rfl, rfl⟩
          go_wp2_with fail
          go_ret3
          have hr := HRES.out
          rw [if_pos (by omega)] at hr
          exact ⟨_, by rw [← hr]; rfl, by rw [← hr]; exact World.ownsRow_nil _ _ _ _, by rw [HB.out]; exact hbel⟩
        · have hb4 : (s3 != 0) = false := by rw [bne_eq_false_iff_eq]; omega
          go_wp2_with fail
          refine HC.out.mono ?_
          rintro e w' ⟨rfl, rfl⟩
          go_wp2_with (at_builtin; refine wpList_append_own _ rfl _ _ 22 rfl B 3 i0 (.int .i64 0) 1 8 Try.underlying22 hi hz0 hz1 hz2 rfl (by decide) _ _ _ rfl (hown.alloc _) ⟨wr.heap.size, 0, none⟩ 1 1 [.int .i64 s1] rfl rfl ?c1 ?c2 ?c3 ?c4 ?c5 ?_)
          case c1 => exact cell_one_new _ _ _
          case c2 => simp [Value.oneCell']
          case c3 => unfold maxLen; omega
          case c4 => omega
          case c5 => have := HBW.out; simp; omega
          intro v' w2 hown2 hgrow _
          go_wp2_with fail
          go_roundg g
          case measure => omega
          case rel =>
            refine ⟨k + 1, used + s2, acc ++ [s1], by have := HK.out; omega, by go_num, rfl, by omega, by omega, by simp [HACC.out], ?_, by simpa using hown2, (hbel.alloc HBW.out _).grown hgrow (by have := HBW.out; simp; omega) (fun q hq => (hown.lt q hq).1)⟩
            have hr := HRES.out
            rw [if_neg (by omega)] at hr
            exact hr
      · have hg : gk = 0 := by have := HK.out; omega
        subst hg
        rw [wp.getN] at hres
        have HRES := Lib.hid hres
        clear hres
        go_wp2_with fail
        go_ret3
        exact ⟨_, by rw [← HRES.out]; rfl, by rw [← HRES.out, HACC.out, HB.out]; exact hown, by rw [HB.out]; exact hbel⟩

theorem getInts_any (A : Option Addr) (n c : Nat) (l : List UInt8) (w : World) (hn : n ≤ c) (hc : c ≤ 9223372036854775807) (hln : l.length = n) (hl : wp.RB w A l) (h40 : n ≤ 1099511627776) :
    Calls Try.prog 57 #[.slice A n c] w fun e w' => ∃ v, e = .returned (.tuple #[v, .int .i64 (wp.getL wp.getI 1 l).2.1, .int .i64 (wp.getL wp.getI 1 l).2.2]) ∧ w'.ownsRow w.heap.size 3 1 v (wp.getL wp.getI 1 l).1.length ((wp.getL wp.getI 1 l).1.map (Value.int .i64)) ∧ Below w.heap.size w w' := by
  have H := Lib.hid (getList_I A n c l w hn hc hln hl h40)
  clear hl hln
  generalize wp.getL wp.getI 1 l = RES at *
  go_enter Try.func57, Try.ntmps57
  go_wp2_with fail
  refine H.out.mono ?_
  rintro e w1 ⟨v1, rfl, hown1, hbel1⟩
  go_wp2_with fail
  go_ret3
  exact ⟨v1, rfl, hown1, hbel1⟩

end Go.Proofs.Ytieipbobijnmlaa.wi

namespace Go.Proofs.Ytieipbobijnmlaa.wi

open Go.ChangeShapes Go.WideShapes Go.ChangeAt Go.RowKit
/-- a fresh row of bytes is handed back -/
def OutB (l : List UInt8) (w : World) (e : Ending) (w' : World) : Prop :=
  ∃ v, e = .returned v ∧ w'.ownsRow w.heap.size 5 1 v l.length (wp.bc l) ∧ Below w.heap.size w w'

theorem int_out (n : Int) (w : World) (h0 : -9223372036854775808 ≤ n) (h1 : n ≤ 9223372036854775807) :
    Calls Try.prog 76 #[.int .i64 n] w (OutB (wp.encI n) w) := by
  go_enter Try.func76, Try.ntmps76
  go_wp2_with fail
  refine (appendInt_own w.heap.size 0 _ [] n w h0 h1 (World.ownsRow_nil _ _ _ _) (Nat.le_refl _) (by decide)).mono ?_
  rintro e w1 ⟨v1, rfl, hown1, hbel1⟩
  go_wp2
  go_ret
  exact ⟨v1, rfl, by simpa using hown1, hbel1⟩

set_option maxRecDepth 100000 in
set_option maxHeartbeats 1000000 in
theorem listInts (A : Option Addr) (n c : Nat) (l : List Int) (w : World) (hn : l.length = n) (hnc : n ≤ c) (hc : c ≤ 9223372036854775807)
    (hl : wp.RC w A (l.map (Value.int .i64))) (hwf : ∀ x ∈ l, -9223372036854775808 ≤ x ∧ x ≤ 9223372036854775807) (htot : (wp.encIs l).length + 10 ≤ 140737488355328) :
    Calls Try.prog 67 #[.slice A n c, .func (.func 68) #[] #[]] w (OutB (wp.encIs l) w) := by
  have HL := Lib.hid hl
  have HN := Lib.hid hn
  have HT := Lib.hid htot
  have HW := Lib.hid hwf
  clear hl hn htot hwf
  have hint : ∀ (n : Nat) (w : World), n ≤ 9223372036854775807 → Calls Try.prog 76 #[.int .i64 (n : Int)] w (OutB (wp.encI (n : Int)) w) := fun n w h => int_out (n : Int) w (by omega) (by omega)
  have HI := Lib.hid hint
  clear hint
  go_enter Try.func67, Try.ntmps67
  go_wp2_with fail
  refine (HI.out n w (by omega)).mono ?_
  rintro e w1 ⟨v1, rfl, hown1, hbel1⟩
  go_wp2_with fail
  generalize hB : w.heap.size = B at *
  have HB := Lib.hid hB
  clear hB
  go_loopg [5, 13] n (fun g v x wr => ∃ k : Nat, k + g = n ∧ x = .int .i64 (k : Int) ∧ wr.ownsRow B 5 1 v ((wp.encI (n : Int)).length + ((l.take k).flatMap wp.encI).length) (wp.bc (wp.encI (n : Int)) ++ wp.bc ((l.take k).flatMap wp.encI)) ∧ Below B w wr)
  case atStart => exact ⟨0, by omega, rfl, by simpa [wp.bc] using hown1, hbel1⟩
  case round =>
    obtain ⟨k, hk, rfl, hown, hbel⟩ := hrel
    have HK := Lib.hid hk
    have hkn : k ≤ n := by omega
    have HBW : Hid (B ≤ wr.heap.size) := by have := hbel.size; have := HB.out; show _ ≤ _; omega
    clear hk hown1 hbel1
    by_cases hlt : k < n
    · have hkl : k < l.length := by have := HN.out; omega
      obtain ⟨b, o, rfl, hbw, hcell⟩ := HL.out (by simp; omega)
      have hlk : l[k]? = some l[k] := List.getElem?_eq_getElem hkl
      have hck : wr.cell? ⟨b, o + k, none⟩ = some (.int .i64 l[k]) := by
        rw [hbel.cell (p := ⟨b, o + k, none⟩) (by rw [← HB.out]; exact hbw)]
        exact hcell k _ (by simp [hlk])
      have HLK := Lib.hid hlk
      have HX := Lib.hid (HW.out l[k] (List.getElem_mem hkl))
      have HS := Lib.hid (wp.flat_snoc wp.encI hlk)
      clear hcell hlk
      generalize l[k] = x at *
      go_wp2_with fail
      refine (appendInt_own B _ _ _ x wr HX.out.1 HX.out.2 hown HBW.out ?_).mono ?_
      · have h1 := HT.out
        have h2 := wp.flat_le wp.encI l k
        unfold wp.encIs at h1
        rw [List.length_append, HN.out] at h1
        omega
      rintro e w2 ⟨v2, rfl, hown2, hbel2⟩
      go_wp2_with fail
      go_roundg (gk - 1)
      case measure => have := HK.out; omega
      case rel =>
        refine ⟨k + 1, by have := HK.out; omega, by go_num, ?_, hbel.trans hbel2⟩
        rw [HS.out, wp.bc_append, List.length_append, ← Nat.add_assoc, ← List.append_assoc]
        exact hown2
    · go_wp2_with fail
      go_ret
      have hkl : k = l.length := by have := HN.out; omega
      refine ⟨_, rfl, ?_, by rw [HB.out]; exact hbel⟩
      unfold wp.encIs
      rw [HB.out, wp.bc_append, List.length_append, HN.out]
      have : l.take k = l := by rw [hkl]; exact List.take_length
      rw [this] at hown
      exact hown

theorem ints_out (A : Option Addr) (n c : Nat) (l : List Int) (w : World) (hn : l.length = n) (hnc : n ≤ c) (hc : c ≤ 9223372036854775807)
    (hl : wp.RC w A (l.map (Value.int .i64))) (hwf : ∀ x ∈ l, -9223372036854775808 ≤ x ∧ x ≤ 9223372036854775807) (htot : (wp.encIs l).length + 10 ≤ 140737488355328) :
    Calls Try.prog 56 #[.slice A n c] w (OutB (wp.encIs l) w) := by
  have H := Lib.hid (listInts A n c l w hn hnc hc hl hwf htot)
  clear hn hl hwf htot
  go_enter Try.func56, Try.ntmps56
  go_wp2_with fail
  refine H.out.mono ?_
  rintro e w1 ⟨v1, rfl, hown1, hbel1⟩
  go_wp2_with fail
  go_ret
  exact ⟨v1, rfl, hown1, hbel1⟩
end Go.Proofs.Ytieipbobijnmlaa.wi

namespace Go.Proofs.Ytieipbobijnmlaa.wi

open Go.ChangeShapes Go.WideShapes Go.ChangeAt Go.RowKit
/-- the value of a digest -/
def dg (d : List UInt8) : Value := .agg (wp.bc d).toArray

end Go.Proofs.Ytieipbobijnmlaa.wi
