/- How what comes in is opened: a slice's elements as a list. No program here. -/
import Derived.Test.YtlcdjabfkfmpdaaKit2

import Derived.OpenShut

import Derived.ShutString

import Derived.ChangeOld

import Derived.SliceStrings

import Derived.Below

namespace Go.Proofs.Ytlcdjabfkfmpdaa.wo

open Go.ChangeShapes Go.WideShapes Go.ChangeAt Go.RowKit

def IsB (w : World) (A : Option Addr) (n c : Nat) (l : List UInt8) : Prop := l.length = n ∧ n ≤ c ∧ c ≤ 9223372036854775807 ∧ wp.RB w A l
def IsI (w : World) (A : Option Addr) (n c : Nat) (l : List Int) : Prop := l.length = n ∧ n ≤ c ∧ c ≤ 9223372036854775807 ∧ wp.RC w A (l.map (Value.int .i64)) ∧ ∀ x ∈ l, -9223372036854775808 ≤ x ∧ x ≤ 9223372036854775807
def IsS (w : World) (A : Option Addr) (n c : Nat) (l : List ByteArray) : Prop := l.length = n ∧ n ≤ c ∧ c ≤ 9223372036854775807 ∧ wp.RC w A (l.map Value.string) ∧ ∀ s ∈ l, s.size ≤ maxLen
def IsD (w : World) (A : Option Addr) (n c : Nat) (l : List (List UInt8)) : Prop := l.length = n ∧ n ≤ c ∧ c ≤ 9223372036854775807 ∧ wp.RC w A (l.flatMap wp.bc) ∧ ∀ d ∈ l, d.length = 16

theorem exists_list {α : Type} {Q : Nat → α → Prop} : ∀ (n : Nat), (∀ i, i < n → ∃ d, Q i d) → ∃ l : List α, l.length = n ∧ ∀ i d, l[i]? = some d → Q i d
  | 0, _ => ⟨[], rfl, fun i d h => by simp at h⟩
  | n + 1, h => by
    obtain ⟨l, hl, hq⟩ := exists_list n fun i hi => h i (by omega)
    obtain ⟨d, hd⟩ := h n (by omega)
    refine ⟨l ++ [d], by simp [hl], fun i e he => ?_⟩
    rcases Nat.lt_trichotomy i n with hi | hi | hi
    · rw [List.getElem?_append_left (by omega)] at he
      exact hq i e he
    · subst hi
      rw [List.getElem?_append_right (by omega), hl] at he
      simp at he
      rw [← he]; exact hd
    · rw [List.getElem?_eq_none (by simp; omega)] at he; cases he

section

variable {H : Type} {enc : TypeId × Value → H} {P : Program} {w : World} {base : Nat} {spare : Nat → Bool} {held : Bool} {t e : TypeId} {a : Option Addr} {n c fuel : Nat} {x : DataW H × List MemPlace}

theorem at_plain {ad : Addr} {v : Value} (h : w.cell? (ad.add 0) = some v) : ∃ b o, ad = ⟨b, o, none⟩ := by
  obtain ⟨b, o, spot⟩ := ad
  have hspot : spot = none := by simpa [Addr.add] using World.cell?_spot h
  subst hspot
  exact ⟨b, o, rfl⟩

/-- a row that reads cell by cell -/
theorem rc_of {ad : Addr} {xs : List Value} (h : ∀ i u, xs[i]? = some u → w.cell? (ad.add i) = some u) : wp.RC w (some ad) xs := fun hl => by
  have h0 := h 0 xs[0] (List.getElem?_eq_getElem hl)
  obtain ⟨b, o, rfl⟩ := at_plain h0
  have hb := block_lt_of_cell h0
  refine ⟨b, o, rfl, by rw [wk.add_at] at hb; exact hb, fun j u hu => ?_⟩
  have := h j u hu
  rw [wk.add_at] at this
  exact this

theorem openI (ht : P.underlying t = some (.slice e)) (he : P.underlying e = some (.int .i64)) (hc : P.cellsOf e = 1) (h : DataW.trod enc P w base spare held fuel t [.slice a n c] = some x) : ∃ l, IsI w a n c l := by
  rcases open_ints ht he hc h with ⟨hcs, _⟩ | ⟨ad, l, c', zs, hcs, _, hl, hm, hz, _, hcell, hwz⟩
  · simp only [List.cons.injEq, Value.slice.injEq, and_true] at hcs
    obtain ⟨rfl, rfl, rfl⟩ := hcs
    exact ⟨[], rfl, Nat.le_refl _, by omega, fun h => absurd h (by simp), by simp⟩
  · simp only [List.cons.injEq, Value.slice.injEq, and_true] at hcs
    obtain ⟨rfl, rfl, rfl⟩ := hcs
    have hzl : n ≤ zs.length := by rw [hz]; split <;> omega
    refine ⟨zs.take n, by simp; omega, hl, by unfold maxLen at hm; omega, rc_of fun i u hu => ?_, fun y hy => ?_⟩
    · have hi : i < n := by
        rcases Nat.lt_or_ge i n with h' | h'
        · exact h'
        · rw [List.getElem?_eq_none (by simp; omega)] at hu; cases hu
      rw [hcell i (by omega), ← hu]
      simp [List.getD, List.getElem?_take_of_lt hi, List.getElem?_eq_getElem (show i < zs.length by omega)]
    · have := hwz y (List.mem_of_mem_take hy)
      simpa [Lit.wf, IntKind.min, IntKind.max, IntKind.signed, IntKind.bits] using this

theorem openB (ht : P.underlying t = some (.slice e)) (he : P.underlying e = some (.int .u8)) (hc : P.cellsOf e = 1) (h : DataW.trod enc P w base spare held fuel t [.slice a n c] = some x) : ∃ l, IsB w a n c l := by
  rcases open_ints ht he hc h with ⟨hcs, _⟩ | ⟨ad, l, c', zs, hcs, _, hl, hm, hz, _, hcell, hwz⟩
  · simp only [List.cons.injEq, Value.slice.injEq, and_true] at hcs
    obtain ⟨rfl, rfl, rfl⟩ := hcs
    exact ⟨[], rfl, Nat.le_refl _, by omega, fun h => absurd h (by simp)⟩
  · simp only [List.cons.injEq, Value.slice.injEq, and_true] at hcs
    obtain ⟨rfl, rfl, rfl⟩ := hcs
    have hzl : n ≤ zs.length := by rw [hz]; split <;> omega
    refine ⟨(zs.take n).map fun z => UInt8.ofNat z.toNat, by simp; omega, hl, by unfold maxLen at hm; omega, wp.RC.rb (rc_of fun i u hu => ?_)⟩
    have hi : i < n := by
      rcases Nat.lt_or_ge i n with h' | h'
      · exact h'
      · rw [List.getElem?_eq_none (by simp [wp.bc]; omega)] at hu; cases hu
    have hiz : i < zs.length := by omega
    have hw := hwz zs[i] (List.getElem_mem hiz)
    have hw' : 0 ≤ zs[i] ∧ zs[i] ≤ 255 := by simpa [Lit.wf, IntKind.min, IntKind.max, IntKind.signed, IntKind.bits] using hw
    rw [hcell i (by omega), ← hu]
    simp only [wp.bc, List.map_map, List.getElem?_map, List.getElem?_take_of_lt hi, List.getElem?_eq_getElem hiz, Option.map_some, Function.comp, List.getD, Option.getD_some]
    congr 2
    simp only [UInt8.toNat_ofNat']
    omega

theorem openS (ht : P.underlying t = some (.slice e)) (he : P.underlying e = some .string) (hc : P.cellsOf e = 1) (h : DataW.trod enc P w base spare held fuel t [.slice a n c] = some x) : ∃ l, IsS w a n c l := by
  rcases open_strings ht he hc h with ⟨hcs, _⟩ | ⟨ad, l, c', ss, hcs, _, hl, hm, hz, _, hcell, hws⟩
  · simp only [List.cons.injEq, Value.slice.injEq, and_true] at hcs
    obtain ⟨rfl, rfl, rfl⟩ := hcs
    exact ⟨[], rfl, Nat.le_refl _, by omega, fun h => absurd h (by simp), by simp⟩
  · simp only [List.cons.injEq, Value.slice.injEq, and_true] at hcs
    obtain ⟨rfl, rfl, rfl⟩ := hcs
    have hzl : n ≤ ss.length := by rw [hz]; split <;> omega
    refine ⟨ss.take n, by simp; omega, hl, by unfold maxLen at hm; omega, rc_of fun i u hu => ?_, fun y hy => hws y (List.mem_of_mem_take hy)⟩
    have hi : i < n := by
      rcases Nat.lt_or_ge i n with h' | h'
      · exact h'
      · rw [List.getElem?_eq_none (by simp; omega)] at hu; cases hu
    rw [hcell i (by omega), ← hu]
    simp [List.getD, List.getElem?_take_of_lt hi, List.getElem?_eq_getElem (show i < ss.length by omega)]

theorem openD {e8 : TypeId} (ht : P.underlying t = some (.slice e)) (he : P.underlying e = some (.array 16 e8)) (h8 : P.underlying e8 = some (.int .u8)) (hc : P.cellsOf e = 16) (hc8 : P.cellsOf e8 = 1)
    (h : DataW.trod enc P w base spare held fuel t [.slice a n c] = some x) : ∃ l, IsD w a n c l := by
  rcases DataW.trod_slice ht h with ⟨hcs, _⟩ | ⟨ad, len, cap, elems, rest, m, _, hcs, _, hb, hl, hm, hlen, hel, _⟩
  · simp only [List.cons.injEq, Value.slice.injEq, and_true] at hcs
    obtain ⟨rfl, rfl, rfl⟩ := hcs
    exact ⟨[], rfl, Nat.le_refl _, by omega, fun h => absurd h (by simp), by simp⟩
  · simp only [List.cons.injEq, Value.slice.injEq, and_true] at hcs
    obtain ⟨rfl, rfl, rfl⟩ := hcs
    rw [hc] at hel
    have hone : ∀ i, i < n → ∃ d : List UInt8, d.length = 16 ∧ w.cells? base (ad.add (i * 16)) 16 = some (wp.bc d) := fun i hi => by
      have hi' := hel i hi
      rw [List.getElem?_eq_getElem (by omega)] at hi'
      cases hcc : w.cells? base (ad.add (i * 16)) 16 with
      | none => rw [hcc] at hi'; simp at hi'
      | some cs =>
        rw [hcc] at hi'
        simp only [Option.bind_some] at hi'
        obtain ⟨xs, m', _, _, hcl, hxl, hat⟩ := DataW.trod_array he hi'
        rw [hc] at hcl
        rw [hc8] at hat
        have hj : ∀ j, j < 16 → ∃ u : UInt8, cs[j]? = some (.int .u8 (u.toNat : Int)) := fun j hj => by
          have h1 := hat j hj
          rw [List.getElem?_eq_getElem (by omega), Nat.mul_one] at h1
          obtain ⟨z, hz, _, hwf⟩ := DataW.trod_int h8 h1
          have hzb : 0 ≤ z ∧ z ≤ 255 := by simpa [Lit.wf, IntKind.min, IntKind.max, IntKind.signed, IntKind.bits] using hwf
          refine ⟨UInt8.ofNat z.toNat, ?_⟩
          have h2 : ((cs.drop j).take 1)[0]? = some (.int .u8 z) := by rw [hz]; rfl
          rw [List.getElem?_take_of_lt (by omega), List.getElem?_drop, Nat.add_zero] at h2
          rw [h2]
          congr 2
          simp only [UInt8.toNat_ofNat']
          omega
        obtain ⟨d, hd, hdq⟩ := exists_list 16 hj
        refine ⟨d, hd, ?_⟩
        congr 1
        apply List.ext_getElem?
        intro j
        rcases Nat.lt_or_ge j 16 with h16 | h16
        · rw [hdq j d[j] (List.getElem?_eq_getElem (by omega))]
          simp [wp.bc, List.getElem?_eq_getElem (show j < d.length by omega)]
        · rw [List.getElem?_eq_none (by omega), List.getElem?_eq_none (by rw [wp.bc_length]; omega)]
    obtain ⟨l, hll, hlq⟩ := exists_list n hone
    have h16 : ∀ d ∈ l, d.length = 16 := fun d hd => by
      obtain ⟨i, hi, rfl⟩ := List.mem_iff_getElem.1 hd
      exact (hlq i _ (List.getElem?_eq_getElem hi)).1
    refine ⟨l, hll, hl, by unfold maxLen at hm; omega, rc_of fun i u hu => ?_, h16⟩
    have hfl := wp.flat_bc_length h16
    have hi : i < 16 * l.length := by
      rcases Nat.lt_or_ge i (l.flatMap wp.bc).length with h' | h'
      · omega
      · rw [List.getElem?_eq_none h'] at hu; cases hu
    have hk : i / 16 < l.length := by omega
    obtain ⟨hd, hcc⟩ := hlq (i / 16) l[i / 16] (List.getElem?_eq_getElem hk)
    obtain ⟨_, _, hcell⟩ := World.cells?_some hcc
    have h1 := hcell (i % 16) (by omega)
    have h2 := wp.flat_bc_at h16 (List.getElem?_eq_getElem hk) (j := i % 16) (u := (wp.bc l[i / 16])[i % 16]'(by rw [wp.bc_length]; omega)) (List.getElem?_eq_getElem _)
    rw [show 16 * (i / 16) + i % 16 = i by omega, hu] at h2
    have e1 : (ad.add (i / 16 * 16)).add (i % 16) = ad.add i := by
      unfold Addr.add
      by_cases ha : i / 16 * 16 = 0 <;> by_cases hb' : i % 16 = 0 <;> by_cases hc' : i = 0 <;> simp [ha, hb', hc'] <;> omega
    rw [e1] at h1
    rw [h1, h2, List.getElem?_eq_getElem (by rw [wp.bc_length]; omega)]
end

end Go.Proofs.Ytlcdjabfkfmpdaa.wo
