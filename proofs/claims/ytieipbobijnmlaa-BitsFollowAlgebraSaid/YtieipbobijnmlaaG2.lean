/- Joined: DecD Cmp Qa Qb Open Qc Kit3 Kit4 Kit5 Kit6 Kit7 Kit8. -/
import Derived.Test.YtieipbobijnmlaaG1

import Derived.Deep.QuietTactic

import Derived.BigQuiet

import Derived.OpenShut

import Derived.ShutString

import Derived.ChangeOld

import Derived.SliceStrings

import Derived.Below

import Derived.Deep.RegionLaw

import Derived.Lib.Strings

import Derived.Deep.MidRow

import Derived.Deep.RegionHeld3

import Derived.Lib.ConvBytes

import Derived.Laws.AppendOwn

import Derived.StillTailTactics

namespace Go.Proofs.Ytieipbobijnmlaa.wi

open Go.ChangeShapes Go.WideShapes Go.ChangeAt Go.RowKit

set_option linter.unusedVariables false
def zeroD : Value := .agg (Array.replicate 16 (.int .u8 0))
end Go.Proofs.Ytieipbobijnmlaa.wi

namespace Go.Proofs.Ytieipbobijnmlaa.wi

open Go.ChangeShapes Go.WideShapes Go.ChangeAt Go.RowKit

set_option linter.unusedVariables false
/-- cells that one-cell reading gives -/
theorem RC_at {w : World} {A : Option Addr} {xs : List Value} (h : wp.RC w A xs) {k : Nat} {u : Value} (hk : xs[k]? = some u) : ∃ b o, A = some ⟨b, o, none⟩ ∧ w.cell? ⟨b, o + k, none⟩ = some u := by
  have hl : k < xs.length := by
    rcases Nat.lt_or_ge k xs.length with h' | h'
    · exact h'
    · rw [List.getElem?_eq_none h'] at hk; cases hk
  obtain ⟨b, o, hA, _, hc⟩ := h (by omega)
  exact ⟨b, o, hA, hc k u hk⟩

set_option maxRecDepth 100000 in
theorem sameInts_true (A A' : Option Addr) (n c c' : Nat) (l : List Int) (w : World) (hn : l.length = n) (hnc : n ≤ 9223372036854775806) (h : wp.RC w A (l.map (Value.int .i64))) (h' : wp.RC w A' (l.map (Value.int .i64))) :
    Calls Try.prog 22 #[.slice A n c, .slice A' n c'] w fun e w' => e = .returned (.bool true) ∧ ∃ q, w' = w.drewN q := by
  have HN := Lib.hid hn
  have H := Lib.hid h
  have H' := Lib.hid h'
  clear hn h h'
  go_enter Try.func22, Try.ntmps22
  go_wp2_with fail
  go_loopg [5] n (fun g x wr => ∃ (k q : Nat), k + g = n ∧ x = .int .i64 (k : Int) ∧ wr = w.drewN q)
  case atStart => exact ⟨0, 0, by omega, rfl, rfl⟩
  case round =>
    obtain ⟨k, q, hk, rfl, rfl⟩ := hrel
    have HK := Lib.hid hk
    have hkn : k ≤ n := by omega
    clear hk
    by_cases hlt : k < n
    · have hkl : k < l.length := by have := HN.out; omega
      obtain ⟨b, o, rfl, hc1⟩ := RC_at H.out (k := k) (u := .int .i64 l[k]) (by simp [List.getElem?_eq_getElem hkl])
      obtain ⟨b', o', rfl, hc2⟩ := RC_at H'.out (k := k) (u := .int .i64 l[k]) (by simp [List.getElem?_eq_getElem hkl])
      generalize l[k] = x at *
      go_wp2_with fail
      go_quiet (fail)
      go_wp2_with fail
      go_roundg (gk - 1)
      case measure => have := HK.out; omega
      case rel => exact ⟨k + 1, _, by have := HK.out; omega, by go_num, rfl⟩
    · go_wp2_with fail
      go_ret
      exact ⟨rfl, q, rfl⟩
end Go.Proofs.Ytieipbobijnmlaa.wi
/- Vectors, plainly: sums over lists of integers. No program here. -/
namespace Go.Proofs.Ytieipbobijnmlaa.vq
theorem two {α : Type} {P : List α → List α → Prop} (h0 : P [] []) (h1 : ∀ x y a b, a.length = b.length → P a b → P (x :: a) (y :: b)) : ∀ a b, a.length = b.length → P a b
  | [], [], _ => h0
  | x :: a, y :: b, h => by
    have h' : a.length = b.length := by simpa using h
    exact h1 x y a b h' (two h0 h1 a b h')
  | [], _ :: _, h => by simp at h
  | _ :: _, [], h => by simp at h
def okc (x : Int) : Bool := decide (-1000 ≤ x) && decide (x ≤ 1000)
theorem okc_iff {x : Int} : okc x = true ↔ -1000 ≤ x ∧ x ≤ 1000 := by simp [okc]
def valid (v : List Int) : Bool := decide (1 ≤ v.length) && decide (v.length ≤ 32) && v.all okc
def alike (a b : List Int) : Bool := decide (a.length = b.length) && valid a && valid b
structure Vec (v : List Int) : Prop where
  pos : 1 ≤ v.length
  le : v.length ≤ 32
  lo : ∀ x ∈ v, -1000 ≤ x
  hi : ∀ x ∈ v, x ≤ 1000
theorem valid_iff {v : List Int} : valid v = true ↔ Vec v := by
  simp only [valid, Bool.and_eq_true, decide_eq_true_eq, List.all_eq_true, okc_iff]
  exact ⟨fun ⟨⟨h1, h2⟩, h3⟩ => ⟨h1, h2, fun x hx => (h3 x hx).1, fun x hx => (h3 x hx).2⟩, fun h => ⟨⟨h.pos, h.le⟩, fun x hx => ⟨h.lo x hx, h.hi x hx⟩⟩⟩
theorem alike_iff {a b : List Int} : alike a b = true ↔ a.length = b.length ∧ Vec a ∧ Vec b := by
  simp [alike, valid_iff, and_assoc]
def sub (a b : List Int) : List Int := (a.zip b).map fun p => p.1 - p.2
theorem sub_length {a b : List Int} (h : a.length = b.length) : (sub a b).length = a.length := by simp [sub, h]
def dot (a b : List Int) : Int := (a.zip b).foldl (fun s p => s + p.1 * p.2) 0
def grow (m n x : Int) : Int := if m = 1 then n + max x (-x) else if m = 2 then n + x * x else if m = 3 then max (max n x) (-x) else 0
def norm (m : Int) (v : List Int) : Int := v.foldl (grow m) 0
def key (m : Int) (a b : List Int) : Int := norm m (sub a b)
def sm : List Int → Int
  | [] => 0
  | x :: l => x + sm l
theorem foldl_sm (f : Int → Int) : ∀ (l : List Int) (c : Int), l.foldl (fun s x => s + f x) c = c + sm (l.map f)
  | [], c => by simp [sm]
  | x :: l, c => by simp only [List.foldl_cons, foldl_sm f l, List.map_cons, sm]; omega
theorem foldl_sm2 (f : Int × Int → Int) : ∀ (l : List (Int × Int)) (c : Int), l.foldl (fun s x => s + f x) c = c + sm (l.map f)
  | [], c => by simp [sm]
  | x :: l, c => by simp only [List.foldl_cons, foldl_sm2 f l, List.map_cons, sm]; omega
def ab (x : Int) : Int := max x (-x)
def mx : List Int → Int
  | [] => 0
  | x :: l => max (ab x) (mx l)
theorem norm1 (v : List Int) : norm 1 v = sm (v.map ab) := by
  have : grow 1 = fun s x => s + ab x := by funext n x; simp [grow, ab]
  rw [norm, this, foldl_sm]; omega
theorem norm2 (v : List Int) : norm 2 v = sm (v.map fun x => x * x) := by
  have : grow 2 = fun s x => s + x * x := by funext n x; simp [grow]
  rw [norm, this, foldl_sm]; omega
theorem mx_nonneg : ∀ l, 0 ≤ mx l
  | [] => by simp [mx]
  | x :: l => by have := mx_nonneg l; simp only [mx]; omega
theorem foldl_mx : ∀ (l : List Int) (c : Int), 0 ≤ c → l.foldl (grow 3) c = max c (mx l)
  | [], c, h => by simp [mx]; omega
  | x :: l, c, h => by
    have e : grow 3 c x = max c (ab x) := by simp only [grow, ab]; simp
    simp only [List.foldl_cons, e, foldl_mx l _ (show 0 ≤ max c (ab x) by omega), mx]; omega
theorem norm3 (v : List Int) : norm 3 v = mx v := by
  rw [norm, foldl_mx v 0 (by omega)]; have := mx_nonneg v; omega
theorem dot_sm (a b : List Int) : dot a b = sm ((a.zip b).map fun p => p.1 * p.2) := by
  rw [dot, foldl_sm2]; omega
theorem ab_nonneg (x : Int) : 0 ≤ ab x := by unfold ab; omega
theorem sm_nonneg {l : List Int} (h : ∀ x ∈ l, 0 ≤ x) : 0 ≤ sm l := by
  induction l with
  | nil => simp [sm]
  | cons x l ih => have := h x (by simp); have := ih fun y hy => h y (by simp [hy]); simp only [sm]; omega
theorem sm_ab_nonneg (v : List Int) : 0 ≤ sm (v.map ab) := sm_nonneg fun x hx => by
  obtain ⟨y, _, rfl⟩ := List.mem_map.1 hx
  exact ab_nonneg y
theorem sq_nonneg (x : Int) : 0 ≤ x * x := by
  rcases Int.le_total 0 x with h | h
  · exact Int.mul_nonneg h h
  · exact Int.mul_nonneg_of_nonpos_of_nonpos h h
theorem sm_sq_nonneg (v : List Int) : 0 ≤ sm (v.map fun x => x * x) := sm_nonneg fun x hx => by
  obtain ⟨y, _, rfl⟩ := List.mem_map.1 hx
  exact sq_nonneg y
theorem norm_nonneg (m : Int) (v : List Int) : 0 ≤ norm m v := by
  by_cases h1 : m = 1
  · subst h1; rw [norm1]; exact sm_ab_nonneg v
  by_cases h2 : m = 2
  · subst h2; rw [norm2]; exact sm_sq_nonneg v
  by_cases h3 : m = 3
  · subst h3; rw [norm3]; exact mx_nonneg v
  · unfold norm
    have : grow m = fun _ _ => 0 := by funext n x; simp [grow, h1, h2, h3]
    rw [this]
    rcases List.eq_nil_or_concat v with rfl | ⟨l, x, rfl⟩ <;> simp
/-- the bounds of a fold over the coordinates -/
theorem sq_le {x c : Int} (h1 : -c ≤ x) (h2 : x ≤ c) : x * x ≤ c * c := by
  have := Int.mul_nonneg (show 0 ≤ c - x by omega) (show 0 ≤ c + x by omega)
  grind
theorem sq_le2000 {x : Int} (h1 : -2000 ≤ x) (h2 : x ≤ 2000) : x * x ≤ 4000000 := by have := sq_le h1 h2; omega
theorem mul_le1000 {x y : Int} (h1 : -2000 ≤ x) (h2 : x ≤ 2000) (h3 : -2000 ≤ y) (h4 : y ≤ 2000) : -4000000 ≤ x * y ∧ x * y ≤ 4000000 := by
  have a := sq_le2000 h1 h2
  have b := sq_le2000 h3 h4
  have c := sq_nonneg (x + y)
  have d := sq_nonneg (x - y)
  constructor <;> grind
theorem grow_bound {m n x : Int} {k : Nat} (h0 : 0 ≤ n) (hn : n ≤ 4000000 * k) (h1 : -2000 ≤ x) (h2 : x ≤ 2000) : 0 ≤ grow m n x ∧ grow m n x ≤ 4000000 * (k + 1 : Nat) := by
  have := sq_le2000 h1 h2
  have := sq_nonneg x
  unfold grow
  split
  · omega
  · split
    · omega
    · split <;> omega
theorem foldl_bound {m : Int} : ∀ (v : List Int) (n : Int) (k : Nat), 0 ≤ n → n ≤ 4000000 * k → (∀ x ∈ v, -2000 ≤ x ∧ x ≤ 2000) → 0 ≤ v.foldl (grow m) n ∧ v.foldl (grow m) n ≤ 4000000 * (k + v.length : Nat)
  | [], n, k, h0, h1, _ => ⟨h0, h1⟩
  | x :: v, n, k, h0, h1, h => by
    have := grow_bound (m := m) h0 h1 (h x (by simp)).1 (h x (by simp)).2
    have := foldl_bound (m := m) v (grow m n x) (k + 1) this.1 this.2 fun y hy => h y (by simp [hy])
    simp only [List.foldl_cons, List.length_cons]
    exact ⟨this.1, by omega⟩
theorem norm_bound {m : Int} {v : List Int} (h : ∀ x ∈ v, -2000 ≤ x ∧ x ≤ 2000) : norm m v ≤ 4000000 * v.length := by
  have := foldl_bound (m := m) v 0 0 (by omega) (by omega) h
  have h2 := this.2
  rw [Nat.zero_add] at h2
  exact h2
theorem take_snoc {α : Type} {l : List α} {k : Nat} {x : α} (h : l[k]? = some x) : l.take (k + 1) = l.take k ++ [x] := by
  rw [List.take_add_one, h]; rfl
theorem norm_snoc (m : Int) {v : List Int} {k : Nat} {x : Int} (h : v[k]? = some x) : norm m (v.take (k + 1)) = grow m (norm m (v.take k)) x := by
  rw [take_snoc h, norm, List.foldl_append]; rfl
theorem zip_at {a b : List Int} {k : Nat} {x y : Int} (h : a[k]? = some x) (h' : b[k]? = some y) : (a.zip b)[k]? = some (x, y) := by
  simp [List.zip, List.getElem?_zipWith, h, h']
def dotk (a b : List Int) (k : Nat) : Int := ((a.zip b).take k).foldl (fun s p => s + p.1 * p.2) 0
theorem dotk_zero (a b : List Int) : dotk a b 0 = 0 := by simp [dotk]
theorem dotk_snoc {a b : List Int} {k : Nat} {x y : Int} (h : a[k]? = some x) (h' : b[k]? = some y) : dotk a b (k + 1) = dotk a b k + x * y := by
  rw [dotk, take_snoc (zip_at h h'), List.foldl_append]; rfl
theorem dotk_end {a b : List Int} {n : Nat} (h : a.length ≤ n ∨ b.length ≤ n) : dotk a b n = dot a b := by
  rw [dotk, List.take_of_length_le (by simp; omega)]; rfl
def subk (a b : List Int) (k : Nat) : List Int := (sub a b).take k
theorem sub_at {a b : List Int} {k : Nat} {x y : Int} (h : a[k]? = some x) (h' : b[k]? = some y) : (sub a b)[k]? = some (x - y) := by
  simp [sub, zip_at h h']
theorem subk_snoc {a b : List Int} {k : Nat} {x y : Int} (h : a[k]? = some x) (h' : b[k]? = some y) : subk a b (k + 1) = subk a b k ++ [x - y] := take_snoc (sub_at h h')
theorem key_snoc (m : Int) {a b : List Int} {k : Nat} {x y : Int} (h : a[k]? = some x) (h' : b[k]? = some y) : norm m (subk a b (k + 1)) = grow m (norm m (subk a b k)) (x - y) := norm_snoc m (sub_at h h')
theorem sub_bound {a b : List Int} (ha : Vec a) (hb : Vec b) : ∀ x ∈ sub a b, -2000 ≤ x ∧ x ≤ 2000 := by
  intro x hx
  obtain ⟨p, hp, rfl⟩ := List.mem_map.1 hx
  have h1 := List.of_mem_zip hp
  have := ha.lo _ h1.1; have := ha.hi _ h1.1; have := hb.lo _ h1.2; have := hb.hi _ h1.2
  omega
/-- one list against another -/
def cmpI (a b : Int) : Int := if a < b then -1 else if b < a then 1 else 0
def lex : List Int → List Int → Int
  | [], [] => 0
  | [], _ :: _ => -1
  | _ :: _, [] => 1
  | x :: a, y :: b => if x < y then -1 else if y < x then 1 else lex a b
def cmp (a b : List Int) : Int := if a.length < b.length then -1 else if b.length < a.length then 1 else lex a b
theorem lex_range : ∀ a b, lex a b = -1 ∨ lex a b = 0 ∨ lex a b = 1
  | [], [] => by simp [lex]
  | [], _ :: _ => by simp [lex]
  | _ :: _, [] => by simp [lex]
  | x :: a, y :: b => by
    have := lex_range a b
    simp only [lex]
    split
    · simp
    · split
      · simp
      · exact this
theorem lex_neg : ∀ a b, lex b a = - lex a b
  | [], [] => by simp [lex]
  | [], _ :: _ => by simp [lex]
  | _ :: _, [] => by simp [lex]
  | x :: a, y :: b => by have := lex_neg a b; simp only [lex]; repeat' split
                         all_goals omega
theorem lex_zero : ∀ a b, lex a b = 0 ↔ a = b
  | [], [] => by simp [lex]
  | [], _ :: _ => by simp [lex]
  | _ :: _, [] => by simp [lex]
  | x :: a, y :: b => by
    have := lex_zero a b
    simp only [lex, List.cons.injEq]
    repeat' split
    · simp; omega
    · simp; omega
    · rw [this]; constructor
      · rintro rfl; exact ⟨by omega, rfl⟩
      · exact fun h => h.2
theorem lex_trans : ∀ a b c, lex a b ≤ 0 → lex b c ≤ 0 → lex a c ≤ 0
  | [], _, [] => by simp [lex]
  | [], _, _ :: _ => by simp [lex]
  | _ :: _, [], _ => by simp [lex]
  | _ :: _, _ :: _, [] => by simp [lex]
  | x :: a, y :: b, z :: c => by
    have := lex_trans a b c
    simp only [lex]
    repeat' split
    all_goals omega
theorem cmp_range (a b : List Int) : cmp a b = -1 ∨ cmp a b = 0 ∨ cmp a b = 1 := by
  have := lex_range a b
  unfold cmp; repeat' split
  all_goals simp_all
theorem cmp_neg (a b : List Int) : cmp b a = - cmp a b := by
  have := lex_neg a b
  unfold cmp; repeat' split
  all_goals omega
theorem cmp_zero (a b : List Int) : cmp a b = 0 ↔ a = b := by
  have := lex_zero a b
  unfold cmp; repeat' split
  · constructor
    · intro h; cases h
    · rintro rfl; omega
  · constructor
    · intro h; cases h
    · rintro rfl; omega
  · exact this
theorem cmp_trans (a b c : List Int) (h1 : cmp a b ≤ 0) (h2 : cmp b c ≤ 0) : cmp a c ≤ 0 := by
  have := lex_trans a b c
  revert h1 h2
  unfold cmp; repeat' split
  all_goals omega
theorem cmp_self (a : List Int) : cmp a a = 0 := (cmp_zero a a).2 rfl
end Go.Proofs.Ytieipbobijnmlaa.vq
/- The generic fold: by an invariant of the closure. -/
namespace Go.Proofs.Ytieipbobijnmlaa.vk

open Go.ChangeShapes Go.WideShapes Go.ChangeAt Go.RowKit

set_option linter.unusedVariables false
end Go.Proofs.Ytieipbobijnmlaa.vk
/- How what comes in is opened: a slice's elements as a list. No program here. -/
namespace Go.Proofs.Ytieipbobijnmlaa.wo

open Go.ChangeShapes Go.WideShapes Go.ChangeAt Go.RowKit

def IsB (w : World) (A : Option Addr) (n c : Nat) (l : List UInt8) : Prop := l.length = n ∧ n ≤ c ∧ c ≤ 9223372036854775807 ∧ wp.RB w A l
def IsI (w : World) (A : Option Addr) (n c : Nat) (l : List Int) : Prop := l.length = n ∧ n ≤ c ∧ c ≤ 9223372036854775807 ∧ wp.RC w A (l.map (Value.int .i64)) ∧ ∀ x ∈ l, -9223372036854775808 ≤ x ∧ x ≤ 9223372036854775807
def IsS (w : World) (A : Option Addr) (n c : Nat) (l : List ByteArray) : Prop := l.length = n ∧ n ≤ c ∧ c ≤ 9223372036854775807 ∧ wp.RC w A (l.map Value.string) ∧ ∀ s ∈ l, s.size ≤ maxLen
def IsD (w : World) (A : Option Addr) (n c : Nat) (l : List (List UInt8)) : Prop := l.length = n ∧ n ≤ c ∧ c ≤ 9223372036854775807 ∧ wp.RC w A (l.flatMap wp.bc) ∧ ∀ d ∈ l, d.length = 16

theorem exists_list {α : Type} {Q : Nat → α → Prop} : ∀ (n : Nat), (∀ i, i < n → ∃ d, Q i d) → ∃ l : List α, l.length = n ∧ ∀ i d, l[i]? = some d → Q i d
  | 0, _ => ⟨[], rfl, fun i d h => by simp at h⟩
  | n + 1, h => by
    obtain ⟨l, hl, hq⟩ := exists_list n fun i hi => h i (by omega)
    obtain ⟨d, hd⟩ := h n (by omega)
    refine ⟨l ++ [d], by simp [hl], fun i e he => ?_⟩
    rcases Nat.lt_trichotomy i n with hi | hi | hi
    · rw [List.getElem?_append_left (by omega)] at he
      exact hq i e he
    · subst hi
      rw [List.getElem?_append_right (by omega), hl] at he
      simp at he
      rw [← he]; exact hd
    · rw [List.getElem?_eq_none (by simp; omega)] at he; cases he

section

variable {H : Type} {enc : TypeId × Value → H} {P : Program} {w : World} {base : Nat} {spare : Nat → Bool} {held : Bool} {t e : TypeId} {a : Option Addr} {n c fuel : Nat} {x : DataW H × List MemPlace}

theorem at_plain {ad : Addr} {v : Value} (h : w.cell? (ad.add 0) = some v) : ∃ b o, ad = ⟨b, o, none⟩ := by
  obtain ⟨b, o, spot⟩ := ad
  have hspot : spot = none := by simpa [Addr.add] using World.cell?_spot h
  subst hspot
  exact ⟨b, o, rfl⟩

/-- a row that reads cell by cell -/
theorem rc_of {ad : Addr} {xs : List Value} (h : ∀ i u, xs[i]? = some u → w.cell? (ad.add i) = some u) : wp.RC w (some ad) xs := fun hl => by
  have h0 := h 0 xs[0] (List.getElem?_eq_getElem hl)
  obtain ⟨b, o, rfl⟩ := at_plain h0
  have hb := block_lt_of_cell h0
  refine ⟨b, o, rfl, by rw [wk.add_at] at hb; exact hb, fun j u hu => ?_⟩
  have := h j u hu
  rw [wk.add_at] at this
  exact this

theorem openI (ht : P.underlying t = some (.slice e)) (he : P.underlying e = some (.int .i64)) (hc : P.cellsOf e = 1) (h : DataW.trod enc P w base spare held fuel t [.slice a n c] = some x) : ∃ l, IsI w a n c l := by
  rcases open_ints ht he hc h with ⟨hcs, _⟩ | ⟨ad, l, c', zs, hcs, _, hl, hm, hz, _, hcell, hwz⟩
  · simp only [List.cons.injEq, Value.slice.injEq, and_true] at hcs
    obtain ⟨rfl, rfl, rfl⟩ := hcs
    exact ⟨[], rfl, Nat.le_refl _, by omega, fun h => absurd h (by simp), by simp⟩
  · simp only [List.cons.injEq, Value.slice.injEq, and_true] at hcs
    obtain ⟨rfl, rfl, rfl⟩ := hcs
    have hzl : n ≤ zs.length := by rw [hz]; split <;> omega
    refine ⟨zs.take n, by simp; omega, hl, by unfold maxLen at hm; omega, rc_of fun i u hu => ?_, fun y hy => ?_⟩
    · have hi : i < n := by
        rcases Nat.lt_or_ge i n with h' | h'
        · exact h'
        · rw [List.getElem?_eq_none (by simp; omega)] at hu; cases hu
      rw [hcell i (by omega), ← hu]
      simp [List.getD, List.getElem?_take_of_lt hi, List.getElem?_eq_getElem (show i < zs.length by omega)]
    · have := hwz y (List.mem_of_mem_take hy)
      simpa [Lit.wf, IntKind.min, IntKind.max, IntKind.signed, IntKind.bits] using this

theorem openB (ht : P.underlying t = some (.slice e)) (he : P.underlying e = some (.int .u8)) (hc : P.cellsOf e = 1) (h : DataW.trod enc P w base spare held fuel t [.slice a n c] = some x) : ∃ l, IsB w a n c l := by
  rcases open_ints ht he hc h with ⟨hcs, _⟩ | ⟨ad, l, c', zs, hcs, _, hl, hm, hz, _, hcell, hwz⟩
  · simp only [List.cons.injEq, Value.slice.injEq, and_true] at hcs
    obtain ⟨rfl, rfl, rfl⟩ := hcs
    exact ⟨[], rfl, Nat.le_refl _, by omega, fun h => absurd h (by simp)⟩
  · simp only [List.cons.injEq, Value.slice.injEq, and_true] at hcs
    obtain ⟨rfl, rfl, rfl⟩ := hcs
    have hzl : n ≤ zs.length := by rw [hz]; split <;> omega
    refine ⟨(zs.take n).map fun z => UInt8.ofNat z.toNat, by simp; omega, hl, by unfold maxLen at hm; omega, wp.RC.rb (rc_of fun i u hu => ?_)⟩
    have hi : i < n := by
      rcases Nat.lt_or_ge i n with h' | h'
      · exact h'
      · rw [List.getElem?_eq_none (by simp [wp.bc]; omega)] at hu; cases hu
    have hiz : i < zs.length := by omega
    have hw := hwz zs[i] (List.getElem_mem hiz)
    have hw' : 0 ≤ zs[i] ∧ zs[i] ≤ 255 := by simpa [Lit.wf, IntKind.min, IntKind.max, IntKind.signed, IntKind.bits] using hw
    rw [hcell i (by omega), ← hu]
    simp only [wp.bc, List.map_map, List.getElem?_map, List.getElem?_take_of_lt hi, List.getElem?_eq_getElem hiz, Option.map_some, Function.comp, List.getD, Option.getD_some]
    congr 2
    simp only [UInt8.toNat_ofNat']
    omega

theorem openS (ht : P.underlying t = some (.slice e)) (he : P.underlying e = some .string) (hc : P.cellsOf e = 1) (h : DataW.trod enc P w base spare held fuel t [.slice a n c] = some x) : ∃ l, IsS w a n c l := by
  rcases open_strings ht he hc h with ⟨hcs, _⟩ | ⟨ad, l, c', ss, hcs, _, hl, hm, hz, _, hcell, hws⟩
  · simp only [List.cons.injEq, Value.slice.injEq, and_true] at hcs
    obtain ⟨rfl, rfl, rfl⟩ := hcs
    exact ⟨[], rfl, Nat.le_refl _, by omega, fun h => absurd h (by simp), by simp⟩
  · simp only [List.cons.injEq, Value.slice.injEq, and_true] at hcs
    obtain ⟨rfl, rfl, rfl⟩ := hcs
    have hzl : n ≤ ss.length := by rw [hz]; split <;> omega
    refine ⟨ss.take n, by simp; omega, hl, by unfold maxLen at hm; omega, rc_of fun i u hu => ?_, fun y hy => hws y (List.mem_of_mem_take hy)⟩
    have hi : i < n := by
      rcases Nat.lt_or_ge i n with h' | h'
      · exact h'
      · rw [List.getElem?_eq_none (by simp; omega)] at hu; cases hu
    rw [hcell i (by omega), ← hu]
    simp [List.getD, List.getElem?_take_of_lt hi, List.getElem?_eq_getElem (show i < ss.length by omega)]

theorem openD {e8 : TypeId} (ht : P.underlying t = some (.slice e)) (he : P.underlying e = some (.array 16 e8)) (h8 : P.underlying e8 = some (.int .u8)) (hc : P.cellsOf e = 16) (hc8 : P.cellsOf e8 = 1)
    (h : DataW.trod enc P w base spare held fuel t [.slice a n c] = some x) : ∃ l, IsD w a n c l := by
  rcases DataW.trod_slice ht h with ⟨hcs, _⟩ | ⟨ad, len, cap, elems, rest, m, _, hcs, _, hb, hl, hm, hlen, hel, _⟩
  · simp only [List.cons.injEq, Value.slice.injEq, and_true] at hcs
    obtain ⟨rfl, rfl, rfl⟩ := hcs
    exact ⟨[], rfl, Nat.le_refl _, by omega, fun h => absurd h (by simp), by simp⟩
  · simp only [List.cons.injEq, Value.slice.injEq, and_true] at hcs
    obtain ⟨rfl, rfl, rfl⟩ := hcs
    rw [hc] at hel
    have hone : ∀ i, i < n → ∃ d : List UInt8, d.length = 16 ∧ w.cells? base (ad.add (i * 16)) 16 = some (wp.bc d) := fun i hi => by
      have hi' := hel i hi
      rw [List.getElem?_eq_getElem (by omega)] at hi'
      cases hcc : w.cells? base (ad.add (i * 16)) 16 with
      | none => rw [hcc] at hi'; simp at hi'
      | some cs =>
        rw [hcc] at hi'
        simp only [Option.bind_some] at hi'
        obtain ⟨xs, m', _, _, hcl, hxl, hat⟩ := DataW.trod_array he hi'
        rw [hc] at hcl
        rw [hc8] at hat
        have hj : ∀ j, j < 16 → ∃ u : UInt8, cs[j]? = some (.int .u8 (u.toNat : Int)) := fun j hj => by
          have h1 := hat j hj
          rw [List.getElem?_eq_getElem (by omega), Nat.mul_one] at h1
          obtain ⟨z, hz, _, hwf⟩ := DataW.trod_int h8 h1
          have hzb : 0 ≤ z ∧ z ≤ 255 := by simpa [Lit.wf, IntKind.min, IntKind.max, IntKind.signed, IntKind.bits] using hwf
          refine ⟨UInt8.ofNat z.toNat, ?_⟩
          have h2 : ((cs.drop j).take 1)[0]? = some (.int .u8 z) := by rw [hz]; rfl
          rw [List.getElem?_take_of_lt (by omega), List.getElem?_drop, Nat.add_zero] at h2
          rw [h2]
          congr 2
          simp only [UInt8.toNat_ofNat']
          omega
        obtain ⟨d, hd, hdq⟩ := exists_list 16 hj
        refine ⟨d, hd, ?_⟩
        congr 1
        apply List.ext_getElem?
        intro j
        rcases Nat.lt_or_ge j 16 with h16 | h16
        · rw [hdq j d[j] (List.getElem?_eq_getElem (by omega))]
          simp [wp.bc, List.getElem?_eq_getElem (show j < d.length by omega)]
        · rw [List.getElem?_eq_none (by omega), List.getElem?_eq_none (by rw [wp.bc_length]; omega)]
    obtain ⟨l, hll, hlq⟩ := exists_list n hone
    have h16 : ∀ d ∈ l, d.length = 16 := fun d hd => by
      obtain ⟨i, hi, rfl⟩ := List.mem_iff_getElem.1 hd
      exact (hlq i _ (List.getElem?_eq_getElem hi)).1
    refine ⟨l, hll, hl, by unfold maxLen at hm; omega, rc_of fun i u hu => ?_, h16⟩
    have hfl := wp.flat_bc_length h16
    have hi : i < 16 * l.length := by
      rcases Nat.lt_or_ge i (l.flatMap wp.bc).length with h' | h'
      · omega
      · rw [List.getElem?_eq_none h'] at hu; cases hu
    have hk : i / 16 < l.length := by omega
    obtain ⟨hd, hcc⟩ := hlq (i / 16) l[i / 16] (List.getElem?_eq_getElem hk)
    obtain ⟨_, _, hcell⟩ := World.cells?_some hcc
    have h1 := hcell (i % 16) (by omega)
    have h2 := wp.flat_bc_at h16 (List.getElem?_eq_getElem hk) (j := i % 16) (u := (wp.bc l[i / 16])[i % 16]'(by rw [wp.bc_length]; omega)) (List.getElem?_eq_getElem _)
    rw [show 16 * (i / 16) + i % 16 = i by omega, hu] at h2
    have e1 : (ad.add (i / 16 * 16)).add (i % 16) = ad.add i := by
      unfold Addr.add
      by_cases ha : i / 16 * 16 = 0 <;> by_cases hb' : i % 16 = 0 <;> by_cases hc' : i = 0 <;> simp [ha, hb', hc'] <;> omega
    rw [e1] at h1
    rw [h1, h2, List.getElem?_eq_getElem (by rw [wp.bc_length]; omega)]
end

end Go.Proofs.Ytieipbobijnmlaa.wo
/- Valid, Alike, common, Dot, Sub: the program's. -/
namespace Go.Proofs.Ytieipbobijnmlaa.vk

open Go.ChangeShapes Go.WideShapes Go.ChangeAt Go.RowKit

set_option linter.unusedVariables false
theorem isI_below {w w' : World} {A : Option Addr} {n c : Nat} {l : List Int} (h : wo.IsI w A n c l) (hb : Below w.heap.size w w') : wo.IsI w' A n c l := ⟨h.1, h.2.1, h.2.2.1, h.2.2.2.1.below hb, h.2.2.2.2⟩
theorem isI_at {w : World} {A : Option Addr} {n c k : Nat} {l : List Int} (h : wo.IsI w A n c l) (hk : k < n) : ∃ b o x, A = some ⟨b, o, none⟩ ∧ w.cell? ⟨b, o + k, none⟩ = some (.int .i64 x) ∧ l[k]? = some x ∧ -9223372036854775808 ≤ x ∧ x ≤ 9223372036854775807 := by
  have hl : k < l.length := by have := h.1; omega
  have hx : l[k]? = some l[k] := List.getElem?_eq_getElem hl
  obtain ⟨b, o, hA, hc⟩ := wi.RC_at h.2.2.2.1 (k := k) (u := .int .i64 l[k]) (by simp [hx])
  exact ⟨b, o, l[k], hA, hc, hx, h.2.2.2.2 _ (List.getElem_mem hl)⟩
/-- a boxed variable -/
def Box (w : World) (g : Nat) (v : Value) : Prop := ∃ t, w.heap[g]? = some (.cells #[v] t (0, 0))
theorem Box.lt {w : World} {g : Nat} {v : Value} (h : Box w g v) : g < w.heap.size := by
  obtain ⟨t, h⟩ := h
  rcases Nat.lt_or_ge g w.heap.size with h' | h'
  · exact h'
  · rw [Array.getElem?_eq_none h'] at h; cases h
theorem Box.below {w w' : World} {g : Nat} {v : Value} (h : Box w g v) (hb : Below w.heap.size w w') : Box w' g v := by
  have hl := h.lt
  obtain ⟨t, h⟩ := h
  exact ⟨t, by rw [hb.block g hl]; exact h⟩
theorem Box.cell {w : World} {g : Nat} {v : Value} (h : Box w g v) : w.cell? ⟨g, 0, none⟩ = some v := by
  obtain ⟨t, h⟩ := h
  rw [cell_of_row _ _ _ _ _ _ h]; rfl
theorem Box.new (w : World) (v : Value) (t : TypeId) : Box (w.alloc (.cells #[v] t)) w.heap.size v := ⟨t, heap_alloc_new w _⟩
theorem below_new (w : World) (o : Obj) : Below w.heap.size w (w.alloc o) := (Below.refl _ w).alloc (Nat.le_refl _) _
theorem size_new (w : World) (o : Obj) : (w.alloc o).heap.size = w.heap.size + 1 := Array.size_push ..
theorem Below.andThen {w w1 w2 : World} (h : Below w.heap.size w w1) (h' : Below w1.heap.size w1 w2) : Below w.heap.size w w2 := h.trans (h'.mono h.size)
theorem all_snoc {l : List Int} {k : Nat} {x : Int} (h : l[k]? = some x) : (l.take (k + 1)).all vq.okc = ((l.take k).all vq.okc && vq.okc x) := by
  rw [vq.take_snoc h, List.all_append]; simp
end Go.Proofs.Ytieipbobijnmlaa.vk

namespace Go.Proofs.Ytieipbobijnmlaa.wk

open Go.RowKit
theorem below_setRow {B : Nat} {a w : World} {g : Nat} (h : Below B a w) (hg : B ≤ g) (cs : Array Value) : Below B a (w.setRow g cs) :=
  ⟨h.os, h.tape, h.output, by rw [size_setRow]; exact h.size, fun k hk => by rw [setRow_other _ _ _ _ (by omega)]; exact h.block k hk⟩
theorem row_lt {w : World} {g : Nat} {o : Obj} (h : w.heap[g]? = some o) : g < w.heap.size := by
  rcases Nat.lt_or_ge g w.heap.size with h' | h'
  · exact h'
  · rw [Array.getElem?_eq_none h'] at h; cases h
theorem row_below {w w' : World} {g : Nat} {o : Obj} (h : w.heap[g]? = some o) (hb : Below w.heap.size w w') : w'.heap[g]? = some o := by
  rw [hb.block _ (row_lt h)]; exact h
theorem below_drewN {B : Nat} {a w : World} (h : Below B a w) (q : Nat) : Below B a (w.drewN q) := ⟨h.os, h.tape, h.output, h.size, h.block⟩

/-- values of one cell each -/
def Ones (cs : List Value) : Prop := ∀ u ∈ cs, u.oneCell' = true
theorem ones_ints (k : IntKind) (l : List Int) : Ones (l.map (Value.int k)) := fun u hu => by
  obtain ⟨n, _, rfl⟩ := List.mem_map.1 hu; rfl
theorem ones_nats (k : IntKind) (l : List Nat) : Ones (l.map fun n : Nat => Value.int k (n : Int)) := fun u hu => by
  obtain ⟨n, _, rfl⟩ := List.mem_map.1 hu; rfl
theorem ones_bc (l : List UInt8) : Ones (wp.bc l) := fun u hu => by
  obtain ⟨n, _, rfl⟩ := List.mem_map.1 hu; rfl
theorem Ones.append {a b : List Value} (h : Ones a) (g : Ones b) : Ones (a ++ b) := fun u hu => by
  rcases List.mem_append.1 hu with h' | h'
  · exact h u h'
  · exact g u h'
theorem ones_one (k : IntKind) (n : Int) : Ones [.int k n] := fun u hu => by
  rw [List.mem_singleton.1 hu]; rfl

section

variable {P : Program} {ops : Array Oper} {rest : List Oper} {o : Oper} {a : Act} {w : World} {Q : Exit → Act → World → Prop}
theorem run_index_arr {P : Program} (w : World) (t e : TypeId) (n : Nat) (k : IntKind) (ht : P.underlying t = some (.array n e)) (he : P.underlying e = some (.int k)) (hz : (P.info? e).map (·.size) = some 1)
    (cs : Array Value) (i : Nat) (v : Value) (hi : i < n) (h : cs[i]? = some v) : (Instr.index t (.agg cs) (.int .i64 (i : Int))).run P w = .ok v w := by
  have h1 : (0 : Int) ≤ (i : Int) ∧ (i : Int) < (n : Int) := by omega
  simp only [Instr.index, asIntOf, Sem.run_bind, Sem.run_pure, Result.andThen_ok, run_underlying ht w]
  rw [if_pos h1]
  simp only [Sem.run_bind, run_sizeOf w e 1 hz, Result.andThen_ok, Nat.mul_one, Int.toNat_natCast]
  exact run_part w e k he cs i v h
/-- a whole block is laid anew -/
theorem store_row (hgd : o.guard = none) (ty : TypeId) (x y : Operand) (ho : o.op = .store ty x y)
    (g : Nat) (cs : List Value) (hx : a.eval x = .pointer (some ⟨g, 0, none⟩)) (hy : a.eval y = .agg cs.toArray)
    (t : TypeId) (old : Array Value) (hg : w.heap[g]? = some (.cells old t (0, 0))) (hi : (P.info? ty).map (·.size) = some cs.length)
    (hold : old.size = cs.length) (h1 : Ones cs)
    (h : wpList P ops Q rest (a.put o.dst undef) (w.setRow g cs.toArray)) : wpList P ops Q (o :: rest) a w :=
  wpList_store_row hgd ty x y ho g cs.toArray hx hy t old hg (by simpa using hi) (by simpa using hold) (Array.all_eq_true_iff_forall_mem.2 fun u hu => h1 u (by simpa using hu)) h
end

end Go.Proofs.Ytieipbobijnmlaa.wk

namespace Go.Proofs.Ytieipbobijnmlaa.wk

open Go.RowKit

section

variable {P : Program}
theorem run_storeCells_mid (g o : Nat) (t : TypeId) : ∀ (vs : List Value) (i : Nat) (cur : List Value) (w : World), w.heap[g]? = some (.cells cur.toArray t (0, 0)) → o + i + vs.length ≤ cur.length → Ones vs →
    (storeCells ⟨g, o, none⟩ vs i).run P w = .ok () (w.setRow g (cur.take (o + i) ++ (vs ++ cur.drop (o + i + vs.length))).toArray)
  | [], i, cur, w, hg, hl, _ => by
    have hlt : g < w.heap.size := (Array.getElem?_eq_some_iff.1 hg).1
    have hv : w.heap[g] = .cells cur.toArray t (0, 0) := (Array.getElem?_eq_some_iff.1 hg).2
    simp only [storeCells, List.nil_append, List.length_nil, Nat.add_zero, List.take_append_drop]
    show Result.ok () w = _
    congr 1
    unfold World.setRow
    cases w with
    | mk heap tape drawn os output =>
      congr 1
      apply Array.ext
      · simp
      · intro k h1 h2
        simp only [Array.getElem_modify]
        split
        · rename_i hk; subst hk; simp at hv; simp [hv]
        · rfl
  | v :: rest, i, cur, w, hg, hl, h1 => by
    have hi : o + i < cur.length := by simp at hl; omega
    have hadd : (⟨g, o, none⟩ : Addr).add i = ⟨g, o + i, none⟩ := add_at g o i
    have hcell : w.cell? ⟨g, o + i, none⟩ = some cur[o + i] := by rw [cell_of_row _ _ _ _ _ _ hg]; simp [hi]
    have hfro : w.frozen? ⟨g, o + i, none⟩ = false := frozen_of_row _ _ _ _ _ hg
    have hst : (store ((⟨g, o, none⟩ : Addr).add i) v).run P w = .ok () (w.setRow g (cur.set (o + i) v).toArray) := by
      rw [hadd, run_store P w _ v _ (h1 v (by simp)), hcell]
      simp [hfro, setCell_eq_setRow w g (o + i) cur.toArray t (0, 0) v hg]
    have ih := run_storeCells_mid g o t rest (i + 1) (cur.set (o + i) v) (w.setRow g (cur.set (o + i) v).toArray) (setRow_heap w g cur.toArray _ t _ hg) (by simp at hl ⊢; omega) (fun x hx => h1 x (by simp [hx]))
    simp only [storeCells, Sem.run_bind, hst, Result.andThen_ok, ih, setRow_setRow]
    congr 3
    have e1 : (cur.set (o + i) v).take (o + (i + 1)) = cur.take (o + i) ++ [v] := by
      rw [← Nat.add_assoc, List.take_add_one, List.take_set_of_le (Nat.le_refl _), List.getElem?_set_self hi]
      rfl
    have e2 : (cur.set (o + i) v).drop (o + (i + 1) + rest.length) = cur.drop (o + i + (v :: rest).length) := by
      rw [List.drop_set_of_lt (by omega), List.length_cons]
      congr 1
      omega
    rw [e1, e2, List.append_assoc]
    rfl

theorem run_storeVar_mid (w : World) (g : Nat) (t ty : TypeId) (pre mid post cs : List Value) (o : Nat) (hg : w.heap[g]? = some (.cells (pre ++ (mid ++ post)).toArray t (0, 0))) (hp : pre.length = o) (hm : mid.length = cs.length)
    (hi : (P.info? ty).map (·.size) = some cs.length) (h1 : Ones cs) :
    (storeVar ty ⟨g, o, none⟩ (.agg cs.toArray)).run P w = .ok () (w.setRow g (pre ++ (cs ++ post)).toArray) := by
  have := run_storeCells_mid (P := P) g o t cs 0 _ w hg (by simp; omega) h1
  have e1 : (pre ++ (mid ++ post)).take (o + 0) = pre := by rw [Nat.add_zero, ← hp, List.take_left]
  have e2 : (pre ++ (mid ++ post)).drop (o + 0 + cs.length) = post := by
    rw [Nat.add_zero, ← hp, ← hm, ← List.append_assoc, List.drop_left' (by simp)]
  rw [e1, e2] at this
  cases hq : P.info? ty with
  | none => simp [hq] at hi
  | some i =>
    have hs : cs.length = i.size := by simp [hq] at hi; omega
    subst hp
    simp [storeVar, sizeOf, typeInfo, hq, Value.cells, hs] at this ⊢
    rw [this]
end

section

variable {P : Program} {ops : Array Oper} {rest : List Oper} {o : Oper} {a : Act} {w : World} {Q : Exit → Act → World → Prop}
/-- a part of a block is laid anew -/
theorem store_mid (hgd : o.guard = none) (ty : TypeId) (x y : Operand) (ho : o.op = .store ty x y)
    (g off : Nat) (cs pre mid post : List Value) (hx : a.eval x = .pointer (some ⟨g, off, none⟩)) (hy : a.eval y = .agg cs.toArray)
    (t : TypeId) (hg : w.heap[g]? = some (.cells (pre ++ (mid ++ post)).toArray t (0, 0))) (hp : pre.length = off) (hm : mid.length = cs.length) (hi : (P.info? ty).map (·.size) = some cs.length)
    (h1 : Ones cs)
    (h : wpList P ops Q rest (a.put o.dst undef) (w.setRow g (pre ++ (cs ++ post)).toArray)) : wpList P ops Q (o :: rest) a w :=
  wpList_plain hgd fun K hK => by
    unfold Oper.wp execOp
    simp only [ho, hx, hy, Instr.storeAt, Instr.sureAddr, Sem.run_bind, Sem.run_pure, Result.andThen_ok, run_storeVar_mid w g t ty pre mid post cs off hg hp hm hi h1]
    exact hK _ _ h
theorem row_mid {w : World} {g off : Nat} {t : TypeId} {pre mid post : List Value} (hg : w.heap[g]? = some (.cells (pre ++ (mid ++ post)).toArray t (0, 0))) (hp : pre.length = off) :
    ∀ j u, mid[j]? = some u → w.cell? ((⟨g, off, none⟩ : Addr).add j) = some u := fun j u hu => by
  have hj : j < mid.length := by
    rcases Nat.lt_or_ge j mid.length with h | h
    · exact h
    · rw [List.getElem?_eq_none h] at hu; cases hu
  rw [add_at, cell_of_row _ _ _ _ _ _ hg, ← hp, List.getElem?_toArray, List.getElem?_append_right (by omega), Nat.add_sub_cancel_left, List.getElem?_append_left hj]
  exact hu
end

end Go.Proofs.Ytieipbobijnmlaa.wk

namespace Go.Proofs.Ytieipbobijnmlaa.wk

open Go.RowKit
theorem ext_list (t : ByteArray) (k : Nat) : (t.extract k t.size).data.toList = t.data.toList.drop k := by
  rw [Lib.extract_data, List.take_of_length_le]
  rw [List.length_drop, Array.length_toList]
  exact Nat.le_refl _
section

variable {P : Program}
theorem bc_take (l : List UInt8) (k : Nat) : wp.bc (l.take k) = (l.map fun b : UInt8 => Value.int IntKind.u8 (b.toNat : Int)).take k := by
  unfold wp.bc; rw [List.map_take]
/-- 'copy(b[o:], s)' from a text -/
theorem run_copy_str (w : World) (dT sT ty elem : TypeId) (g o dLen dCap n : Nat) (s : ByteArray) (t : TypeId) (pre mid post : List Value)
    (hu : P.underlying dT = some (.slice elem)) (hs : (P.info? elem).map (·.size) = some 1) (hg : w.heap[g]? = some (.cells (pre ++ (mid ++ post)).toArray t (0, 0))) (hp : pre.length = o) (hm : mid.length = n) (hn : Nat.min s.size dLen = n) :
    (Builtin.copy_ #[dT, sT] ty #[.slice (some ⟨g, o, none⟩) dLen dCap, .string s]).run P w =
      .ok (goInt n) (w.setRow g (pre ++ (wp.bc (s.data.toList.take n) ++ post)).toArray) := by
  have hz : s.data.toList.length = s.size := by rw [Array.length_toList]; rfl
  have hle : n ≤ s.size := by rw [← hn]; exact Nat.min_le_left _ _
  have hlen : (wp.bc (s.data.toList.take n)).length = n := by rw [wp.bc_length, List.length_take, hz]; omega
  have hst := run_storeCells_mid (P := P) g o t (wp.bc (s.data.toList.take n)) 0 _ w hg (by rw [hlen]; simp; omega) (ones_bc _)
  have e1 : (pre ++ (mid ++ post)).take (o + 0) = pre := by rw [Nat.add_zero, ← hp, List.take_left]
  have e2 : (pre ++ (mid ++ post)).drop (o + 0 + (wp.bc (s.data.toList.take n)).length) = post := by
    rw [hlen, Nat.add_zero, ← hp, ← hm, ← List.append_assoc, List.drop_left' (by simp)]
  rw [e1, e2, bc_take] at hst
  rw [bc_take]
  cases hq : P.info? elem with
  | none => simp [hq] at hs
  | some i =>
    simp [Builtin.copy_, run_underlying hu, Builtin.lenOf, Builtin.firstCells, sizeOf, typeInfo, hq, hn]
    simp only [← List.map_take] at hst ⊢
    rw [hst]
    simp [Result.andThen]
end

section

variable {P : Program} {ops : Array Oper} {rest : List Oper} {o : Oper} {a : Act} {w : World} {Q : Exit → Act → World → Prop}
theorem copy_str (hgd : o.guard = none) (d s : Operand) (dT sT : TypeId)
    (ho : o.op = .call { callee := .builtin .copy, args := #[d, s], argTypes := #[dT, sT] }) (elem : TypeId) (hu : P.underlying dT = some (.slice elem)) (hs : (P.info? elem).map (·.size) = some 1)
    (g off dLen dCap n : Nat) (hd : a.eval d = .slice (some ⟨g, off, none⟩) dLen dCap) (str : ByteArray) (hx : a.eval s = .string str)
    (t : TypeId) (pre mid post : List Value) (hg : w.heap[g]? = some (.cells (pre ++ (mid ++ post)).toArray t (0, 0))) (hp : pre.length = off) (hm : mid.length = n) (hn : Nat.min str.size dLen = n)
    (h : wpList P ops Q rest (a.put o.dst (goInt n)) (w.setRow g (pre ++ (wp.bc (str.data.toList.take n) ++ post)).toArray)) : wpList P ops Q (o :: rest) a w :=
  wpList_plain hgd fun K hK => by
    unfold Oper.wp execOp
    simp only [ho, resolve, invoke, builtin, Sem.run_bind, Sem.run_pure, Result.andThen_ok, List.map_toArray, List.map_cons, List.map_nil, hd, hx, run_copy_str w dT sT o.type elem g off dLen dCap n str t pre mid post hu hs hg hp hm hn]
    exact hK _ _ h
theorem copy_str_n (hgd : o.guard = none) (d s : Operand) (dT sT : TypeId)
    (ho : o.op = .call { callee := .builtin .copy, args := #[d, s], argTypes := #[dT, sT] }) (elem : TypeId) (hu : P.underlying dT = some (.slice elem)) (hs : (P.info? elem).map (·.size) = some 1)
    (g off dLen dCap n : Nat) (hd : a.eval d = .slice (some ⟨g, off, none⟩) dLen dCap) (str : ByteArray) (hx : a.eval s = .string str)
    (t : TypeId) (pre mid post : List Value) (hg : w.heap[g]? = some (.cells (pre ++ (mid ++ post)).toArray t (0, 0))) (hp : pre.length = off) (hm : mid.length = n) (hn : Nat.min str.size dLen = n)
    (h : ∀ w2, Hid (w2.heap[g]? = some (.cells (pre ++ (wp.bc (str.data.toList.take n) ++ post)).toArray t (0, 0))) → Hid (∀ k, k ≠ g → w2.heap[k]? = w.heap[k]?) → Hid (∀ B w0, Below B w0 w → B ≤ g → Below B w0 w2) → wpList P ops Q rest (a.put o.dst (goInt n)) w2) : wpList P ops Q (o :: rest) a w :=
  copy_str hgd d s dT sT ho elem hu hs g off dLen dCap n hd str hx t pre mid post hg hp hm hn
    (h _ (setRow_heap _ _ _ _ _ _ hg) (fun _ hk => setRow_other _ _ _ _ hk) (fun _ _ hb hB => below_setRow hb hB _))
theorem cell_last {w : World} {g n : Nat} {l : List Value} {v : Value} {t : TypeId} (h : w.heap[g]? = some (.cells (l ++ [v]).toArray t (0, 0))) (hl : l.length = n) : w.cell? ⟨g, n, none⟩ = some v := by
  rw [cell_of_row _ _ _ _ _ _ h, List.getElem?_toArray, List.getElem?_append_right (by omega), ← hl, Nat.sub_self]
  rfl
theorem row_last {w : World} {g n : Nat} {l : List Value} {v u : Value} {t : TypeId} (h : w.heap[g]? = some (.cells (l ++ [v]).toArray t (0, 0))) (hl : l.length = n) : (w.setCell ⟨g, n, none⟩ u).heap[g]? = some (.cells (l ++ [u]).toArray t (0, 0)) := by
  refine (heap_setCell_same _ _ _ _ _ _ h).trans ?_
  have : (l ++ [v]).toArray.setIfInBounds n u = (l ++ [u]).toArray := by
    apply Array.toList_inj.1
    simp [List.set_append_right, ← hl]
  rw [this]
end

end Go.Proofs.Ytieipbobijnmlaa.wk

namespace Go.Proofs.Ytieipbobijnmlaa.wk

open Go.RowKit

section

variable {P : Program}
theorem results_cell_at {fn : Func} {p : Tmp} {ty : TypeId} (h : fn.results = #[.cell p ty]) (tmps : Array Value) (w : World) (ad : Addr) (cs : List Value) (d : TypeDesc)
    (hp : tmps.getD p undef = .pointer (some ad)) (hc : ∀ j x, cs[j]? = some x → w.cell? (ad.add j) = some x)
    (hu : P.underlying ty = some d) (hd : (match d with | .struct _ | .array _ _ => true | _ => false) = true) (hi : (P.info? ty).map (·.size) = some cs.length) :
    (results fn tmps).run P w = .ok (.agg cs.toArray) w := by
  have hp' : tmps[p]?.getD undef = .pointer (some ad) := by simpa using hp
  simp [results, h, hp', asAddr, run_load_agg w ad ty cs d hc hu hd hi]
theorem below_setCells {B g : Nat} {a : World} (hg : B ≤ g) : ∀ (vs : List Value) (o : Nat) (w : World), Below B a w → Below B a (w.setCells g o vs)
  | [], _, _, h => h
  | v :: vs, o, w, h => below_setCells hg vs (o + 1) (w.setCell ⟨g, o, none⟩ v) (h.setCell (p := ⟨g, o, none⟩) hg v)
theorem there_row {w : World} {g n : Nat} {cs : Array Value} {t : TypeId} (h : w.heap[g]? = some (.cells cs t (0, 0))) (hn : cs.size = n) : w.there g 0 n := fun j hj => by
  rw [cell_of_row _ _ _ _ _ _ h, frozen_of_row _ _ _ _ _ h]
  simp
  omega
theorem there_below {w w' : World} {g n B : Nat} (h : w.there g 0 n) (hg : g < B) (hb : Below B w w') : w'.there g 0 n := fun j hj => by
  rw [hb.cell (p := ⟨g, 0 + j, none⟩) hg, hb.frozen (p := ⟨g, 0 + j, none⟩) hg]
  exact h j hj
theorem setCells_at {w : World} {g : Nat} {cs : List Value} (h : w.there g 0 cs.length) : ∀ j x, cs[j]? = some x → (w.setCells g 0 cs).cell? ((⟨g, 0, none⟩ : Addr).add j) = some x := fun j x hx => by
  rw [add_at]
  exact World.rangeAt_setCells_same w g 0 cs h j x hx
end

end Go.Proofs.Ytieipbobijnmlaa.wk
/- A region that draws its order, by one invariant on what has been done. No program here. -/
namespace Go.Proofs.Ytieipbobijnmlaa.wk

open Go.RowKit

section

variable {P : Program} {ops : Array Oper} {Q : Exit → Act → World → Prop} {md : Region.Mode}

/-- what is done, as a function -/
def done (listed : Array Bool) (i : Nat) : Bool := listed.getD i false
/-- every operation stands behind those that it waits for -/
def ordered (ops : Array Oper) : Bool := (List.range ops.size).all fun i => ((ops[i]?).map (·.after.all fun e => e.on < i)).getD false

theorem getD_set (listed : Array Bool) (i j : Nat) (h : i < listed.size) : done (listed.setIfInBounds i true) j = if j = i then true else done listed j := by
  unfold done
  rw [Array.getD_eq_getD_getElem?, Array.getD_eq_getD_getElem?, Array.getElem?_setIfInBounds]
  by_cases hj : i = j
  · subst hj; simp [h]
  · rw [if_neg hj, if_neg fun h => hj h.symm]

theorem ready_mem {listed : Array Bool} {i : Nat} (hs : listed.size = ops.size) (h : i ∈ Region.ready md ops listed) :
    ∃ o, ops[i]? = some o ∧ done listed i = false ∧ ∀ e ∈ o.after, Region.binds md e = true → done listed e.on = true := by
  unfold Region.ready at h
  rw [List.mem_filter, List.mem_range] at h
  obtain ⟨hi, h⟩ := h
  rw [Bool.and_eq_true] at h
  obtain ⟨h1, h2⟩ := h
  have ho : ops[i]? = some ops[i] := Array.getElem?_eq_getElem hi
  refine ⟨ops[i], ho, ?_, fun e he hb => ?_⟩
  · unfold done
    rw [Array.getD_eq_getD_getElem?, Array.getElem?_eq_getElem (by omega)] at *
    simpa using h1
  · rw [ho] at h2
    simp only [Option.map_some, Option.getD_some] at h2
    have := Array.all_eq_true_iff_forall_mem.1 h2 e he
    rw [hb] at this
    simpa [done] using this

theorem ready_nil {listed : Array Bool} (hs : listed.size = ops.size) (hord : ordered ops = true) (h : Region.ready md ops listed = []) : ∀ i, i < ops.size → done listed i = true := by
  intro i
  induction i using Nat.strongRecOn with
  | ind i ih =>
    intro hi
    cases hd : done listed i with
    | true => rfl
    | false =>
      exfalso
      have ho : ops[i]? = some ops[i] := Array.getElem?_eq_getElem hi
      have hmem : i ∈ Region.ready md ops listed := by
        unfold Region.ready
        rw [List.mem_filter, List.mem_range]
        refine ⟨hi, ?_⟩
        rw [Bool.and_eq_true]
        constructor
        · unfold done at hd
          rw [Array.getD_eq_getD_getElem?, Array.getElem?_eq_getElem (by omega)] at *
          simpa using hd
        · rw [ho]
          simp only [Option.map_some, Option.getD_some]
          refine Array.all_eq_true_iff_forall_mem.2 fun e he => ?_
          have h1 := List.all_eq_true.1 hord i (List.mem_range.2 hi)
          rw [ho] at h1
          simp only [Option.map_some, Option.getD_some] at h1
          have h2 := of_decide_eq_true (Array.all_eq_true_iff_forall_mem.1 h1 e he)
          have := ih e.on h2 (by omega)
          unfold done at this
          rw [this]; simp
      rw [h] at hmem
      cases hmem

theorem any_inv (I : (Nat → Bool) → Act → World → Prop) (hord : ordered ops = true)
    (hstep : ∀ L a w, I L a w → ∀ i o, ops[i]? = some o → L i = false → (∀ e ∈ o.after, Region.binds md e = true → L e.on = true) → wpOp P ops Q i (fun a' w' => I (fun j => if j = i then true else L j) a' w') a w)
    (hdone : ∀ L a w, (∀ i, i < ops.size → L i = true) → I L a w → Q .normal a w) :
    ∀ (fuel : Nat) (listed : Array Bool) (a : Act) (w : World), listed.size = ops.size → (listed.toList.filter (!·)).length ≤ fuel → I (done listed) a w → wpAny P md ops Q fuel listed a w
  | 0, listed, a, w, hs, hf, hI => by
    have hall : ∀ i, i < ops.size → done listed i = true := fun i hi => by
      have h0 : listed.toList.filter (!·) = [] := List.eq_nil_of_length_eq_zero (by omega)
      rw [List.filter_eq_nil_iff] at h0
      have := h0 listed[i] (by simp)
      unfold done
      rw [Array.getD_eq_getD_getElem?, Array.getElem?_eq_getElem (by omega)]
      simpa using this
    refine ⟨?_, hdone _ a w hall hI⟩
    cases hr : Region.ready md ops listed with
    | nil => rfl
    | cons i r =>
      obtain ⟨o, ho, h1, _⟩ := ready_mem (i := i) hs (by rw [hr]; exact List.mem_cons_self)
      have hi : i < ops.size := (Array.getElem?_eq_some_iff.1 ho).1
      rw [hall i hi] at h1
      cases h1
  | fuel + 1, listed, a, w, hs, hf, hI => by
    refine ⟨fun hr => hdone _ a w (ready_nil hs hord hr) hI, fun i hi => ?_⟩
    obtain ⟨o, ho, h1, h2⟩ := ready_mem hs hi
    have hil : i < listed.size := by rw [hs]; exact (Array.getElem?_eq_some_iff.1 ho).1
    refine wpOp_mono (fun a' w' h => any_inv I hord hstep hdone fuel (listed.setIfInBounds i true) a' w' (by simpa using hs) ?_ ?_) (hstep (done listed) a w hI i o ho h1 h2)
    · have hl : listed.toList[i]? = some false := by
        unfold done at h1
        rw [Array.getD_eq_getD_getElem?, Array.getElem?_eq_getElem hil] at h1
        rw [Array.getElem?_toList, Array.getElem?_eq_getElem hil]
        simpa using h1
      have key : ∀ (l : List Bool) (i : Nat), l[i]? = some false → ((l.set i true).filter (!·)).length + 1 = (l.filter (!·)).length := by
        intro l
        induction l with
        | nil => intro i h; simp at h
        | cons b r ih =>
          intro i h
          cases i with
          | zero =>
            simp only [List.getElem?_cons_zero, Option.some.injEq] at h
            subst h
            simp
          | succ i =>
            have := ih i (by simpa using h)
            cases b <;> simp <;> omega
      have := key _ _ hl
      simp only [Array.toList_setIfInBounds]
      omega
    · have e : done (listed.setIfInBounds i true) = fun j => if j = i then true else done listed j := funext fun j => getD_set listed i j hil
      rw [e]
      exact h

/-- one operation that stands under no guard -/
theorem op_step {i : Nat} {o : Oper} {K : Act → World → Prop} {a : Act} {w : World} (ho : ops[i]? = some o) (hg : o.guard = none)
    (h : ∀ K' : Act → World → Prop, (∀ a w, K a w → K' a w) → Oper.wp P o a w K' Q) : wpOp P ops Q i K a w :=
  wpOp_step ho fun K' hK => by rw [if_pos (by simp [Region.wanted, hg])]; exact h K' hK
/-- the frame, the start of a region known: a region that draws, by an invariant -/
theorem region_inv {id : Nat} {a0 : Act} {w0 : World} (I : Act → World → (Nat → Bool) → Act → World → Prop) (hm : P.follows .mixedOrders = true) (hord : ordered ops = true)
    (h0 : I a0 w0.drew (fun _ => false) a0 w0.drew)
    (hstep : ∀ L a w, I a0 w0.drew L a w → ∀ i o, ops[i]? = some o → L i = false → (∀ e ∈ o.after, Region.binds .any e = true → L e.on = true) → wpOp P ops Q i (fun a' w' => I a0 w0.drew (fun j => if j = i then true else L j) a' w') a w)
    (hdone : ∀ L a w, (∀ i, i < ops.size → L i = true) → I a0 w0.drew L a w → Q .normal a w) : (Code.region id ops true).wp P Q a0 w0 :=
  wp_region_any hm (any_inv (I a0 w0.drew) hord hstep hdone _ _ a0 w0.drew (by simp) (Nat.le_trans (List.length_filter_le _ _) (by simp)) (by
    have e : done (Array.replicate ops.size false) = fun _ => false := funext fun j => by
      unfold done
      rw [Array.getD_eq_getD_getElem?, Array.getElem?_replicate]
      split <;> rfl
    rw [e]
    exact h0))
end

section

variable {P : Program} {ops : Array Oper} {rest : List Oper} {o : Oper} {a : Act} {w : World} {Q : Exit → Act → World → Prop}
/-- an operation whose guard bids it run -/
theorem wpList_due (hw : Region.wanted o (yielded ops a.tmps) = true)
    (h : ∀ K : Act → World → Prop, (∀ a w, wpList P ops Q rest a w → K a w) → o.wp P a w K Q) : wpList P ops Q (o :: rest) a w :=
  wpList_step fun K hK => by rw [if_pos hw]; exact h K hK
theorem load_due (hw : Region.wanted o (yielded ops a.tmps) = true) (ty : TypeId) (x : Operand) (ho : o.op = .load ty x)
    (g : Nat) (hx : a.eval x = .pointer (some ⟨g, 0, none⟩)) (t : TypeId) (cs : Array Value) (fr : Nat × Nat) (d : TypeDesc) (hg : w.heap[g]? = some (.cells cs t fr))
    (hu : P.underlying ty = some d) (hd : (match d with | .struct _ | .array _ _ => true | _ => false) = true) (hi : (P.info? ty).map (·.size) = some cs.size)
    (h : wpList P ops Q rest (a.put o.dst (.agg cs)) w) : wpList P ops Q (o :: rest) a w :=
  wpList_due hw fun _ hK => wp_load_row ty x ho g hx t cs fr d hg hu hd hi (hK _ _ h)
end

end Go.Proofs.Ytieipbobijnmlaa.wk

namespace Go.Proofs.Ytieipbobijnmlaa.wk

open Go.RowKit

section

variable {P : Program}
/-- '[]byte(s)' -/
theorem conv_bytes (w : World) (src dst e : TypeId) (s : ByteArray) (hs : P.underlying src = some .string) (hd : P.underlying dst = some (.slice e)) (he : P.underlying e = some (.int .u8)) (hm : s.size ≤ maxLen) :
    ∃ A c w', (convert src dst (.string s)).run P w = .ok (.slice A s.size c) w' ∧ s.size ≤ c ∧ c ≤ 9223372036854775807 ∧ wp.RB w' A s.data.toList ∧ Below w.heap.size w w' := by
  have hz : s.data.toList.length = s.size := by rw [Array.length_toList]; rfl
  refine ⟨_, _, _, Lib.run_convert_string_bytes w src dst e s hs hd he, grownCap_ge _ _ _ _, ?_, fun _ => ⟨w.heap.size, 0, rfl, by rw [Lib.bytesWorld_size]; omega, fun j u hu => ?_⟩, ?_⟩
  · have := grownCap_le_maxLen w s.size 0 e hm
    unfold maxLen at this
    omega
  · have hj : j < s.size := by
      rw [← hz]
      rcases Nat.lt_or_ge j s.data.toList.length with h | h
      · exact h
      · rw [List.getElem?_eq_none h] at hu; cases hu
    rw [Nat.zero_add, Lib.bytesWorld_cell w e s j hj, List.getD_eq_getElem?_getD, hu]
    rfl
  · refine ⟨?_, ?_, ?_, by rw [Lib.bytesWorld_size]; omega, fun k hk => Lib.bytesWorld_at_old w e s k hk⟩ <;>
      simp [Lib.bytesWorld, World.freeze, World.alloc, World.drew, -World.alloc_eq, -World.drew_eq]
/-- a load of a whole struct in the quiet head of a region -/
theorem still_load {ops : Array Oper} {w : World} {Q : Act → Prop} {a : Act} {o : Oper} {rest : List Oper} (hgd : o.guard = none) (ty : TypeId) (x : Operand) (ho : o.op = .load ty x)
    (ad : Addr) (hx : a.eval x = .pointer (some ad)) (cs : List Value) (d : TypeDesc) (hc : ∀ j v, cs[j]? = some v → w.cell? (ad.add j) = some v)
    (hu : P.underlying ty = some d) (hd : (match d with | .struct _ | .array _ _ => true | _ => false) = true) (hi : (P.info? ty).map (·.size) = some cs.length)
    (h : wpStill P ops w Q rest (a.put o.dst (.agg cs.toArray))) : wpStill P ops w Q (o :: rest) a :=
  wpStill_step fun K hK => by
    rw [if_pos (by simp [Region.wanted, hgd])]
    unfold Oper.still execOp
    simp only [ho, hx, run_loadAt_agg w ad ty cs d hc hu hd hi, Sem.run_bind, Sem.run_pure, Result.andThen_ok]
    exact ⟨rfl, hK _ h⟩
end

end Go.Proofs.Ytieipbobijnmlaa.wk
