/- Joined: Qe Qf Qg Mem Qh Qi Qj Qk Ql Qm Qn. -/
import Derived.Test.YtieipbobijnmlaaG3

import Derived.Great.BuildSlice

import Derived.Deep.Cut

import Derived.Deep.CutRange

import Derived.Deep.RegionLaw

import Derived.Lib.SliceRun
/- Norms grow; Dot, Norm, Key. -/
namespace Go.Proofs.Ytieipbobijnmlaa.vk

open Go.ChangeShapes Go.WideShapes Go.ChangeAt Go.RowKit

set_option linter.unusedVariables false
theorem isI_get {w : World} {A : Option Addr} {n c k : Nat} {l : List Int} {x : Int} (h : wo.IsI w A n c l) (hx : l[k]? = some x) : k < n ∧ ∃ b o, A = some ⟨b, o, none⟩ ∧ w.cell? ⟨b, o + k, none⟩ = some (.int .i64 x) := by
  have hk : k < n := by
    rcases Nat.lt_or_ge k n with h'' | h''
    · exact h''
    · rw [List.getElem?_eq_none (by have := h.1; omega)] at hx; cases hx
  obtain ⟨b, o, x', hA, hc, hx', -, -⟩ := isI_at h hk
  rw [hx] at hx'; cases hx'
  exact ⟨hk, b, o, hA, hc⟩
end Go.Proofs.Ytieipbobijnmlaa.vk
/- Dot, Norm, Key. -/
namespace Go.Proofs.Ytieipbobijnmlaa.vk

open Go.ChangeShapes Go.WideShapes Go.ChangeAt Go.RowKit

set_option linter.unusedVariables false
theorem Box.drewN {w : World} {g : Nat} {v : Value} (h : Box w g v) (q : Nat) : Box (w.drewN q) g v := h
theorem isI_drewN {w : World} {A : Option Addr} {n c : Nat} {l : List Int} (h : wo.IsI w A n c l) (q : Nat) : wo.IsI (w.drewN q) A n c l := h
theorem drewN_add (w : World) (a b : Nat) : (w.drewN a).drewN b = w.drewN (a + b) := World.drewN_drewN ..
theorem below_drewN {B : Nat} {a w : World} (h : Below B a w) (q : Nat) : Below B a (w.drewN q) := ⟨h.os, h.tape, h.output, h.size, h.block⟩
theorem box2 (w : World) (v1 v2 : Value) (t1 t2 : TypeId) : Box ((w.alloc (.cells #[v1] t1)).alloc (.cells #[v2] t2)) w.heap.size v1 ∧ Box ((w.alloc (.cells #[v1] t1)).alloc (.cells #[v2] t2)) (w.heap.size + 1) v2 ∧ Below w.heap.size w ((w.alloc (.cells #[v1] t1)).alloc (.cells #[v2] t2)) := by
  refine ⟨(Box.new w v1 t1).below (below_new _ _), ?_, Below.andThen (below_new _ _) (below_new _ _)⟩
  have := Box.new (w.alloc (.cells #[v1] t1)) v2 t2
  rw [size_new] at this
  exact this
/-- lists that are not greater than differences -/
def Few (l : List Int) : Prop := ∀ x ∈ l, -2000 ≤ x ∧ x ≤ 2000
theorem few_of {l : List Int} (h : vq.Vec l) : Few l := fun x hx => by have := h.lo x hx; have := h.hi x hx; omega
theorem Few.at {l : List Int} (h : Few l) {k : Nat} {x : Int} (hx : l[k]? = some x) : -2000 ≤ x ∧ x ≤ 2000 := h x (List.mem_of_getElem? hx)
theorem len_of {l : List Int} {k : Nat} (h : k < l.length) : l[k]? = some l[k] := List.getElem?_eq_getElem h
theorem norm_take_bound (m : Int) {v : List Int} (h : Few v) (k : Nat) : 0 ≤ vq.norm m (v.take k) ∧ vq.norm m (v.take k) ≤ 4000000 * k := by
  refine ⟨vq.norm_nonneg m _, ?_⟩
  have := vq.norm_bound (m := m) (v := v.take k) fun x hx => h x (List.mem_of_mem_take hx)
  rw [List.length_take] at this
  omega
theorem subk_take (a b : List Int) (k : Nat) : vq.subk a b k = (vq.sub a b).take k := rfl
end Go.Proofs.Ytieipbobijnmlaa.vk
/- Sub. -/
namespace Go.Proofs.Ytieipbobijnmlaa.vk

open Go.ChangeShapes Go.WideShapes Go.ChangeAt Go.RowKit

set_option linter.unusedVariables false
abbrev iv (l : List Int) : List Value := l.map (Value.int .i64)
theorem isI_of_own {w : World} {B n : Nat} {v : Value} {l : List Int} (h : w.ownsRow B 3 1 v n (iv l)) (hb : ∀ x ∈ l, -9223372036854775808 ≤ x ∧ x ≤ 9223372036854775807) : ∃ A c, v = .slice A n c ∧ wo.IsI w A n c l := by
  have hl : l.length = n := by have := h.1; simpa [iv] using this
  obtain ⟨A, c, rfl, h1, h2, hR⟩ := wp.RC.of_own h
  exact ⟨A, c, rfl, hl, h1, by unfold maxLen at h2; omega, hR, hb⟩
end Go.Proofs.Ytieipbobijnmlaa.vk

namespace Go.Proofs.Ytieipbobijnmlaa.wi

open Go.ChangeShapes Go.WideShapes Go.ChangeAt Go.RowKit

theorem RB_new {w : World} {g : Nat} (hg : w.heap.size = g) (l : List UInt8) {cs : Array Value} (t : TypeId) (hcs : cs = (wp.bc l).toArray) : wp.RB (w.alloc (.cells cs t)) (some ⟨g, 0, none⟩) l := fun hl => by
  subst hg hcs
  exact ⟨w.heap.size, 0, rfl, by simp, fun j u hu => by
    have := wk.cells_new w (wp.bc l) t j (.int .u8 (u.toNat : Int)) (by simp [wp.bc, hu])
    rw [wk.add_at] at this
    exact this⟩
theorem RC_new {w : World} {g : Nat} (hg : w.heap.size = g) (xs : List Value) {cs : Array Value} (t : TypeId) (hcs : cs = xs.toArray) : wp.RC (w.alloc (.cells cs t)) (some ⟨g, 0, none⟩) xs := fun hl => by
  subst hg hcs
  exact ⟨w.heap.size, 0, rfl, by simp, fun j u hu => by
    have := wk.cells_new w xs t j u hu
    rw [wk.add_at] at this
    exact this⟩

end Go.Proofs.Ytieipbobijnmlaa.wi
/- Compare, Alike. -/
namespace Go.Proofs.Ytieipbobijnmlaa.vk

open Go.ChangeShapes Go.WideShapes Go.ChangeAt Go.RowKit

set_option linter.unusedVariables false
set_option maxRecDepth 100000 in
theorem isNaN_calls (x : Int) (w : World) : Calls Try.prog 96 #[.int .i64 x] w fun e w' => e = .returned (.bool false) ∧ w' = w := by
  go_enter Try.func96, Try.ntmps96
  go_wp2_with fail
  go_ret
  exact ⟨by simp, rfl⟩
def orI : List Int → Int
  | [] => 0
  | x :: l => if x = 0 then orI l else x
theorem drop_at {l : List Int} {k : Nat} {x : Int} (h : l[k]? = some x) : l.drop k = x :: l.drop (k + 1) := by
  obtain ⟨hk, rfl⟩ := List.getElem?_eq_some_iff.1 h
  exact List.drop_eq_getElem_cons hk
theorem isI_new {w : World} {g : Nat} (hg : w.heap.size = g) (l : List Int) {cs : Array Value} (hcs : cs = (iv l).toArray) (n : Nat) (hn : l.length = n) (h40 : n ≤ 1099511627776) (hb : ∀ x ∈ l, -9223372036854775808 ≤ x ∧ x ≤ 9223372036854775807) (t : TypeId) : wo.IsI (w.alloc (.cells cs t)) (some ⟨g, 0, none⟩) n n l :=
  ⟨hn, Nat.le_refl _, by omega, wi.RC_new hg _ _ hcs, hb⟩
theorem cmpI_bd (x y : Int) : -1 ≤ vq.cmpI x y ∧ vq.cmpI x y ≤ 1 := by
  unfold vq.cmpI
  split
  · omega
  · split <;> omega
theorem lex_bd (a b : List Int) : -1 ≤ vq.lex a b ∧ vq.lex a b ≤ 1 := by have := vq.lex_range a b; omega
theorem or_cmp (a b : List Int) : orI [vq.cmpI a.length b.length, vq.lex a b] = vq.cmp a b := by
  have := vq.lex_range a b
  unfold orI orI orI vq.cmpI vq.cmp
  repeat' split
  all_goals omega
end Go.Proofs.Ytieipbobijnmlaa.vk
/- Alike, Encode, Decode: the program's. -/
namespace Go.Proofs.Ytieipbobijnmlaa.vq

open Go.Proofs.Ytieipbobijnmlaa
theorem getN_bd (l : List UInt8) : ∀ (g : Nat) (acc : List Int) (u : Int), (∀ x ∈ acc, -9223372036854775808 ≤ x ∧ x ≤ 9223372036854775807) → ∀ x ∈ (wp.getN wp.getI l g acc u).1, -9223372036854775808 ≤ x ∧ x ≤ 9223372036854775807
  | 0, acc, u, h => by rw [wp.getN]; exact h
  | g + 1, acc, u, h => by
    rw [wp.getN]
    split
    · intro x hx; cases hx
    · refine getN_bd l g _ _ fun x hx => ?_
      rw [List.mem_append, List.mem_singleton] at hx
      rcases hx with hx | rfl
      · exact h x hx
      · have := wp.getI_facts (l.drop u.toNat)
        exact ⟨this.1, this.2.1⟩
theorem getL_bd (l : List UInt8) : ∀ x ∈ (wp.getL wp.getI 1 l).1, -9223372036854775808 ≤ x ∧ x ≤ 9223372036854775807 := by
  unfold wp.getL
  split
  · intro x hx; cases hx
  · exact getN_bd l _ _ _ (by intro x hx; cases hx)
theorem encIs_length (l : List Int) (h : ∀ x ∈ l, -9223372036854775808 ≤ x ∧ x ≤ 9223372036854775807) (hl : l.length ≤ 1099511627776) : (wp.encIs l).length ≤ 10 + 10 * l.length := by
  have h1 : ∀ l : List Int, (∀ x ∈ l, -9223372036854775808 ≤ x ∧ x ≤ 9223372036854775807) → (l.flatMap wp.encI).length ≤ 10 * l.length := by
    intro l
    induction l with
    | nil => simp
    | cons x l ih =>
      intro h
      have := wp.encI_length (h x (by simp)).1 (h x (by simp)).2
      have := ih fun y hy => h y (by simp [hy])
      simp only [List.flatMap_cons, List.length_append, List.length_cons]
      omega
  have := h1 l h
  have := wp.encI_length (n := (l.length : Int)) (by omega) (by omega)
  unfold wp.encIs
  rw [List.length_append]
  omega
/-- Decode -/
def dec (l : List UInt8) : List Int × Int :=
  if (wp.getL wp.getI 1 l).2.2 ≠ 0 then ([], (wp.getL wp.getI 1 l).2.2) else if (wp.getL wp.getI 1 l).2.1 < (l.length : Int) then ([], 11) else if valid (wp.getL wp.getI 1 l).1 then ((wp.getL wp.getI 1 l).1, 0) else ([], 40)
theorem dec_eq (l : List UInt8) : dec l =
  if (wp.getL wp.getI 1 l).2.2 ≠ 0 then ([], (wp.getL wp.getI 1 l).2.2) else if (wp.getL wp.getI 1 l).2.1 < (l.length : Int) then ([], 11) else if valid (wp.getL wp.getI 1 l).1 then ((wp.getL wp.getI 1 l).1, 0) else ([], 40) := rfl
end Go.Proofs.Ytieipbobijnmlaa.vq

namespace Go.Proofs.Ytieipbobijnmlaa.vk

open Go.ChangeShapes Go.WideShapes Go.ChangeAt Go.RowKit

set_option linter.unusedVariables false
theorem isB_of_out {l : List UInt8} {w w' : World} {e : Ending} (h : wi.OutB l w e w') : ∃ A c, e = .returned (.slice A l.length c) ∧ wo.IsB w' A l.length c l ∧ Below w.heap.size w w' := by
  obtain ⟨v, rfl, hown, hb⟩ := h
  obtain ⟨A, c, rfl, h1, h2, hR⟩ := wp.RC.of_own hown
  exact ⟨A, c, rfl, ⟨rfl, h1, by unfold maxLen at h2; omega, hR.rb⟩, hb⟩
theorem isI_nil (w : World) : wo.IsI w none 0 0 [] := ⟨rfl, Nat.le_refl _, by omega, fun h => absurd h (by simp), fun x hx => by cases hx⟩
end Go.Proofs.Ytieipbobijnmlaa.vk
/- The reference's: Valid, Alike, Compare, Same, Metric. -/
namespace Go.Proofs.Ytieipbobijnmlaa.vk

open Go.ChangeShapes Go.WideShapes Go.ChangeAt Go.RowKit

set_option linter.unusedVariables false
theorem all_drop {l : List Int} {k : Nat} {x : Int} {p : Int → Bool} (h : l[k]? = some x) : (l.drop k).all p = (p x && (l.drop (k + 1)).all p) := by
  rw [drop_at h]; rfl
theorem decide_cast (a b : Nat) : decide ((a : Int) ≤ (b : Int)) = decide (a ≤ b) := by simp
end Go.Proofs.Ytieipbobijnmlaa.vk
/- The reference's: Difference, Dot, Sub, Norm, Key. -/
namespace Go.Proofs.Ytieipbobijnmlaa.vq
def okd (x : Int) : Bool := decide (-2000 ≤ x) && decide (x ≤ 2000)
def diff (v : List Int) : Bool := decide (1 ≤ v.length) && decide (v.length ≤ 32) && v.all okd
theorem diff_iff {v : List Int} : diff v = true ↔ 1 ≤ v.length ∧ v.length ≤ 32 ∧ ∀ x ∈ v, -2000 ≤ x ∧ x ≤ 2000 := by
  simp [diff, okd, List.all_eq_true, and_assoc]
def growR (m n x : Int) : Int := if m = 1 then n + ab x else if m = 2 then n + x * x else max n (ab x)
theorem growR_eq {m n x : Int} (h1 : 1 ≤ m) (h2 : m ≤ 3) : growR m n x = grow m n x := by
  unfold growR grow ab
  split
  · rfl
  · split
    · rfl
    · rw [if_pos (by omega)]; omega
end Go.Proofs.Ytieipbobijnmlaa.vq

namespace Go.Proofs.Ytieipbobijnmlaa.vk

open Go.ChangeShapes Go.WideShapes Go.ChangeAt Go.RowKit

set_option linter.unusedVariables false
theorem few_diff {l : List Int} (h : vq.diff l = true) : Few l := (vq.diff_iff.1 h).2.2
end Go.Proofs.Ytieipbobijnmlaa.vk
/- Quotients, Clone. -/
namespace Go.Proofs.Ytieipbobijnmlaa.vq
theorem tdiv_cases (s n : Int) (hn : 1 ≤ n) : (s.tmod n < 0 ∧ s.tdiv n - 1 = s / n) ∨ (0 ≤ s.tmod n ∧ s.tdiv n = s / n) := by
  rw [Int.tdiv_eq_ediv, Int.tmod_eq_emod]
  have h0 := Int.emod_nonneg s (show n ≠ 0 by omega)
  have h1 := Int.emod_lt_of_pos s (show 0 < n by omega)
  have hs : n.sign = 1 := Int.sign_eq_one_of_pos (by omega)
  split
  · right; omega
  · left; rw [hs]; omega
theorem tdiv_bd {s n : Int} (hn : 1 ≤ n) (h1 : -1099511627776 ≤ s) (h2 : s ≤ 1099511627776) : -1099511627776 ≤ s.tdiv n ∧ s.tdiv n ≤ 1099511627776 := by
  rcases Int.le_total 0 s with h | h
  · have a := Int.tdiv_le_self (a := s) n h
    have b := Int.tdiv_nonneg h (show 0 ≤ n by omega)
    omega
  · have a := Int.tdiv_le_self (a := -s) n (by omega)
    have b := Int.tdiv_nonneg (show 0 ≤ -s by omega) (show 0 ≤ n by omega)
    rw [Int.neg_tdiv] at a b
    omega
end Go.Proofs.Ytieipbobijnmlaa.vq

namespace Go.Proofs.Ytieipbobijnmlaa.vk

open Go.ChangeShapes Go.WideShapes Go.ChangeAt Go.RowKit

set_option linter.unusedVariables false
end Go.Proofs.Ytieipbobijnmlaa.vk
/- Mean. -/
namespace Go.Proofs.Ytieipbobijnmlaa.vq
def vadd (a b : List Int) : List Int := List.zipWith (· + ·) a b
def sums (m : List Int) (T : List (List Int)) : List Int := T.foldl vadd m
def mean (L : List (List Int)) : List Int := (sums (L.headD []) (L.drop 1)).map (· / (L.length : Int))
theorem vadd_length {a b : List Int} (h : a.length = b.length) : (vadd a b).length = a.length := by simp [vadd, h]
theorem vadd_at {a b : List Int} {i : Nat} {x y : Int} (h : a[i]? = some x) (h' : b[i]? = some y) : (vadd a b)[i]? = some (x + y) := by
  simp [vadd, List.getElem?_zipWith, h, h']
theorem sums_length {d : Nat} : ∀ (T : List (List Int)) (m : List Int), m.length = d → (∀ l ∈ T, l.length = d) → (sums m T).length = d
  | [], m, h, _ => h
  | l :: T, m, h, hT => by
    have h1 := hT l (by simp)
    exact sums_length T (vadd m l) (by rw [vadd_length (by omega)]; exact h) (fun x hx => hT x (by simp [hx]))
theorem sums_snoc (m : List Int) {T : List (List Int)} {k : Nat} {l : List Int} (h : T[k]? = some l) : sums m (T.take (k + 1)) = vadd (sums m (T.take k)) l := by
  rw [take_snoc h, sums, List.foldl_append]; rfl
theorem vadd_bd {a b : List Int} {c : Int} (ha : ∀ x ∈ a, -c ≤ x ∧ x ≤ c) (hb : ∀ x ∈ b, -1000 ≤ x ∧ x ≤ 1000) : ∀ x ∈ vadd a b, -(c + 1000) ≤ x ∧ x ≤ c + 1000 := by
  intro x hx
  obtain ⟨i, hi, rfl⟩ := List.mem_iff_getElem.1 hx
  have hi2 : i < a.length ∧ i < b.length := by simp [vadd] at hi; omega
  have h1 := ha _ (List.getElem_mem hi2.1)
  have h2 := hb _ (List.getElem_mem hi2.2)
  simp only [vadd, List.getElem_zipWith]
  omega
theorem sums_bd : ∀ (T : List (List Int)) (m : List Int) (c : Int), (∀ x ∈ m, -c ≤ x ∧ x ≤ c) → (∀ l ∈ T, ∀ x ∈ l, -1000 ≤ x ∧ x ≤ 1000) → ∀ x ∈ sums m T, -(c + 1000 * T.length) ≤ x ∧ x ≤ c + 1000 * T.length
  | [], m, c, h, _ => by intro x hx; have := h x hx; simp; omega
  | l :: T, m, c, h, hT => by
    have h1 := vadd_bd h (hT l (by simp))
    have h2 := sums_bd T (vadd m l) (c + 1000) h1 (fun x hx => hT x (by simp [hx]))
    intro x hx
    have := h2 x hx
    simp only [List.length_cons]
    omega
/-- partly done -/
def part (p q : List Int) (i : Nat) : List Int := p.take i ++ q.drop i
theorem part_zero (p q : List Int) : part p q 0 = q := by simp [part]
theorem part_end {p q : List Int} {i : Nat} (h1 : p.length = i) (h2 : q.length = i) : part p q i = p := by
  rw [part, List.take_of_length_le (by omega), List.drop_of_length_le (by omega), List.append_nil]
theorem part_at {p q : List Int} {i : Nat} {x : Int} (hp : i ≤ p.length) (h : q[i]? = some x) : (part p q i)[i]? = some x := by
  rw [part, List.getElem?_append_right (by rw [List.length_take]; omega), List.length_take, Nat.min_eq_left hp, Nat.sub_self, List.getElem?_drop, Nat.add_zero, h]
theorem part_set {p q : List Int} {i : Nat} {x y : Int} (hp : p[i]? = some x) (hq : q[i]? = some y) : (part p q i).set i x = part p q (i + 1) := by
  obtain ⟨hip, _⟩ := List.getElem?_eq_some_iff.1 hp
  obtain ⟨hiq, _⟩ := List.getElem?_eq_some_iff.1 hq
  rw [part, part, take_snoc hp, List.set_append_right _ _ (by rw [List.length_take]; omega), List.length_take, Nat.min_eq_left (by omega), Nat.sub_self, List.drop_eq_getElem_cons hiq, List.set_cons_zero]
  simp
theorem part_length {p q : List Int} {d i : Nat} (h1 : p.length = d) (h2 : q.length = d) (hi : i ≤ d) : (part p q i).length = d := by
  simp [part, h1, h2]; omega
theorem map_at {a : List Int} {n : Int} {i : Nat} {x : Int} (h : a[i]? = some x) : (a.map (· / n))[i]? = some (x / n) := by simp [h]
end Go.Proofs.Ytieipbobijnmlaa.vq

namespace Go.Proofs.Ytieipbobijnmlaa.vk

open Go.ChangeShapes Go.WideShapes Go.ChangeAt Go.RowKit

set_option linter.unusedVariables false
/-- a slice of slices of integers -/
def IsVV (w : World) (A : Option Addr) (n c : Nat) (L : List (List Int)) : Prop :=
  L.length = n ∧ n ≤ c ∧ c ≤ 9223372036854775807 ∧ ∀ k l, L[k]? = some l → ∃ b o A' n' c', A = some ⟨b, o, none⟩ ∧ b < w.heap.size ∧ w.cell? ⟨b, o + k, none⟩ = some (.slice A' n' c') ∧ wo.IsI w A' n' c' l
theorem isVV_below {w w' : World} {A : Option Addr} {n c : Nat} {L : List (List Int)} (h : IsVV w A n c L) (hb : Below w.heap.size w w') : IsVV w' A n c L :=
  ⟨h.1, h.2.1, h.2.2.1, fun k l hk => by
    obtain ⟨b, o, A', n', c', hA, hlt, hc, hI⟩ := h.2.2.2 k l hk
    exact ⟨b, o, A', n', c', hA, Nat.lt_of_lt_of_le hlt hb.size, (hb.cell (p := ⟨b, o + k, none⟩) hlt).trans hc, isI_below hI hb⟩⟩
theorem isVV_drewN {w : World} {A : Option Addr} {n c : Nat} {L : List (List Int)} (h : IsVV w A n c L) (q : Nat) : IsVV (w.drewN q) A n c L := h
theorem infoV : (Try.prog.info? 22).map (·.size) = some 1 := by kernel_rfl
end Go.Proofs.Ytieipbobijnmlaa.vk
/- Mean, walked. -/
namespace Go.Proofs.Ytieipbobijnmlaa.vk

open Go.ChangeShapes Go.WideShapes Go.ChangeAt Go.RowKit

set_option linter.unusedVariables false
theorem own_form {w : World} {B n : Nat} {v : Value} {xs : List Value} {e : TypeId} (h : w.ownsRow B e 1 v n xs) (hn : 1 ≤ n) : ∃ g cap, v = .slice (some ⟨g, 0, none⟩) n cap ∧ B ≤ g ∧ g < w.heap.size ∧ n ≤ cap ∧ cap ≤ 9223372036854775807 := by
  rcases h.2 with ⟨_, h0⟩ | ⟨g, cap, cur, rfl, hb, hg, h1, h2, _⟩
  · omega
  · refine ⟨g, cap, rfl, hb, ?_, h1, by unfold maxLen at h2; omega⟩
    rcases Nat.lt_or_ge g w.heap.size with h' | h'
    · exact h'
    · rw [Array.getElem?_eq_none h'] at hg; cases hg
theorem ediv_bd {y : Int} {n : Nat} (h : 1 ≤ n) : -(y.natAbs : Int) ≤ y / (n : Int) ∧ y / (n : Int) ≤ y.natAbs := by
  rcases Int.le_total 0 y with h' | h'
  · have a := Int.ediv_le_self (n : Int) h'
    have b := Int.ediv_nonneg h' (show (0 : Int) ≤ n by omega)
    omega
  · have a : y ≤ y / (n : Int) := by
      rw [Int.le_ediv_iff_mul_le (by omega)]
      have := Int.mul_nonneg (show 0 ≤ -y by omega) (show 0 ≤ (n : Int) - 1 by omega)
      grind
    have b : y / (n : Int) ≤ 0 := by
      have := Int.ediv_le_ediv (c := (n : Int)) (by omega) h'
      rw [Int.zero_ediv] at this
      exact this
    omega
end Go.Proofs.Ytieipbobijnmlaa.vk
