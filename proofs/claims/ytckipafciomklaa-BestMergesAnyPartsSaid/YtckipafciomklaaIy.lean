/- Four lists that grow. -/
import Derived.Test.YtckipafciomklaaIz

namespace Go.Proofs.Ytckipafciomklaa.bestMergesAnyParts

open Go.ChangeShapes Go.WideShapes Go.ChangeAt Go.RowKit

open Go.Proofs.Ytckipafciomklaa.bk Go.Proofs.Ytckipafciomklaa.bq Go.Proofs.Ytckipafciomklaa.vk Go.Proofs.Ytckipafciomklaa.wk

set_option linter.unusedVariables false
attribute [local go_sem] Oper.semAt_some
abbrev H := Int × Int × Int
/-- four lists that grow, and the array of their slices -/
structure Q4 (u : World) (P : Nat) (v : Nat → Value) (p : Nat → List H) : Prop where
  arr : u.heap[P]? = some (.cells #[v 0, v 1, v 2, v 3] 40 (0, 0))
  row : ∀ j, j < 4 → u.ownsRow (P + 1) 27 3 (v j) (p j).length (fl (p j))
  sep : ∀ i j, i < 4 → j < 4 → i ≠ j → (v i).ownBlock = none ∨ (v i).ownBlock ≠ (v j).ownBlock
theorem j4 {j : Nat} (h : j < 4) : j = 0 ∨ j = 1 ∨ j = 2 ∨ j = 3 := by omega
theorem Q4.lt {u : World} {P : Nat} {v : Nat → Value} {p : Nat → List H} (h : Q4 u P v p) : P < u.heap.size := (Array.getElem?_eq_some_iff.1 h.arr).1
theorem Q4.cell {u : World} {P : Nat} {v : Nat → Value} {p : Nat → List H} (h : Q4 u P v p) {j : Nat} (hj : j < 4) : u.cell? ⟨P, j, none⟩ = some (v j) := by
  rw [cell_of_row _ _ _ _ _ _ h.arr]
  rcases j4 hj with rfl | rfl | rfl | rfl <;> rfl
theorem Q4.frozen {u : World} {P : Nat} {v : Nat → Value} {p : Nat → List H} (h : Q4 u P v p) (j : Nat) : u.frozen? ⟨P, j, none⟩ = false := frozen_of_row _ _ _ _ _ h.arr
theorem Q4.below {u u' : World} {P : Nat} {v : Nat → Value} {p : Nat → List H} (h : Q4 u P v p) (hb : Below u.heap.size u u') : Q4 u' P v p :=
  ⟨(hb.block P h.lt).trans h.arr, fun j hj => keptB (h.row j hj) hb, h.sep⟩
theorem Q4.bd {u : World} {P : Nat} {v : Nat → Value} {p : Nat → List H} (h : Q4 u P v p) {j q : Nat} (hj : j < 4) (hq : (v j).ownBlock = some q) : P + 1 ≤ q ∧ q < u.heap.size := (h.row j hj).lt q hq
def upd {α : Type} (f : Nat → α) (k : Nat) (a : α) : Nat → α := fun j => if j = k then a else f j
theorem upd_same {α : Type} (f : Nat → α) (k : Nat) (a : α) : upd f k a k = a := by simp [upd]
theorem upd_ne {α : Type} (f : Nat → α) {k j : Nat} (a : α) (h : j ≠ k) : upd f k a j = f j := by simp [upd, h]
/-- one hit more in one of them -/
theorem Q4.grow {w u : World} {P k : Nat} {v : Nat → Value} {p : Nat → List H} {x : H} {v' : Value} (h : Q4 w P v p) (hk : k < 4) (hg : w.grownBy u (v k).ownBlock)
    (hr : u.ownsRow (P + 1) 27 3 v' ((p k).length + 1) (fl (p k) ++ rv x)) (hb : v'.ownBlock = (v k).ownBlock ∨ ∃ q, v'.ownBlock = some q ∧ w.heap.size ≤ q) :
    Q4 (u.setCell ⟨P, k, none⟩ v') P (upd v k v') (upd p k (p k ++ [x])) := by
  have hP : some P ≠ (v k).ownBlock := fun e => by have := h.bd hk e.symm; omega
  have ha : u.heap[P]? = some (.cells #[v 0, v 1, v 2, v 3] 40 (0, 0)) := (hg.block P h.lt hP).trans h.arr
  have hsep : ∀ j, j < 4 → j ≠ k → (v j).ownBlock = none ∨ (v j).ownBlock ≠ v'.ownBlock := fun j hj hjk => by
    rcases hb with hb | ⟨q, hb, hq⟩
    · rw [hb]; exact h.sep j k hj hk hjk
    · refine .inr fun e => ?_
      rw [hb] at e
      have := h.bd hj e; omega
  have hsetP : ∀ {vv : Value} {n : Nat} {xs : List Value}, u.ownsRow (P + 1) 27 3 vv n xs → (u.setCell ⟨P, k, none⟩ v').ownsRow (P + 1) 27 3 vv n xs := fun hh =>
    World.ownsRow.kept hh ⟨rfl, rfl, rfl, by simp [World.setCell], fun i _ hi => Below.heap_setCell _ _ _ _ (by simpa using fun e => hi (by rw [e]))⟩ (row := some P) (by
      rcases hh.2 with ⟨hv, _⟩ | ⟨g, cap, cur, hv, hbg, _⟩
      · left; rw [hv]; rfl
      · right; rw [hv]; intro e; have e : g = P := by simpa [Value.ownBlock] using e
        omega)
  refine ⟨?_, fun j hj => ?_, fun i j hi hj hij => ?_⟩
  · have := heap_setCell_same u P k #[v 0, v 1, v 2, v 3] 40 v' ha
    rw [this]
    rcases j4 hk with rfl | rfl | rfl | rfl <;> simp [upd]
  · by_cases e : j = k
    · subst e
      rw [upd_same, upd_same]
      have h2 := hsetP hr
      rw [List.length_append, List.length_singleton, fl_append]
      simpa [fl] using h2
    · rw [upd_ne _ _ e, upd_ne _ _ e]
      refine hsetP (World.ownsRow.kept (h.row j hj) hg ?_)
      rcases h.sep j k hj hk e with h1 | h1
      · exact .inl h1
      · exact .inr (fun e2 => h1 e2)
  · by_cases e1 : i = k
    · subst e1
      rw [upd_same, upd_ne _ _ (Ne.symm hij)]
      rcases hsep j hj (Ne.symm hij) with h1 | h1
      · cases hv : v'.ownBlock with
        | none => exact .inl rfl
        | some q => exact .inr (by rw [h1]; simp)
      · exact .inr (fun e => h1 e.symm)
    · by_cases e2 : j = k
      · subst e2
        rw [upd_same, upd_ne _ _ e1]
        exact hsep i hi e1
      · rw [upd_ne _ _ e1, upd_ne _ _ e2]; exact h.sep i j hi hj hij
/-- a slice that is none of the four, and not the array -/
def Off (P : Nat) (v : Nat → Value) (A : Option Addr) : Prop := ∀ b o s, A = some ⟨b, o, s⟩ → b ≠ P ∧ ∀ j, j < 4 → (v j).ownBlock ≠ some b
theorem Off.new {u : World} {P : Nat} {v : Nat → Value} {p : Nat → List H} {A : Option Addr} (h : Q4 u P v p) (hn : New u.heap.size A) : Off P v A := fun b o s e => by
  have := hn b o s e
  refine ⟨fun e2 => by have := h.lt; omega, fun j hj e2 => ?_⟩
  have := h.bd hj e2; omega
theorem Off.upd {w : World} {P k : Nat} {v : Nat → Value} {v' : Value} {A : Option Addr} {n c : Nat} {l : List H} (h : Off P v A) (hi : IsH w A n c l) (hb : v'.ownBlock = (v k).ownBlock ∨ ∃ q, v'.ownBlock = some q ∧ w.heap.size ≤ q) (hk : k < 4) (hA : ∀ b o s, A = some ⟨b, o, s⟩ → b < w.heap.size) : Off P (upd v k v') A := fun b o s e => by
  have h1 := h b o s e
  refine ⟨h1.1, fun j hj => ?_⟩
  by_cases e2 : j = k
  · subst e2
    rw [upd_same]
    rcases hb with hb | ⟨q, hb, hq⟩
    · rw [hb]; exact h1.2 j hj
    · rw [hb]; intro e3; injection e3 with e3; have := hA b o s e; omega
  · rw [upd_ne _ _ e2]; exact h1.2 j hj
/-- a slice in memory that holds, and lies off the four -/
structure Free (u : World) (P : Nat) (v : Nat → Value) (A : Option Addr) (n c : Nat) (l : List H) : Prop where
  is : IsH u A n c l
  off : Off P v A
  lt : ∀ b o s, A = some ⟨b, o, s⟩ → b < u.heap.size
theorem Free.below {u u' : World} {P : Nat} {v : Nat → Value} {A : Option Addr} {n c : Nat} {l : List H} (h : Free u P v A n c l) (hb : Below u.heap.size u u') : Free u' P v A n c l :=
  ⟨h.is.below hb, h.off, fun b o s e => Nat.lt_of_lt_of_le (h.lt b o s e) hb.size⟩
theorem Free.grow {w u : World} {P k : Nat} {v : Nat → Value} {v' : Value} {A : Option Addr} {n c : Nat} {l : List H} (h : Free w P v A n c l) (hk : k < 4) (hg : w.grownBy u (v k).ownBlock)
    (hb : v'.ownBlock = (v k).ownBlock ∨ ∃ q, v'.ownBlock = some q ∧ w.heap.size ≤ q) : Free (u.setCell ⟨P, k, none⟩ v') P (upd v k v') A n c l := by
  refine ⟨⟨h.is.1, h.is.2.1, h.is.2.2.1, ?_, h.is.2.2.2.2⟩, h.off.upd h.is hb hk h.lt, fun b o s e => ?_⟩
  · intro hlt
    obtain ⟨b, o, e, hbb, hc⟩ := h.is.2.2.2.1 hlt
    have ho := h.off b o none e
    refine ⟨b, o, e, by have := hg.size; simp only [World.setCell, Array.size_modify]; omega, fun i y hy => ?_⟩
    rw [← hc i y hy]
    unfold World.cell?
    rw [Below.heap_setCell _ _ _ _ ho.1, hg.block b hbb (fun e2 => ho.2 k hk e2.symm)]
  · have := h.lt b o s e
    have := hg.size
    simp only [World.setCell, Array.size_modify]; omega
theorem free_nil (u : World) (P : Nat) (v : Nat → Value) : Free u P v none 0 0 [] := ⟨isH_nil u, (fun b o s e => by cases e), (fun b o s e => by cases e)⟩
theorem free_new {u u' : World} {P : Nat} {v : Nat → Value} {p : Nat → List H} {A : Option Addr} {n c : Nat} {l : List H} (hq : Q4 u P v p) (h : IsH u' A n c l) (hn : New u.heap.size A) (hl : ∀ b o s, A = some ⟨b, o, s⟩ → b < u'.heap.size) : Free u' P v A n c l := ⟨h, Off.new hq hn, hl⟩
theorem grown_below {w u u' : World} {row : Option Nat} (h : w.grownBy u row) (hb : Below u.heap.size u u') : w.grownBy u' row :=
  ⟨hb.os.trans h.os, hb.tape.trans h.tape, hb.output.trans h.output, Nat.le_trans h.size hb.size, fun k hk hr => (hb.block k (by have := h.size; omega)).trans (h.block k hk hr)⟩
theorem grown_trans {w u u' : World} {row : Option Nat} (h : w.grownBy u row) (hb : u.grownBy u' row) : w.grownBy u' row :=
  ⟨hb.os.trans h.os, hb.tape.trans h.tape, hb.output.trans h.output, Nat.le_trans h.size hb.size, fun k hk hr => (hb.block k (by have := h.size; omega) hr).trans (h.block k hk hr)⟩
theorem lt_of_isH {u : World} {A : Option Addr} {n c : Nat} {l : List H} (h : IsH u A n c l) (hl : l ≠ []) : ∀ b o s, A = some ⟨b, o, s⟩ → b < u.heap.size := fun b o s e => by
  obtain ⟨b', o', e', hb, _⟩ := h.2.2.2.1 (by rw [fl_length]; have : 0 < l.length := List.length_pos_iff.2 hl; omega)
  rw [e] at e'; injection e' with e'; injection e' with e1 e2 e3; omega
def AR (P B0 k : Nat) (v : Nat → Value) (pk : List H) (x0 : H) (w0s : Nat) (Lv : Nat → Bool) (i : Nat) (w : World) (x : Value) : Prop :=
  match i with
  | 0 => x = .int .i64 (k : Int)
  | 1 => x = .int .i64 (k : Int)
  | 2 => x = .pointer (some ⟨P, k, none⟩)
  | 3 => x = v k
  | 4 => x = .agg #[.int .i64 x0.1, .int .i64 x0.2.1, .int .i64 x0.2.2]
  | 5 => ∃ g, x = .slice (some ⟨g, 0, none⟩) 1 1 ∧ (Lv 6 = false → RowH w g x0)
  | 6 => w.ownsRow (P + 1) 27 3 x (pk.length + 1) (fl pk ++ rv x0) ∧ (x.ownBlock = (v k).ownBlock ∨ ∃ q, x.ownBlock = some q ∧ w0s ≤ q)
  | 7 => x = .pointer (some ⟨P, k, none⟩)
  | _ => True
theorem AR.next {P B0 k : Nat} {v : Nat → Value} {pk : List H} {x0 : H} {w0s : Nat} {Lv : Nat → Bool} {i m : Nat} {w w' : World} {x : Value} (hb : Below w.heap.size w w') (h : AR P B0 k v pk x0 w0s Lv i w x) : AR P B0 k v pk x0 w0s (fun j => if j = m then true else Lv j) i w' x := by
  unfold AR at h ⊢
  split at h
  · exact h
  · exact h
  · exact h
  · exact h
  · exact h
  · obtain ⟨g, h1, h2⟩ := h; exact ⟨g, h1, fun h4 => (h2 (lv_of h4)).below hb⟩
  · exact ⟨keptB h.1 hb, h.2⟩
  · exact h
  · trivial
theorem AR.app {P B0 k : Nat} {v : Nat → Value} {pk : List H} {x0 : H} {w0s : Nat} {Lv : Nat → Bool} {i : Nat} {w w' : World} {x : Value} (hi : i ≠ 6) (h : AR P B0 k v pk x0 w0s Lv i w x) : AR P B0 k v pk x0 w0s (fun j => if j = 6 then true else Lv j) i w' x := by
  unfold AR at h ⊢
  split at h
  · exact h
  · exact h
  · exact h
  · exact h
  · exact h
  · obtain ⟨g, h1, h2⟩ := h; exact ⟨g, h1, fun h4 => lv_eq h4⟩
  · exact absurd rfl hi
  · exact h
  · trivial
def AS (w0 : World) (r : Option Nat) (Lv : Nat → Bool) (u : World) : Prop := w0.grownBy u r ∧ (Lv 6 = false → Below w0.heap.size w0 u)
theorem AS.next {w0 : World} {r : Option Nat} {Lv : Nat → Bool} {u u' : World} (m : Nat) (hb : Below u.heap.size u u') (h : AS w0 r Lv u) : AS w0 r (fun j => if j = m then true else Lv j) u' :=
  ⟨grown_below h.1 hb, fun h4 => (h.2 (lv_of h4)).trans (hb.mono h.1.size)⟩
theorem AS.app {w0 : World} {r : Option Nat} {Lv : Nat → Bool} {u' : World} (hg : w0.grownBy u' r) : AS w0 r (fun j => if j = 6 then true else Lv j) u' := ⟨hg, fun h4 => lv_eq h4⟩
/-- the hits of the first m parts -/
def cup (p : Nat → List H) (m : Nat) : List H := (List.range m).flatMap p
theorem cup_succ (p : Nat → List H) (m : Nat) : cup p (m + 1) = cup p m ++ p m := by unfold cup; rw [List.range_succ, List.flatMap_append]; simp
theorem mem_cup {p : Nat → List H} {m : Nat} {x : H} : x ∈ cup p m ↔ ∃ j, j < m ∧ x ∈ p j := by unfold cup; simp [List.mem_flatMap]
theorem one_step (p : Nat → List H) (m K : Nat) : ofL (ofL (cup p m) K ++ ofL (p m) K) K = ofL (cup p (m + 1)) K := by rw [ofL_left, ofL_right, cup_succ]
theorem two_step (p : Nat → List H) (m K : Nat) : ofL (ofL (p m) K ++ ofL (cup (fun i => p (3 - i)) (3 - m)) K) K = ofL (p m ++ cup (fun i => p (3 - i)) (3 - m)) K := by rw [ofL_left, ofL_right]
theorem put_step {l : List H} {q K : Nat} {x : H} (hx : l[q]? = some x) : ofL (ofL (l.take q) K ++ [x]) K = ofL (l.take (q + 1)) K := by rw [ofL_left, take_succ' hx]
theorem turn_step {l : List H} {q n K : Nat} {y : H} (hy : l[n - 1 - q]? = some y) (hq : q < n) : ofL (ofL (l.drop (n - q)) K ++ [y]) K = ofL (l.drop (n - (q + 1))) K := by
  rw [ofL_left]
  refine ofL_congr _ fun z => ?_
  obtain ⟨h1, rfl⟩ := List.getElem?_eq_some_iff.1 hy
  have e : l.drop (n - (q + 1)) = l[n - 1 - q] :: l.drop (n - q) := by
    have := List.drop_eq_getElem_cons h1
    rw [show n - (q + 1) = n - 1 - q by omega, this, show n - 1 - q + 1 = n - q by omega]
  rw [e]
  simp only [List.mem_append, List.mem_cons, List.not_mem_nil, or_false]
  exact or_comm
theorem mem_upd {p : Nat → List H} {k : Nat} {x y : H} (hk : k < 4) : (∃ j, j < 4 ∧ y ∈ upd p k (p k ++ [x]) j) ↔ (∃ j, j < 4 ∧ y ∈ p j) ∨ y = x := by
  constructor
  · rintro ⟨j, hj, hy⟩
    by_cases e : j = k
    · subst e
      rw [upd_same] at hy
      rcases List.mem_append.1 hy with h | h
      · exact .inl ⟨j, hj, h⟩
      · exact .inr (List.mem_singleton.1 h)
    · rw [upd_ne _ _ e] at hy; exact .inl ⟨j, hj, hy⟩
  · rintro (⟨j, hj, hy⟩ | rfl)
    · by_cases e : j = k
      · subst e; exact ⟨j, hj, by rw [upd_same]; simp [hy]⟩
      · exact ⟨j, hj, by rw [upd_ne _ _ e]; exact hy⟩
    · exact ⟨k, hk, by rw [upd_same]; simp⟩
end Go.Proofs.Ytckipafciomklaa.bestMergesAnyParts
