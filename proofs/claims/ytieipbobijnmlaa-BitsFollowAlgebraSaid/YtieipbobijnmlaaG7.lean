/- Joined: Ub Ur Uc Pl2 Pl3 RGet RDec. -/
import Derived.Test.YtieipbobijnmlaaG6

import Derived.Laws.AppendOwn
/- Codebooks in memory; what stays where a row grows. -/
namespace Go.Proofs.Ytieipbobijnmlaa.uk

open Go.ChangeShapes Go.WideShapes Go.ChangeAt Go.RowKit

open Go.Proofs.Ytieipbobijnmlaa.cq Go.Proofs.Ytieipbobijnmlaa.vk Go.Proofs.Ytieipbobijnmlaa.bk

set_option linter.unusedVariables false
/-- a slice of slices of slices of integers -/
def IsW (w : World) (A : Option Addr) (n c : Nat) (L : List VV) : Prop :=
  L.length = n ∧ n ≤ c ∧ c ≤ 9223372036854775807 ∧ ∀ k l, L[k]? = some l → ∃ b o A' n' c', A = some ⟨b, o, none⟩ ∧ b < w.heap.size ∧ w.cell? ⟨b, o + k, none⟩ = some (.slice A' n' c') ∧ IsVV w A' n' c' l
theorem isW_below {w w' : World} {A : Option Addr} {n c : Nat} {L : List VV} (h : IsW w A n c L) (hb : Below w.heap.size w w') : IsW w' A n c L :=
  ⟨h.1, h.2.1, h.2.2.1, fun k l hk => by
    obtain ⟨b, o, A', n', c', hA, hlt, hc, hI⟩ := h.2.2.2 k l hk
    exact ⟨b, o, A', n', c', hA, Nat.lt_of_lt_of_le hlt hb.size, (hb.cell (p := ⟨b, o + k, none⟩) hlt).trans hc, isVV_below hI hb⟩⟩
theorem isW_drewN {w : World} {A : Option Addr} {n c : Nat} {L : List VV} (h : IsW w A n c L) (q : Nat) : IsW (w.drewN q) A n c L := h
theorem isW_get {w : World} {A : Option Addr} {n c k : Nat} {L : List VV} (h : IsW w A n c L) (hk : k < n) : ∃ b o A' n' c' l, A = some ⟨b, o, none⟩ ∧ b < w.heap.size ∧ w.cell? ⟨b, o + k, none⟩ = some (.slice A' n' c') ∧ IsVV w A' n' c' l ∧ L[k]? = some l := by
  have hl : k < L.length := by have := h.1; omega
  obtain ⟨b, o, A', n', c', h1, h2, h3, h4⟩ := h.2.2.2 k L[k] (List.getElem?_eq_getElem hl)
  exact ⟨b, o, A', n', c', L[k], h1, h2, h3, h4, List.getElem?_eq_getElem hl⟩
def I64 (x : Int) : Prop := -9223372036854775808 ≤ x ∧ x ≤ 9223372036854775807
/-- a codebook as a value -/
def IsBk (w : World) (v : Value) (b : Bk) : Prop := ∃ A n c A' n' c', v = .agg #[.int .i64 b.d, .slice A n c, .slice A' n' c'] ∧ wo.IsI w A n c b.cuts ∧ IsW w A' n' c' b.W ∧ I64 b.d
theorem IsBk.below {w w' : World} {v : Value} {b : Bk} (h : IsBk w v b) (hb : Below w.heap.size w w') : IsBk w' v b := by
  obtain ⟨A, n, c, A', n', c', rfl, h1, h2, h3⟩ := h
  exact ⟨A, n, c, A', n', c', rfl, isI_below h1 hb, isW_below h2 hb, h3⟩
theorem IsBk.drewN {w : World} {v : Value} {b : Bk} (h : IsBk w v b) (q : Nat) : IsBk (w.drewN q) v b := h
/-- cells of blocks from B on may change where their type is in es; all else that are cells stand -/
structure Kp (B : Nat) (es : List TypeId) (w w' : World) : Prop where
  below : Below B w w'
  high : ∀ (k : Nat) (cs : Array Value) (t : TypeId) (fr : Nat × Nat), w.heap[k]? = some (.cells cs t fr) → t ∉ es → w'.heap[k]? = some (.cells cs t fr)
theorem Kp.refl (B : Nat) (es : List TypeId) (w : World) : Kp B es w w := ⟨Below.refl _ _, fun _ _ _ _ h _ => h⟩
theorem Kp.trans {B : Nat} {es : List TypeId} {a b c : World} (h : Kp B es a b) (k : Kp B es b c) : Kp B es a c := ⟨h.below.trans k.below, fun i cs t fr hi ht => k.high i cs t fr (h.high i cs t fr hi ht) ht⟩
theorem Kp.mono {B B' : Nat} {es : List TypeId} {a b : World} (h : Kp B es a b) (hB : B' ≤ B) : Kp B' es a b := ⟨h.below.mono hB, h.high⟩
theorem Kp.more {B : Nat} {es es' : List TypeId} {a b : World} (h : Kp B es a b) (hs : ∀ e ∈ es, e ∈ es') : Kp B es' a b := ⟨h.below, fun k cs t fr hk ht => h.high k cs t fr hk (fun hh => ht (hs t hh))⟩
theorem Kp.of_below {B : Nat} {es : List TypeId} {w w' : World} (h : Below w.heap.size w w') (hB : B ≤ w.heap.size) : Kp B es w w' :=
  ⟨h.mono hB, fun k cs t fr hk _ => (h.block k (Array.getElem?_eq_some_iff.1 hk).1).trans hk⟩
theorem Kp.of_grown {B B' n size : Nat} {es : List TypeId} {w w' : World} {e : TypeId} {v : Value} {xs : List Value} (ho : w.ownsRow B' e size v n xs) (he : e ∈ es) (hB : B ≤ B') (hB2 : B ≤ w.heap.size) (hg : w.grownBy w' v.ownBlock) : Kp B es w w' := by
  refine ⟨(Below.refl B w).grown hg hB2 (fun k hk => Nat.le_trans hB (ho.lt k hk).1), fun k cs t fr hk ht => (hg.block k (Array.getElem?_eq_some_iff.1 hk).1 ?_).trans hk⟩
  intro hh
  rcases ho.2 with ⟨rfl, _⟩ | ⟨g1, cap1, cur1, rfl, _, hh1, _⟩
  · simp [Value.ownBlock] at hh
  · have : k = g1 := by injection hh
    subst this
    rw [hk] at hh1
    injection hh1 with hh1
    injection hh1 with _ h3 _
    exact ht (h3 ▸ he)
theorem Kp.of_set {B : Nat} {es : List TypeId} {w : World} {g i : Nat} {cs : Array Value} {t : TypeId} {fr : Nat × Nat} (v : Value) (h : w.heap[g]? = some (.cells cs t fr)) (ht : t ∈ es) (hg : B ≤ g) : Kp B es w (w.setCell ⟨g, i, none⟩ v) := by
  refine ⟨(Below.refl B w).setCell (p := ⟨g, i, none⟩) hg v, fun k cs' t' fr' hk ht' => ?_⟩
  have hne : k ≠ g := by
    rintro rfl
    rw [h] at hk
    injection hk with hk
    injection hk with _ h2 _
    exact ht' (h2 ▸ ht)
  exact (Below.heap_setCell _ _ _ _ hne).trans hk
theorem Kp.of_own {B : Nat} {es : List TypeId} {w w' : World} {row : Option Nat} (hg : w.grownBy w' row) (hr : ∀ r, row = some r → B ≤ r ∧ ∃ o : Obj, w.heap[r]? = some o ∧ o.isCells = false) (hB : B ≤ w.heap.size) : Kp B es w w' := by
  refine ⟨(Below.refl B w).grown hg hB (fun k hk => (hr k hk).1), fun k cs t fr hk ht => (hg.block k (Array.getElem?_eq_some_iff.1 hk).1 ?_).trans hk⟩
  intro hh
  obtain ⟨_, o, ho, hc⟩ := hr k hh.symm
  rw [hk] at ho
  cases ho
  cases hc
/-- a fact that stands whatever may change -/
def St (B : Nat) (es : List TypeId) (p : World → Prop) (w : World) : Prop := ∀ w', Kp B es w w' → p w'
theorem St.now {B : Nat} {es : List TypeId} {p : World → Prop} {w : World} (h : St B es p w) : p w := h w (Kp.refl _ _ _)
theorem St.keep {B : Nat} {es : List TypeId} {p : World → Prop} {w w' : World} (h : St B es p w) (k : Kp B es w w') : St B es p w' := fun w2 h2 => h w2 (k.trans h2)
theorem St.below {B : Nat} {es : List TypeId} {p : World → Prop} {w w' : World} (h : St B es p w) (k : Below w.heap.size w w') (hB : B ≤ w.heap.size) : St B es p w' := h.keep (Kp.of_below k hB)
theorem St.up {B B' : Nat} {es es' : List TypeId} {p : World → Prop} {w : World} (h : St B es p w) (hB : B ≤ B') (hs : ∀ e ∈ es', e ∈ es) : St B' es' p w := fun w' k => h w' ((k.mono hB).more hs)
theorem St.imp {B : Nat} {es : List TypeId} {p q : World → Prop} {w : World} (h : St B es p w) (hpq : ∀ w', p w' → q w') : St B es q w := fun w' k => hpq w' (h w' k)
theorem St.given {B : Nat} {es : List TypeId} {p : World → Prop} {w0 w : World} (h : p w0) (hp : ∀ w', Below B w0 w' → p w') (hb : Below B w0 w) : St B es p w := fun w' k => hp w' (hb.trans k.below)
theorem own_st {B B' n size : Nat} {es : List TypeId} {w : World} {e : TypeId} {v : Value} {xs : List Value} (h : w.ownsRow B' e size v n xs) (he : e ∉ es) : St B es (fun w' => w'.ownsRow B' e size v n xs) w := fun w' k => by
  refine ⟨h.1, ?_⟩
  rcases h.2 with h1 | ⟨g, cap, cur, h1, h2, h3, h4⟩
  · exact .inl h1
  · exact .inr ⟨g, cap, cur, h1, h2, k.high _ _ _ _ h3 he, h4⟩
theorem isV_own {w : World} {B n : Nat} {v : Value} {l : List Int} (h : w.ownsRow B 3 1 v n (iv l)) (hb : ∀ x ∈ l, I64 x) : IsV w v l := by
  have hl : l.length = n := by have := h.1; simpa [iv] using this
  obtain ⟨A, c, rfl, h1, h2, hR⟩ := wp.RC.of_own h
  exact ⟨A, n, c, rfl, hl, h1, by unfold maxLen at h2; omega, hR, hb⟩
theorem own_slice {w : World} {B n size : Nat} {e : TypeId} {v : Value} {xs : List Value} (h : w.ownsRow B e size v n xs) : ∃ A c, v = .slice A n c := by
  rcases h.2 with ⟨rfl, rfl⟩ | ⟨g, cap, cur, rfl, _⟩
  · exact ⟨_, _, rfl⟩
  · exact ⟨_, _, rfl⟩
/-- an own row of integers: it stands where rows of other types grow -/
theorem isI_own_st {w : World} {B B' n : Nat} {es : List TypeId} {v : Value} {l : List Int} (h : w.ownsRow B' 3 1 v n (iv l)) (hb : ∀ x ∈ l, I64 x) (he : 3 ∉ es) : ∃ A c, v = .slice A n c ∧ St B es (fun w' => wo.IsI w' A n c l) w := by
  obtain ⟨A, c, rfl⟩ := own_slice h
  refine ⟨A, c, rfl, (own_st h he).imp fun w' h' => ?_⟩
  obtain ⟨A', n', c', e, hI⟩ := isV_own h' hb
  cases e
  exact hI
/-- a row of slices -/
def IsZ (w : World) (v : Value) (L : VV) : Prop := ∃ A n c, v = .slice A n c ∧ IsVV w A n c L
structure RowE {α : Type} (E : World → Value → α → Prop) (B : Nat) (es : List TypeId) (e : TypeId) (w : World) (v : Value) (L : List α) (vals : List Value) : Prop where
  own : w.ownsRow B e 1 v L.length vals
  at' : ∀ (i : Nat) (x : α), L[i]? = some x → ∃ u : Value, vals[i]? = some u ∧ St B es (fun w' => E w' u x) w
theorem RowE.len {α : Type} {E : World → Value → α → Prop} {B : Nat} {es : List TypeId} {e : TypeId} {w : World} {v : Value} {L : List α} {vals : List Value} (h : RowE E B es e w v L vals) : vals.length = L.length := by have := h.own.1; omega
theorem RowE.nil {α : Type} (E : World → Value → α → Prop) (B : Nat) (es : List TypeId) (e : TypeId) (w : World) : RowE E B es e w (.slice none 0 0) [] [] := ⟨World.ownsRow_nil _ _ _ _, fun i x h => by simp at h⟩
theorem RowE.start {α : Type} {E : World → Value → α → Prop} {B : Nat} {es : List TypeId} {e : TypeId} {w : World} {v : Value} (h : w.ownsRow B e 1 v 0 []) : RowE E B es e w v ([] : List α) [] := ⟨h, fun i x h => by simp at h⟩
theorem keptB {w w' : World} {B n size : Nat} {e : TypeId} {v : Value} {xs : List Value} (h : w.ownsRow B e size v n xs) (hb : Below w.heap.size w w') : w'.ownsRow B e size v n xs :=
  World.ownsRow.kept h (⟨hb.os, hb.tape, hb.output, hb.size, fun k hk _ => hb.block k hk⟩ : w.grownBy w' none) (by cases v.ownBlock; left; rfl; right; simp)
theorem RowE.below {α : Type} {E : World → Value → α → Prop} {B : Nat} {es : List TypeId} {e : TypeId} {w w' : World} {v : Value} {L : List α} {vals : List Value} (h : RowE E B es e w v L vals) (hb : Below w.heap.size w w') (hB : B ≤ w.heap.size) : RowE E B es e w' v L vals :=
  ⟨keptB h.own hb, fun i x hx => by obtain ⟨u, h1, h2⟩ := h.at' i x hx; exact ⟨u, h1, h2.below hb hB⟩⟩
theorem RowE.push {α : Type} {E : World → Value → α → Prop} {B : Nat} {es : List TypeId} {e : TypeId} {w w' : World} {v v' : Value} {L : List α} {vals : List Value} {u : Value} {x : α} (h : RowE E B es e w v L vals) (he : e ∈ es) (hs : St B es (fun w' => E w' u x) w) (hB : B ≤ w.heap.size)
    (o : Obj) (hg : (w.alloc o).grownBy w' v.ownBlock) (ho : w'.ownsRow B e 1 v' (L.length + 1) (vals ++ [u])) : RowE E B es e w' v' (L ++ [x]) (vals ++ [u]) := by
  have hk : Kp B es w w' := by
    have h1 : Kp B es w (w.alloc o) := Kp.of_below (below_new w o) hB
    refine h1.trans (Kp.of_grown (keptB h.own (below_new w o)) he (Nat.le_refl _) (by rw [size_new]; omega) hg)
  have hl := h.len
  refine ⟨by simpa using ho, fun i y hy => ?_⟩
  rcases Nat.lt_trichotomy i L.length with hi | hi | hi
  · rw [List.getElem?_append_left hi] at hy
    obtain ⟨z, h1, h2⟩ := h.at' i y hy
    exact ⟨z, by rw [List.getElem?_append_left (by omega)]; exact h1, h2.keep hk⟩
  · subst hi
    rw [List.getElem?_append_right (Nat.le_refl _), Nat.sub_self] at hy
    simp at hy
    subst hy
    exact ⟨u, by rw [← hl, List.getElem?_append_right (Nat.le_refl _), Nat.sub_self]; rfl, hs.keep hk⟩
  · rw [List.getElem?_eq_none (by simp; omega)] at hy; cases hy
theorem RowE.isVV {B : Nat} {es : List TypeId} {w : World} {v : Value} {L : VV} {vals : List Value} (h : RowE IsV B es 22 w v L vals) : ∃ A c, v = .slice A L.length c ∧ IsVV w A L.length c L := by
  have hl := h.len
  rcases h.own.2 with ⟨hv, hn0⟩ | ⟨g, cap, cur, hv, hb2, hh, h3, h4, h5, h6⟩
  · subst hv
    exact ⟨none, 0, by rw [hn0], rfl, by omega, by omega, fun k l hk => by have := (List.getElem?_eq_some_iff.1 hk).1; omega⟩
  · subst hv
    refine ⟨_, _, rfl, rfl, h3, by unfold maxLen at h4; omega, fun k l hk => ?_⟩
    obtain ⟨u, hu, hs⟩ := h.at' k l hk
    obtain ⟨A', n', c', rfl, hI⟩ := hs.now
    have hc := h.own.cells rfl k _ hu
    rw [wk.add_at] at hc
    exact ⟨g, 0, A', n', c', rfl, (Array.getElem?_eq_some_iff.1 hh).1, hc, hI⟩
theorem RowE.isVV_st {B : Nat} {es es' : List TypeId} {w : World} {v : Value} {L : VV} {vals : List Value} (h : RowE IsV B es 22 w v L vals) {B' : Nat} (hB : B ≤ B') (hs : ∀ x ∈ es', x ∈ es) (he : 22 ∉ es') : ∃ A c, v = .slice A L.length c ∧ St B' es' (fun w' => IsVV w' A L.length c L) w := by
  obtain ⟨A, c, rfl⟩ := own_slice h.own
  refine ⟨A, c, rfl, fun w' k => ?_⟩
  have h' : RowE IsV B es' 22 w' (.slice A L.length c) L vals :=
    ⟨own_st (B := B') h.own he w' k, fun i x hx => by obtain ⟨u, h1, h2⟩ := h.at' i x hx; exact ⟨u, h1, (h2.up (Nat.le_refl _) hs).keep (k.mono hB)⟩⟩
  obtain ⟨A', c', e, hI⟩ := h'.isVV
  cases e
  exact hI
theorem infoVz : (Try.prog.info? 22).map (fun i => (i.zero, i.size, i.bytes)) = some (some (.slice none 0 0), 1, 24) := by kernel_rfl
theorem infoIz : (Try.prog.info? 3).map (fun i => (i.zero, i.size, i.bytes)) = some (some (.int .i64 0), 1, 8) := by kernel_rfl
section

variable {H : Type} {enc : TypeId × Value → H} {P : Program} {w : World} {base : Nat} {spare : Nat → Bool} {held : Bool} {t e e0 e1 : TypeId} {a : Option Addr} {n c fuel : Nat} {x : DataW H × List MemPlace}
theorem openW (ht : P.underlying t = some (.slice e)) (he : P.underlying e = some (.slice e0)) (he0 : P.underlying e0 = some (.slice e1)) (he1 : P.underlying e1 = some (.int .i64)) (hc : P.cellsOf e = 1) (hc0 : P.cellsOf e0 = 1) (hc1 : P.cellsOf e1 = 1)
    (h : DataW.trod enc P w base spare held fuel t [.slice a n c] = some x) : ∃ L, IsW w a n c L := by
  rcases DataW.trod_slice ht h with ⟨hcs, _⟩ | ⟨ad, len, cap, elems, rest, m, _, hcs, _, hb, hl, hm, hlen, hel, _⟩
  · simp only [List.cons.injEq, Value.slice.injEq, and_true] at hcs
    obtain ⟨rfl, rfl, rfl⟩ := hcs
    exact ⟨[], rfl, Nat.le_refl _, by omega, fun k l hk => by simp at hk⟩
  · simp only [List.cons.injEq, Value.slice.injEq, and_true] at hcs
    obtain ⟨rfl, rfl, rfl⟩ := hcs
    rw [hc] at hel
    have hone : ∀ i, i < n → ∃ l : VV, ∃ A' n' c', w.cell? (ad.add i) = some (.slice A' n' c') ∧ IsVV w A' n' c' l := fun i hi => by
      have hi' := hel i hi
      rw [List.getElem?_eq_getElem (by omega), Nat.mul_one] at hi'
      cases hcc : w.cells? base (ad.add i) 1 with
      | none => rw [hcc] at hi'; simp at hi'
      | some cs =>
        rw [hcc] at hi'
        simp only [Option.bind_some] at hi'
        obtain ⟨hlen1, _, hcell⟩ := World.cells?_some hcc
        have h0 := hcell 0 (by omega)
        have hadd : (ad.add i).add 0 = ad.add i := by unfold Addr.add; simp
        rw [hadd] at h0
        rcases DataW.trod_slice he hi' with ⟨hcs, _⟩ | ⟨ad', len', cap', _, _, _, _, hcs, _⟩
        · subst hcs
          obtain ⟨l, hI⟩ := openVV he he0 he1 hc0 hc1 hi'
          exact ⟨l, _, _, _, by simpa using h0, hI⟩
        · subst hcs
          obtain ⟨l, hI⟩ := openVV he he0 he1 hc0 hc1 hi'
          exact ⟨l, _, _, _, by simpa using h0, hI⟩
    obtain ⟨L, hLl, hLq⟩ := wo.exists_list n hone
    refine ⟨L, hLl, hl, by unfold maxLen at hm; omega, fun k l hk => ?_⟩
    have hkn : k < n := by
      rcases Nat.lt_or_ge k n with h' | h'
      · exact h'
      · rw [List.getElem?_eq_none (by omega)] at hk; cases hk
    obtain ⟨A', n', c', hcell, hI⟩ := hLq k l hk
    obtain ⟨A0, m0, k0, hc00, _⟩ := (hone 0 (by omega)).choose_spec
    obtain ⟨b, o, rfl⟩ := wo.at_plain hc00
    have hlt := block_lt_of_cell hcell
    rw [wk.add_at] at hcell hlt
    exact ⟨b, o, A', n', c', rfl, hlt, hcell, hI⟩
end

end Go.Proofs.Ytieipbobijnmlaa.uk
/- Rows of fresh memory: they stand whatever lies below may become. -/
namespace Go.Proofs.Ytieipbobijnmlaa.uk

open Go.ChangeShapes Go.WideShapes Go.ChangeAt Go.RowKit

open Go.Proofs.Ytieipbobijnmlaa.cq Go.Proofs.Ytieipbobijnmlaa.vk Go.Proofs.Ytieipbobijnmlaa.bk

set_option linter.unusedVariables false
/-- cells of blocks from B on stand, but where their type is in es -/
structure Kq (B : Nat) (es : List TypeId) (w w' : World) : Prop where
  size : w.heap.size ≤ w'.heap.size
  high : ∀ (k : Nat) (cs : Array Value) (t : TypeId) (fr : Nat × Nat), B ≤ k → w.heap[k]? = some (.cells cs t fr) → t ∉ es → w'.heap[k]? = some (.cells cs t fr)
theorem Kq.refl (B : Nat) (es : List TypeId) (w : World) : Kq B es w w := ⟨Nat.le_refl _, fun _ _ _ _ _ h _ => h⟩
theorem Kq.trans {B : Nat} {es : List TypeId} {a b c : World} (h : Kq B es a b) (k : Kq B es b c) : Kq B es a c := ⟨Nat.le_trans h.size k.size, fun i cs t fr hB hi ht => k.high i cs t fr hB (h.high i cs t fr hB hi ht) ht⟩
theorem Kq.mono {B B' : Nat} {es : List TypeId} {a b : World} (h : Kq B es a b) (hB : B ≤ B') : Kq B' es a b := ⟨h.size, fun i cs t fr hk hi ht => h.high i cs t fr (Nat.le_trans hB hk) hi ht⟩
theorem Kq.more {B : Nat} {es es' : List TypeId} {a b : World} (h : Kq B es a b) (hs : ∀ e ∈ es, e ∈ es') : Kq B es' a b := ⟨h.size, fun k cs t fr hB hk ht => h.high k cs t fr hB hk (fun hh => ht (hs t hh))⟩
theorem Kq.of_below {B : Nat} {es : List TypeId} {w w' : World} (h : Below w.heap.size w w') : Kq B es w w' := ⟨h.size, fun k cs t fr _ hk _ => (h.block k (Array.getElem?_eq_some_iff.1 hk).1).trans hk⟩
theorem Kq.of_low {B r : Nat} {es : List TypeId} {w w' : World} (h : w.grownBy w' (some r)) (hr : r < B) : Kq B es w w' := ⟨h.size, fun k cs t fr hB hk _ => (h.block k (Array.getElem?_eq_some_iff.1 hk).1 (fun e => by injection e with e; omega)).trans hk⟩
theorem Kq.of_kp {B : Nat} {es : List TypeId} {w w' : World} (h : Kp B es w w') : Kq B es w w' := ⟨h.below.size, fun k cs t fr _ hk ht => h.high k cs t fr hk ht⟩
theorem Kq.of_grown {B B' n size : Nat} {es : List TypeId} {w w' : World} {e : TypeId} {v : Value} {xs : List Value} (ho : w.ownsRow B' e size v n xs) (he : e ∈ es) (hg : w.grownBy w' v.ownBlock) : Kq B es w w' := by
  refine ⟨hg.size, fun k cs t fr _ hk ht => (hg.block k (Array.getElem?_eq_some_iff.1 hk).1 ?_).trans hk⟩
  intro hh
  rcases ho.2 with ⟨rfl, _⟩ | ⟨g1, cap1, cur1, rfl, _, hh1, _⟩
  · simp [Value.ownBlock] at hh
  · have : k = g1 := by injection hh
    subst this
    rw [hk] at hh1
    injection hh1 with hh1
    injection hh1 with _ h3 _
    exact ht (h3 ▸ he)
theorem Kq.of_set {B : Nat} {es : List TypeId} {w : World} {g i : Nat} {cs : Array Value} {t : TypeId} {fr : Nat × Nat} (v : Value) (h : w.heap[g]? = some (.cells cs t fr)) (ht : t ∈ es ∨ g < B) : Kq B es w (w.setCell ⟨g, i, none⟩ v) := by
  refine ⟨by simp, fun k cs' t' fr' hB hk ht' => ?_⟩
  have hne : k ≠ g := by
    rintro rfl
    rw [h] at hk
    injection hk with hk
    injection hk with _ h2 _
    rcases ht with ht | ht
    · exact ht' (h2 ▸ ht)
    · omega
  exact (Below.heap_setCell _ _ _ _ hne).trans hk
theorem Kq.of_own {B : Nat} {es : List TypeId} {w w' : World} {row : Option Nat} (hg : w.grownBy w' row) (hr : ∀ r, row = some r → ∃ o : Obj, w.heap[r]? = some o ∧ o.isCells = false) : Kq B es w w' := by
  refine ⟨hg.size, fun k cs t fr _ hk ht => (hg.block k (Array.getElem?_eq_some_iff.1 hk).1 ?_).trans hk⟩
  intro hh
  obtain ⟨o, ho, hc⟩ := hr k hh.symm
  rw [hk] at ho
  cases ho
  cases hc
def Sq (B : Nat) (es : List TypeId) (p : World → Prop) (w : World) : Prop := ∀ w', Kq B es w w' → p w'
theorem Sq.now {B : Nat} {es : List TypeId} {p : World → Prop} {w : World} (h : Sq B es p w) : p w := h w (Kq.refl _ _ _)
theorem Sq.keep {B : Nat} {es : List TypeId} {p : World → Prop} {w w' : World} (h : Sq B es p w) (k : Kq B es w w') : Sq B es p w' := fun w2 h2 => h w2 (k.trans h2)
theorem Sq.below {B : Nat} {es : List TypeId} {p : World → Prop} {w w' : World} (h : Sq B es p w) (k : Below w.heap.size w w') : Sq B es p w' := h.keep (Kq.of_below k)
theorem Sq.down {B B' : Nat} {es es' : List TypeId} {p : World → Prop} {w : World} (h : Sq B es p w) (hB : B' ≤ B) (hs : ∀ e ∈ es', e ∈ es) : Sq B' es' p w := fun w' k => h w' ((k.mono hB).more hs)
theorem Sq.imp {B : Nat} {es : List TypeId} {p q : World → Prop} {w : World} (h : Sq B es p w) (hpq : ∀ w', p w' → q w') : Sq B es q w := fun w' k => hpq w' (h w' k)
theorem Sq.st {B : Nat} {es : List TypeId} {p : World → Prop} {w : World} (h : Sq B es p w) : St B es p w := fun w' k => h w' (Kq.of_kp k)
theorem own_sq {B B' n size : Nat} {es : List TypeId} {w : World} {e : TypeId} {v : Value} {xs : List Value} (h : w.ownsRow B' e size v n xs) (hB : B ≤ B') (he : e ∉ es) : Sq B es (fun w' => w'.ownsRow B' e size v n xs) w := fun w' k => by
  refine ⟨h.1, ?_⟩
  rcases h.2 with h1 | ⟨g, cap, cur, h1, h2, h3, h4⟩
  · exact .inl h1
  · exact .inr ⟨g, cap, cur, h1, h2, k.high _ _ _ _ (Nat.le_trans hB h2) h3 he, h4⟩
theorem isI_own_sq {w : World} {B B' n : Nat} {es : List TypeId} {v : Value} {l : List Int} (h : w.ownsRow B' 3 1 v n (iv l)) (hB : B ≤ B') (hb : ∀ x ∈ l, I64 x) (he : 3 ∉ es) : ∃ A c, v = .slice A n c ∧ Sq B es (fun w' => wo.IsI w' A n c l) w := by
  obtain ⟨A, c, rfl⟩ := own_slice h
  refine ⟨A, c, rfl, (own_sq h hB he).imp fun w' h' => ?_⟩
  obtain ⟨A', n', c', e, hI⟩ := isV_own h' hb
  cases e
  exact hI
structure RowQ {α : Type} (E : World → Value → α → Prop) (B : Nat) (es : List TypeId) (e : TypeId) (w : World) (v : Value) (L : List α) (vals : List Value) : Prop where
  own : w.ownsRow B e 1 v L.length vals
  at' : ∀ (i : Nat) (x : α), L[i]? = some x → ∃ u : Value, vals[i]? = some u ∧ Sq B es (fun w' => E w' u x) w
theorem RowQ.len {α : Type} {E : World → Value → α → Prop} {B : Nat} {es : List TypeId} {e : TypeId} {w : World} {v : Value} {L : List α} {vals : List Value} (h : RowQ E B es e w v L vals) : vals.length = L.length := by have := h.own.1; omega
theorem RowQ.nil {α : Type} (E : World → Value → α → Prop) (B : Nat) (es : List TypeId) (e : TypeId) (w : World) : RowQ E B es e w (.slice none 0 0) [] [] := ⟨World.ownsRow_nil _ _ _ _, fun i x h => by simp at h⟩
theorem RowQ.start {α : Type} {E : World → Value → α → Prop} {B : Nat} {es : List TypeId} {e : TypeId} {w : World} {v : Value} (h : w.ownsRow B e 1 v 0 []) : RowQ E B es e w v ([] : List α) [] := ⟨h, fun i x h => by simp at h⟩
theorem RowQ.below {α : Type} {E : World → Value → α → Prop} {B : Nat} {es : List TypeId} {e : TypeId} {w w' : World} {v : Value} {L : List α} {vals : List Value} (h : RowQ E B es e w v L vals) (hb : Below w.heap.size w w') : RowQ E B es e w' v L vals :=
  ⟨keptB h.own hb, fun i x hx => by obtain ⟨u, h1, h2⟩ := h.at' i x hx; exact ⟨u, h1, h2.below hb⟩⟩
theorem RowQ.push {α : Type} {E : World → Value → α → Prop} {B : Nat} {es : List TypeId} {e : TypeId} {w w' : World} {v v' : Value} {L : List α} {vals : List Value} {u : Value} {x : α} (h : RowQ E B es e w v L vals) (he : e ∈ es) (hs : Sq B es (fun w' => E w' u x) w)
    (o : Obj) (hg : (w.alloc o).grownBy w' v.ownBlock) (ho : w'.ownsRow B e 1 v' (L.length + 1) (vals ++ [u])) : RowQ E B es e w' v' (L ++ [x]) (vals ++ [u]) := by
  have hk : Kq B es w w' := by
    have h1 : Kq B es w (w.alloc o) := Kq.of_below (below_new w o)
    refine h1.trans (Kq.of_grown (keptB h.own (below_new w o)) he hg)
  have hl := h.len
  refine ⟨by simpa using ho, fun i y hy => ?_⟩
  rcases Nat.lt_trichotomy i L.length with hi | hi | hi
  · rw [List.getElem?_append_left hi] at hy
    obtain ⟨z, h1, h2⟩ := h.at' i y hy
    exact ⟨z, by rw [List.getElem?_append_left (by omega)]; exact h1, h2.keep hk⟩
  · subst hi
    rw [List.getElem?_append_right (Nat.le_refl _), Nat.sub_self] at hy
    simp at hy
    subst hy
    exact ⟨u, by rw [← hl, List.getElem?_append_right (Nat.le_refl _), Nat.sub_self]; rfl, hs.keep hk⟩
  · rw [List.getElem?_eq_none (by simp; omega)] at hy; cases hy
theorem RowQ.isVV {B : Nat} {es : List TypeId} {w : World} {v : Value} {L : VV} {vals : List Value} (h : RowQ IsV B es 22 w v L vals) : ∃ A c, v = .slice A L.length c ∧ IsVV w A L.length c L := by
  have hl := h.len
  rcases h.own.2 with ⟨hv, hn0⟩ | ⟨g, cap, cur, hv, hb2, hh, h3, h4, h5, h6⟩
  · subst hv
    exact ⟨none, 0, by rw [hn0], rfl, by omega, by omega, fun k l hk => by have := (List.getElem?_eq_some_iff.1 hk).1; omega⟩
  · subst hv
    refine ⟨_, _, rfl, rfl, h3, by unfold maxLen at h4; omega, fun k l hk => ?_⟩
    obtain ⟨u, hu, hs⟩ := h.at' k l hk
    obtain ⟨A', n', c', rfl, hI⟩ := hs.now
    have hc := h.own.cells rfl k _ hu
    rw [wk.add_at] at hc
    exact ⟨g, 0, A', n', c', rfl, (Array.getElem?_eq_some_iff.1 hh).1, hc, hI⟩
theorem RowQ.isVV_sq {B : Nat} {es es' : List TypeId} {w : World} {v : Value} {L : VV} {vals : List Value} (h : RowQ IsV B es 22 w v L vals) (hs : ∀ x ∈ es', x ∈ es) (he : 22 ∉ es') : ∃ A c, v = .slice A L.length c ∧ Sq B es' (fun w' => IsVV w' A L.length c L) w := by
  obtain ⟨A, c, rfl⟩ := own_slice h.own
  refine ⟨A, c, rfl, fun w' k => ?_⟩
  have h' : RowQ IsV B es' 22 w' (.slice A L.length c) L vals :=
    ⟨own_sq (B := B) h.own (Nat.le_refl _) he w' k, fun i x hx => by obtain ⟨u, h1, h2⟩ := h.at' i x hx; exact ⟨u, h1, (h2.down (Nat.le_refl _) hs).keep k⟩⟩
  obtain ⟨A', c', e, hI⟩ := h'.isVV
  cases e
  exact hI
theorem RowQ.own_from {α : Type} {E : World → Value → α → Prop} {B : Nat} {es : List TypeId} {e : TypeId} {w w' : World} {v : Value} {L : List α} {vals : List Value} (h : RowQ E B es e w v L vals) {row : Option Nat} (hg : w.grownBy w' row) (hr : ∀ r, row = some r → ∃ o : Obj, w.heap[r]? = some o ∧ o.isCells = false) : RowQ E B es e w' v L vals := by
  refine ⟨World.ownsRow.kept h.own hg ?_, fun i x hx => by
    obtain ⟨u, h1, h2⟩ := h.at' i x hx
    exact ⟨u, h1, h2.keep (Kq.of_own hg hr)⟩⟩
  cases hv : v.ownBlock with
  | none => exact .inl rfl
  | some b =>
    refine .inr fun he => ?_
    obtain ⟨o, ho, hc⟩ := hr b he.symm
    rcases h.own.2 with ⟨rfl, _⟩ | ⟨g1, cap1, cur1, rfl, _, hh1, _⟩
    · simp [Value.ownBlock] at hv
    · have : g1 = b := by simpa [Value.ownBlock] using hv
      subst this
      rw [hh1] at ho
      cases ho
      cases hc
theorem RowQ.setBox {α : Type} {E : World → Value → α → Prop} {B S i : Nat} {es : List TypeId} {e : TypeId} {w : World} {v : Value} {L : List α} {vals : List Value} (h : RowQ E B es e w v L vals) {cs : Array Value} {t : TypeId} {fr : Nat × Nat} (hs : w.heap[S]? = some (.cells cs t fr)) (ht : t ∈ es ∨ S < B) (hne : t ≠ e) (u : Value) : RowQ E B es e (w.setCell ⟨S, i, none⟩ u) v L vals := by
  refine ⟨⟨h.own.1, ?_⟩, fun j x hx => by
    obtain ⟨z, h1, h2⟩ := h.at' j x hx
    exact ⟨z, h1, h2.keep (Kq.of_set u hs ht)⟩⟩
  rcases h.own.2 with h1 | ⟨g, cap, cur, h1, h2, h3, h4⟩
  · exact .inl h1
  · refine .inr ⟨g, cap, cur, h1, h2, ?_, h4⟩
    have hg : g ≠ S := by
      rintro rfl
      rw [hs] at h3
      injection h3 with h3
      injection h3 with _ h5 _
      exact hne h5
    exact (Below.heap_setCell _ _ _ _ hg).trans h3
end Go.Proofs.Ytieipbobijnmlaa.uk
/- The iterator over the parts; the law of a range over it. -/
namespace Go.Proofs.Ytieipbobijnmlaa.uk

open Go.ChangeShapes Go.WideShapes Go.ChangeAt Go.RowKit

open Go.Proofs.Ytieipbobijnmlaa.cq Go.Proofs.Ytieipbobijnmlaa.vk Go.Proofs.Ytieipbobijnmlaa.bk Go.Proofs.Ytieipbobijnmlaa.wk

set_option linter.unusedVariables false
attribute [local go_sem] Oper.semAt_some
def spa (l : List (Int × Int)) (k : Nat) : Int × Int := l.getD k (0, 0)
theorem spa_of {l : List (Int × Int)} {k : Nat} {p : Int × Int} (h : l[k]? = some p) : spa l k = p := by
  rw [spa, List.getD_eq_getElem?_getD, h]; rfl
def encp (l : List (Int × Int)) {n : Nat} (x : Nth n) : Array Value := #[.int .i64 (x.1 : Int), rng (spa l x.1).1 (spa l x.1).2]
theorem Box.at {w w' : World} {g : Nat} {v : Value} (h : Box w g v) (e : w'.heap[g]? = w.heap[g]?) : Box w' g v := by
  obtain ⟨t, h⟩ := h
  exact ⟨t, e.trans h⟩
end Go.Proofs.Ytieipbobijnmlaa.uk
/- Plain facts on what is written and what is read: no program here. -/
namespace Go.Proofs.Ytieipbobijnmlaa.wp

open Go.RowKit

theorem ret_bool {b : Bool} (h : b = true) : Ending.returned (.bool b) = .returned (.bool true) := by rw [h]

/-- a text: all bytes but the last one have the mark, the last one has not, and is not 0 where there are more -/
def Whole : List UInt8 → Prop
  | [] => False
  | [c] => c.toNat < 128
  | c :: d :: r => 128 ≤ c.toNat ∧ Whole (d :: r) ∧ (r = [] → d.toNat ≠ 0)

theorem whole_uvarint (q : Nat) : Whole (Lib.uvarint q) ∧ gv (Lib.uvarint q) = q ∧ (0 < q → Lib.uvarint q ≠ [0]) := by
  induction q using Nat.strongRecOn with
  | _ q ih =>
    rcases Nat.lt_or_ge q 128 with h | h
    · rw [Lib.uvarint_small h]
      have e : q.toUInt8.toNat = q := by simp [Nat.toUInt8, UInt8.toNat_ofNat']; omega
      refine ⟨by show _ < _; omega, by simp [gv, e]; omega, fun h0 h1 => ?_⟩
      have h2 : q.toUInt8 = 0 := by simpa using h1
      rw [h2] at e
      simp at e
      omega
    · obtain ⟨h1, h2, h3⟩ := ih (q / 128) (by omega)
      rw [Lib.uvarint_big h]
      have e : (q % 128 + 128).toUInt8.toNat = q % 128 + 128 := by simp [Nat.toUInt8, UInt8.toNat_ofNat']; omega
      refine ⟨?_, ?_, ?_⟩
      · have h4 := Lib.uvarint_pos (q / 128)
        cases hu : Lib.uvarint (q / 128) with
        | nil => rw [hu] at h4; simp at h4
        | cons d r =>
          rw [hu] at h1
          refine ⟨by omega, h1, fun hr hd => ?_⟩
          subst hr
          have hd0 : d = 0 := by rw [← UInt8.toNat_inj]; simpa using hd
          exact h3 (by omega) (by rw [hu, hd0])
      · simp only [gv, h2, e]; omega
      · intro _ hh
        have := congrArg List.length hh
        have h4 := Lib.uvarint_pos (q / 128)
        simp only [List.length_cons, List.length_nil] at this
        omega

theorem gv_pos : ∀ (l : List UInt8), Whole l → (∀ c, l = [c] → c.toNat ≠ 0) → 0 < gv l
  | [], h, _ => h.elim
  | [c], h, h0 => by have := h0 c rfl; have h' : c.toNat < 128 := h; simp [gv]; omega
  | c :: d :: r, h, _ => by
    have := gv_pos (d :: r) h.2.1 (fun e he => by
      have : r = [] ∧ d = e := by simpa [and_comm] using he
      rw [← this.2]; exact h.2.2 this.1)
    simp only [gv] at this ⊢
    omega

theorem uvarint_gv : ∀ (l : List UInt8), Whole l → Lib.uvarint (gv l) = l
  | [], h => h.elim
  | [c], h => by
    have h' : c.toNat < 128 := h
    have e : gv [c] = c.toNat := by simp [gv]; omega
    rw [e, Lib.uvarint_small h']
    simp [Nat.toUInt8]
  | c :: d :: r, h => by
    have hr := uvarint_gv (d :: r) h.2.1
    have hp := gv_pos (d :: r) h.2.1 (fun e he => by
      have : r = [] ∧ d = e := by simpa [and_comm] using he
      rw [← this.2]; exact h.2.2 this.1)
    have hc := h.1
    have hc2 := c.toNat_lt
    have e1 : gv (c :: d :: r) % 128 = c.toNat % 128 := by rw [gv]; omega
    have e2 : gv (c :: d :: r) / 128 = gv (d :: r) := by rw [gv]; omega
    rw [Lib.uvarint_big (by rw [gv]; omega), e1, e2, hr]
    congr 1
    rw [← UInt8.toNat_inj]
    simp [Nat.toUInt8, UInt8.toNat_ofNat']
    omega

theorem whole_high : ∀ (l t : List UInt8), Whole l → High (l ++ t) (l.length - 1) ∧ ∃ c, (l ++ t)[l.length - 1]? = some c ∧ c.toNat < 128 ∧ (0 < l.length - 1 → c.toNat ≠ 0)
  | [], _, h => h.elim
  | [c], t, h => ⟨High.zero _, c, by simp, h, fun h0 => absurd h0 (by simp)⟩
  | c :: d :: r, t, h => by
    obtain ⟨h1, e, he, h2, h3⟩ := whole_high (d :: r) t h.2.1
    have el : (d :: r).length - 1 + 1 = (c :: d :: r).length - 1 := by simp
    refine ⟨?_, e, ?_, h2, fun _ => ?_⟩
    · rw [← el]
      intro j u hj hu
      cases j with
      | zero => simp at hu; rw [← hu]; exact h.1
      | succ j => exact h1 j u (by omega) (by simpa using hu)
    · rw [← el]; simpa using he
    · rcases Nat.eq_zero_or_pos ((d :: r).length - 1) with h0 | h0
      · have hr : r = [] := List.eq_nil_of_length_eq_zero (by simpa using h0)
        subst hr
        have : d = e := by simpa using he
        rw [← this]; exact h.2.2 rfl
      · exact h3 h0

/-- what is written is read again, whatever follows it -/
theorem getI_encI {n : Int} (h0 : -9223372036854775808 ≤ n) (h1 : n ≤ 9223372036854775807) (t : List UInt8) : getI (encI n ++ t) = (n, ((encI n).length : Int), 0) := by
  obtain ⟨hw, hg, _⟩ := whole_uvarint (Lib.zigzag n)
  have hz := Lib.zigzag_lt h0 h1
  obtain ⟨hh, c, hc, hc1, hc2⟩ := whole_high _ t hw
  have hl := encI_length h0 h1
  have hp := encI_pos n
  unfold encI at *
  have hk : (Lib.uvarint (Lib.zigzag n)).length - 1 < 10 := by omega
  have ht : (Lib.uvarint (Lib.zigzag n) ++ t).take ((Lib.uvarint (Lib.zigzag n)).length - 1 + 1) = Lib.uvarint (Lib.zigzag n) := by
    rw [show (Lib.uvarint (Lib.zigzag n)).length - 1 + 1 = (Lib.uvarint (Lib.zigzag n)).length by omega]; simp
  have hgt := gv_take hc
  rw [ht, hg] at hgt
  rw [getI_some hh hk hc hc1, ht, hg, unz_zigzag, if_neg]
  · rw [show (Lib.uvarint (Lib.zigzag n)).length - 1 + 1 = (Lib.uvarint (Lib.zigzag n)).length by omega]
  · rintro (⟨h9, hx⟩ | ⟨ha, hb⟩)
    · rw [h9] at hgt
      have h5 : 128 ^ 9 * 2 ≤ 128 ^ 9 * (c.toNat % 128) := Nat.mul_le_mul_left _ (by omega)
      omega
    · exact hc2 ha hb

/-- what is read has been written -/
theorem whole_of_high : ∀ (l : List UInt8) (k : Nat), High l k → ∀ c, l[k]? = some c → c.toNat < 128 → (0 < k → c.toNat ≠ 0) → Whole (l.take (k + 1))
  | [], k, _, c, hc, _, _ => by simp at hc
  | a :: r, 0, _, c, hc, h8, _ => by
    have : a = c := by simpa using hc
    subst this
    simpa [Whole] using h8
  | a :: r, k + 1, h, c, hc, h8, h0 => by
    have hr : High r k := fun j u hj hu => h (j + 1) u (by omega) (by simpa using hu)
    have hc' : r[k]? = some c := by simpa using hc
    have h9 := h0 (by omega)
    have ih := whole_of_high r k hr c hc' h8 (fun _ => h9)
    have ha := h 0 a (by omega) (by simp)
    cases r with
    | nil => simp at hc'
    | cons b s =>
      rw [List.take_succ_cons, List.take_succ_cons] at *
      refine ⟨ha, ih, fun hs => ?_⟩
      rcases k with _ | k
      · have : b = c := by simpa using hc'
        rw [this]; exact h9
      · exfalso
        have : s = [] := by simpa using hs
        subst this
        simp at hc'

theorem encI_getI (l : List UInt8) (h : (getI l).2.2 = 0) : l.take (getI l).2.1.toNat = encI (getI l).1 ∧ ((encI (getI l).1).length : Int) = (getI l).2.1 := by
  by_cases hk : ∃ k c, High l k ∧ k < 10 ∧ l[k]? = some c ∧ c.toNat < 128
  · obtain ⟨k, c, hh, hk10, hc, h8⟩ := hk
    have hs := getI_some hh hk10 hc h8
    rw [hs] at h ⊢
    split at h
    · cases h
    · rename_i hno
      rw [if_neg hno]
      have hw := whole_of_high l k hh c hc h8 (fun h0 h1 => hno (.inr ⟨h0, h1⟩))
      have hkl : k < l.length := by
        rcases Nat.lt_or_ge k l.length with h' | h'
        · exact h'
        · rw [List.getElem?_eq_none h'] at hc; cases hc
      dsimp only
      have e : encI (unz (gv (l.take (k + 1)))) = l.take (k + 1) := by
        unfold encI
        rw [zigzag_unz, uvarint_gv _ hw]
      rw [e]
      refine ⟨by rw [Int.toNat_natCast], ?_⟩
      rw [List.length_take, Nat.min_eq_left (by omega)]
  · exfalso
    have hall : High l (min l.length 10) := by
      have : ∀ k, k ≤ min l.length 10 → High l k := by
        intro k
        induction k with
        | zero => intro _; exact High.zero _
        | succ k ih =>
          intro hk'
          have hkl : k < l.length := by omega
          have hlk : l[k]? = some l[k] := List.getElem?_eq_getElem hkl
          refine (ih (by omega)).succ hlk ?_
          rcases Nat.lt_or_ge l[k].toNat 128 with h' | h'
          · exact absurd ⟨k, l[k], ih (by omega), by omega, hlk, h'⟩ hk
          · exact h'
      exact this _ (Nat.le_refl _)
    rw [getI_none hall rfl] at h
    split at h <;> simp at h

/-- a beginning of a text is too short -/
theorem getI_short {n : Int} (h0 : -9223372036854775808 ≤ n) (h1 : n ≤ 9223372036854775807) {k : Nat} (hk : k < (encI n).length) : getI ((encI n).take k) = (0, 0, 10) := by
  obtain ⟨hw, _, _⟩ := whole_uvarint (Lib.zigzag n)
  obtain ⟨hh, _⟩ := whole_high _ [] hw
  have hl := encI_length h0 h1
  unfold encI at *
  rw [List.append_nil] at hh
  have hlen : ((Lib.uvarint (Lib.zigzag n)).take k).length = k := by rw [List.length_take]; omega
  have hhk : High ((Lib.uvarint (Lib.zigzag n)).take k) k := fun j u hj hu => by
    rw [List.getElem?_take_of_lt hj] at hu
    exact hh j u (by omega) hu
  rw [getI_none hhk (by rw [hlen]; omega), if_neg (by rw [hlen]; omega)]
end Go.Proofs.Ytieipbobijnmlaa.wp
/- Plain facts on lists that are written and read: no program here. -/
namespace Go.Proofs.Ytieipbobijnmlaa.wp

open Go.RowKit

set_option linter.unusedVariables false

section

variable {α : Type} {one : List UInt8 → α × Int × Int} {enc : α → List UInt8}

/-- what is read one behind the other has been written so -/
theorem getN_canon (h1 : ∀ l, (one l).2.2 = 0 → 0 ≤ (one l).2.1 ∧ (one l).2.1 ≤ l.length ∧ l.take (one l).2.1.toNat = enc (one l).1) (l : List UInt8) :
    ∀ (k : Nat) (acc : List α) (used : Int), 0 ≤ used → used ≤ l.length → (getN one l k acc used).2.2 = 0 →
      ∃ s, (getN one l k acc used).1 = acc ++ s ∧ s.length = k ∧ used ≤ (getN one l k acc used).2.1 ∧ (getN one l k acc used).2.1 ≤ l.length ∧ l.take (getN one l k acc used).2.1.toNat = l.take used.toNat ++ s.flatMap enc
  | 0, acc, used, h0, hl, _ => ⟨[], by simp [getN], rfl, by simp [getN], by simpa [getN] using hl, by simp [getN]⟩
  | k + 1, acc, used, h0, hl, he => by
    rw [getN] at he ⊢
    by_cases hz : (one (l.drop used.toNat)).2.2 = 0
    · obtain ⟨ha, hb, hc⟩ := h1 _ hz
      have hdl : ((l.drop used.toNat).length : Int) = l.length - used := by rw [List.length_drop]; omega
      rw [if_neg (by simp [hz])] at he ⊢
      obtain ⟨s, e1, e2, e3, e4, e5⟩ := getN_canon h1 l k _ _ (by omega) (by omega) he
      refine ⟨(one (l.drop used.toNat)).1 :: s, by rw [e1, List.append_assoc]; rfl, by simp [e2], by omega, e4, ?_⟩
      rw [e5, List.flatMap_cons, ← hc, ← List.append_assoc, show (used + (one (l.drop used.toNat)).2.1).toNat = used.toNat + (one (l.drop used.toNat)).2.1.toNat from by omega, List.take_add]
    · rw [if_pos hz] at he
      exact absurd he hz

/-- what is written one behind the other is read again -/
theorem getN_round (xs : List α) : ∀ (l t : List UInt8) (acc : List α) (used : Int), 0 ≤ used → (∀ x ∈ xs, ∀ t, one (enc x ++ t) = (x, ((enc x).length : Int), 0)) → l.drop used.toNat = xs.flatMap enc ++ t →
      getN one l xs.length acc used = (acc ++ xs, used + ((xs.flatMap enc).length : Int), 0) := by
  induction xs with
  | nil => intro l t acc used _ _ _; simp [getN]
  | cons x r ih =>
    intro l t acc used h0 h1 hd
    have hx := h1 x List.mem_cons_self (r.flatMap enc ++ t)
    rw [List.flatMap_cons, List.append_assoc] at hd
    have hd2 : l.drop (used + ((enc x).length : Int)).toNat = r.flatMap enc ++ t := by
      rw [show (used + ((enc x).length : Int)).toNat = used.toNat + (enc x).length from by omega, ← List.drop_drop, hd, List.drop_left]
    have := ih l t (acc ++ [x]) (used + ((enc x).length : Int)) (by omega) (fun y hy => h1 y (List.mem_cons_of_mem _ hy)) hd2
    rw [List.length_cons, getN, hd, hx, if_neg (by simp), this]
    simp only [List.append_assoc, List.singleton_append, List.flatMap_cons, List.length_append, Int.natCast_add, Int.add_assoc]

/-- a beginning of it is too short -/
theorem getN_short (xs : List α) : ∀ (l : List UInt8) (j : Nat) (acc : List α) (used : Int), 0 ≤ used → (∀ x ∈ xs, ∀ t, one (enc x ++ t) = (x, ((enc x).length : Int), 0)) →
      (∀ x ∈ xs, ∀ i, i < (enc x).length → (one ((enc x).take i)).2.2 = 10) → l.drop used.toNat = (xs.flatMap enc).take j → j < (xs.flatMap enc).length → (getN one l xs.length acc used).2.2 = 10 := by
  induction xs with
  | nil => intro l j acc used _ _ _ _ hj; simp at hj
  | cons x r ih =>
    intro l j acc used h0 h1 h2 hd hj
    rw [List.length_cons, getN]
    rcases Nat.lt_or_ge j (enc x).length with hlt | hge
    · have : l.drop used.toNat = (enc x).take j := by rw [hd, List.flatMap_cons, List.take_append_of_le_length (by omega)]
      have h10 := h2 x List.mem_cons_self j hlt
      rw [this, if_pos (by rw [h10]; decide)]
      exact h10
    · have e1 : (List.flatMap enc (x :: r)).take j = enc x ++ (r.flatMap enc).take (j - (enc x).length) := by
        rw [List.flatMap_cons, List.take_append, List.take_of_length_le (by omega)]
      have hx := h1 x List.mem_cons_self ((r.flatMap enc).take (j - (enc x).length))
      rw [e1] at hd
      rw [hd, hx, if_neg (by simp)]
      refine ih l (j - (enc x).length) _ _ (by dsimp only; omega) (fun y hy => h1 y (List.mem_cons_of_mem _ hy)) (fun y hy => h2 y (List.mem_cons_of_mem _ hy)) ?_ ?_
      · dsimp only
        rw [show (used + ((enc x).length : Int)).toNat = used.toNat + (enc x).length from by omega, ← List.drop_drop, hd, List.drop_left]
      · rw [List.flatMap_cons, List.length_append] at hj
        omega

end

theorem getC_ok {l : List UInt8} {least : Nat} (h : (getC l least).2.2 = 0) : (getI l).2.2 = 0 ∧ getC l least = ((getI l).1, (getI l).2.1, 0) ∧ 0 ≤ (getI l).1 := by
  unfold getC at h ⊢
  split at h
  · rename_i h'; exact absurd h h'
  · rename_i h'
    split at h
    · simp at h
    · rename_i h2
      split at h
      · simp at h
      · rename_i h3
        rw [if_neg h', if_neg h2, if_neg h3]
        exact ⟨by simpa using h', rfl, by omega⟩

/-- a text that is read has been written -/
theorem encB_getB (l : List UInt8) (h : (getB l).2.2 = 0) : l.take (getB l).2.1.toNat = encB (getB l).1 ∧ (getB l).1.length ≤ l.length := by
  unfold getB at h ⊢
  by_cases hc : (getC l 1).2.2 = 0
  · rw [if_neg (by simp [hc])]
    obtain ⟨h1, h2, h3⟩ := getC_ok hc
    have hf := getC_facts l 1 (by decide)
    obtain ⟨e1, e2⟩ := encI_getI l h1
    have hfi := getI_facts l
    rw [h2] at hf ⊢
    simp only at hf ⊢
    have hlen : ((l.drop (getI l).2.1.toNat).take (getI l).1.toNat).length = (getI l).1.toNat := by
      rw [List.length_take, List.length_drop]; omega
    refine ⟨?_, by omega⟩
    unfold encB
    rw [hlen, Int.toNat_of_nonneg h3, ← e1, show ((getI l).2.1 + (getI l).1).toNat = (getI l).2.1.toNat + (getI l).1.toNat from by omega, List.take_add]
  · rw [if_pos hc] at h
    exact absurd h hc

theorem getC_round {cnt least : Nat} (hc : cnt ≤ 9223372036854775807) (h1 : 1 ≤ least) (t : List UInt8) (ht : least * cnt ≤ t.length) : getC (encI (cnt : Int) ++ t) least = ((cnt : Int), ((encI (cnt : Int)).length : Int), 0) := by
  have hr := getI_encI (n := (cnt : Int)) (by omega) (by omega) t
  unfold getC
  rw [hr, if_neg (by simp), if_neg (by simp), if_neg]
  simp only [List.length_append]
  have e : ((encI (cnt : Int)).length + t.length : Nat) - ((encI (cnt : Int)).length : Int) = (t.length : Int) := by omega
  rw [e]
  have : (least * cnt : Int) ≤ t.length := by exact_mod_cast ht
  have h2 : (cnt : Int) ≤ (t.length : Int) / (least : Int) := (Int.le_ediv_iff_mul_le (by omega)).2 (by rw [Int.mul_comm]; exact this)
  omega

theorem getB_round (s t : List UInt8) (hs : s.length ≤ 9223372036854775807) : getB (encB s ++ t) = (s, ((encB s).length : Int), 0) := by
  unfold getB encB
  rw [List.append_assoc, getC_round hs (by decide) (s ++ t) (by simp), if_neg (by simp)]
  simp only [Int.toNat_natCast, List.drop_left, List.take_left, List.length_append, Int.natCast_add]

theorem getC_short {cnt least : Nat} (hc : cnt ≤ 9223372036854775807) (h1 : 1 ≤ least) (t : List UInt8) (j : Nat) (hj : j < (encI (cnt : Int)).length + t.length) (ht : t.length ≤ least * cnt) :
    (getC ((encI (cnt : Int) ++ t).take j) least).2.2 = 10 := by
  rcases Nat.lt_or_ge j (encI (cnt : Int)).length with h | h
  · rw [List.take_append_of_le_length (by omega)]
    have := getI_short (n := (cnt : Int)) (by omega) (by omega) h
    unfold getC
    rw [this, if_pos (by decide)]
  · have e : (encI (cnt : Int) ++ t).take j = encI (cnt : Int) ++ t.take (j - (encI (cnt : Int)).length) := by
      rw [List.take_append, List.take_of_length_le h]
    have hr := getI_encI (n := (cnt : Int)) (by omega) (by omega) (t.take (j - (encI (cnt : Int)).length))
    rw [e]
    unfold getC
    rw [hr, if_neg (by simp), if_neg (by simp), if_pos]
    simp only [List.length_append, List.length_take]
    have e2 : ((encI (cnt : Int)).length + min (j - (encI (cnt : Int)).length) t.length : Nat) - ((encI (cnt : Int)).length : Int) = ((j - (encI (cnt : Int)).length : Nat) : Int) := by omega
    rw [e2]
    refine (Int.ediv_lt_iff_lt_mul (by omega)).2 ?_
    have : (t.length : Int) ≤ (least * cnt : Int) := by exact_mod_cast ht
    rw [Int.mul_comm]
    omega

theorem getB_short (s : List UInt8) (hs : s.length ≤ 9223372036854775807) (j : Nat) (hj : j < (encB s).length) : (getB ((encB s).take j)).2.2 = 10 := by
  unfold encB at *
  have := getC_short (least := 1) hs (by decide) s j (by rw [List.length_append] at hj; exact hj) (by simp)
  unfold getB
  rw [if_pos (by rw [this]; decide)]
  exact this

/-! lists of integers, of texts, of digests -/
theorem getI_one (l : List UInt8) (h : (getI l).2.2 = 0) : 0 ≤ (getI l).2.1 ∧ (getI l).2.1 ≤ l.length ∧ l.take (getI l).2.1.toNat = encI (getI l).1 := by
  have hf := getI_facts l
  exact ⟨hf.2.2.1, hf.2.2.2.1, (encI_getI l h).1⟩
theorem getB_one (l : List UInt8) (h : (getB l).2.2 = 0) : 0 ≤ (getB l).2.1 ∧ (getB l).2.1 ≤ l.length ∧ l.take (getB l).2.1.toNat = encB (getB l).1 := by
  have hf := getB_facts l
  exact ⟨hf.1, hf.2.1, (encB_getB l h).1⟩

theorem getL_canon {α : Type} {one : List UInt8 → α × Int × Int} {enc : α → List UInt8} (h1 : ∀ l, (one l).2.2 = 0 → 0 ≤ (one l).2.1 ∧ (one l).2.1 ≤ l.length ∧ l.take (one l).2.1.toNat = enc (one l).1) (least : Nat) (hl : 1 ≤ least) (l : List UInt8)
    (h : (getL one least l).2.2 = 0) : l.take (getL one least l).2.1.toNat = encI ((getL one least l).1.length : Int) ++ (getL one least l).1.flatMap enc ∧ 0 ≤ (getL one least l).2.1 ∧ (getL one least l).2.1 ≤ l.length := by
  unfold getL at h ⊢
  by_cases hc : (getC l least).2.2 = 0
  · rw [if_neg (by simp [hc])] at h ⊢
    obtain ⟨i1, i2, i3⟩ := getC_ok hc
    have hf := getC_facts l least hl
    obtain ⟨e1, e2⟩ := encI_getI l i1
    have hfi := getI_facts l
    rw [i2] at hf h ⊢
    simp only at hf h ⊢
    obtain ⟨s, s1, s2, s3, s4, s5⟩ := getN_canon h1 l _ [] _ hfi.2.2.1 hfi.2.2.2.1 h
    refine ⟨?_, by omega, s4⟩
    rw [s5, s1, e1, List.nil_append, s2, Int.toNat_of_nonneg i3]
  · rw [if_pos hc] at h
    exact absurd h hc

theorem getL_round {α : Type} {one : List UInt8 → α × Int × Int} {enc : α → List UInt8} (xs : List α) (least : Nat) (hl : 1 ≤ least) (hx : xs.length ≤ 9223372036854775807) (hle : ∀ x ∈ xs, least ≤ (enc x).length)
    (h1 : ∀ x ∈ xs, ∀ t, one (enc x ++ t) = (x, ((enc x).length : Int), 0)) (t : List UInt8) :
    getL one least (encI (xs.length : Int) ++ xs.flatMap enc ++ t) = (xs, ((encI (xs.length : Int) ++ xs.flatMap enc).length : Int), 0) := by
  have hsum : least * xs.length ≤ (xs.flatMap enc).length := by
    clear h1 hx
    induction xs with
    | nil => simp
    | cons x r ih =>
      have := hle x List.mem_cons_self
      have := ih fun y hy => hle y (List.mem_cons_of_mem _ hy)
      rw [List.flatMap_cons, List.length_append, List.length_cons, Nat.mul_add]
      omega
  unfold getL
  rw [List.append_assoc, getC_round hx hl _ (by rw [List.length_append]; omega), if_neg (by simp)]
  simp only [Int.toNat_natCast]
  rw [getN_round xs _ t [] _ (by omega) h1 (by rw [Int.toNat_natCast, List.drop_left])]
  simp

theorem getL_short {α : Type} {one : List UInt8 → α × Int × Int} {enc : α → List UInt8} (xs : List α) (least : Nat) (hl : 1 ≤ least) (hx : xs.length ≤ 9223372036854775807)
    (h1 : ∀ x ∈ xs, ∀ t, one (enc x ++ t) = (x, ((enc x).length : Int), 0)) (h2 : ∀ x ∈ xs, ∀ i, i < (enc x).length → (one ((enc x).take i)).2.2 = 10) (j : Nat) (hj : j < (encI (xs.length : Int) ++ xs.flatMap enc).length) :
    (getL one least ((encI (xs.length : Int) ++ xs.flatMap enc).take j)).2.2 = 10 := by
  have hIl := encI_length (n := (xs.length : Int)) (by omega) (by omega)
  rw [List.length_append] at hj
  unfold getL
  rcases Nat.lt_or_ge j (encI (xs.length : Int)).length with h | h
  · have e : (getC ((encI (xs.length : Int) ++ xs.flatMap enc).take j) least).2.2 = 10 := by
      rw [List.take_append_of_le_length (by omega)]
      have := getI_short (n := (xs.length : Int)) (by omega) (by omega) h
      unfold getC
      rw [this, if_pos (by decide)]
    rw [if_pos (by rw [e]; decide)]
    exact e
  · have e : (encI (xs.length : Int) ++ xs.flatMap enc).take j = encI (xs.length : Int) ++ (xs.flatMap enc).take (j - (encI (xs.length : Int)).length) := by
      rw [List.take_append, List.take_of_length_le h]
    rw [e]
    have hr := getI_encI (n := (xs.length : Int)) (by omega) (by omega) ((xs.flatMap enc).take (j - (encI (xs.length : Int)).length))
    by_cases hc : (getC (encI (xs.length : Int) ++ (xs.flatMap enc).take (j - (encI (xs.length : Int)).length)) least).2.2 = 0
    · obtain ⟨_, i2, _⟩ := getC_ok hc
      rw [if_neg (by simp [hc]), i2, hr]
      simp only [Int.toNat_natCast]
      exact getN_short xs _ (j - (encI (xs.length : Int)).length) [] _ (by omega) h1 h2 (by rw [Int.toNat_natCast, List.drop_left]) (by omega)
    · rw [if_pos hc]
      unfold getC at hc ⊢
      rw [hr] at hc ⊢
      rw [if_neg (by simp)] at hc ⊢
      rw [if_neg (by simp)] at hc ⊢
      split at hc
      · rename_i h'; rw [if_pos h']
      · simp at hc

/-- digests are cut out of the bytes -/
theorem getD1_round (d t : List UInt8) (hd : d.length = 16) : getD1 (id d ++ t) = (d, ((id d).length : Int), 0) := by
  unfold getD1
  simp only [id]
  rw [hd, ← hd, List.take_left, hd]
  rfl
theorem getL_D_short (xs : List (List UInt8)) (h16 : ∀ d ∈ xs, d.length = 16) (hx : xs.length ≤ 576460752303423487) (j : Nat) (hj : j < (encDs xs).length) : (getL getD1 16 ((encDs xs).take j)).2.2 = 10 := by
  have hfl : (xs.flatMap id).length = 16 * xs.length := by
    clear hj hx
    induction xs with
    | nil => rfl
    | cons x r ih =>
      have h1 := h16 x List.mem_cons_self
      have h2 := ih fun d hd => h16 d (List.mem_cons_of_mem _ hd)
      rw [List.flatMap_cons, List.length_append, h2, List.length_cons]
      simp only [id, h1]
      omega
  unfold encDs at *
  have := getC_short (cnt := xs.length) (least := 16) (by omega) (by decide) (xs.flatMap id) j (by rw [List.length_append] at hj; exact hj) (by omega)
  unfold getL
  rw [if_pos (by rw [this]; decide)]
  exact this
theorem getL_D_canon (l : List UInt8) (h : (getL getD1 16 l).2.2 = 0) : l.take (getL getD1 16 l).2.1.toNat = encDs (getL getD1 16 l).1 ∧ 0 ≤ (getL getD1 16 l).2.1 ∧ (getL getD1 16 l).2.1 ≤ l.length ∧ ∀ d ∈ (getL getD1 16 l).1, d.length = 16 := by
  have key : ∀ (k : Nat) (acc : List (List UInt8)) (used : Nat), used + 16 * k ≤ l.length → (∀ d ∈ acc, d.length = 16) →
      ∃ s, getN getD1 l k acc (used : Int) = (acc ++ s, ((used + 16 * k : Nat) : Int), 0) ∧ s.length = k ∧ l.take (used + 16 * k) = l.take used ++ s.flatMap id ∧ ∀ d ∈ acc ++ s, d.length = 16 := by
    intro k
    induction k with
    | zero => intro acc used _ ha; exact ⟨[], by simp [getN], rfl, by simp, by simpa using ha⟩
    | succ k ih =>
      intro acc used hu ha
      have hdl : ((l.drop used).take 16).length = 16 := by rw [List.length_take, List.length_drop]; omega
      obtain ⟨s, s1, s2, s3, s4⟩ := ih (acc ++ [(l.drop used).take 16]) (used + 16) (by omega) (fun d hd => by
        rcases List.mem_append.1 hd with h | h
        · exact ha d h
        · rw [List.mem_singleton.1 h]; exact hdl)
      refine ⟨(l.drop used).take 16 :: s, ?_, by simp [s2], ?_, by simpa using s4⟩
      · rw [getN]
        simp only [getD1, ne_eq, not_true, if_false, Int.toNat_natCast]
        have s1' : getN getD1 l k (acc ++ [(l.drop used).take 16]) ((used : Int) + 16) = _ := s1
        rw [s1', List.append_assoc, show used + 16 + 16 * k = used + 16 * (k + 1) by omega]
        rfl
      · rw [show used + 16 * (k + 1) = used + 16 + 16 * k by omega, s3, List.take_add, List.flatMap_cons, List.append_assoc]
        rfl
  unfold getL at h ⊢
  by_cases hc : (getC l 16).2.2 = 0
  · rw [if_neg (by simp [hc])] at h ⊢
    obtain ⟨i1, i2, i3⟩ := getC_ok hc
    have hf := getC_facts l 16 (by decide)
    obtain ⟨e1, e2⟩ := encI_getI l i1
    have hfi := getI_facts l
    rw [i2] at hf h ⊢
    simp only at hf h ⊢
    obtain ⟨s, s1, s2, s3, s4⟩ := key (getI l).1.toNat [] (getI l).2.1.toNat (by omega) (by simp)
    rw [Int.toNat_of_nonneg hfi.2.2.1] at s1
    rw [s1]
    simp only [List.nil_append] at s4 ⊢
    refine ⟨?_, by omega, by omega, s4⟩
    rw [Int.toNat_natCast, s3, e1]
    unfold encDs
    rw [s2, Int.toNat_of_nonneg i3]
  · rw [if_pos hc] at h
    exact absurd h hc
end Go.Proofs.Ytieipbobijnmlaa.wp

namespace Go.Proofs.Ytieipbobijnmlaa.wp

open Go.RowKit
theorem gv_drop (l : List UInt8) : ∀ j : Nat, gv (l.drop j) ≤ gv l := by
  induction l with
  | nil => intro j; simp
  | cons c r ih =>
    intro j
    cases j with
    | zero => simp
    | succ j =>
      have := ih j
      simp only [List.drop_succ_cons, gv]
      omega
theorem gv_drop_step {l : List UInt8} {j : Nat} {c : UInt8} (h : l[j]? = some c) : gv (l.drop j) = c.toNat % 128 + 128 * gv (l.drop (j + 1)) := by
  have hj : j < l.length := by
    rcases Nat.lt_or_ge j l.length with h' | h'
    · exact h'
    · rw [List.getElem?_eq_none h'] at h; cases h
  have hc : l[j] = c := by rw [List.getElem?_eq_getElem hj] at h; cases h; rfl
  rw [List.drop_eq_getElem_cons hj, gv, hc]
end Go.Proofs.Ytieipbobijnmlaa.wp

namespace Go.Proofs.Ytieipbobijnmlaa.wi

open Go.ChangeShapes Go.WideShapes Go.ChangeAt Go.RowKit

set_option linter.unusedVariables false

set_option maxRecDepth 100000 in
set_option maxHeartbeats 2000000 in
theorem refGetInt_any (A : Option Addr) (n c : Nat) (l : List UInt8) (w : World) (hn : n ≤ c) (hc : c ≤ 9223372036854775807) (hln : l.length = n) (hl : wp.RB w A l) :
    Calls Try.prog 72 #[.slice A n c] w fun e w' => e = .returned (.tuple #[.int .i64 (wp.getI l).1, .int .i64 (wp.getI l).2.1, .int .i64 (wp.getI l).2.2]) ∧ w = w' := by
  have HLN := Lib.hid hln
  have HL := Lib.hid hl
  have HCS := Lib.hid (wp.getI_cases l)
  clear hln hl
  go_enter Try.func72, Try.ntmps72
  go_wp2_with fail
  go_loopg [5] 10 (fun g x wr => ∃ k : Nat, k + g = 10 ∧ k ≤ n ∧ wp.High l k ∧ x = .int .i64 (k : Int) ∧ w = wr)
  case atStart => exact ⟨0, by omega, by omega, wp.High.zero _, rfl, rfl⟩
  case round =>
    obtain ⟨k, hk, hkn, hh, rfl, rfl⟩ := hrel
    have HK := Lib.hid hk
    have HH := Lib.hid hh
    have hk10 : k ≤ 10 := by omega
    clear hk hh
    by_cases h10 : 10 ≤ k
    · have hb : ((k : Int) == 10) = true := by rw [beq_iff_eq]; omega
      by_cases hkn' : k < n
      all_goals
        go_wp2_with fail
        go_ret3
        exact ⟨by rw [wp.getI_none HH.out (by have := HLN.out; omega), if_pos (by have := HLN.out; omega)]; rfl, rfl⟩
    · have hb : ((k : Int) == 10) = false := by rw [beq_eq_false_iff_ne]; omega
      by_cases hlt : k < n
      · have hb2 : ((k : Int) == (n : Int)) = false := by rw [beq_eq_false_iff_ne]; omega
        obtain ⟨b, o, rfl, hbw, hcell⟩ := HL.out (by have := HLN.out; omega)
        have hkl : k < l.length := by have := HLN.out; omega
        have hlk : l[k]? = some l[k] := List.getElem?_eq_getElem hkl
        have hck := hcell k l[k] hlk
        have HLK := Lib.hid hlk
        have HS := Lib.hid (fun h8 => wp.getI_some HH.out (by omega) hlk h8)
        have HC8 : Hid (128 ≤ l[k].toNat → wp.High l (k + 1)) := fun h => HH.out.succ hlk h
        have HCE := Lib.hid hcell
        have hb' : (l[k].toNat : Int) < 256 := by have := l[k].toNat_lt; omega
        clear hcell hlk
        generalize hgk : l[k].toNat = ck at *
        have HGK := Lib.hid hgk
        clear hgk
        by_cases hc8 : 128 ≤ ck
        · go_wp2_with fail
          go_roundg (gk - 1)
          case measure => have := HK.out; omega
          case rel => exact ⟨k + 1, by have := HK.out; omega, by omega, HC8.out hc8, by go_num, rfl⟩
        · have hcs : (9 ≤ k ∧ 1 < ck ∨ 0 < k ∧ ck ≤ 0) ∨ (k ≤ 8 ∧ 0 < ck ∨ k ≤ 0 ∨ 9 ≤ k ∧ 1 ≤ ck ∧ ck ≤ 1) := by omega
          rcases hcs with hE | hO
          · have hEE := hE
            rcases hE with ⟨hx1, hx2⟩ | ⟨hx1, hx2⟩
            · have hk9 : ((k : Int) == 9) = true := by rw [beq_iff_eq]; omega
              go_wp2_with fail
              go_ret3
              exact ⟨by rw [HS.out (by omega), if_pos (by omega)]; rfl, rfl⟩
            · have hc0 : ((ck : Int) == 0) = true := by rw [beq_iff_eq]; omega
              by_cases h9 : k = 9
              · have hk9 : ((k : Int) == 9) = true := by rw [beq_iff_eq]; omega
                clear h9
                have hd1 : decide ((1 : Int) < (ck : Int)) = false := by simp; omega
                go_wp2_with fail
                go_ret3
                exact ⟨by rw [HS.out (by omega), if_pos (by omega)]; rfl, rfl⟩
              · have hk9 : ((k : Int) == 9) = false := by rw [beq_eq_false_iff_ne]; omega
                clear h9
                go_wp2_with fail
                go_ret3
                exact ⟨by rw [HS.out (by omega), if_pos (by omega)]; rfl, rfl⟩
          · have hG : wp.getI l = (wp.unz (wp.gv (l.take (k + 1))), ((k + 1 : Nat) : Int), 0) := by rw [HS.out (by omega), if_neg (by omega)]
            have hg64 : wp.gv (l.take (k + 1)) < 18446744073709551616 := by
              rcases HCS.out with (h | h) | ⟨k', _, _, hg, h⟩
              · rw [hG] at h; simp at h
              · rw [hG] at h; simp at h
              · rw [hG] at h
                have : k = k' := by have := (Prod.mk.inj (Prod.mk.inj h).2).1; omega
                rw [this]; exact hg
            have HGG := Lib.hid hG
            have HG64 := Lib.hid hg64
            have htl : (l.take (k + 1)).length = k + 1 := by rw [List.length_take]; omega
            have htc : ∀ j u, (l.take (k + 1))[j]? = some u → w.cell? ⟨b, o + j, none⟩ = some (.int .u8 (u.toNat : Int)) := fun j u hu => HCE.out j u (by
              rw [List.getElem?_take] at hu
              split at hu
              · exact hu
              · cases hu)
            have HTL := Lib.hid htl
            have HTC := Lib.hid htc
            clear hG hg64 htl htc HCE HCS HS
            generalize l.take (k + 1) = T at *
            have fin : (k ≤ 8 ∧ ((ck : Int) == 0) = false ∧ ((k : Int) == 9) = false) ∨ (k ≤ 0 ∧ True ∧ ((k : Int) == 9) = false) ∨ (((k : Int) == 9) = true ∧ ((ck : Int) == 0) = false ∧ decide ((1 : Int) < (ck : Int)) = false) := by
              rcases hO with ⟨h1, h2⟩ | h1 | ⟨h1, h2, h3⟩
              · exact .inl ⟨h1, by rw [beq_eq_false_iff_ne]; omega, by rw [beq_eq_false_iff_ne]; omega⟩
              · exact .inr (.inl ⟨h1, trivial, by rw [beq_eq_false_iff_ne]; omega⟩)
              · exact .inr (.inr ⟨by rw [beq_iff_eq]; omega, by rw [beq_eq_false_iff_ne]; omega, by simp; omega⟩)
            clear hO
            rcases fin with ⟨h1, h2, h3⟩ | ⟨h1, h2, h3⟩ | ⟨h1, h2, h3⟩
            all_goals
              go_wp2_with fail
              all_goals
                clear h1 h2 h3
                go_loopg [6, 7] (k + 1) (fun g z x wr => g ≤ k + 1 ∧ x = .int .i64 ((g : Int) - 1) ∧ z = .int .u64 (wp.gv (T.drop g) : Nat) ∧ w = wr)
                case atStart => exact ⟨Nat.le_refl _, by go_num, by rw [List.drop_eq_nil_of_le (by rw [HTL.out]; exact Nat.le_refl _)]; rfl, rfl⟩
                case round =>
                  obtain ⟨hgk, rfl, rfl, rfl⟩ := hrel
                  rcases Nat.eq_zero_or_pos gk with h0 | h0
                  · subst h0
                    rw [List.drop_zero]
                    have hz : (wp.gv T : Int) ≤ 18446744073709551615 := by have := HG64.out; omega
                    by_cases h2 : wp.gv T % 2 = 1
                    · have hb3 : ((wp.gv T : Int) % 2 == 1) = true := by rw [beq_iff_eq]; omega
                      have HU : Hid (wp.unz (wp.gv T) = -1 - ((wp.gv T : Int) / 2)) := by show _ = _; unfold wp.unz; rw [if_pos h2]; omega
                      generalize wp.gv T = z at *
                      go_wp2_with fail
                      go_ret3
                      exact ⟨by rw [HGG.out, HU.out]; push_cast; rfl, rfl⟩
                    · have hb3 : ((wp.gv T : Int) % 2 == 1) = false := by rw [beq_eq_false_iff_ne]; omega
                      have HU : Hid (wp.unz (wp.gv T) = ((wp.gv T : Int) / 2)) := by show _ = _; unfold wp.unz; rw [if_neg h2]; omega
                      generalize wp.gv T = z at *
                      go_wp2_with fail
                      go_ret3
                      exact ⟨by rw [HGG.out, HU.out]; push_cast; rfl, rfl⟩
                  · obtain ⟨j, rfl⟩ : ∃ j, gk = j + 1 := ⟨gk - 1, by omega⟩
                    have hjl : j < T.length := by rw [HTL.out]; omega
                    have hjt : T[j]? = some T[j] := List.getElem?_eq_getElem hjl
                    have hcj := HTC.out j T[j] hjt
                    have HST := Lib.hid (wp.gv_drop_step hjt)
                    have hdd := wp.gv_drop T j
                    have hbj : (T[j].toNat : Int) < 256 := by have := T[j].toNat_lt; omega
                    have hz : (128 * wp.gv (T.drop (j + 1)) + T[j].toNat % 128 : Int) ≤ 18446744073709551615 := by have := HG64.out; have := HST.out; omega
                    have hjn : j < n := by omega
                    have he : ((j + 1 : Nat) : Int) - 1 = (j : Int) := by omega
                    rw [he]
                    clear he hdd hjt
                    generalize wp.gv (T.drop (j + 1)) = z at *
                    generalize T[j].toNat = tj at *
                    go_wp2_with fail
                    go_roundg j
                    case measure => omega
                    case rel => exact ⟨by omega, by go_num, by rw [HST.out]; congr 1; push_cast; omega, rfl⟩
      · have hb2 : ((k : Int) == (n : Int)) = true := by rw [beq_iff_eq]; omega
        go_wp2_with fail
        go_ret3
        exact ⟨by rw [wp.getI_none HH.out (by have := HLN.out; omega), if_neg (by have := HLN.out; omega)]; rfl, rfl⟩
end Go.Proofs.Ytieipbobijnmlaa.wi

namespace Go.Proofs.Ytieipbobijnmlaa.wi

open Go.ChangeShapes Go.WideShapes Go.ChangeAt Go.RowKit

set_option linter.unusedVariables false

set_option maxRecDepth 100000 in
set_option maxHeartbeats 1000000 in
theorem refLength_any (A : Option Addr) (n c least : Nat) (l : List UInt8) (w : World) (hn : n ≤ c) (hc : c ≤ 9223372036854775807) (hln : l.length = n) (hl : wp.RB w A l) (h1 : 1 ≤ least) (h2 : least ≤ 1000) :
    Calls Try.prog 71 #[.slice A n c, .int .i64 (least : Int)] w fun e w' => e = .returned (.tuple #[.int .i64 (wp.getC l least).1, .int .i64 (wp.getC l least).2.1, .int .i64 (wp.getC l least).2.2]) ∧ w = w' := by
  have HG := Lib.hid (refGetInt_any A n c l w hn hc hln hl)
  have hf := wp.getI_facts l
  have HE : Hid (wp.getC l least = if (wp.getI l).2.2 ≠ 0 then (0, 0, (wp.getI l).2.2) else if (wp.getI l).1 < 0 then (0, 0, 11) else if ((n : Int) - (wp.getI l).2.1) / (least : Int) < (wp.getI l).1 then (0, 0, 10) else ((wp.getI l).1, (wp.getI l).2.1, 0)) := by
    show _ = _
    unfold wp.getC
    rw [hln]
  obtain ⟨f1, f2, f3, f4, f5, f6, f7, f8, -⟩ := hf
  rw [hln] at f4
  clear hl hln
  generalize wp.getI l = r at *
  obtain ⟨r1, r2, r3⟩ := r
  simp only at *
  have HR : Hid (wp.getC l least = if r3 ≠ 0 then (0, 0, r3) else if r1 < 0 then (0, 0, 11) else if ((n : Int) - r2) / (least : Int) < r1 then (0, 0, 10) else (r1, r2, 0)) := HE.out
  clear HE
  have hdiv : 0 ≤ ((n : Int) - r2) / (least : Int) := Int.ediv_nonneg (by omega) (by omega)
  by_cases h3 : 0 < r3
  · have hb : (r3 != 0) = true := by rw [bne_iff_ne]; omega
    go_enter Try.func71, Try.ntmps71
    go_wp2_with fail
    refine HG.out.mono ?_
    rintro e w' ⟨rfl, rfl⟩
    go_wp2_with fail
    go_ret3
    exact ⟨by rw [HR.out, if_pos (by omega)]; rfl, rfl⟩
  · have hb : (r3 != 0) = false := by rw [bne_eq_false_iff_eq]; omega
    by_cases h4 : r1 < 0
    · go_enter Try.func71, Try.ntmps71
      go_wp2_with fail
      refine HG.out.mono ?_
      rintro e w' ⟨rfl, rfl⟩
      go_wp2_with fail
      go_ret3
      exact ⟨by rw [HR.out, if_neg (by omega), if_pos (by omega)]; rfl, rfl⟩
    · by_cases h5 : ((n : Int) - r2) / (least : Int) < r1
      · go_enter Try.func71, Try.ntmps71
        go_wp2_with fail
        refine HG.out.mono ?_
        rintro e w' ⟨rfl, rfl⟩
        go_wp2_with fail
        go_ret3
        exact ⟨by rw [HR.out, if_neg (by omega), if_neg (by omega), if_pos h5]; rfl, rfl⟩
      · go_enter Try.func71, Try.ntmps71
        go_wp2_with fail
        refine HG.out.mono ?_
        rintro e w' ⟨rfl, rfl⟩
        go_wp2_with fail
        go_ret3
        exact ⟨by rw [HR.out, if_neg (by omega), if_neg (by omega), if_neg (Int.not_lt.2 h5)]; rfl, rfl⟩


set_option maxRecDepth 100000 in
set_option maxHeartbeats 1000000 in
theorem refGetInts_any (A : Option Addr) (n c : Nat) (l : List UInt8) (w : World) (hn : n ≤ c) (hc : c ≤ 9223372036854775807) (hln : l.length = n) (hl : wp.RB w A l) (h40 : n ≤ 1099511627776) :
    Calls Try.prog 58 #[.slice A n c] w fun e w' => ∃ v, e = .returned (.tuple #[v, .int .i64 (wp.getL wp.getI 1 l).2.1, .int .i64 (wp.getL wp.getI 1 l).2.2]) ∧ w'.ownsRow w.heap.size 3 1 v (wp.getL wp.getI 1 l).1.length ((wp.getL wp.getI 1 l).1.map (Value.int .i64)) ∧ Below w.heap.size w w' := by
  obtain ⟨i0, hi, hz0, hz1, hz2⟩ := info_parts infoI
  have HG := Lib.hid (refLength_any A n c 1 l w hn hc hln hl (by decide) (by decide))
  have hf := wp.getC_facts l 1 (by decide)
  have hE : wp.getL wp.getI 1 l = if (wp.getC l 1).2.2 ≠ 0 then ([], 0, (wp.getC l 1).2.2) else wp.getN wp.getI l (wp.getC l 1).1.toNat [] (wp.getC l 1).2.1 := rfl
  obtain ⟨f1, f2, f3, f4, f5, f6, f7, -⟩ := hf
  rw [hln] at f2 f4
  have HL := Lib.hid hl
  have HLN := Lib.hid hln
  clear hl hln
  have HE := Lib.hid hE
  clear hE
  generalize wp.getC l 1 = r at *
  obtain ⟨r1, r2, r3⟩ := r
  dsimp only at *
  generalize wp.getL wp.getI 1 l = RES at *
  obtain ⟨cnt, rfl⟩ := Int.eq_ofNat_of_zero_le f1
  rw [Int.toNat_natCast] at HE
  by_cases h3 : 0 < r3
  · have hb : (r3 != 0) = true := by rw [bne_iff_ne]; omega
    go_enter Try.func58, Try.ntmps58
    go_wp2_with fail
    refine HG.out.mono ?_
    rintro e w' ⟨rfl, rfl⟩
    go_wp2_with fail
    go_ret3
    exact ⟨_, by rw [HE.out, if_pos (by omega)]; rfl, by rw [HE.out, if_pos (by omega)]; exact World.ownsRow_nil _ _ _ _, Below.refl _ _⟩
  · have hb : (r3 != 0) = false := by rw [bne_eq_false_iff_eq]; omega
    have HE' : Hid (RES = wp.getN wp.getI l cnt [] r2) := by show _ = _; rw [HE.out, if_neg (by omega)]
    clear HE f5 f6 f7 f1
    go_enter Try.func58, Try.ntmps58
    go_wp2_with fail
    refine HG.out.mono ?_
    rintro e w' ⟨rfl, rfl⟩
    clear HG
    go_wp2_with fail
    generalize hB : w.heap.size = B at *
    have HB := Lib.hid hB
    clear hB
    go_loopg [6, 8, 9] cnt (fun g u v x wr => ∃ (k : Nat) (used : Int) (acc : List Int), k + g = cnt ∧ x = .int .i64 (k : Int) ∧ u = .int .i64 used ∧ 0 ≤ used ∧ used ≤ n ∧ acc.length = k ∧ wp.getN wp.getI l g acc used = RES ∧ wr.ownsRow B 3 1 v k (acc.map (Value.int .i64)) ∧ Below B w wr)
    case atStart => exact ⟨0, r2, [], by omega, rfl, rfl, by omega, by omega, rfl, HE'.out.symm, World.ownsRow_nil _ _ _ _, Below.refl _ _⟩
    case round =>
      obtain ⟨k, used, acc, hk, rfl, rfl, hu0, hun, hacc, hres, hown, hbel⟩ := hrel
      have HK := Lib.hid hk
      have HACC := Lib.hid hacc
      have hkc : k ≤ cnt := by omega
      have HBW : Hid (B ≤ wr.heap.size) := by have := hbel.size; have := HB.out; show _ ≤ _; omega
      clear hk hacc
      by_cases hlt : k < cnt
      · obtain ⟨g, rfl⟩ : ∃ g, gk = g + 1 := ⟨gk - 1, by have := HK.out; omega⟩
        have hrb : wp.RB wr A l := wk.RB.below HL.out (by rw [HB.out]; exact hbel)
        obtain ⟨A2, m, c2, hcut, hm2, hc2, hlen2, hrb2⟩ := wk.cut_l (P := Try.prog) wr 42 5 Try.underlying42 size5 A n c l HLN.out hn hrb used hu0 hun
        have HC := Lib.hid (refGetInt_any A2 m c2 (l.drop used.toNat) wr hm2 (by omega) hlen2 hrb2)
        have hfo := wp.getI_facts (l.drop used.toNat)
        have hlen3 : ((l.drop used.toNat).length : Int) = n - used := by rw [List.length_drop, HLN.out]; omega
        rw [hlen3] at hfo
        rw [wp.getN] at hres
        have HRES := Lib.hid hres
        clear hres hrb hlen2 hrb2 hlen3
        generalize wp.getI (l.drop used.toNat) = s at *
        obtain ⟨s1, s2, s3⟩ := s
        dsimp only at *
        obtain ⟨g1, g2, g3, g4, g5, g6, g7, g8, -⟩ := hfo
        have hkm : k + 1 ≤ 1099511627776 := by omega
        clear f2 f4
        by_cases h4 : 0 < s3
        · have hb4 : (s3 != 0) = true := by rw [bne_iff_ne]; omega
          go_wp2_with fail
          refine HC.out.mono ?_
          rintro e w' ⟨rfl, rfl⟩
          go_wp2_with fail
          go_ret3
          have hr := HRES.out
          rw [if_pos (by omega)] at hr
          exact ⟨_, by rw [← hr]; rfl, by rw [← hr]; exact World.ownsRow_nil _ _ _ _, by rw [HB.out]; exact hbel⟩
        · have hb4 : (s3 != 0) = false := by rw [bne_eq_false_iff_eq]; omega
          go_wp2_with fail
          refine HC.out.mono ?_
          rintro e w' ⟨rfl, rfl⟩
          go_wp2_with (at_builtin; refine wpList_append_own _ rfl _ _ 22 rfl B 3 i0 (.int .i64 0) 1 8 Try.underlying22 hi hz0 hz1 hz2 rfl (by decide) _ _ _ rfl (hown.alloc _) ⟨wr.heap.size, 0, none⟩ 1 1 [.int .i64 s1] rfl rfl ?c1 ?c2 ?c3 ?c4 ?c5 ?_)
          case c1 => exact cell_one_new _ _ _
          case c2 => simp [Value.oneCell']
          case c3 => unfold maxLen; omega
          case c4 => omega
          case c5 => have := HBW.out; simp; omega
          intro v' w2 hown2 hgrow _
          go_wp2_with fail
          go_roundg g
          case measure => omega
          case rel =>
            refine ⟨k + 1, used + s2, acc ++ [s1], by have := HK.out; omega, by go_num, rfl, by omega, by omega, by simp [HACC.out], ?_, by simpa using hown2, (hbel.alloc HBW.out _).grown hgrow (by have := HBW.out; simp; omega) (fun q hq => (hown.lt q hq).1)⟩
            have hr := HRES.out
            rw [if_neg (by omega)] at hr
            exact hr
      · have hg : gk = 0 := by have := HK.out; omega
        subst hg
        rw [wp.getN] at hres
        have HRES := Lib.hid hres
        clear hres
        go_wp2_with fail
        go_ret3
        exact ⟨_, by rw [← HRES.out]; rfl, by rw [← HRES.out, HACC.out, HB.out]; exact hown, by rw [HB.out]; exact hbel⟩

end Go.Proofs.Ytieipbobijnmlaa.wi
