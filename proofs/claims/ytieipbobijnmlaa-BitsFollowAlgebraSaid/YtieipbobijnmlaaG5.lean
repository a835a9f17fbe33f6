/- Joined: Qo Qp Qy Qr Ba Val2 Rf Bb. -/
import Derived.Test.YtieipbobijnmlaaG4

import Derived.RangeFuncNested

import Derived.RangeFuncBound

import Derived.RangeFuncCalls

import Derived.RangeFuncLeaves

import Derived.OrdersIn

import Derived.TacticsIn

import Derived.Lib.MinMax
/- The examples of the chapter. -/
namespace Go.Proofs.Ytieipbobijnmlaa.vk

open Go.ChangeShapes Go.WideShapes Go.ChangeAt Go.RowKit

set_option linter.unusedVariables false
def va : List Int := [1, -2, 3]
def vb : List Int := [4, 2, 3]
theorem va_vec : vq.Vec va := vq.valid_iff.1 (by decide)
theorem vb_vec : vq.Vec vb := vq.valid_iff.1 (by decide)
def bdd (l : List Int) : Bool := l.all fun x => decide (-9223372036854775808 ≤ x) && decide (x ≤ 9223372036854775807)
theorem bd_of {l : List Int} (h : bdd l = true) : ∀ x ∈ l, -9223372036854775808 ≤ x ∧ x ≤ 9223372036854775807 := by
  intro x hx
  have := List.all_eq_true.1 h x hx
  simpa using this
theorem new_lit (w : World) (l : List Int) (n : Nat) (hn : l.length = n) (h40 : n ≤ 1099511627776) (hb : bdd l = true) (t : TypeId) : wo.IsI (w.alloc (.cells (iv l).toArray t)) (some ⟨w.heap.size, 0, none⟩) n n l :=
  isI_new rfl l rfl n hn h40 (bd_of hb) t
/-- the two vectors, at hand -/
structure SA (w0 : World) (B : Nat) (w : World) : Prop where
  a : wo.IsI w (some ⟨B, 0, none⟩) 3 3 va
  b : wo.IsI w (some ⟨B + 1, 0, none⟩) 3 3 vb
  bel : Below B w0 w
  sz : w0.heap.size = B
theorem SA.next {w0 w w' : World} {B : Nat} (h : SA w0 B w) (hb : Below w.heap.size w w') : SA w0 B w' :=
  ⟨isI_below h.a hb, isI_below h.b hb, h.bel.trans (hb.mono (by have := h.bel.size; have := h.sz; omega)), h.sz⟩
theorem SA.drewN {w0 w : World} {B : Nat} (h : SA w0 B w) (q : Nat) : SA w0 B (w.drewN q) := ⟨h.a, h.b, below_drewN h.bel q, h.sz⟩
theorem SA.start (w : World) (t : TypeId) : SA w w.heap.size ((w.alloc (.cells #[.int .i64 1, .int .i64 (-2), .int .i64 3] t)).alloc (.cells #[.int .i64 4, .int .i64 2, .int .i64 3] t)) := by
  refine ⟨isI_below (new_lit w va 3 rfl (by omega) (by decide) t) (below_new _ _), ?_, Below.andThen (below_new _ _) (below_new _ _), rfl⟩
  have := new_lit (w.alloc (.cells #[.int .i64 1, .int .i64 (-2), .int .i64 3] t)) vb 3 rfl (by omega) (by decide) t
  rw [size_new] at this
  exact this
theorem isVV_new {w : World} {A1 A2 : Option Addr} {n1 n2 c1 c2 : Nat} {l1 l2 : List Int} (h1 : wo.IsI w A1 n1 c1 l1) (h2 : wo.IsI w A2 n2 c2 l2) (t : TypeId) : IsVV (w.alloc (.cells #[.slice A1 n1 c1, .slice A2 n2 c2] t)) (some ⟨w.heap.size, 0, none⟩) 2 2 [l1, l2] := by
  refine ⟨rfl, Nat.le_refl _, by omega, fun k l hk => ?_⟩
  have hc := wk.cells_new w [.slice A1 n1 c1, .slice A2 n2 c2] t
  match k, hk with
  | 0, hk =>
    simp at hk; subst hk
    have h := hc 0 _ rfl
    rw [wk.add_at] at h
    exact ⟨_, _, A1, n1, c1, rfl, by rw [size_new]; omega, h, isI_below h1 (below_new _ _)⟩
  | 1, hk =>
    simp at hk; subst hk
    have h := hc 1 _ rfl
    rw [wk.add_at] at h
    exact ⟨_, _, A2, n2, c2, rfl, by rw [size_new]; omega, h, isI_below h2 (below_new _ _)⟩
  | k + 2, hk => simp at hk
theorem enc_va : wp.encIs va = [6, 2, 3, 6] := by simp [va, wp.encIs, wp.encI, Lib.zigzag, Lib.uvarint_small]
theorem enc_nil : wp.encIs [] = [0] := by simp [wp.encIs, wp.encI, Lib.zigzag, Lib.uvarint_small]
end Go.Proofs.Ytieipbobijnmlaa.vk
/- VectorsAreOrdered: its walk. -/
namespace Go.Proofs.Ytieipbobijnmlaa.vk
theorem int_wf {a : Int} (h : (Lit.int .i64 a).wf = true) : -9223372036854775808 ≤ a ∧ a ≤ 9223372036854775807 := by simpa [Lit.wf, IntKind.min, IntKind.max, IntKind.signed, IntKind.bits] using h
theorem take_beq {a b : List Int} {k : Nat} {x y : Int} (hx : a[k]? = some x) (hy : b[k]? = some y) : (a.take (k + 1) == b.take (k + 1)) = (a.take k == b.take k && x == y) := by
  rw [vq.take_snoc hx, vq.take_snoc hy, Bool.eq_iff_iff]
  simp only [beq_iff_eq, Bool.and_eq_true]
  constructor
  · intro h
    have := List.append_inj' h rfl
    exact ⟨this.1, by simpa using this.2⟩
  · rintro ⟨h, rfl⟩; rw [h]
end Go.Proofs.Ytieipbobijnmlaa.vk

namespace Go.Proofs.Ytieipbobijnmlaa.vectorsAreOrdered

open Go.ChangeShapes Go.WideShapes Go.ChangeAt Go.RowKit

open Go.Proofs.Ytieipbobijnmlaa.vk

set_option linter.unusedVariables false
end Go.Proofs.Ytieipbobijnmlaa.vectorsAreOrdered
/- Lists of lists: how they come in; the reference's All, Mean. -/
namespace Go.Proofs.Ytieipbobijnmlaa.vq
def allv (L : List (List Int)) (most : Int) : Bool := L.all (alike (L.headD [])) && (decide (1 ≤ L.length) && decide ((L.length : Int) ≤ most))
theorem allv_iff {L : List (List Int)} : allv L 20 = true ↔ (∀ l ∈ L, alike (L.headD []) l = true) ∧ 1 ≤ L.length ∧ L.length ≤ 20 := by
  simp only [allv, Bool.and_eq_true, List.all_eq_true, decide_eq_true_eq]
  constructor
  · rintro ⟨h1, h2, h3⟩; exact ⟨h1, h2, by omega⟩
  · rintro ⟨h1, h2, h3⟩; exact ⟨h1, h2, by omega⟩
/-- what the vectors of such a list are -/
theorem allv_vec {L : List (List Int)} (h : allv L 20 = true) : ∃ d, (∀ l ∈ L, l.length = d) ∧ (∀ l ∈ L, Vec l) ∧ 1 ≤ L.length ∧ L.length ≤ 20 := by
  obtain ⟨h1, h2, h3⟩ := allv_iff.1 h
  refine ⟨(L.headD []).length, fun l hl => ?_, fun l hl => ?_, h2, h3⟩
  · exact (alike_iff.1 (h1 l hl)).1.symm
  · exact (alike_iff.1 (h1 l hl)).2.2
def col (L : List (List Int)) (i : Nat) : Int := sm (L.map fun l => l.getD i 0)
theorem sm_append (a b : List Int) : sm (a ++ b) = sm a + sm b := by
  induction a with
  | nil => simp [sm]
  | cons x a ih => simp only [List.cons_append, sm, ih]; omega
theorem col_snoc {L : List (List Int)} {k : Nat} {l : List Int} (h : L[k]? = some l) (i : Nat) : col (L.take (k + 1)) i = col (L.take k) i + l.getD i 0 := by
  rw [take_snoc h, col, List.map_append, sm_append]; simp [col, sm]
theorem sums_at {d i : Nat} (hi : i < d) : ∀ (T : List (List Int)) (m : List Int), m.length = d → (∀ l ∈ T, l.length = d) → (sums m T)[i]? = some (m.getD i 0 + col T i)
  | [], m, hm, _ => by simp [sums, col, sm, List.getD, List.getElem?_eq_getElem (show i < m.length by omega)]
  | l :: T, m, hm, hT => by
    have hl := hT l (by simp)
    have ih := sums_at hi T (vadd m l) (by rw [vadd_length (by omega)]; exact hm) (fun x hx => hT x (by simp [hx]))
    have e : sums m (l :: T) = sums (vadd m l) T := rfl
    rw [e, ih]
    have h1 : m[i]? = some (m.getD i 0) := by simp [List.getD, List.getElem?_eq_getElem (show i < m.length by omega)]
    have h2 : l[i]? = some (l.getD i 0) := by simp [List.getD, List.getElem?_eq_getElem (show i < l.length by omega)]
    have h3 := vadd_at h1 h2
    have h4 : (vadd m l).getD i 0 = m.getD i 0 + l.getD i 0 := by simp only [List.getD, h3, Option.getD_some]
    rw [h4]
    simp only [col, List.map_cons, sm]
    congr 1
    omega
theorem mean_at {L : List (List Int)} {d i : Nat} (hi : i < d) (h1 : 1 ≤ L.length) (hd : ∀ l ∈ L, l.length = d) : (mean L)[i]? = some (col L i / (L.length : Int)) := by
  obtain ⟨m, T, rfl⟩ : ∃ m T, L = m :: T := by
    cases L with
    | nil => simp at h1
    | cons m T => exact ⟨m, T, rfl⟩
  have h := sums_at hi T m (hd m (by simp)) (fun x hx => hd x (by simp [hx]))
  have e : mean (m :: T) = (sums m T).map (· / ((m :: T).length : Int)) := rfl
  rw [e, List.getElem?_map, h]
  simp [col, sm]
theorem mean_length {L : List (List Int)} {d : Nat} (h1 : 1 ≤ L.length) (hd : ∀ l ∈ L, l.length = d) : (mean L).length = d := by
  obtain ⟨m, T, rfl⟩ : ∃ m T, L = m :: T := by
    cases L with
    | nil => simp at h1
    | cons m T => exact ⟨m, T, rfl⟩
  have e : mean (m :: T) = (sums m T).map (· / ((m :: T).length : Int)) := rfl
  rw [e, List.length_map, sums_length T m (hd m (by simp)) (fun x hx => hd x (by simp [hx]))]
theorem col_bd {L : List (List Int)} {i : Nat} (h : ∀ l ∈ L, ∀ x ∈ l, -1000 ≤ x ∧ x ≤ 1000) : -(1000 * (L.length : Int)) ≤ col L i ∧ col L i ≤ 1000 * L.length := by
  induction L with
  | nil => simp [col, sm]
  | cons l L ih =>
    have h1 := ih fun x hx => h x (by simp [hx])
    have h2 : -1000 ≤ l.getD i 0 ∧ l.getD i 0 ≤ 1000 := by
      rcases Nat.lt_or_ge i l.length with hl | hl
      · have := h l (by simp) l[i] (List.getElem_mem hl)
        simpa [List.getD, List.getElem?_eq_getElem hl] using this
      · simp [List.getD, List.getElem?_eq_none hl]
    simp only [col, List.map_cons, sm, List.length_cons] at h1 ⊢
    omega
end Go.Proofs.Ytieipbobijnmlaa.vq

namespace Go.Proofs.Ytieipbobijnmlaa.vk

open Go.ChangeShapes Go.WideShapes Go.ChangeAt Go.RowKit

set_option linter.unusedVariables false

section

variable {H : Type} {enc : TypeId × Value → H} {P : Program} {w : World} {base : Nat} {spare : Nat → Bool} {held : Bool} {t e e0 : TypeId} {a : Option Addr} {n c fuel : Nat} {x : DataW H × List MemPlace}
theorem openVV (ht : P.underlying t = some (.slice e)) (he : P.underlying e = some (.slice e0)) (he0 : P.underlying e0 = some (.int .i64)) (hc : P.cellsOf e = 1) (hc0 : P.cellsOf e0 = 1)
    (h : DataW.trod enc P w base spare held fuel t [.slice a n c] = some x) : ∃ L, IsVV w a n c L := by
  rcases DataW.trod_slice ht h with ⟨hcs, _⟩ | ⟨ad, len, cap, elems, rest, m, _, hcs, _, hb, hl, hm, hlen, hel, _⟩
  · simp only [List.cons.injEq, Value.slice.injEq, and_true] at hcs
    obtain ⟨rfl, rfl, rfl⟩ := hcs
    exact ⟨[], rfl, Nat.le_refl _, by omega, fun k l hk => by simp at hk⟩
  · simp only [List.cons.injEq, Value.slice.injEq, and_true] at hcs
    obtain ⟨rfl, rfl, rfl⟩ := hcs
    rw [hc] at hel
    have hone : ∀ i, i < n → ∃ l : List Int, ∃ A' n' c', w.cell? (ad.add i) = some (.slice A' n' c') ∧ wo.IsI w A' n' c' l := fun i hi => by
      have hi' := hel i hi
      rw [List.getElem?_eq_getElem (by omega), Nat.mul_one] at hi'
      cases hcc : w.cells? base (ad.add i) 1 with
      | none => rw [hcc] at hi'; simp at hi'
      | some cs =>
        rw [hcc] at hi'
        simp only [Option.bind_some] at hi'
        obtain ⟨hlen1, _, hcell⟩ := World.cells?_some hcc
        have h0 := hcell 0 (by omega)
        have hadd : (ad.add i).add 0 = ad.add i := by unfold Addr.add; simp
        rw [hadd] at h0
        rcases DataW.trod_slice he hi' with ⟨hcs, _⟩ | ⟨ad', len', cap', _, _, _, _, hcs, _⟩
        · subst hcs
          obtain ⟨l, hI⟩ := wo.openI he he0 hc0 hi'
          exact ⟨l, _, _, _, by simpa using h0, hI⟩
        · subst hcs
          obtain ⟨l, hI⟩ := wo.openI he he0 hc0 hi'
          exact ⟨l, _, _, _, by simpa using h0, hI⟩
    obtain ⟨L, hLl, hLq⟩ := wo.exists_list n hone
    refine ⟨L, hLl, hl, by unfold maxLen at hm; omega, fun k l hk => ?_⟩
    have hkn : k < n := by
      rcases Nat.lt_or_ge k n with h' | h'
      · exact h'
      · rw [List.getElem?_eq_none (by omega)] at hk; cases hk
    obtain ⟨A', n', c', hcell, hI⟩ := hLq k l hk
    obtain ⟨A0, m0, k0, hc00, _⟩ := (hone 0 (by omega)).choose_spec
    obtain ⟨b, o, rfl⟩ := wo.at_plain hc00
    have hlt := block_lt_of_cell hcell
    rw [wk.add_at] at hcell hlt
    exact ⟨b, o, A', n', c', rfl, hlt, hcell, hI⟩
end
theorem isVV_get {w : World} {A : Option Addr} {n c k : Nat} {L : List (List Int)} (h : IsVV w A n c L) (hk : k < n) : ∃ b o A' n' c' l, A = some ⟨b, o, none⟩ ∧ b < w.heap.size ∧ w.cell? ⟨b, o + k, none⟩ = some (.slice A' n' c') ∧ wo.IsI w A' n' c' l ∧ L[k]? = some l := by
  have hl : k < L.length := by have := h.1; omega
  obtain ⟨b, o, A', n', c', h1, h2, h3, h4⟩ := h.2.2.2 k L[k] (List.getElem?_eq_getElem hl)
  exact ⟨b, o, A', n', c', L[k], h1, h2, h3, h4, List.getElem?_eq_getElem hl⟩
theorem dropL_at {α : Type} {l : List α} {k : Nat} {x : α} (h : l[k]? = some x) : l.drop k = x :: l.drop (k + 1) := by
  obtain ⟨hk, rfl⟩ := List.getElem?_eq_some_iff.1 h
  exact List.drop_eq_getElem_cons hk
end Go.Proofs.Ytieipbobijnmlaa.vk
/- Norms and keys: inequalities. No program here. -/
namespace Go.Proofs.Ytieipbobijnmlaa.vq
theorem two_elim {motive : (a b : List Int) → a.length = b.length → Prop} (nil : motive [] [] rfl) (cons : ∀ x y a b (h : a.length = b.length), motive a b h → motive (x :: a) (y :: b) (by simp [h])) : ∀ a b (h : a.length = b.length), motive a b h
  | [], [], _ => nil
  | x :: a, y :: b, h => cons x y a b (by simpa using h) (two_elim nil cons a b _)
  | [], _ :: _, h => by simp at h
  | _ :: _, [], h => by simp at h
/-- Cauchy and Schwarz, for a list of pairs -/
def pp (l : List (Int × Int)) : Int := sm (l.map fun p => p.1 * p.1)
def qq (l : List (Int × Int)) : Int := sm (l.map fun p => p.2 * p.2)
def pq (l : List (Int × Int)) : Int := sm (l.map fun p => p.1 * p.2)
theorem form_nonneg (s t : Int) : ∀ l : List (Int × Int), 0 ≤ s * s * pp l + 2 * s * t * pq l + t * t * qq l
  | [] => by simp [pp, pq, qq, sm]
  | x :: l => by
    have h := form_nonneg s t l
    have h2 := sq_nonneg (s * x.1 + t * x.2)
    simp only [pp, pq, qq, List.map_cons, sm] at h ⊢
    grind
theorem pp_nonneg : ∀ l, 0 ≤ pp l
  | [] => by simp [pp, sm]
  | x :: l => by have := pp_nonneg l; have := sq_nonneg x.1; simp only [pp, List.map_cons, sm] at *; omega
theorem qq_nonneg : ∀ l, 0 ≤ qq l
  | [] => by simp [qq, sm]
  | x :: l => by have := qq_nonneg l; have := sq_nonneg x.2; simp only [qq, List.map_cons, sm] at *; omega
theorem cauchy (l : List (Int × Int)) : pq l * pq l ≤ pp l * qq l := by
  have hA := pp_nonneg l
  have hB := qq_nonneg l
  have hf := fun s t => form_nonneg s t l
  generalize pp l = A at *
  generalize qq l = B at *
  generalize pq l = C at *
  rcases (by omega : B = 0 ∨ 0 < B) with h0 | h0
  · subst h0
    have h := hf 1 (-(A + 1) * C)
    rcases Int.lt_trichotomy C 0 with hc | hc | hc
    · exfalso
      have h1 : 1 ≤ C * C := by have := Int.mul_nonneg (show 0 ≤ -C - 1 by omega) (show 0 ≤ -C + 1 by omega); grind
      have h2 := Int.mul_nonneg (show 0 ≤ A + 1 by omega) (show 0 ≤ C * C - 1 by omega)
      grind
    · subst hc; simp
    · exfalso
      have h1 : 1 ≤ C * C := by have := Int.mul_nonneg (show 0 ≤ C - 1 by omega) (show 0 ≤ C + 1 by omega); grind
      have h2 := Int.mul_nonneg (show 0 ≤ A + 1 by omega) (show 0 ≤ C * C - 1 by omega)
      grind
  · have h := hf B (-C)
    have h1 : 0 ≤ B * (A * B - C * C) := by grind
    rcases Int.lt_or_le (A * B - C * C) 0 with h2 | h2
    · exfalso
      have := Int.mul_neg_of_pos_of_neg h0 h2
      omega
    · omega
theorem ab_sq (x : Int) : ab x * ab x = x * x := by
  rcases Int.le_total 0 x with h | h
  · rw [show ab x = x by unfold ab; omega]
  · rw [show ab x = -x by unfold ab; omega, Int.neg_mul_neg]
theorem mx_ge {v : List Int} {x : Int} (h : x ∈ v) : ab x ≤ mx v := by
  induction v with
  | nil => cases h
  | cons y v ih =>
    simp only [mx]
    rcases List.mem_cons.1 h with rfl | h
    · omega
    · have := ih h; omega
theorem mx_le_sm : ∀ v : List Int, mx v ≤ sm (v.map ab)
  | [] => by simp [mx, sm]
  | x :: v => by have := mx_le_sm v; have := ab_nonneg x; have := sm_ab_nonneg v; simp only [mx, List.map_cons, sm]; omega
theorem sm_ab_le {M : Int} : ∀ v : List Int, (∀ x ∈ v, ab x ≤ M) → sm (v.map ab) ≤ v.length * M
  | [], _ => by simp [sm]
  | x :: v, h => by
    have := sm_ab_le v fun y hy => h y (by simp [hy])
    have := h x (by simp)
    simp only [List.map_cons, sm, List.length_cons]
    have e : ((v.length + 1 : Nat) : Int) * M = v.length * M + M := by push_cast; rw [Int.add_mul, Int.one_mul]
    omega
theorem sm_sq_le {M : Int} : ∀ v : List Int, (∀ x ∈ v, ab x ≤ M) → sm (v.map fun x => x * x) ≤ M * sm (v.map ab)
  | [], _ => by simp [sm]
  | x :: v, h => by
    have h1 := sm_sq_le v fun y hy => h y (by simp [hy])
    have h2 := h x (by simp)
    have h3 := Int.mul_le_mul_of_nonneg_right h2 (ab_nonneg x)
    rw [ab_sq] at h3
    simp only [List.map_cons, sm]
    rw [Int.mul_add]
    omega
theorem sq_le_sm {x : Int} : ∀ v : List Int, x ∈ v → x * x ≤ sm (v.map fun x => x * x)
  | [], h => by cases h
  | y :: v, h => by
    simp only [List.map_cons, sm]
    have h1 := sq_nonneg y
    have h2 := sm_sq_nonneg v
    rcases List.mem_cons.1 h with rfl | h
    · omega
    · have := sq_le_sm v h; omega
theorem mx_at : ∀ v : List Int, mx v = 0 ∨ ∃ x ∈ v, ab x = mx v
  | [] => .inl rfl
  | x :: v => by
    have h0 := mx_nonneg v
    have h1 := ab_nonneg x
    rcases (by omega : mx v ≤ ab x ∨ ab x < mx v) with h | h
    · exact .inr ⟨x, by simp, by simp only [mx]; omega⟩
    · rcases mx_at v with h2 | ⟨y, hy, h2⟩
      · omega
      · exact .inr ⟨y, by simp [hy], by simp only [mx]; omega⟩
theorem mx_sq_le (v : List Int) : mx v * mx v ≤ sm (v.map fun x => x * x) := by
  rcases mx_at v with h | ⟨x, hx, h⟩
  · rw [h]; have := sm_sq_nonneg v; omega
  · rw [← h, ab_sq]; exact sq_le_sm v hx
theorem ones (v : List Int) : pp (v.map fun x => (ab x, 1)) = sm (v.map fun x => x * x) ∧ qq (v.map fun x => (ab x, 1)) = v.length ∧ pq (v.map fun x => (ab x, 1)) = sm (v.map ab) := by
  induction v with
  | nil => simp [pp, qq, pq, sm]
  | cons x v ih =>
    obtain ⟨h1, h2, h3⟩ := ih
    simp only [pp, qq, pq, List.map_cons, sm, List.length_cons, ab_sq] at h1 h2 h3 ⊢
    rw [h1, h2, h3]
    refine ⟨rfl, by omega, by omega⟩
theorem sm_ab_sq (v : List Int) : sm (v.map ab) * sm (v.map ab) ≤ v.length * sm (v.map fun x => x * x) := by
  have := cauchy (v.map fun x => (ab x, 1))
  obtain ⟨h1, h2, h3⟩ := ones v
  rw [h1, h2, h3] at this
  rw [Int.mul_comm (v.length : Int)]
  exact this
theorem norms (v : List Int) : norm 3 v ≤ norm 1 v ∧ norm 1 v ≤ v.length * norm 3 v ∧ norm 3 v * norm 3 v ≤ norm 2 v ∧ norm 2 v ≤ norm 3 v * norm 1 v ∧ norm 1 v * norm 1 v ≤ v.length * norm 2 v ∧ dot v v = norm 2 v := by
  rw [norm1, norm2, norm3]
  refine ⟨mx_le_sm v, sm_ab_le v fun x hx => mx_ge hx, mx_sq_le v, sm_sq_le v fun x hx => mx_ge hx, sm_ab_sq v, ?_⟩
  rw [dot_sm]
  congr 1
  have : v.zip v = v.map fun x => (x, x) := by induction v with
    | nil => rfl
    | cons x v ih => simpa using ih
  rw [this, List.map_map]
  rfl
theorem key2_dot {a b : List Int} (h : a.length = b.length) : key 2 a b = norm 2 a + norm 2 b - 2 * dot a b := by
  rw [key, norm2, norm2, norm2, dot_sm]
  induction a, b, h using two_elim with
  | nil =>
    simp [sub, sm]
  | cons x y a b h ih =>
    simp only [sub, List.zip_cons_cons, List.map_cons, sm] at ih ⊢
    grind
theorem norm_mul_bd {m n d : Int} (h1 : 0 ≤ m) (h2 : m ≤ d) (h3 : 0 ≤ n) (h4 : n ≤ 200000000) (hd : d ≤ 200000000) : 0 ≤ m * n ∧ m * n ≤ 40000000000000000 := by
  have := Int.mul_nonneg h1 h3
  have a := Int.mul_le_mul_of_nonneg_right (show m ≤ 200000000 by omega) h3
  omega
/-- keys are distances -/
theorem ab_add (x y : Int) : ab (x + y) ≤ ab x + ab y := by unfold ab; omega
theorem sub_add {a b c : List Int} (h : a.length = b.length) (h' : b.length = c.length) : sub a c = ((sub a b).zip (sub b c)).map fun p => p.1 + p.2 := by
  revert c
  induction a, b, h using two_elim with
  | nil =>
    intro c h; simp [sub]
  | cons x y a b h ih =>
    intro c hc
    cases c with
    | nil => simp at hc
    | cons z c =>
      have := ih (c := c) (by simpa using hc)
      simp only [sub, List.zip_cons_cons, List.map_cons] at this ⊢
      rw [this]
      congr 1
      omega
theorem sub_neg {a b : List Int} : sub b a = (sub a b).map fun x => -x := by
  induction a generalizing b with
  | nil => simp [sub]
  | cons x a ih =>
    cases b with
    | nil => simp [sub]
    | cons y b =>
      have := ih (b := b)
      simp only [sub, List.zip_cons_cons, List.map_cons] at this ⊢
      rw [this]
      congr 1
      omega
theorem norm_neg (m : Int) (v : List Int) : norm m (v.map fun x => -x) = norm m v := by
  have : ∀ n x, grow m n (-x) = grow m n x := by
    intro n x
    unfold grow
    split
    · omega
    · split
      · rw [Int.neg_mul_neg]
      · split <;> omega
  rw [norm, List.foldl_map, norm]
  congr 1
  funext n x
  exact this n x
theorem key_comm (m : Int) (a b : List Int) : key m a b = key m b a := by
  rw [key, key, sub_neg (a := b) (b := a), norm_neg]
theorem sm_zero : ∀ {v : List Int} {f : Int → Int}, (∀ x, 0 ≤ f x) → (∀ x, f x = 0 → x = 0) → sm (v.map f) = 0 → ∀ x ∈ v, x = 0
  | [], _, _, _, _ => by intro x hx; cases hx
  | y :: v, f, h0, h1, h => by
    have h2 : 0 ≤ sm (v.map f) := sm_nonneg fun z hz => by obtain ⟨u, _, rfl⟩ := List.mem_map.1 hz; exact h0 u
    have h3 := h0 y
    simp only [List.map_cons, sm] at h
    intro x hx
    rcases List.mem_cons.1 hx with rfl | hx
    · exact h1 x (by omega)
    · exact sm_zero h0 h1 (by omega) x hx
theorem mul_self_zero {x : Int} (h : x * x = 0) : x = 0 := by
  rcases Int.mul_eq_zero.1 h with h | h <;> exact h
theorem norm_zero {m : Int} (h1 : 1 ≤ m) (h3 : m ≤ 3) {v : List Int} (h : norm m v = 0) : ∀ x ∈ v, x = 0 := by
  rcases (by omega : m = 1 ∨ m = 2 ∨ m = 3) with rfl | rfl | rfl
  · rw [norm1] at h
    exact sm_zero ab_nonneg (fun x hx => by unfold ab at hx; omega) h
  · rw [norm2] at h
    exact sm_zero sq_nonneg (fun x hx => mul_self_zero hx) h
  · rw [norm3] at h
    intro x hx
    have := mx_ge hx
    have := ab_nonneg x
    unfold ab at *
    omega
theorem sub_zero {a b : List Int} (h : a.length = b.length) : (∀ x ∈ sub a b, x = 0) → a = b := by
  induction a, b, h using two_elim with
  | nil =>
    intro _; rfl
  | cons x y a b h ih =>
    intro hz
    simp only [sub, List.zip_cons_cons, List.map_cons] at hz
    have h1 := hz (x - y) (by simp)
    have h2 := ih fun z hz' => hz z (by simp only [List.mem_cons]; exact .inr hz')
    rw [h2, show x = y by omega]
theorem norm_self (m : Int) (a : List Int) : key m a a = 0 := by
  have h : ∀ x ∈ sub a a, x = 0 := by
    intro x hx
    obtain ⟨p, hp, rfl⟩ := List.mem_map.1 hx
    obtain ⟨i, hi, rfl⟩ := List.mem_iff_getElem.1 hp
    simp
  have : sub a a = List.replicate (sub a a).length 0 := List.eq_replicate_iff.2 ⟨rfl, h⟩
  rw [key, this]
  generalize (sub a a).length = n
  have h2 : ∀ (n : Nat) (c : Int), (c = 0) → (List.replicate n (0 : Int)).foldl (grow m) c = 0 := by
    intro n
    induction n with
    | zero => intro c hc; simpa using hc
    | succ n ih =>
      intro c hc
      rw [List.replicate_succ, List.foldl_cons]
      refine ih _ ?_
      subst hc
      unfold grow
      split
      · omega
      · split
        · omega
        · split <;> omega
  exact h2 n 0 rfl
theorem key_zero {m : Int} (h1 : 1 ≤ m) (h3 : m ≤ 3) {a b : List Int} (h : a.length = b.length) : key m a b = 0 ↔ a = b :=
  ⟨fun hk => sub_zero h (norm_zero h1 h3 hk), fun hk => by rw [hk]; exact norm_self m b⟩
theorem tri1 {u v : List Int} : u.length = v.length → sm (((u.zip v).map fun p => p.1 + p.2).map ab) ≤ sm (u.map ab) + sm (v.map ab) := by
  intro hl0
  induction u, v, hl0 using two_elim with
  | nil =>
    simp [sm]
  | cons x y a b h ih =>
    have := ab_add x y
    simp only [List.zip_cons_cons, List.map_cons, sm] at ih ⊢
    omega
theorem tri3 {u v : List Int} : u.length = v.length → mx ((u.zip v).map fun p => p.1 + p.2) ≤ mx u + mx v := by
  intro hl0
  induction u, v, hl0 using two_elim with
  | nil =>
    simp [mx]
  | cons x y a b h ih =>
    have := ab_add x y
    simp only [List.zip_cons_cons, List.map_cons, mx] at ih ⊢
    omega
theorem tri2 {u v : List Int} : u.length = v.length → sm (((u.zip v).map fun p => p.1 + p.2).map fun x => x * x) = sm (u.map fun x => x * x) + sm (v.map fun x => x * x) + 2 * pq (u.zip v) ∧ pp (u.zip v) = sm (u.map fun x => x * x) ∧ qq (u.zip v) = sm (v.map fun x => x * x) := by
  intro hl0
  induction u, v, hl0 using two_elim with
  | nil =>
    simp [sm, pq, pp, qq]
  | cons x y a b h ih =>
    obtain ⟨h1, h2, h3⟩ := ih
    simp only [List.zip_cons_cons, List.map_cons, sm, pq, pp, qq] at h1 h2 h3 ⊢
    refine ⟨by grind, by omega, by omega⟩
theorem triangle {m : Int} (h1 : 1 ≤ m) (h3 : m ≤ 3) (h2 : m ≠ 2) {a b c : List Int} (h : a.length = b.length) (h' : b.length = c.length) : key m a c ≤ key m a b + key m b c := by
  have hl : (sub a b).length = (sub b c).length := by rw [sub_length h, sub_length h']; exact h
  rw [key, sub_add h h', key, key]
  rcases (by omega : m = 1 ∨ m = 3) with rfl | rfl
  · rw [norm1, norm1, norm1]; exact tri1 hl
  · rw [norm3, norm3, norm3]; exact tri3 hl
theorem triangle2 {a b c : List Int} (h : a.length = b.length) (h' : b.length = c.length) : (key 2 a c - key 2 a b - key 2 b c) * (key 2 a c - key 2 a b - key 2 b c) ≤ 4 * key 2 a b * key 2 b c := by
  have hl : (sub a b).length = (sub b c).length := by rw [sub_length h, sub_length h']; exact h
  have e : key 2 a c = norm 2 (((sub a b).zip (sub b c)).map fun p => p.1 + p.2) := by rw [key, sub_add h h']
  obtain ⟨e1, e2, e3⟩ := tri2 hl
  have hc := cauchy ((sub a b).zip (sub b c))
  rw [e2, e3] at hc
  rw [e, key, key, norm2, norm2, norm2, e1]
  grind
end Go.Proofs.Ytieipbobijnmlaa.vq
/- Boxes, plainly. No program here. -/
namespace Go.Proofs.Ytieipbobijnmlaa.bq

open Go.Proofs.Ytieipbobijnmlaa
abbrev Pair := List Int × List Int
def at' (l : List Int) (i : Nat) : Int := l.getD i 0
theorem at_of {l : List Int} {i : Nat} {x : Int} (h : l[i]? = some x) : at' l i = x := by simp [at', List.getD, h]
theorem of_at {l : List Int} {i : Nat} (h : i < l.length) : l[i]? = some (at' l i) := by simp [at', List.getD, h]
def le (a b : List Int) : Bool := (List.range a.length).all fun i => decide (at' a i ≤ at' b i)
theorem le_iff {a b : List Int} : le a b = true ↔ ∀ i, i < a.length → at' a i ≤ at' b i := by simp [le]
theorem le_not {a b : List Int} {i : Nat} (h : i < a.length) (hn : at' b i < at' a i) : le a b = false := by
  cases hh : le a b
  · rfl
  · have := le_iff.1 hh i h; omega
def bvalid (p : Pair) : Bool := vq.valid p.1 && vq.valid p.2 && decide (p.1.length = p.2.length) && le p.1 p.2
structure IsBox (p : Pair) : Prop where
  lo : vq.Vec p.1
  hi : vq.Vec p.2
  len : p.1.length = p.2.length
  le : ∀ i, i < p.1.length → at' p.1 i ≤ at' p.2 i
theorem bvalid_iff {p : Pair} : bvalid p = true ↔ IsBox p := by
  simp only [bvalid, Bool.and_eq_true, vq.valid_iff, decide_eq_true_eq, le_iff]
  exact ⟨fun ⟨⟨⟨h1, h2⟩, h3⟩, h4⟩ => ⟨h1, h2, h3, h4⟩, fun h => ⟨⟨⟨h.lo, h.hi⟩, h.len⟩, h.le⟩⟩
def balike (p q : Pair) : Bool := decide (p.1.length = q.1.length) && bvalid p && bvalid q
theorem balike_iff {p q : Pair} : balike p q = true ↔ p.1.length = q.1.length ∧ IsBox p ∧ IsBox q := by
  simp only [balike, Bool.and_eq_true, bvalid_iff, decide_eq_true_eq, and_assoc]
theorem vec_at {l : List Int} (h : vq.Vec l) {i : Nat} (hi : i < l.length) : -1000 ≤ at' l i ∧ at' l i ≤ 1000 := by
  have hm : at' l i ∈ l := List.mem_of_getElem? (of_at hi)
  exact ⟨h.lo _ hm, h.hi _ hm⟩
def mins (a b : List Int) : List Int := (List.range a.length).map fun i => min (at' a i) (at' b i)
def maxs (a b : List Int) : List Int := (List.range a.length).map fun i => max (at' a i) (at' b i)
def join (p q : Pair) : Pair := (mins p.1 q.1, maxs p.2 q.2)
def meet (p q : Pair) : Pair := (maxs p.1 q.1, mins p.2 q.2)
def inside (p q : Pair) : Bool := balike p q && le q.1 p.1 && le p.2 q.2
def has (p : Pair) (v : List Int) : Bool := inside (v, v) p
theorem map_at (n : Nat) (f : Nat → Int) {i : Nat} (h : i < n) : at' ((List.range n).map f) i = f i := by
  simp [at', List.getD, h]
theorem range_length (n : Nat) (f : Nat → Int) : ((List.range n).map f).length = n := by simp
theorem ext_at {a b : List Int} (hl : a.length = b.length) (h : ∀ i, i < a.length → at' a i = at' b i) : a = b := by
  apply List.ext_getElem? 
  intro i
  by_cases hi : i < a.length
  · rw [of_at hi, of_at (by omega), h i hi]
  · rw [List.getElem?_eq_none (by omega), List.getElem?_eq_none (by omega)]
theorem vec_of {l : List Int} (h1 : 1 ≤ l.length) (h2 : l.length ≤ 32) (h : ∀ i, i < l.length → -1000 ≤ at' l i ∧ at' l i ≤ 1000) : vq.Vec l := by
  refine ⟨h1, h2, fun x hx => ?_, fun x hx => ?_⟩ <;>
  · obtain ⟨i, hi, rfl⟩ := List.mem_iff_getElem.1 hx
    have := h i hi
    rw [at_of (List.getElem?_eq_getElem hi)] at this
    omega
/-- keys -/
def step (m : Int) (s d : Int) : Int := if m = 1 then s + d else if m = 2 then s + d * d else max s d
def keyf (m : Int) (ds : List Int) : Int := ds.foldl (step m) 0
theorem keyf_snoc (m : Int) (ds : List Int) (d : Int) : keyf m (ds ++ [d]) = step m (keyf m ds) d := by simp [keyf]
def gap (a b c d : Int) : Int := max (max (a - d) (c - b)) 0
def reach (a b c d : Int) : Int := max (b - c) (d - a)
def difs (f : Int → Int → Int → Int → Int) (p q : Pair) : List Int := (List.range p.1.length).map fun i => f (at' p.1 i) (at' p.2 i) (at' q.1 i) (at' q.2 i)
def dists (a b : List Int) : List Int := (List.range a.length).map fun i => max (at' a i - at' b i) (at' b i - at' a i)
theorem step_bd {m s d c : Int} (hs : 0 ≤ s) (h : s ≤ c) (hd : 0 ≤ d) (hd2 : d ≤ 2000) : 0 ≤ step m s d ∧ step m s d ≤ c + 4000000 := by
  have h1 : d * d ≤ 2000 * 2000 := Int.mul_le_mul hd2 hd2 hd (by omega)
  have h2 : 0 ≤ d * d := Int.mul_nonneg hd hd
  unfold step
  split
  · omega
  · split <;> omega
theorem fold_bd (m : Int) : ∀ (ds : List Int) (s c : Int), 0 ≤ s → s ≤ c → (∀ d ∈ ds, 0 ≤ d ∧ d ≤ 2000) → 0 ≤ ds.foldl (step m) s ∧ ds.foldl (step m) s ≤ c + 4000000 * ds.length
  | [], s, c, h, h', _ => by simp; omega
  | d :: ds, s, c, h, h', hd => by
    have h2 := hd d (by simp)
    have h3 := step_bd (m := m) h h' h2.1 h2.2
    have h4 := fold_bd m ds (step m s d) (c + 4000000) h3.1 h3.2 fun x hx => hd x (by simp [hx])
    simp only [List.foldl_cons, List.length_cons]
    omega
theorem keyf_bd (m : Int) (ds : List Int) (h : ∀ d ∈ ds, 0 ≤ d ∧ d ≤ 2000) : 0 ≤ keyf m ds ∧ keyf m ds ≤ 4000000 * ds.length := by
  have := fold_bd m ds 0 0 (by omega) (by omega) h
  unfold keyf
  omega
theorem step_mono {m s t d e : Int} (hs : s ≤ t) (hd : 0 ≤ d) (he : d ≤ e) : step m s d ≤ step m t e := by
  have h1 : d * d ≤ e * e := Int.mul_le_mul he he hd (by omega)
  unfold step
  split
  · omega
  · split <;> omega
theorem keyf_mono (m : Int) {n : Nat} {f g : Nat → Int} (h : ∀ i, i < n → 0 ≤ f i ∧ f i ≤ g i) : keyf m ((List.range n).map f) ≤ keyf m ((List.range n).map g) := by
  induction n with
  | zero => simp [keyf]
  | succ n ih =>
    rw [List.range_succ, List.map_append, List.map_append, List.map_singleton, List.map_singleton, keyf_snoc, keyf_snoc]
    have h1 := ih fun i hi => h i (by omega)
    have h2 := h n (by omega)
    exact step_mono h1 h2.1 h2.2
end Go.Proofs.Ytieipbobijnmlaa.bq
/- A region that draws its order and passes over operations whose guard says no. -/
namespace Go.Proofs.Ytieipbobijnmlaa.wk

open Go.ChangeShapes Go.WideShapes Go.ChangeAt Go.RowKit

section

variable {P : Program} {ops : Array Oper} {Q : Exit → Act → World → Prop}
/-- the operation's guard says no -/
def skips (ops : Array Oper) (R : List SP) (i : Nat) : Bool :=
  match ops[i]? with
  | none => false
  | some o => match o.guard with
    | none => false
    | some (j, want) => match (R.getD j SP.any).bool? with
      | some b => b != want
      | none => false
def guardedS (ops : Array Oper) (R : List SP) (k : Nat) : Bool :=
  (List.range k).all fun i => match ops[i]? with
    | none => true
    | some o => match o.guard with
      | none => true
      | some (j, _) => (R.getD j SP.any).bool?.isSome && o.dst.isSome && (dstOf ops j).isSome && o.after.any fun e => e.on == j && Region.binds .any e
def skipped (ops : Array Oper) (R : List SP) (k : Nat) : List Nat := (List.range k).filter fun i => skips ops R i
theorem skip_of {R : List SP} {k : Nat} {l : List Nat} (hl : skipped ops R k = l) (h : ∀ p ∈ l, R.getD p SP.any = .is undef) : ∀ i, i < k → skips ops R i = true → R.getD i SP.any = .is undef := fun i hi hs => by
  refine h i ?_
  rw [← hl]
  exact List.mem_filter.2 ⟨List.mem_range.2 hi, hs⟩
theorem vinv_stepS {a0 : Act} {B : World} {k : Nat} (R : List SP) (hap : apart ops a0.tmps.size = true) (hg : guardedS ops R k = true) (hsk : ∀ i, i < k → skips ops R i = true → R.getD i SP.any = .is undef) {L : Nat → Bool} {a : Act} {w : World} {i : Nat} {o : Oper} (hik : i < k) (hI : VInv ops R B a0 L a w) (ho : ops[i]? = some o) (hLi : L i = false) (hdep : ∀ e ∈ o.after, Region.binds .any e = true → L e.on = true)
    (hstep : skips ops R i = false → ∀ E w, Below B.heap.size B w → Due ops R a0 o E w → Does P Q o E w (R.getD i SP.any).has) :
    wpOp P ops Q i (fun a' w' => VInv ops R B a0 (fun j => if j = i then true else L j) a' w') a w := by
  have hio : i < ops.size := (Array.getElem?_eq_some_iff.1 ho).1
  have hdv : ∀ e ∈ o.after, Region.binds .any e = true → ∃ v, (R.getD e.on SP.any).has w v ∧ ∀ d, dstOf ops e.on = some d → a.tmps[d]? = some v := fun e he hb => hI.vals e.on (hdep e he hb)
  have hfin : ∀ v w', Below w.heap.size w w' → (R.getD i SP.any).has w' v → VInv ops R B a0 (fun j => if j = i then true else L j) (a.put o.dst v) w' := fun v w' hb hR => by
    have hB := hI.below.trans (hb.mono hI.below.size)
    have hdo : dstOf ops i = o.dst := by unfold dstOf; rw [ho]; rfl
    refine ⟨hB, ?_, ?_, fun j hj => ?_, fun k hk => ?_⟩
    · cases hd : o.dst <;> exact hI.defers
    · cases hd : o.dst <;> simp only [Act.put, Array.size_setIfInBounds] <;> exact hI.size
    · by_cases hji : j = i
      · subst hji
        refine ⟨v, hR, fun d hd => ?_⟩
        rw [hdo] at hd
        have hlt := apart_lt hap hio (by rw [hdo]; exact hd)
        rw [hd]
        show (a.tmps.setIfInBounds d v)[d]? = some v
        rw [Array.getElem?_setIfInBounds, if_pos rfl, if_pos (by rw [hI.size]; exact hlt)]
      · rw [if_neg hji] at hj
        obtain ⟨u, hu, hud⟩ := hI.vals j hj
        refine ⟨u, SP.has_below hu hb, fun d hd => ?_⟩
        cases hod : o.dst with
        | none => exact hud d hd
        | some d' =>
          have hne : d' ≠ d := fun e => hji (apart_ne hap (dst_lt hd) hio hd (by rw [hdo, hod, e]))
          show (a.tmps.setIfInBounds d' v)[d]? = some u
          rw [Array.getElem?_setIfInBounds, if_neg hne]
          exact hud d hd
    · have hk' : ∀ j, L j = true → dstOf ops j ≠ some k := fun j hj => hk j (by by_cases h : j = i <;> simp [h, hj])
      have hki : o.dst ≠ some k := by rw [← hdo]; exact hk i (by simp)
      cases hod : o.dst with
      | none => exact hI.rest k hk'
      | some d' =>
        have hne : d' ≠ k := fun e => hki (by rw [hod, e])
        show (a.tmps.setIfInBounds d' v)[k]? = _
        rw [Array.getElem?_setIfInBounds, if_neg hne]
        exact hI.rest k hk'
  by_cases hs : skips ops R i = true
  · have hw : Region.wanted o (yielded ops a.tmps) = false := by
      have h1 := List.all_eq_true.1 hg i (List.mem_range.2 hik)
      unfold skips at hs
      simp only [ho] at h1 hs
      unfold Region.wanted
      cases hgd : o.guard with
      | none => rw [hgd] at hs; cases hs
      | some x =>
        obtain ⟨j, want⟩ := x
        simp only [hgd, Bool.and_eq_true] at h1 hs
        obtain ⟨⟨_, hsm⟩, h2⟩ := h1
        obtain ⟨ix, hix, h3⟩ := Array.any_eq_true.1 h2
        have he : o.after[ix] ∈ o.after := Array.getElem_mem hix
        generalize o.after[ix] = e at *
        simp only [Bool.and_eq_true, beq_iff_eq] at h3
        obtain ⟨h3, h4⟩ := h3
        obtain ⟨v, hv, hd⟩ := hdv e he h4
        rw [h3] at hv hd
        have hvb : v = .bool (!want) := by
          cases hr : R.getD j SP.any with
          | is x =>
            rw [hr] at hs hv
            cases x <;> simp only [SP.bool?, Bool.false_eq_true] at hs
            rename_i bb
            have hbb : bb = !want := by cases bb <;> cases want <;> simp_all
            rw [hbb] at hv
            exact hv
          | st p hp => rw [hr] at hs; simp [SP.bool?] at hs
        obtain ⟨d, hdj⟩ := Option.isSome_iff_exists.1 hsm
        have hy : yielded ops a.tmps j = some (!want) := by
          unfold yielded
          have e1 : (ops[j]?).bind (·.dst) = some d := hdj
          rw [e1]
          simp only [Option.bind_some, hd d hdj, hvb]
        simp only [hy]
        cases want <;> rfl
    refine wpOp_step ho fun K' hK => ?_
    rw [if_neg (by rw [hw]; exact Bool.false_ne_true)]
    exact hK _ _ (hfin undef w (Below.refl _ _) (by rw [hsk i hik hs]; rfl))
  have hw : Region.wanted o (yielded ops a.tmps) = true := by
    have h1 := List.all_eq_true.1 hg i (List.mem_range.2 hik)
    unfold skips at hs
    simp only [ho] at h1 hs
    unfold Region.wanted
    cases hgd : o.guard with
    | none => rfl
    | some x =>
      obtain ⟨j, want⟩ := x
      simp only [hgd, Bool.and_eq_true] at h1 hs
      obtain ⟨⟨⟨hbs, _⟩, hsm⟩, h2⟩ := h1
      obtain ⟨ix, hix, h3⟩ := Array.any_eq_true.1 h2
      have he : o.after[ix] ∈ o.after := Array.getElem_mem hix
      generalize o.after[ix] = e at *
      simp only [Bool.and_eq_true, beq_iff_eq] at h3
      obtain ⟨h3, h4⟩ := h3
      obtain ⟨v, hv, hd⟩ := hdv e he h4
      rw [h3] at hv hd
      have hvb : v = .bool want := by
        cases hr : R.getD j SP.any with
        | is x =>
          rw [hr] at hs hv hbs
          cases x <;> simp only [SP.bool?, Option.isSome_none, Bool.false_eq_true] at hbs
          rename_i bb
          simp only [SP.bool?] at hs
          have hbb : bb = want := by cases bb <;> cases want <;> simp_all
          rw [hbb] at hv
          exact hv
        | st p hp => rw [hr] at hbs; simp [SP.bool?] at hbs
      obtain ⟨d, hdj⟩ := Option.isSome_iff_exists.1 hsm
      have hy : yielded ops a.tmps j = some want := by
        unfold yielded
        have e1 : (ops[j]?).bind (·.dst) = some d := hdj
        rw [e1]
        simp only [Option.bind_some, hd d hdj, hvb]
      simp only [hy, beq_self_eq_true]
  refine wpOp_step ho fun K' hK => ?_
  rw [if_pos hw]
  refine hstep (by simpa using hs) a.eval w hI.below ⟨fun _ => rfl, fun _ => rfl, fun k hk => ?_, fun e he hb => ?_⟩ a K' rfl fun v w' hb hR => ?_
  · show a.tmps.getD k undef = a0.tmps.getD k undef
    rw [Array.getD_eq_getD_getElem?, Array.getD_eq_getD_getElem?, hI.rest k fun j hj h => ?_]
    have := List.all_eq_true.1 hk j (List.mem_range.2 (dst_lt h))
    rw [h] at this
    simp at this
  · obtain ⟨v, hv, hd⟩ := hdv e he hb
    exact ⟨v, hv, fun d hdd => getD_of (hd d hdd)⟩
  · exact hK _ _ (hfin v w' hb hR)
theorem region_tailS {id : Nat} {a0 : Act} {w0 : World} (k : Nat) (R : List SP) (ds : List (Option Tmp)) (hm : P.follows .mixedOrders = true) (hord : orderedB .any ops = true) (hap : apart ops a0.tmps.size = true) (hg : guardedS ops R k = true) (sk : List Nat) (hskl : skipped ops R k = sk) (hsk0 : ∀ p ∈ sk, R.getD p SP.any = .is undef) (hds : (List.range k).map (dstOf ops) = ds) (htl : tailed ops k = true)
    (hstep : ∀ i o, ops[i]? = some o → i < k → skips ops R i = false → ∀ E w, Below w0.drew.heap.size w0.drew w → Due ops R a0 o E w → Does P Q o E w (R.getD i SP.any).has)
    (hdone : ∀ (vals : Nat → Value) w, Below w0.drew.heap.size w0.drew w → (∀ i, i < k → (R.getD i SP.any).has w (vals i)) → wpList P ops Q (ops.toList.drop k) { a0 with tmps := setL ds vals 0 a0.tmps } w) : (Code.region id ops true).wp P Q a0 w0 := by
  have hsk := skip_of hskl hsk0
  unfold tailed at htl
  simp only [Bool.and_eq_true, decide_eq_true_eq] at htl
  obtain ⟨⟨hkn, hcov⟩, hch⟩ := htl
  have hchain : ∀ i, k ≤ i → i + 1 < ops.size → waitsFor ops (i + 1) i = true := fun i h1 h2 => by
    have := List.all_eq_true.1 hch i (List.mem_range.2 (by omega))
    simp only [Bool.or_eq_true, decide_eq_true_eq] at this
    rcases this with (h | h) | h
    · omega
    · omega
    · exact h
  have hcover : ∀ j, j < k → k < ops.size → ∃ i, j < i ∧ i ≤ k ∧ waitsFor ops i j = true := fun j h1 h2 => by
    have := List.all_eq_true.1 hcov j (List.mem_range.2 h1)
    simp only [Bool.or_eq_true, beq_iff_eq] at this
    rcases this with h | h
    · omega
    · obtain ⟨i, hi, h⟩ := List.any_eq_true.1 h
      simp only [Bool.and_eq_true, decide_eq_true_eq] at h
      exact ⟨i, h.1, by have := List.mem_range.1 hi; omega, h.2⟩
  have hfin : ∀ L a w, VInv ops R w0.drew a0 L a w → (∀ j, j < k → L j = true) → (∀ j, k ≤ j → L j = false) → wpList P ops Q (ops.toList.drop k) a w := fun L a w hI hall hno => by
    have hv : ∀ i, ∃ v, i < k → (R.getD i SP.any).has w v ∧ ∀ d, dstOf ops i = some d → a.tmps[d]? = some v := fun i => by
      by_cases hi : i < k
      · obtain ⟨v, h⟩ := hI.vals i (hall i hi); exact ⟨v, fun _ => h⟩
      · exact ⟨undef, fun h => absurd h hi⟩
    obtain ⟨vals, hvals⟩ := Classical.axiomOfChoice hv
    have ha : a = { a0 with tmps := setAll ops vals k a0.tmps } := by
      obtain ⟨tm, df⟩ := a
      have h1 : df = a0.defers := hI.defers
      have h2 : tm = setAll ops vals k a0.tmps := by
        refine Array.ext_getElem? fun s => ?_
        have hset := setAll_get vals hap s k a0.tmps hkn rfl
        by_cases hk : ∃ i, i < k ∧ dstOf ops i = some s
        · obtain ⟨i, hik, hi⟩ := hk
          rw [hset.2 i hik hi]
          exact (hvals i hik).2 s hi
        · rw [hset.1 fun i hi h => hk ⟨i, hi, h⟩]
          refine hI.rest s fun i hi h => ?_
          rcases Nat.lt_or_ge i k with hl | hl
          · exact hk ⟨i, hl, h⟩
          · rw [hno i hl] at hi; cases hi
      rw [h1, h2]
    rw [ha, setAll_eq, hds]
    exact hdone vals w hI.below fun i hi => (hvals i hi).1
  refine region_invB (fun a0 B L a w => (VInv ops R B a0 L a w ∧ (∀ i, k ≤ i → L i = false) ∧ Closed ops L) ∨ ∃ m, k ≤ m ∧ m ≤ ops.size ∧ (∀ i, L i = decide (i < m)) ∧ wpList P ops Q (ops.toList.drop m) a w) hm hord
    (Or.inl ⟨⟨Below.refl _ _, rfl, rfl, fun i h => (Bool.noConfusion h), fun k _ => rfl⟩, fun _ _ => rfl, fun i o _ h => (Bool.noConfusion h)⟩) ?_ ?_
  · intro L a w hI i o ho hLi hdep
    have hio : i < ops.size := (Array.getElem?_eq_some_iff.1 ho).1
    rcases hI with ⟨hI, hno, hcl⟩ | ⟨m, hm1, hm2, hL, hwp⟩
    · by_cases hik : i < k
      · refine wpOp_mono (fun a' w' h => Or.inl ?_) (vinv_stepS R hap hg hsk hik hI ho hLi hdep (hstep i o ho hik))
        refine ⟨h, fun j hj => ?_, fun j o' ho' hj e he hb => ?_⟩
        · have hji : j ≠ i := by omega
          simp only [hji, if_false]
          exact hno j hj
        · by_cases hji : j = i
          · subst hji
            rw [ho] at ho'; cases ho'
            by_cases h2 : e.on = j
            · simp [h2]
            · simp only [h2, if_false]; exact hdep e he hb
          · simp only [hji, if_false] at hj
            by_cases h2 : e.on = i
            · simp [h2]
            · simp only [h2, if_false]; exact hcl j o' ho' hj e he hb
      · have hik' : i = k := by
          rcases Nat.lt_or_ge k i with h | h
          · have := waits_done (L := L) (hchain (i - 1) (by omega) (by omega)) (by rw [show i - 1 + 1 = i by omega]; exact ho) hdep
            rw [hno (i - 1) (by omega)] at this; cases this
          · omega
        subst hik'
        have hall : ∀ d j, i - j ≤ d → j < i → L j = true := by
          intro d
          induction d with
          | zero => intro j h1 h2; omega
          | succ d ih =>
            intro j h1 h2
            obtain ⟨q, hq1, hq2, hq3⟩ := hcover j h2 hio
            by_cases hqi : q = i
            · subst hqi; exact waits_done hq3 ho hdep
            · have hq : L q = true := ih q (by omega) (by omega)
              have hqo : ops[q]? = some ops[q] := Array.getElem?_eq_getElem (by omega)
              exact waits_done hq3 hqo (hcl q _ hqo hq)
        refine wpOp_mono (fun a' w' h => Or.inr ⟨i + 1, by omega, by omega, fun j => ?_, h⟩) (wpList_to_op ho (hfin L a w hI (fun j hj => hall _ j (Nat.le_refl _) hj) hno))
        by_cases hji : j = i
        · subst hji; simp
        · simp only [hji, if_false]
          rcases Nat.lt_or_ge j i with h1 | h1
          · rw [hall _ j (Nat.le_refl _) h1]; simp; omega
          · rw [hno j h1]; simp; omega
    · have him : i = m := by
        have h1 : ¬ i < m := fun h => by rw [hL i] at hLi; simp [h] at hLi
        rcases Nat.lt_or_ge m i with h | h
        · have := waits_done (L := L) (hchain (i - 1) (by omega) (by omega)) (by rw [show i - 1 + 1 = i by omega]; exact ho) hdep
          rw [hL (i - 1)] at this
          simp at this; omega
        · omega
      subst him
      refine wpOp_mono (fun a' w' h => Or.inr ⟨i + 1, by omega, by omega, fun j => ?_, h⟩) (wpList_to_op ho hwp)
      by_cases hji : j = i
      · subst hji; simp
      · simp only [hji, if_false]
        rw [hL j]
        rcases Nat.lt_or_ge j i with h1 | h1
        · simp [h1]; omega
        · simp; omega
  · intro L a w hall hI
    rcases hI with ⟨hI, hno, hcl⟩ | ⟨m, hm1, hm2, hL, hwp⟩
    · have hk : k = ops.size := by
        rcases Nat.lt_or_ge k ops.size with h | h
        · have := hall k h; rw [hno k (Nat.le_refl _)] at this; cases this
        · omega
      have := hfin L a w hI (fun j hj => hall j (by omega)) hno
      rw [hk, ← Array.length_toList, List.drop_length] at this
      exact this
    · have hk : m = ops.size := by
        rcases Nat.lt_or_ge m ops.size with h | h
        · have := hall m h; rw [hL m] at this; simp at this
        · omega
      rw [hk, ← Array.length_toList, List.drop_length] at hwp
      exact hwp
end

end Go.Proofs.Ytieipbobijnmlaa.wk
/- A range over a function: a round's regions walked by the plain laws; the law of the statement at the wide fence. No program here. -/
namespace Go.Proofs.Ytieipbobijnmlaa.wk

open Go.RowKit

set_option linter.unusedVariables false

section

variable {P : Program} {ops : Array Oper} {Q : Exit → Act → World → Prop}
def isDefer (o : Oper) : Bool := match o.op with | .defer _ => true | _ => false
def noDefer (ops : Array Oper) : Bool := ops.all fun o => !isDefer o
theorem noDefer_at {i : Nat} {o : Oper} (h : noDefer ops = true) (ho : ops[i]? = some o) : ∀ c, o.op ≠ .defer c := by
  intro c hc
  have h1 := Array.all_eq_true_iff_forall_mem.1 h o (Array.mem_of_getElem? ho)
  simp [isDefer, hc] at h1
theorem rows_in {n : Nat} {row : String} {args : Array Value} {w : World} {R : Value → World → Prop} (l : Nat) (h : Rows P row args w R) : RowsIn (Fence.wide.inRound l) n P row args w R :=
  fun c cs _ => let ⟨v, w', r, s⟩ := h c cs; ⟨v, w', r, stepsIn_wide.2 s⟩
theorem calls_in {n : Nat} {f : FuncId} {args : Array Value} {w : World} {R : Ending → World → Prop} (l : Nat) (h : Calls P f args w R) : CallsIn (Fence.wide.inRound l) n P f args w R := CallsIn.inRound l (callsIn_wide.2 h)
theorem oper_in {o : Oper} {a : Act} {w : World} {K : Act → World → Prop} {n : Nat} (l : Nat) (hd : ∀ c, o.op ≠ .defer c) (h : o.wp P a w K Q) : o.wpIn (Fence.wide.inRound l) n P a w K Q := by
  refine ⟨fun f _ => trivial, ?_⟩
  rw [Oper.semAt_eq _ _ _ hd]
  unfold Oper.wp at h
  generalize (execOp a.eval o).run P w = r at h
  cases r with
  | ok x w' =>
    cases x with
    | value v => exact h
    | skip => exact h
    | defer d => exact h
    | enter f args => exact ⟨(fun hh => by cases hh), calls_in l h⟩
    | row row args => exact ⟨(fun hh => by cases hh), rows_in l h⟩
    | _ => exact h.elim
  | halt hlt w' =>
    cases hlt with
    | panic v => exact h
    | _ => exact h.elim
theorem op_in {i : Nat} {a : Act} {w : World} {K : Act → World → Prop} {n : Nat} (l : Nat) (hd : noDefer ops = true) (hq : ¬ LetsOut Q) (h : wpOp P ops Q i K a w) : wpOpIn (Fence.wide.inRound l) n P ops Q i K a w := by
  unfold wpOp at h
  unfold wpOpIn
  cases ho : ops[i]? with
  | none => rw [ho] at h; exact h
  | some o =>
    simp only [ho] at h ⊢
    by_cases hw : Region.wanted o (yielded ops a.tmps) = true
    · simp only [hw, if_true] at h ⊢
      rcases h with h | ⟨_, h⟩
      · exact oper_in l (noDefer_at hd ho) h
      · exact absurd h hq
    · simp only [hw, if_false, Bool.false_eq_true] at h ⊢
      exact ⟨fun f _ => trivial, h⟩
theorem any_in {md : Region.Mode} {n : Nat} (l : Nat) (hd : noDefer ops = true) (hq : ¬ LetsOut Q) : ∀ (fuel : Nat) (listed : Array Bool) (a : Act) (w : World), wpAny P md ops Q fuel listed a w → wpAnyIn (Fence.wide.inRound l) n P md ops Q fuel listed a w
  | 0, _, _, _, h => h
  | fuel + 1, listed, a, w, h => ⟨h.1, fun i hi => wpOpIn_mono (fun a w => any_in l hd hq fuel _ a w) (op_in l hd hq (h.2 i hi))⟩
theorem list_in {n : Nat} (l : Nat) (hd : noDefer ops = true) (hq : ¬ LetsOut Q) : ∀ (L : List Oper) (k : Nat) (a : Act) (w : World), (∀ j o, L[j]? = some o → ops[k + j]? = some o) → wpList P ops Q L a w → wpListIn (Fence.wide.inRound l) n P ops Q L a w
  | [], _, _, _, _, h => h
  | o :: L, k, a, w, hL, h => by
    have ho : ops[k]? = some o := hL 0 o rfl
    simp only [wpList] at h
    simp only [wpListIn]
    have hL' : ∀ j o, L[j]? = some o → ops[k + 1 + j]? = some o := fun j o hj => by rw [show k + 1 + j = k + (j + 1) by omega]; exact hL (j + 1) o hj
    by_cases hw : Region.wanted o (yielded ops a.tmps) = true
    · simp only [hw, if_true] at h ⊢
      rcases h with h | ⟨_, h⟩
      · exact oper_in l (noDefer_at hd ho) (Oper.wp_mono (fun a w h => list_in l hd hq L (k + 1) a w hL' h) h)
      · exact absurd h hq
    · simp only [hw, if_false, Bool.false_eq_true] at h ⊢
      exact ⟨fun f _ => trivial, list_in l hd hq L (k + 1) _ w hL' h⟩
/-- a region that draws, in a round -/
theorem region_in {id n : Nat} {a : Act} {w : World} (l : Nat) (hm : P.follows .mixedOrders = true) (hd : noDefer ops = true) (hq : ¬ LetsOut Q)
    (h : wpAny P .any ops Q ops.size (Array.replicate ops.size false) a { w with drawn := w.drawn + 1 }) : (Code.region id ops true).wpIn (Fence.wide.inRound l) n P Q a w :=
  wpIn_region_any hm (any_in l hd hq _ _ _ _ h)
theorem region_invB_in {id n : Nat} {a0 : Act} {w0 : World} (l : Nat) (hd : noDefer ops = true) (hq : ¬ LetsOut Q) (I : Act → World → (Nat → Bool) → Act → World → Prop) (hm : P.follows .mixedOrders = true) (hord : orderedB .any ops = true)
    (h0 : I a0 w0.drew (fun _ => false) a0 w0.drew)
    (hstep : ∀ L a w, I a0 w0.drew L a w → ∀ i o, ops[i]? = some o → L i = false → (∀ e ∈ o.after, Region.binds .any e = true → L e.on = true) → wpOp P ops Q i (fun a' w' => I a0 w0.drew (fun j => if j = i then true else L j) a' w') a w)
    (hdone : ∀ L a w, (∀ i, i < ops.size → L i = true) → I a0 w0.drew L a w → Q .normal a w) : (Code.region id ops true).wpIn (Fence.wide.inRound l) n P Q a0 w0 :=
  region_in l hm hd hq (any_invB (I a0 w0.drew) hord hstep hdone _ _ a0 w0.drew (by simp) (Nat.le_trans (List.length_filter_le _ _) (by simp)) (by
    have e : done (Array.replicate ops.size false) = fun _ => false := funext fun j => by
      unfold done
      rw [Array.getD_eq_getD_getElem?, Array.getElem?_replicate]
      split <;> rfl
    rw [e]
    exact h0))
theorem region_tailS_in {id n : Nat} {a0 : Act} {w0 : World} (l : Nat) (hnd : noDefer ops = true) (hq : ¬ LetsOut Q) (k : Nat) (R : List SP) (ds : List (Option Tmp)) (hm : P.follows .mixedOrders = true) (hord : orderedB .any ops = true) (hap : apart ops a0.tmps.size = true) (hg : guardedS ops R k = true) (sk : List Nat) (hskl : skipped ops R k = sk) (hsk0 : ∀ p ∈ sk, R.getD p SP.any = .is undef) (hds : (List.range k).map (dstOf ops) = ds) (htl : tailed ops k = true)
    (hstep : ∀ i o, ops[i]? = some o → i < k → skips ops R i = false → ∀ E w, Below w0.drew.heap.size w0.drew w → Due ops R a0 o E w → Does P Q o E w (R.getD i SP.any).has)
    (hdone : ∀ (vals : Nat → Value) w, Below w0.drew.heap.size w0.drew w → (∀ i, i < k → (R.getD i SP.any).has w (vals i)) → wpList P ops Q (ops.toList.drop k) { a0 with tmps := setL ds vals 0 a0.tmps } w) : (Code.region id ops true).wpIn (Fence.wide.inRound l) n P Q a0 w0 := by
  have hsk := skip_of hskl hsk0
  unfold tailed at htl
  simp only [Bool.and_eq_true, decide_eq_true_eq] at htl
  obtain ⟨⟨hkn, hcov⟩, hch⟩ := htl
  have hchain : ∀ i, k ≤ i → i + 1 < ops.size → waitsFor ops (i + 1) i = true := fun i h1 h2 => by
    have := List.all_eq_true.1 hch i (List.mem_range.2 (by omega))
    simp only [Bool.or_eq_true, decide_eq_true_eq] at this
    rcases this with (h | h) | h
    · omega
    · omega
    · exact h
  have hcover : ∀ j, j < k → k < ops.size → ∃ i, j < i ∧ i ≤ k ∧ waitsFor ops i j = true := fun j h1 h2 => by
    have := List.all_eq_true.1 hcov j (List.mem_range.2 h1)
    simp only [Bool.or_eq_true, beq_iff_eq] at this
    rcases this with h | h
    · omega
    · obtain ⟨i, hi, h⟩ := List.any_eq_true.1 h
      simp only [Bool.and_eq_true, decide_eq_true_eq] at h
      exact ⟨i, h.1, by have := List.mem_range.1 hi; omega, h.2⟩
  have hfin : ∀ L a w, VInv ops R w0.drew a0 L a w → (∀ j, j < k → L j = true) → (∀ j, k ≤ j → L j = false) → wpList P ops Q (ops.toList.drop k) a w := fun L a w hI hall hno => by
    have hv : ∀ i, ∃ v, i < k → (R.getD i SP.any).has w v ∧ ∀ d, dstOf ops i = some d → a.tmps[d]? = some v := fun i => by
      by_cases hi : i < k
      · obtain ⟨v, h⟩ := hI.vals i (hall i hi); exact ⟨v, fun _ => h⟩
      · exact ⟨undef, fun h => absurd h hi⟩
    obtain ⟨vals, hvals⟩ := Classical.axiomOfChoice hv
    have ha : a = { a0 with tmps := setAll ops vals k a0.tmps } := by
      obtain ⟨tm, df⟩ := a
      have h1 : df = a0.defers := hI.defers
      have h2 : tm = setAll ops vals k a0.tmps := by
        refine Array.ext_getElem? fun s => ?_
        have hset := setAll_get vals hap s k a0.tmps hkn rfl
        by_cases hk : ∃ i, i < k ∧ dstOf ops i = some s
        · obtain ⟨i, hik, hi⟩ := hk
          rw [hset.2 i hik hi]
          exact (hvals i hik).2 s hi
        · rw [hset.1 fun i hi h => hk ⟨i, hi, h⟩]
          refine hI.rest s fun i hi h => ?_
          rcases Nat.lt_or_ge i k with hl | hl
          · exact hk ⟨i, hl, h⟩
          · rw [hno i hl] at hi; cases hi
      rw [h1, h2]
    rw [ha, setAll_eq, hds]
    exact hdone vals w hI.below fun i hi => (hvals i hi).1
  refine region_invB_in l hnd hq (fun a0 B L a w => (VInv ops R B a0 L a w ∧ (∀ i, k ≤ i → L i = false) ∧ Closed ops L) ∨ ∃ m, k ≤ m ∧ m ≤ ops.size ∧ (∀ i, L i = decide (i < m)) ∧ wpList P ops Q (ops.toList.drop m) a w) hm hord
    (Or.inl ⟨⟨Below.refl _ _, rfl, rfl, fun i h => (Bool.noConfusion h), fun k _ => rfl⟩, fun _ _ => rfl, fun i o _ h => (Bool.noConfusion h)⟩) ?_ ?_
  · intro L a w hI i o ho hLi hdep
    have hio : i < ops.size := (Array.getElem?_eq_some_iff.1 ho).1
    rcases hI with ⟨hI, hno, hcl⟩ | ⟨m, hm1, hm2, hL, hwp⟩
    · by_cases hik : i < k
      · refine wpOp_mono (fun a' w' h => Or.inl ?_) (vinv_stepS R hap hg hsk hik hI ho hLi hdep (hstep i o ho hik))
        refine ⟨h, fun j hj => ?_, fun j o' ho' hj e he hb => ?_⟩
        · have hji : j ≠ i := by omega
          simp only [hji, if_false]
          exact hno j hj
        · by_cases hji : j = i
          · subst hji
            rw [ho] at ho'; cases ho'
            by_cases h2 : e.on = j
            · simp [h2]
            · simp only [h2, if_false]; exact hdep e he hb
          · simp only [hji, if_false] at hj
            by_cases h2 : e.on = i
            · simp [h2]
            · simp only [h2, if_false]; exact hcl j o' ho' hj e he hb
      · have hik' : i = k := by
          rcases Nat.lt_or_ge k i with h | h
          · have := waits_done (L := L) (hchain (i - 1) (by omega) (by omega)) (by rw [show i - 1 + 1 = i by omega]; exact ho) hdep
            rw [hno (i - 1) (by omega)] at this; cases this
          · omega
        subst hik'
        have hall : ∀ d j, i - j ≤ d → j < i → L j = true := by
          intro d
          induction d with
          | zero => intro j h1 h2; omega
          | succ d ih =>
            intro j h1 h2
            obtain ⟨q, hq1, hq2, hq3⟩ := hcover j h2 hio
            by_cases hqi : q = i
            · subst hqi; exact waits_done hq3 ho hdep
            · have hq : L q = true := ih q (by omega) (by omega)
              have hqo : ops[q]? = some ops[q] := Array.getElem?_eq_getElem (by omega)
              exact waits_done hq3 hqo (hcl q _ hqo hq)
        refine wpOp_mono (fun a' w' h => Or.inr ⟨i + 1, by omega, by omega, fun j => ?_, h⟩) (wpList_to_op ho (hfin L a w hI (fun j hj => hall _ j (Nat.le_refl _) hj) hno))
        by_cases hji : j = i
        · subst hji; simp
        · simp only [hji, if_false]
          rcases Nat.lt_or_ge j i with h1 | h1
          · rw [hall _ j (Nat.le_refl _) h1]; simp; omega
          · rw [hno j h1]; simp; omega
    · have him : i = m := by
        have h1 : ¬ i < m := fun h => by rw [hL i] at hLi; simp [h] at hLi
        rcases Nat.lt_or_ge m i with h | h
        · have := waits_done (L := L) (hchain (i - 1) (by omega) (by omega)) (by rw [show i - 1 + 1 = i by omega]; exact ho) hdep
          rw [hL (i - 1)] at this
          simp at this; omega
        · omega
      subst him
      refine wpOp_mono (fun a' w' h => Or.inr ⟨i + 1, by omega, by omega, fun j => ?_, h⟩) (wpList_to_op ho hwp)
      by_cases hji : j = i
      · subst hji; simp
      · simp only [hji, if_false]
        rw [hL j]
        rcases Nat.lt_or_ge j i with h1 | h1
        · simp [h1]; omega
        · simp; omega
  · intro L a w hall hI
    rcases hI with ⟨hI, hno, hcl⟩ | ⟨m, hm1, hm2, hL, hwp⟩
    · have hk : k = ops.size := by
        rcases Nat.lt_or_ge k ops.size with h | h
        · have := hall k h; rw [hno k (Nat.le_refl _)] at this; cases this
        · omega
      have := hfin L a w hI (fun j hj => hall j (by omega)) hno
      rw [hk, ← Array.length_toList, List.drop_length] at this
      exact this
    · have hk : m = ops.size := by
        rcases Nat.lt_or_ge m ops.size with h | h
        · have := hall m h; rw [hL m] at this; simp at this
        · omega
      rw [hk, ← Array.length_toList, List.drop_length] at hwp
      exact hwp
end
/-- whatever lay below B lies as it lay, but for the blocks M -/
structure Exc (M : List Nat) (B : Nat) (w w' : World) : Prop where
  os : w'.os = w.os
  tape : w'.tape = w.tape
  output : w'.output = w.output
  size : w.heap.size ≤ w'.heap.size
  block : ∀ k, k < B → k ∉ M → w'.heap[k]? = w.heap[k]?
theorem Exc.refl (M : List Nat) (B : Nat) (w : World) : Exc M B w w := ⟨rfl, rfl, rfl, Nat.le_refl _, fun _ _ _ => rfl⟩
theorem Exc.trans {M : List Nat} {B : Nat} {a b c : World} (h : Exc M B a b) (k : Exc M B b c) : Exc M B a c :=
  ⟨k.os.trans h.os, k.tape.trans h.tape, k.output.trans h.output, Nat.le_trans h.size k.size, fun i hi hm => (k.block i hi hm).trans (h.block i hi hm)⟩
theorem Exc.of_below {M : List Nat} {B : Nat} {a b : World} (h : Below B a b) : Exc M B a b := ⟨h.os, h.tape, h.output, h.size, fun i hi _ => h.block i hi⟩
theorem Exc.below {M : List Nat} {B n : Nat} {a b : World} (h : Exc M B a b) (hn : n ≤ B) (hM : ∀ m ∈ M, n ≤ m) : Below n a b :=
  ⟨h.os, h.tape, h.output, h.size, fun i hi => h.block i (by omega) (fun hm => by have := hM i hm; omega)⟩
theorem Exc.put {M : List Nat} {B : Nat} {W : World} {l : Nat} (o : Obj) (h : B ≤ l) : Exc M B W (W.putObj l o) :=
  ⟨rfl, rfl, rfl, by simp, fun k hk _ => World.putObj_heap_other (by omega)⟩
theorem Exc.own {β : Type} {M : List Nat} {B : Nat} {w : World} (hB : B ≤ w.heap.size) : OwnFrom B (fun (_ : β) W => Exc M B w W) := by
  intro s W W' row hs hg hr
  refine hs.trans ⟨hg.os, hg.tape, hg.output, hg.size, fun k hk _ => hg.block k ?_ ?_⟩
  · have := hs.size; omega
  · intro e; have := (hr k e.symm).1; omega
theorem Exc.setCell {M : List Nat} {B : Nat} {W : World} {p : Addr} (v : Value) (h : p.block ∈ M ∨ B ≤ p.block) : Exc M B W (W.setCell p v) := by
  refine ⟨rfl, rfl, rfl, by simp, fun k hk hm => Below.heap_setCell _ _ _ _ fun e => ?_⟩
  subst e
  rcases h with h | h
  · exact hm h
  · omega
/-- a fact on blocks below B that are cells, or lie in M -/
theorem own_block {β : Type} {B m : Nat} {o : β → Option Obj} (hm : m < B) (hB : ∀ W : World, True) : OwnFrom B (fun s W => W.heap[m]? = o s ∧ m < W.heap.size) := by
  intro s W W' row hs hg hr
  have h : W'.heap[m]? = W.heap[m]? := hg.block m hs.2 (fun e => by have := (hr m e.symm).1; omega)
  exact ⟨h.trans hs.1, Nat.lt_of_lt_of_le hs.2 hg.size⟩
end Go.Proofs.Ytieipbobijnmlaa.wk
/- Boxes in memory; the program's small functions. -/
namespace Go.Proofs.Ytieipbobijnmlaa.bk

open Go.ChangeShapes Go.WideShapes Go.ChangeAt Go.RowKit

open Go.Proofs.Ytieipbobijnmlaa.bq Go.Proofs.Ytieipbobijnmlaa.vk

set_option linter.unusedVariables false
/-- a box: two slices of integers -/
def IsX (w : World) (v : Value) (p : Pair) : Prop := ∃ A n c A' n' c', v = .agg #[.slice A n c, .slice A' n' c'] ∧ wo.IsI w A n c p.1 ∧ wo.IsI w A' n' c' p.2
theorem IsX.below {w w' : World} {v : Value} {p : Pair} (h : IsX w v p) (hb : Below w.heap.size w w') : IsX w' v p := by
  obtain ⟨A, n, c, A', n', c', rfl, h1, h2⟩ := h
  exact ⟨A, n, c, A', n', c', rfl, isI_below h1 hb, isI_below h2 hb⟩
def IsV (w : World) (v : Value) (l : List Int) : Prop := ∃ A n c, v = .slice A n c ∧ wo.IsI w A n c l
theorem IsV.below {w w' : World} {v : Value} {l : List Int} (h : IsV w v l) (hb : Below w.heap.size w w') : IsV w' v l := by
  obtain ⟨A, n, c, rfl, h⟩ := h
  exact ⟨A, n, c, rfl, isI_below h hb⟩
/-- a variable of two cells -/
def Two (w : World) (g : Nat) (a b : Value) : Prop := ∃ t, w.heap[g]? = some (.cells #[a, b] t (0, 0))
theorem Two.lt {w : World} {g : Nat} {a b : Value} (h : Two w g a b) : g < w.heap.size := by
  obtain ⟨t, h⟩ := h
  rcases Nat.lt_or_ge g w.heap.size with h' | h'
  · exact h'
  · rw [Array.getElem?_eq_none h'] at h; cases h
theorem Two.at {w w' : World} {g : Nat} {a b : Value} (h : Two w g a b) (e : w'.heap[g]? = w.heap[g]?) : Two w' g a b := by
  obtain ⟨t, h⟩ := h
  exact ⟨t, e.trans h⟩
theorem Two.below {w w' : World} {g : Nat} {a b : Value} (h : Two w g a b) (hb : Below w.heap.size w w') : Two w' g a b := h.at (hb.block g h.lt)
theorem Two.c0 {w : World} {g : Nat} {a b : Value} (h : Two w g a b) : w.cell? ⟨g, 0, none⟩ = some a := by
  obtain ⟨t, h⟩ := h
  rw [cell_of_row _ _ _ _ _ _ h]; rfl
theorem Two.c1 {w : World} {g : Nat} {a b : Value} (h : Two w g a b) : w.cell? ⟨g, 1, none⟩ = some b := by
  obtain ⟨t, h⟩ := h
  rw [cell_of_row _ _ _ _ _ _ h]; rfl
theorem Two.new (w : World) (a b : Value) (t : TypeId) : Two (w.alloc (.cells #[a, b] t)) w.heap.size a b := ⟨t, heap_alloc_new w _⟩
def rng (a b : Int) : Value := .agg #[.int .i64 a, .int .i64 b]
theorem isI_get {w : World} {A : Option Addr} {n c k : Nat} {l : List Int} (h : wo.IsI w A n c l) (hk : k < n) : ∃ b o, A = some ⟨b, o, none⟩ ∧ w.cell? ⟨b, o + k, none⟩ = some (.int .i64 (at' l k)) ∧ b < w.heap.size := by
  obtain ⟨b, o, x, rfl, hc, hx, _⟩ := isI_at h hk
  exact ⟨b, o, rfl, by rw [at_of hx]; exact hc, block_lt_of_cell hc⟩
end Go.Proofs.Ytieipbobijnmlaa.bk
