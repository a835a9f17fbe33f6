/- Joined: Qo Qp Qy Ub Bc Uc Ud. -/
import Derived.Test.YtiodjepjbooniaaG5

import Derived.Laws.AppendOwn

import Derived.Shelf.Abstract

import Derived.Shelf.RegionOpen

import Derived.WalkKit

import Derived.OwnWalkIn

import Derived.TacticsInMore

import Derived.LoopNIn

import Derived.LoopIn

import Derived.Deep.QuietTactic

import Derived.BigQuiet
/- The examples of the chapter. -/
namespace Go.Proofs.Ytiodjepjbooniaa.vk

open Go.ChangeShapes Go.WideShapes Go.ChangeAt Go.RowKit

set_option linter.unusedVariables false
def va : List Int := [1, -2, 3]
def vb : List Int := [4, 2, 3]
theorem va_vec : vq.Vec va := vq.valid_iff.1 (by decide)
theorem vb_vec : vq.Vec vb := vq.valid_iff.1 (by decide)
def bdd (l : List Int) : Bool := l.all fun x => decide (-9223372036854775808 ≤ x) && decide (x ≤ 9223372036854775807)
theorem bd_of {l : List Int} (h : bdd l = true) : ∀ x ∈ l, -9223372036854775808 ≤ x ∧ x ≤ 9223372036854775807 := by
  intro x hx
  have := List.all_eq_true.1 h x hx
  simpa using this
theorem new_lit (w : World) (l : List Int) (n : Nat) (hn : l.length = n) (h40 : n ≤ 1099511627776) (hb : bdd l = true) (t : TypeId) : wo.IsI (w.alloc (.cells (iv l).toArray t)) (some ⟨w.heap.size, 0, none⟩) n n l :=
  isI_new rfl l rfl n hn h40 (bd_of hb) t
/-- the two vectors, at hand -/
structure SA (w0 : World) (B : Nat) (w : World) : Prop where
  a : wo.IsI w (some ⟨B, 0, none⟩) 3 3 va
  b : wo.IsI w (some ⟨B + 1, 0, none⟩) 3 3 vb
  bel : Below B w0 w
  sz : w0.heap.size = B
theorem SA.next {w0 w w' : World} {B : Nat} (h : SA w0 B w) (hb : Below w.heap.size w w') : SA w0 B w' :=
  ⟨isI_below h.a hb, isI_below h.b hb, h.bel.trans (hb.mono (by have := h.bel.size; have := h.sz; omega)), h.sz⟩
theorem SA.drewN {w0 w : World} {B : Nat} (h : SA w0 B w) (q : Nat) : SA w0 B (w.drewN q) := ⟨h.a, h.b, below_drewN h.bel q, h.sz⟩
theorem SA.start (w : World) (t : TypeId) : SA w w.heap.size ((w.alloc (.cells #[.int .i64 1, .int .i64 (-2), .int .i64 3] t)).alloc (.cells #[.int .i64 4, .int .i64 2, .int .i64 3] t)) := by
  refine ⟨isI_below (new_lit w va 3 rfl (by omega) (by decide) t) (below_new _ _), ?_, Below.andThen (below_new _ _) (below_new _ _), rfl⟩
  have := new_lit (w.alloc (.cells #[.int .i64 1, .int .i64 (-2), .int .i64 3] t)) vb 3 rfl (by omega) (by decide) t
  rw [size_new] at this
  exact this
theorem isVV_new {w : World} {A1 A2 : Option Addr} {n1 n2 c1 c2 : Nat} {l1 l2 : List Int} (h1 : wo.IsI w A1 n1 c1 l1) (h2 : wo.IsI w A2 n2 c2 l2) (t : TypeId) : IsVV (w.alloc (.cells #[.slice A1 n1 c1, .slice A2 n2 c2] t)) (some ⟨w.heap.size, 0, none⟩) 2 2 [l1, l2] := by
  refine ⟨rfl, Nat.le_refl _, by omega, fun k l hk => ?_⟩
  have hc := wk.cells_new w [.slice A1 n1 c1, .slice A2 n2 c2] t
  match k, hk with
  | 0, hk =>
    simp at hk; subst hk
    have h := hc 0 _ rfl
    rw [wk.add_at] at h
    exact ⟨_, _, A1, n1, c1, rfl, by rw [size_new]; omega, h, isI_below h1 (below_new _ _)⟩
  | 1, hk =>
    simp at hk; subst hk
    have h := hc 1 _ rfl
    rw [wk.add_at] at h
    exact ⟨_, _, A2, n2, c2, rfl, by rw [size_new]; omega, h, isI_below h2 (below_new _ _)⟩
  | k + 2, hk => simp at hk
theorem enc_va : wp.encIs va = [6, 2, 3, 6] := by simp [va, wp.encIs, wp.encI, Lib.zigzag, Lib.uvarint_small]
theorem enc_nil : wp.encIs [] = [0] := by simp [wp.encIs, wp.encI, Lib.zigzag, Lib.uvarint_small]
end Go.Proofs.Ytiodjepjbooniaa.vk
/- VectorsAreOrdered: its walk. -/
namespace Go.Proofs.Ytiodjepjbooniaa.vk
theorem int_wf {a : Int} (h : (Lit.int .i64 a).wf = true) : -9223372036854775808 ≤ a ∧ a ≤ 9223372036854775807 := by simpa [Lit.wf, IntKind.min, IntKind.max, IntKind.signed, IntKind.bits] using h
theorem take_beq {a b : List Int} {k : Nat} {x y : Int} (hx : a[k]? = some x) (hy : b[k]? = some y) : (a.take (k + 1) == b.take (k + 1)) = (a.take k == b.take k && x == y) := by
  rw [vq.take_snoc hx, vq.take_snoc hy, Bool.eq_iff_iff]
  simp only [beq_iff_eq, Bool.and_eq_true]
  constructor
  · intro h
    have := List.append_inj' h rfl
    exact ⟨this.1, by simpa using this.2⟩
  · rintro ⟨h, rfl⟩; rw [h]
end Go.Proofs.Ytiodjepjbooniaa.vk

namespace Go.Proofs.Ytiodjepjbooniaa.vectorsAreOrdered

open Go.ChangeShapes Go.WideShapes Go.ChangeAt Go.RowKit

open Go.Proofs.Ytiodjepjbooniaa.vk

set_option linter.unusedVariables false
end Go.Proofs.Ytiodjepjbooniaa.vectorsAreOrdered
/- Lists of lists: how they come in; the reference's All, Mean. -/
namespace Go.Proofs.Ytiodjepjbooniaa.vq
def allv (L : List (List Int)) (most : Int) : Bool := L.all (alike (L.headD [])) && (decide (1 ≤ L.length) && decide ((L.length : Int) ≤ most))
theorem allv_iff {L : List (List Int)} : allv L 20 = true ↔ (∀ l ∈ L, alike (L.headD []) l = true) ∧ 1 ≤ L.length ∧ L.length ≤ 20 := by
  simp only [allv, Bool.and_eq_true, List.all_eq_true, decide_eq_true_eq]
  constructor
  · rintro ⟨h1, h2, h3⟩; exact ⟨h1, h2, by omega⟩
  · rintro ⟨h1, h2, h3⟩; exact ⟨h1, h2, by omega⟩
/-- what the vectors of such a list are -/
theorem allv_vec {L : List (List Int)} (h : allv L 20 = true) : ∃ d, (∀ l ∈ L, l.length = d) ∧ (∀ l ∈ L, Vec l) ∧ 1 ≤ L.length ∧ L.length ≤ 20 := by
  obtain ⟨h1, h2, h3⟩ := allv_iff.1 h
  refine ⟨(L.headD []).length, fun l hl => ?_, fun l hl => ?_, h2, h3⟩
  · exact (alike_iff.1 (h1 l hl)).1.symm
  · exact (alike_iff.1 (h1 l hl)).2.2
def col (L : List (List Int)) (i : Nat) : Int := sm (L.map fun l => l.getD i 0)
theorem sm_append (a b : List Int) : sm (a ++ b) = sm a + sm b := by
  induction a with
  | nil => simp [sm]
  | cons x a ih => simp only [List.cons_append, sm, ih]; omega
theorem col_snoc {L : List (List Int)} {k : Nat} {l : List Int} (h : L[k]? = some l) (i : Nat) : col (L.take (k + 1)) i = col (L.take k) i + l.getD i 0 := by
  rw [take_snoc h, col, List.map_append, sm_append]; simp [col, sm]
theorem sums_at {d i : Nat} (hi : i < d) : ∀ (T : List (List Int)) (m : List Int), m.length = d → (∀ l ∈ T, l.length = d) → (sums m T)[i]? = some (m.getD i 0 + col T i)
  | [], m, hm, _ => by simp [sums, col, sm, List.getD, List.getElem?_eq_getElem (show i < m.length by omega)]
  | l :: T, m, hm, hT => by
    have hl := hT l (by simp)
    have ih := sums_at hi T (vadd m l) (by rw [vadd_length (by omega)]; exact hm) (fun x hx => hT x (by simp [hx]))
    have e : sums m (l :: T) = sums (vadd m l) T := rfl
    rw [e, ih]
    have h1 : m[i]? = some (m.getD i 0) := by simp [List.getD, List.getElem?_eq_getElem (show i < m.length by omega)]
    have h2 : l[i]? = some (l.getD i 0) := by simp [List.getD, List.getElem?_eq_getElem (show i < l.length by omega)]
    have h3 := vadd_at h1 h2
    have h4 : (vadd m l).getD i 0 = m.getD i 0 + l.getD i 0 := by simp only [List.getD, h3, Option.getD_some]
    rw [h4]
    simp only [col, List.map_cons, sm]
    congr 1
    omega
theorem mean_at {L : List (List Int)} {d i : Nat} (hi : i < d) (h1 : 1 ≤ L.length) (hd : ∀ l ∈ L, l.length = d) : (mean L)[i]? = some (col L i / (L.length : Int)) := by
  obtain ⟨m, T, rfl⟩ : ∃ m T, L = m :: T := by
    cases L with
    | nil => simp at h1
    | cons m T => exact ⟨m, T, rfl⟩
  have h := sums_at hi T m (hd m (by simp)) (fun x hx => hd x (by simp [hx]))
  have e : mean (m :: T) = (sums m T).map (· / ((m :: T).length : Int)) := rfl
  rw [e, List.getElem?_map, h]
  simp [col, sm]
theorem mean_length {L : List (List Int)} {d : Nat} (h1 : 1 ≤ L.length) (hd : ∀ l ∈ L, l.length = d) : (mean L).length = d := by
  obtain ⟨m, T, rfl⟩ : ∃ m T, L = m :: T := by
    cases L with
    | nil => simp at h1
    | cons m T => exact ⟨m, T, rfl⟩
  have e : mean (m :: T) = (sums m T).map (· / ((m :: T).length : Int)) := rfl
  rw [e, List.length_map, sums_length T m (hd m (by simp)) (fun x hx => hd x (by simp [hx]))]
theorem col_bd {L : List (List Int)} {i : Nat} (h : ∀ l ∈ L, ∀ x ∈ l, -1000 ≤ x ∧ x ≤ 1000) : -(1000 * (L.length : Int)) ≤ col L i ∧ col L i ≤ 1000 * L.length := by
  induction L with
  | nil => simp [col, sm]
  | cons l L ih =>
    have h1 := ih fun x hx => h x (by simp [hx])
    have h2 : -1000 ≤ l.getD i 0 ∧ l.getD i 0 ≤ 1000 := by
      rcases Nat.lt_or_ge i l.length with hl | hl
      · have := h l (by simp) l[i] (List.getElem_mem hl)
        simpa [List.getD, List.getElem?_eq_getElem hl] using this
      · simp [List.getD, List.getElem?_eq_none hl]
    simp only [col, List.map_cons, sm, List.length_cons] at h1 ⊢
    omega
end Go.Proofs.Ytiodjepjbooniaa.vq

namespace Go.Proofs.Ytiodjepjbooniaa.vk

open Go.ChangeShapes Go.WideShapes Go.ChangeAt Go.RowKit

set_option linter.unusedVariables false

section

variable {H : Type} {enc : TypeId × Value → H} {P : Program} {w : World} {base : Nat} {spare : Nat → Bool} {held : Bool} {t e e0 : TypeId} {a : Option Addr} {n c fuel : Nat} {x : DataW H × List MemPlace}
theorem openVV (ht : P.underlying t = some (.slice e)) (he : P.underlying e = some (.slice e0)) (he0 : P.underlying e0 = some (.int .i64)) (hc : P.cellsOf e = 1) (hc0 : P.cellsOf e0 = 1)
    (h : DataW.trod enc P w base spare held fuel t [.slice a n c] = some x) : ∃ L, IsVV w a n c L := by
  rcases DataW.trod_slice ht h with ⟨hcs, _⟩ | ⟨ad, len, cap, elems, rest, m, _, hcs, _, hb, hl, hm, hlen, hel, _⟩
  · simp only [List.cons.injEq, Value.slice.injEq, and_true] at hcs
    obtain ⟨rfl, rfl, rfl⟩ := hcs
    exact ⟨[], rfl, Nat.le_refl _, by omega, fun k l hk => by simp at hk⟩
  · simp only [List.cons.injEq, Value.slice.injEq, and_true] at hcs
    obtain ⟨rfl, rfl, rfl⟩ := hcs
    rw [hc] at hel
    have hone : ∀ i, i < n → ∃ l : List Int, ∃ A' n' c', w.cell? (ad.add i) = some (.slice A' n' c') ∧ wo.IsI w A' n' c' l := fun i hi => by
      have hi' := hel i hi
      rw [List.getElem?_eq_getElem (by omega), Nat.mul_one] at hi'
      cases hcc : w.cells? base (ad.add i) 1 with
      | none => rw [hcc] at hi'; simp at hi'
      | some cs =>
        rw [hcc] at hi'
        simp only [Option.bind_some] at hi'
        obtain ⟨hlen1, _, hcell⟩ := World.cells?_some hcc
        have h0 := hcell 0 (by omega)
        have hadd : (ad.add i).add 0 = ad.add i := by unfold Addr.add; simp
        rw [hadd] at h0
        rcases DataW.trod_slice he hi' with ⟨hcs, _⟩ | ⟨ad', len', cap', _, _, _, _, hcs, _⟩
        · subst hcs
          obtain ⟨l, hI⟩ := wo.openI he he0 hc0 hi'
          exact ⟨l, _, _, _, by simpa using h0, hI⟩
        · subst hcs
          obtain ⟨l, hI⟩ := wo.openI he he0 hc0 hi'
          exact ⟨l, _, _, _, by simpa using h0, hI⟩
    obtain ⟨L, hLl, hLq⟩ := wo.exists_list n hone
    refine ⟨L, hLl, hl, by unfold maxLen at hm; omega, fun k l hk => ?_⟩
    have hkn : k < n := by
      rcases Nat.lt_or_ge k n with h' | h'
      · exact h'
      · rw [List.getElem?_eq_none (by omega)] at hk; cases hk
    obtain ⟨A', n', c', hcell, hI⟩ := hLq k l hk
    obtain ⟨A0, m0, k0, hc00, _⟩ := (hone 0 (by omega)).choose_spec
    obtain ⟨b, o, rfl⟩ := wo.at_plain hc00
    have hlt := block_lt_of_cell hcell
    rw [wk.add_at] at hcell hlt
    exact ⟨b, o, A', n', c', rfl, hlt, hcell, hI⟩
end
theorem isVV_get {w : World} {A : Option Addr} {n c k : Nat} {L : List (List Int)} (h : IsVV w A n c L) (hk : k < n) : ∃ b o A' n' c' l, A = some ⟨b, o, none⟩ ∧ b < w.heap.size ∧ w.cell? ⟨b, o + k, none⟩ = some (.slice A' n' c') ∧ wo.IsI w A' n' c' l ∧ L[k]? = some l := by
  have hl : k < L.length := by have := h.1; omega
  obtain ⟨b, o, A', n', c', h1, h2, h3, h4⟩ := h.2.2.2 k L[k] (List.getElem?_eq_getElem hl)
  exact ⟨b, o, A', n', c', L[k], h1, h2, h3, h4, List.getElem?_eq_getElem hl⟩
theorem dropL_at {α : Type} {l : List α} {k : Nat} {x : α} (h : l[k]? = some x) : l.drop k = x :: l.drop (k + 1) := by
  obtain ⟨hk, rfl⟩ := List.getElem?_eq_some_iff.1 h
  exact List.drop_eq_getElem_cons hk
set_option maxRecDepth 100000 in
set_option maxHeartbeats 1000000 in
theorem rall_calls (A : Option Addr) (n c : Nat) (L : List (List Int)) (w : World) (h : IsVV w A n c L) :
    Calls Try.prog 29 #[.slice A n c, .int .i64 20] w fun e w' => e = .returned (.bool (vq.allv L 20)) ∧ ∃ q, w' = w.drewN q := by
  have hE : vq.allv L 20 = (L.all (vq.alike (L.headD [])) && (decide (1 ≤ n) && decide ((n : Int) ≤ 20))) := by simp only [vq.allv, h.1]
  rw [hE]
  have H := Lib.hid h
  have hm := h.2.2.1
  have hnc := h.2.1
  clear h hE
  go_enter Try.func29, Try.ntmps29
  go_wp2_with fail
  go_loopg [5] n (fun g x wr => ∃ k q : Nat, k + g = n ∧ x = .int .i64 (k : Int) ∧ wr = w.drewN q ∧ (L.drop k).all (vq.alike (L.headD [])) = L.all (vq.alike (L.headD [])))
  case atStart => exact ⟨0, 0, by omega, rfl, rfl, rfl⟩
  case round =>
    obtain ⟨k, q, hk, rfl, rfl, hr⟩ := hrel
    have HK := Lib.hid hk
    have HR := Lib.hid hr
    have hkn : k ≤ n := by omega
    clear hk hr
    by_cases hlt : k < n
    · obtain ⟨b, o, A1, n1, c1, l1, rfl, hb1, hc1, hI1, hL1⟩ := isVV_get H.out hlt
      obtain ⟨b0, o0, A0, n0, c0, l0, e0, hb0, hc0, hI0, hL0⟩ := isVV_get H.out (k := 0) (by omega)
      cases e0
      rw [Nat.add_zero] at hc0
      have hh : L.headD [] = l0 := by cases L <;> simp_all
      have hr := HR.out
      rw [dropL_at hL1, List.all_cons, hh] at hr
      have HR2 := Lib.hid hr
      have HH := Lib.hid hh
      have hn0 : (0 : Int) < (n : Int) := by omega
      have hn1' : (k : Int) < (n : Int) := by omega
      have hn2' : 0 < n := by omega
      have HAL := Lib.hid (fun q' => ralike_calls A0 A1 n0 n1 c0 c1 l0 l1 (w.drewN (q + q')) (isI_drewN hI0 _) (isI_drewN hI1 _))
      clear hr hI1 hI0 hL1 hL0 hh
      cases hal : vq.alike l0 l1
      · rw [hal] at HAL HR2
        go_wp2_with fail
        go_quiet (exact (HAL.out _).mono fun e w'' hh => ⟨hh.1, _, hh.2⟩)
        go_wp2_with fail
        go_ret
        have := HR2.out
        rw [Bool.false_and] at this
        exact ⟨by rw [HH.out, ← this]; simp, _, by first | rfl | exact drewN_add _ _ _⟩
      · rw [hal] at HAL HR2
        go_wp2_with fail
        go_quiet (exact (HAL.out _).mono fun e w'' hh => ⟨hh.1, _, hh.2⟩)
        go_wp2_with fail
        go_roundg (gk - 1)
        case measure => have := HK.out; omega
        case rel =>
          refine ⟨k + 1, _, by have := HK.out; omega, by go_num, rfl, ?_⟩
          have := HR2.out
          rw [Bool.true_and] at this
          rw [HH.out]
          exact this
    · have hall : L.all (vq.alike (L.headD [])) = true := by
        have := HR.out
        rw [List.drop_of_length_le (by have := H.out.1; omega)] at this
        exact this.symm
      have HALL := Lib.hid hall
      clear hall
      by_cases h1 : 1 ≤ n
      · go_wp2_with fail
        go_ret
        exact ⟨by rw [HALL.out]; simp [h1], q, rfl⟩
      · go_wp2_with fail
        go_ret
        exact ⟨by first | rfl | simp [h1], q, rfl⟩
end Go.Proofs.Ytiodjepjbooniaa.vk
/- Codebooks in memory; what stays where a row grows. -/
namespace Go.Proofs.Ytiodjepjbooniaa.uk

open Go.ChangeShapes Go.WideShapes Go.ChangeAt Go.RowKit

open Go.Proofs.Ytiodjepjbooniaa.cq Go.Proofs.Ytiodjepjbooniaa.vk Go.Proofs.Ytiodjepjbooniaa.bk

set_option linter.unusedVariables false
/-- a slice of slices of slices of integers -/
def IsW (w : World) (A : Option Addr) (n c : Nat) (L : List VV) : Prop :=
  L.length = n ∧ n ≤ c ∧ c ≤ 9223372036854775807 ∧ ∀ k l, L[k]? = some l → ∃ b o A' n' c', A = some ⟨b, o, none⟩ ∧ b < w.heap.size ∧ w.cell? ⟨b, o + k, none⟩ = some (.slice A' n' c') ∧ IsVV w A' n' c' l
theorem isW_below {w w' : World} {A : Option Addr} {n c : Nat} {L : List VV} (h : IsW w A n c L) (hb : Below w.heap.size w w') : IsW w' A n c L :=
  ⟨h.1, h.2.1, h.2.2.1, fun k l hk => by
    obtain ⟨b, o, A', n', c', hA, hlt, hc, hI⟩ := h.2.2.2 k l hk
    exact ⟨b, o, A', n', c', hA, Nat.lt_of_lt_of_le hlt hb.size, (hb.cell (p := ⟨b, o + k, none⟩) hlt).trans hc, isVV_below hI hb⟩⟩
theorem isW_drewN {w : World} {A : Option Addr} {n c : Nat} {L : List VV} (h : IsW w A n c L) (q : Nat) : IsW (w.drewN q) A n c L := h
theorem isW_get {w : World} {A : Option Addr} {n c k : Nat} {L : List VV} (h : IsW w A n c L) (hk : k < n) : ∃ b o A' n' c' l, A = some ⟨b, o, none⟩ ∧ b < w.heap.size ∧ w.cell? ⟨b, o + k, none⟩ = some (.slice A' n' c') ∧ IsVV w A' n' c' l ∧ L[k]? = some l := by
  have hl : k < L.length := by have := h.1; omega
  obtain ⟨b, o, A', n', c', h1, h2, h3, h4⟩ := h.2.2.2 k L[k] (List.getElem?_eq_getElem hl)
  exact ⟨b, o, A', n', c', L[k], h1, h2, h3, h4, List.getElem?_eq_getElem hl⟩
def I64 (x : Int) : Prop := -9223372036854775808 ≤ x ∧ x ≤ 9223372036854775807
/-- a codebook as a value -/
def IsBk (w : World) (v : Value) (b : Bk) : Prop := ∃ A n c A' n' c', v = .agg #[.int .i64 b.d, .slice A n c, .slice A' n' c'] ∧ wo.IsI w A n c b.cuts ∧ IsW w A' n' c' b.W ∧ I64 b.d
theorem IsBk.below {w w' : World} {v : Value} {b : Bk} (h : IsBk w v b) (hb : Below w.heap.size w w') : IsBk w' v b := by
  obtain ⟨A, n, c, A', n', c', rfl, h1, h2, h3⟩ := h
  exact ⟨A, n, c, A', n', c', rfl, isI_below h1 hb, isW_below h2 hb, h3⟩
theorem IsBk.drewN {w : World} {v : Value} {b : Bk} (h : IsBk w v b) (q : Nat) : IsBk (w.drewN q) v b := h
/-- a codebook in a variable -/
def Three (w : World) (g : Nat) (a b c : Value) : Prop := w.heap[g]? = some (.cells #[a, b, c] 25 (0, 0))
theorem Three.lt {w : World} {g : Nat} {a b c : Value} (h : Three w g a b c) : g < w.heap.size := (Array.getElem?_eq_some_iff.1 h).1
theorem Three.at {w w' : World} {g : Nat} {a b c : Value} (h : Three w g a b c) (e : w'.heap[g]? = w.heap[g]?) : Three w' g a b c := e.trans h
theorem Three.below {w w' : World} {g : Nat} {a b c : Value} (h : Three w g a b c) (hb : Below w.heap.size w w') : Three w' g a b c := h.at (hb.block g h.lt)
theorem Three.belowB {w w' : World} {g B : Nat} {a b c : Value} (h : Three w g a b c) (hb : Below B w w') (hg : g < B) : Three w' g a b c := h.at (hb.block g hg)
theorem Three.c0 {w : World} {g : Nat} {a b c : Value} (h : Three w g a b c) : w.cell? ⟨g, 0, none⟩ = some a := by rw [cell_of_row _ _ _ _ _ _ h]; rfl
theorem Three.c1 {w : World} {g : Nat} {a b c : Value} (h : Three w g a b c) : w.cell? ⟨g, 1, none⟩ = some b := by rw [cell_of_row _ _ _ _ _ _ h]; rfl
theorem Three.c2 {w : World} {g : Nat} {a b c : Value} (h : Three w g a b c) : w.cell? ⟨g, 2, none⟩ = some c := by rw [cell_of_row _ _ _ _ _ _ h]; rfl
theorem Three.f {w : World} {g : Nat} {a b c : Value} (h : Three w g a b c) (j : Nat) : w.frozen? ⟨g, j, none⟩ = false := frozen_of_row _ _ _ _ _ h
theorem Three.new (w : World) (a b c : Value) : Three (w.alloc (.cells #[a, b, c] 25)) w.heap.size a b c := heap_alloc_new w _
theorem Three.set2 {w : World} {g : Nat} {a b c : Value} (h : Three w g a b c) (u : Value) : Three (w.setCell ⟨g, 2, none⟩ u) g a b u := heap_setCell_same w g 2 #[a, b, c] 25 u h
/-- cells of blocks from B on may change where their type is in es; all else that are cells stand -/
structure Kp (B : Nat) (es : List TypeId) (w w' : World) : Prop where
  below : Below B w w'
  high : ∀ (k : Nat) (cs : Array Value) (t : TypeId) (fr : Nat × Nat), w.heap[k]? = some (.cells cs t fr) → t ∉ es → w'.heap[k]? = some (.cells cs t fr)
theorem Kp.refl (B : Nat) (es : List TypeId) (w : World) : Kp B es w w := ⟨Below.refl _ _, fun _ _ _ _ h _ => h⟩
theorem Kp.trans {B : Nat} {es : List TypeId} {a b c : World} (h : Kp B es a b) (k : Kp B es b c) : Kp B es a c := ⟨h.below.trans k.below, fun i cs t fr hi ht => k.high i cs t fr (h.high i cs t fr hi ht) ht⟩
theorem Kp.mono {B B' : Nat} {es : List TypeId} {a b : World} (h : Kp B es a b) (hB : B' ≤ B) : Kp B' es a b := ⟨h.below.mono hB, h.high⟩
theorem Kp.more {B : Nat} {es es' : List TypeId} {a b : World} (h : Kp B es a b) (hs : ∀ e ∈ es, e ∈ es') : Kp B es' a b := ⟨h.below, fun k cs t fr hk ht => h.high k cs t fr hk (fun hh => ht (hs t hh))⟩
theorem Kp.of_below {B : Nat} {es : List TypeId} {w w' : World} (h : Below w.heap.size w w') (hB : B ≤ w.heap.size) : Kp B es w w' :=
  ⟨h.mono hB, fun k cs t fr hk _ => (h.block k (Array.getElem?_eq_some_iff.1 hk).1).trans hk⟩
theorem Kp.of_grown {B B' n size : Nat} {es : List TypeId} {w w' : World} {e : TypeId} {v : Value} {xs : List Value} (ho : w.ownsRow B' e size v n xs) (he : e ∈ es) (hB : B ≤ B') (hB2 : B ≤ w.heap.size) (hg : w.grownBy w' v.ownBlock) : Kp B es w w' := by
  refine ⟨(Below.refl B w).grown hg hB2 (fun k hk => Nat.le_trans hB (ho.lt k hk).1), fun k cs t fr hk ht => (hg.block k (Array.getElem?_eq_some_iff.1 hk).1 ?_).trans hk⟩
  intro hh
  rcases ho.2 with ⟨rfl, _⟩ | ⟨g1, cap1, cur1, rfl, _, hh1, _⟩
  · simp [Value.ownBlock] at hh
  · have : k = g1 := by injection hh
    subst this
    rw [hk] at hh1
    injection hh1 with hh1
    injection hh1 with _ h3 _
    exact ht (h3 ▸ he)
theorem Kp.of_set {B : Nat} {es : List TypeId} {w : World} {g i : Nat} {cs : Array Value} {t : TypeId} {fr : Nat × Nat} (v : Value) (h : w.heap[g]? = some (.cells cs t fr)) (ht : t ∈ es) (hg : B ≤ g) : Kp B es w (w.setCell ⟨g, i, none⟩ v) := by
  refine ⟨(Below.refl B w).setCell (p := ⟨g, i, none⟩) hg v, fun k cs' t' fr' hk ht' => ?_⟩
  have hne : k ≠ g := by
    rintro rfl
    rw [h] at hk
    injection hk with hk
    injection hk with _ h2 _
    exact ht' (h2 ▸ ht)
  exact (Below.heap_setCell _ _ _ _ hne).trans hk
theorem Kp.of_own {B : Nat} {es : List TypeId} {w w' : World} {row : Option Nat} (hg : w.grownBy w' row) (hr : ∀ r, row = some r → B ≤ r ∧ ∃ o : Obj, w.heap[r]? = some o ∧ o.isCells = false) (hB : B ≤ w.heap.size) : Kp B es w w' := by
  refine ⟨(Below.refl B w).grown hg hB (fun k hk => (hr k hk).1), fun k cs t fr hk ht => (hg.block k (Array.getElem?_eq_some_iff.1 hk).1 ?_).trans hk⟩
  intro hh
  obtain ⟨_, o, ho, hc⟩ := hr k hh.symm
  rw [hk] at ho
  cases ho
  cases hc
/-- a fact that stands whatever may change -/
def St (B : Nat) (es : List TypeId) (p : World → Prop) (w : World) : Prop := ∀ w', Kp B es w w' → p w'
theorem St.now {B : Nat} {es : List TypeId} {p : World → Prop} {w : World} (h : St B es p w) : p w := h w (Kp.refl _ _ _)
theorem St.keep {B : Nat} {es : List TypeId} {p : World → Prop} {w w' : World} (h : St B es p w) (k : Kp B es w w') : St B es p w' := fun w2 h2 => h w2 (k.trans h2)
theorem St.below {B : Nat} {es : List TypeId} {p : World → Prop} {w w' : World} (h : St B es p w) (k : Below w.heap.size w w') (hB : B ≤ w.heap.size) : St B es p w' := h.keep (Kp.of_below k hB)
theorem St.up {B B' : Nat} {es es' : List TypeId} {p : World → Prop} {w : World} (h : St B es p w) (hB : B ≤ B') (hs : ∀ e ∈ es', e ∈ es) : St B' es' p w := fun w' k => h w' ((k.mono hB).more hs)
theorem St.imp {B : Nat} {es : List TypeId} {p q : World → Prop} {w : World} (h : St B es p w) (hpq : ∀ w', p w' → q w') : St B es q w := fun w' k => hpq w' (h w' k)
theorem St.given {B : Nat} {es : List TypeId} {p : World → Prop} {w0 w : World} (h : p w0) (hp : ∀ w', Below B w0 w' → p w') (hb : Below B w0 w) : St B es p w := fun w' k => hp w' (hb.trans k.below)
theorem own_st {B B' n size : Nat} {es : List TypeId} {w : World} {e : TypeId} {v : Value} {xs : List Value} (h : w.ownsRow B' e size v n xs) (he : e ∉ es) : St B es (fun w' => w'.ownsRow B' e size v n xs) w := fun w' k => by
  refine ⟨h.1, ?_⟩
  rcases h.2 with h1 | ⟨g, cap, cur, h1, h2, h3, h4⟩
  · exact .inl h1
  · exact .inr ⟨g, cap, cur, h1, h2, k.high _ _ _ _ h3 he, h4⟩
theorem isV_own {w : World} {B n : Nat} {v : Value} {l : List Int} (h : w.ownsRow B 3 1 v n (iv l)) (hb : ∀ x ∈ l, I64 x) : IsV w v l := by
  have hl : l.length = n := by have := h.1; simpa [iv] using this
  obtain ⟨A, c, rfl, h1, h2, hR⟩ := wp.RC.of_own h
  exact ⟨A, n, c, rfl, hl, h1, by unfold maxLen at h2; omega, hR, hb⟩
theorem own_slice {w : World} {B n size : Nat} {e : TypeId} {v : Value} {xs : List Value} (h : w.ownsRow B e size v n xs) : ∃ A c, v = .slice A n c := by
  rcases h.2 with ⟨rfl, rfl⟩ | ⟨g, cap, cur, rfl, _⟩
  · exact ⟨_, _, rfl⟩
  · exact ⟨_, _, rfl⟩
/-- an own row of integers: it stands where rows of other types grow -/
theorem isI_own_st {w : World} {B B' n : Nat} {es : List TypeId} {v : Value} {l : List Int} (h : w.ownsRow B' 3 1 v n (iv l)) (hb : ∀ x ∈ l, I64 x) (he : 3 ∉ es) : ∃ A c, v = .slice A n c ∧ St B es (fun w' => wo.IsI w' A n c l) w := by
  obtain ⟨A, c, rfl⟩ := own_slice h
  refine ⟨A, c, rfl, (own_st h he).imp fun w' h' => ?_⟩
  obtain ⟨A', n', c', e, hI⟩ := isV_own h' hb
  cases e
  exact hI
/-- a row of slices -/
def IsZ (w : World) (v : Value) (L : VV) : Prop := ∃ A n c, v = .slice A n c ∧ IsVV w A n c L
structure RowE {α : Type} (E : World → Value → α → Prop) (B : Nat) (es : List TypeId) (e : TypeId) (w : World) (v : Value) (L : List α) (vals : List Value) : Prop where
  own : w.ownsRow B e 1 v L.length vals
  at' : ∀ (i : Nat) (x : α), L[i]? = some x → ∃ u : Value, vals[i]? = some u ∧ St B es (fun w' => E w' u x) w
theorem RowE.len {α : Type} {E : World → Value → α → Prop} {B : Nat} {es : List TypeId} {e : TypeId} {w : World} {v : Value} {L : List α} {vals : List Value} (h : RowE E B es e w v L vals) : vals.length = L.length := by have := h.own.1; omega
theorem RowE.nil {α : Type} (E : World → Value → α → Prop) (B : Nat) (es : List TypeId) (e : TypeId) (w : World) : RowE E B es e w (.slice none 0 0) [] [] := ⟨World.ownsRow_nil _ _ _ _, fun i x h => by simp at h⟩
theorem RowE.start {α : Type} {E : World → Value → α → Prop} {B : Nat} {es : List TypeId} {e : TypeId} {w : World} {v : Value} (h : w.ownsRow B e 1 v 0 []) : RowE E B es e w v ([] : List α) [] := ⟨h, fun i x h => by simp at h⟩
theorem keptB {w w' : World} {B n size : Nat} {e : TypeId} {v : Value} {xs : List Value} (h : w.ownsRow B e size v n xs) (hb : Below w.heap.size w w') : w'.ownsRow B e size v n xs :=
  World.ownsRow.kept h (⟨hb.os, hb.tape, hb.output, hb.size, fun k hk _ => hb.block k hk⟩ : w.grownBy w' none) (by cases v.ownBlock; left; rfl; right; simp)
theorem RowE.below {α : Type} {E : World → Value → α → Prop} {B : Nat} {es : List TypeId} {e : TypeId} {w w' : World} {v : Value} {L : List α} {vals : List Value} (h : RowE E B es e w v L vals) (hb : Below w.heap.size w w') (hB : B ≤ w.heap.size) : RowE E B es e w' v L vals :=
  ⟨keptB h.own hb, fun i x hx => by obtain ⟨u, h1, h2⟩ := h.at' i x hx; exact ⟨u, h1, h2.below hb hB⟩⟩
theorem RowE.push {α : Type} {E : World → Value → α → Prop} {B : Nat} {es : List TypeId} {e : TypeId} {w w' : World} {v v' : Value} {L : List α} {vals : List Value} {u : Value} {x : α} (h : RowE E B es e w v L vals) (he : e ∈ es) (hs : St B es (fun w' => E w' u x) w) (hB : B ≤ w.heap.size)
    (o : Obj) (hg : (w.alloc o).grownBy w' v.ownBlock) (ho : w'.ownsRow B e 1 v' (L.length + 1) (vals ++ [u])) : RowE E B es e w' v' (L ++ [x]) (vals ++ [u]) := by
  have hk : Kp B es w w' := by
    have h1 : Kp B es w (w.alloc o) := Kp.of_below (below_new w o) hB
    refine h1.trans (Kp.of_grown (keptB h.own (below_new w o)) he (Nat.le_refl _) (by rw [size_new]; omega) hg)
  have hl := h.len
  refine ⟨by simpa using ho, fun i y hy => ?_⟩
  rcases Nat.lt_trichotomy i L.length with hi | hi | hi
  · rw [List.getElem?_append_left hi] at hy
    obtain ⟨z, h1, h2⟩ := h.at' i y hy
    exact ⟨z, by rw [List.getElem?_append_left (by omega)]; exact h1, h2.keep hk⟩
  · subst hi
    rw [List.getElem?_append_right (Nat.le_refl _), Nat.sub_self] at hy
    simp at hy
    subst hy
    exact ⟨u, by rw [← hl, List.getElem?_append_right (Nat.le_refl _), Nat.sub_self]; rfl, hs.keep hk⟩
  · rw [List.getElem?_eq_none (by simp; omega)] at hy; cases hy
theorem RowE.isVV {B : Nat} {es : List TypeId} {w : World} {v : Value} {L : VV} {vals : List Value} (h : RowE IsV B es 22 w v L vals) : ∃ A c, v = .slice A L.length c ∧ IsVV w A L.length c L := by
  have hl := h.len
  rcases h.own.2 with ⟨hv, hn0⟩ | ⟨g, cap, cur, hv, hb2, hh, h3, h4, h5, h6⟩
  · subst hv
    exact ⟨none, 0, by rw [hn0], rfl, by omega, by omega, fun k l hk => by have := (List.getElem?_eq_some_iff.1 hk).1; omega⟩
  · subst hv
    refine ⟨_, _, rfl, rfl, h3, by unfold maxLen at h4; omega, fun k l hk => ?_⟩
    obtain ⟨u, hu, hs⟩ := h.at' k l hk
    obtain ⟨A', n', c', rfl, hI⟩ := hs.now
    have hc := h.own.cells rfl k _ hu
    rw [wk.add_at] at hc
    exact ⟨g, 0, A', n', c', rfl, (Array.getElem?_eq_some_iff.1 hh).1, hc, hI⟩
theorem RowE.isVV_st {B : Nat} {es es' : List TypeId} {w : World} {v : Value} {L : VV} {vals : List Value} (h : RowE IsV B es 22 w v L vals) {B' : Nat} (hB : B ≤ B') (hs : ∀ x ∈ es', x ∈ es) (he : 22 ∉ es') : ∃ A c, v = .slice A L.length c ∧ St B' es' (fun w' => IsVV w' A L.length c L) w := by
  obtain ⟨A, c, rfl⟩ := own_slice h.own
  refine ⟨A, c, rfl, fun w' k => ?_⟩
  have h' : RowE IsV B es' 22 w' (.slice A L.length c) L vals :=
    ⟨own_st (B := B') h.own he w' k, fun i x hx => by obtain ⟨u, h1, h2⟩ := h.at' i x hx; exact ⟨u, h1, (h2.up (Nat.le_refl _) hs).keep (k.mono hB)⟩⟩
  obtain ⟨A', c', e, hI⟩ := h'.isVV
  cases e
  exact hI
theorem RowE.isW {B : Nat} {es : List TypeId} {w : World} {v : Value} {L : List VV} {vals : List Value} (h : RowE IsZ B es 39 w v L vals) : ∃ A c, v = .slice A L.length c ∧ IsW w A L.length c L := by
  have hl := h.len
  rcases h.own.2 with ⟨hv, hn0⟩ | ⟨g, cap, cur, hv, hb2, hh, h3, h4, h5, h6⟩
  · subst hv
    exact ⟨none, 0, by rw [hn0], rfl, by omega, by omega, fun k l hk => by have := (List.getElem?_eq_some_iff.1 hk).1; omega⟩
  · subst hv
    refine ⟨_, _, rfl, rfl, h3, by unfold maxLen at h4; omega, fun k l hk => ?_⟩
    obtain ⟨u, hu, hs⟩ := h.at' k l hk
    obtain ⟨A', n', c', rfl, hI⟩ := hs.now
    have hc := h.own.cells rfl k _ hu
    rw [wk.add_at] at hc
    exact ⟨g, 0, A', n', c', rfl, (Array.getElem?_eq_some_iff.1 hh).1, hc, hI⟩
theorem infoVz : (Try.prog.info? 22).map (fun i => (i.zero, i.size, i.bytes)) = some (some (.slice none 0 0), 1, 24) := by kernel_rfl
theorem infoWz : (Try.prog.info? 39).map (fun i => (i.zero, i.size, i.bytes)) = some (some (.slice none 0 0), 1, 24) := by kernel_rfl
theorem infoIz : (Try.prog.info? 3).map (fun i => (i.zero, i.size, i.bytes)) = some (some (.int .i64 0), 1, 8) := by kernel_rfl
section

variable {H : Type} {enc : TypeId × Value → H} {P : Program} {w : World} {base : Nat} {spare : Nat → Bool} {held : Bool} {t e e0 e1 : TypeId} {a : Option Addr} {n c fuel : Nat} {x : DataW H × List MemPlace}
theorem openW (ht : P.underlying t = some (.slice e)) (he : P.underlying e = some (.slice e0)) (he0 : P.underlying e0 = some (.slice e1)) (he1 : P.underlying e1 = some (.int .i64)) (hc : P.cellsOf e = 1) (hc0 : P.cellsOf e0 = 1) (hc1 : P.cellsOf e1 = 1)
    (h : DataW.trod enc P w base spare held fuel t [.slice a n c] = some x) : ∃ L, IsW w a n c L := by
  rcases DataW.trod_slice ht h with ⟨hcs, _⟩ | ⟨ad, len, cap, elems, rest, m, _, hcs, _, hb, hl, hm, hlen, hel, _⟩
  · simp only [List.cons.injEq, Value.slice.injEq, and_true] at hcs
    obtain ⟨rfl, rfl, rfl⟩ := hcs
    exact ⟨[], rfl, Nat.le_refl _, by omega, fun k l hk => by simp at hk⟩
  · simp only [List.cons.injEq, Value.slice.injEq, and_true] at hcs
    obtain ⟨rfl, rfl, rfl⟩ := hcs
    rw [hc] at hel
    have hone : ∀ i, i < n → ∃ l : VV, ∃ A' n' c', w.cell? (ad.add i) = some (.slice A' n' c') ∧ IsVV w A' n' c' l := fun i hi => by
      have hi' := hel i hi
      rw [List.getElem?_eq_getElem (by omega), Nat.mul_one] at hi'
      cases hcc : w.cells? base (ad.add i) 1 with
      | none => rw [hcc] at hi'; simp at hi'
      | some cs =>
        rw [hcc] at hi'
        simp only [Option.bind_some] at hi'
        obtain ⟨hlen1, _, hcell⟩ := World.cells?_some hcc
        have h0 := hcell 0 (by omega)
        have hadd : (ad.add i).add 0 = ad.add i := by unfold Addr.add; simp
        rw [hadd] at h0
        rcases DataW.trod_slice he hi' with ⟨hcs, _⟩ | ⟨ad', len', cap', _, _, _, _, hcs, _⟩
        · subst hcs
          obtain ⟨l, hI⟩ := openVV he he0 he1 hc0 hc1 hi'
          exact ⟨l, _, _, _, by simpa using h0, hI⟩
        · subst hcs
          obtain ⟨l, hI⟩ := openVV he he0 he1 hc0 hc1 hi'
          exact ⟨l, _, _, _, by simpa using h0, hI⟩
    obtain ⟨L, hLl, hLq⟩ := wo.exists_list n hone
    refine ⟨L, hLl, hl, by unfold maxLen at hm; omega, fun k l hk => ?_⟩
    have hkn : k < n := by
      rcases Nat.lt_or_ge k n with h' | h'
      · exact h'
      · rw [List.getElem?_eq_none (by omega)] at hk; cases hk
    obtain ⟨A', n', c', hcell, hI⟩ := hLq k l hk
    obtain ⟨A0, m0, k0, hc00, _⟩ := (hone 0 (by omega)).choose_spec
    obtain ⟨b, o, rfl⟩ := wo.at_plain hc00
    have hlt := block_lt_of_cell hcell
    rw [wk.add_at] at hcell hlt
    exact ⟨b, o, A', n', c', rfl, hlt, hcell, hI⟩
end

end Go.Proofs.Ytiodjepjbooniaa.uk
/- The iterator over a box's sides; the law of a range over it. -/
namespace Go.Proofs.Ytiodjepjbooniaa.bk

open Go.ChangeShapes Go.WideShapes Go.ChangeAt Go.RowKit

open Go.Proofs.Ytiodjepjbooniaa.bq Go.Proofs.Ytiodjepjbooniaa.vk Go.Proofs.Ytiodjepjbooniaa.wk

set_option linter.unusedVariables false
attribute [local go_sem] Oper.semAt_some
abbrev Nth (n : Nat) := { i : Nat // i < n }
def encs (p : Pair) {n : Nat} (x : Nth n) : Array Value := #[.int .i64 (x.1 : Int), rng (at' p.1 x.1) (at' p.2 x.1)]
theorem map_snoc {n : Nat} (pre : List (Nth n)) (x : Nth n) (hp : pre.map (·.1) = List.range x.1) : (pre ++ [x]).map (·.1) = List.range (x.1 + 1) := by
  rw [List.map_append, hp, List.range_succ]; rfl
theorem grown_of {w w' : World} (h : Below w.heap.size w w') : w.grownBy w' none := ⟨h.os, h.tape, h.output, h.size, fun k hk _ => h.block k hk⟩
theorem len_range {n k : Nat} {pre : List (Nth n)} (hp : pre.map (·.1) = List.range k) : pre.length = k := by
  have := congrArg List.length hp
  simpa using this
/-- what a round may do: nothing to what is no cells from B on, nothing below B but to the blocks M -/
structure Turn (M : List Nat) (B : Nat) (W W' : World) : Prop where
  keeps : KeepsFrom B W W'
  exc : Exc M B W W'
theorem Turn.refl (M : List Nat) (B : Nat) (W : World) : Turn M B W W := ⟨KeepsFrom.refl _ _, Exc.refl _ _ _⟩
theorem Turn.trans {M : List Nat} {B : Nat} {a b c : World} (h : Turn M B a b) (k : Turn M B b c) : Turn M B a c := ⟨h.keeps.trans k.keeps, h.exc.trans k.exc⟩
theorem keeps_below {B : Nat} {W W' : World} (h : Below W.heap.size W W') : KeepsFrom B W W' := ⟨h.size, fun k o _ hk _ => (h.block k (Array.getElem?_eq_some_iff.1 hk).1).trans hk⟩
theorem Turn.of_below {M : List Nat} {B : Nat} {W W' : World} (h : Below W.heap.size W W') (hB : B ≤ W.heap.size) : Turn M B W W' := ⟨keeps_below h, Exc.of_below (h.mono hB)⟩
theorem Turn.setCell {M : List Nat} {B : Nat} {W : World} {p : Addr} (v : Value) (h : p.block ∈ M) : Turn M B W (W.setCell p v) := ⟨(KeepsOthers.setCell _ _ _).from _, Exc.setCell v (.inl h)⟩
def roundPost' {α : Type} (M : List Nat) (B : Nat) (I : List α → World → Prop) (Ix : Code → World → Prop) (xs : List α) (W : World) : Exit → Act → World → Prop
  | .normal, _, W' => Turn M B W W' ∧ I xs W'
  | .ret, _, W' => Turn M B W W' ∧ Ix .ret W'
  | _, _, _ => False
theorem not_out {α : Type} {M : List Nat} {B : Nat} {I : List α → World → Prop} {Ix : Code → World → Prop} {xs : List α} {W : World} : ¬ LetsOut (roundPost' M B I Ix xs W) := fun ⟨_, _, h⟩ => h
/-- the temporaries of a round: the two that are handed over; the index, if it is wanted; the box -/
def roundT (T : Array Value) (pi pr : Nat) (si : Option Nat) (sb : Nat) (i r : Value) (Bx : Nat) : Array Value :=
  match si with
  | none => ((T.setIfInBounds pi i).setIfInBounds pr r).setIfInBounds sb (.pointer (some ⟨Bx, 0, none⟩))
  | some s => (((T.setIfInBounds pi i).setIfInBounds pr r).setIfInBounds s i).setIfInBounds sb (.pointer (some ⟨Bx, 0, none⟩))
/-- a function that holds such a range: how it is entered, and how it leaves -/
theorem enter_marks {f : FuncId} {fn : Func} {c : Code} {args : Array Value} {w : World} {R : Ending → World → Prop} {P : Program}
    (hf : P.funcs[f]? = some fn) (hb : fn.body = some c) (h : c.wp P (bodyPostM Fence.wide 4 P fn R) { tmps := args ++ Array.replicate (fn.ntmps - args.size) undef, defers := [] } w) : Calls P f args w R :=
  callsIn_wide.1 (callsIn_of_wp_marks (n := 4) hf hb trivial (wpIn_wide.2 h) rfl)
theorem leave_mark {fn : Func} {tmps : Array Value} {D : Nat} {W : World} {R : Ending → World → Prop} {P : Program} {v : Value} (hK : W.heap[D]? = some (.deferred (some [])))
    (hr : (results fn tmps).run P (W.putObj D (.deferred none)) = .ok v (W.putObj D (.deferred none))) (hR : R (.returned v) (W.putObj D (.deferred none))) :
    bodyPostM Fence.wide 4 P fn R .ret { tmps := tmps, defers := [{ target := .collected D, args := #[] }] } W :=
  ⟨by simp, .inl ⟨_, _, rfl, run_takeDeferred hK, ⟨_, hr, hR⟩⟩⟩
theorem leave_bare {fn : Func} {tmps : Array Value} {W : World} {R : Ending → World → Prop} {P : Program} {v : Value}
    (hr : (results fn tmps).run P W = .ok v W) (hR : R (.returned v) W) : bodyPostM Fence.wide 4 P fn R .ret { tmps := tmps, defers := [] } W := ⟨_, hr, hR⟩
theorem below_mark {n : Nat} {w W : World} {D : Nat} {o : Obj} (h : Below n w W) (hD : n ≤ D) : Below n w (W.putObj D o) :=
  ⟨h.os, h.tape, h.output, by simp [h.size], fun k hk => (World.putObj_heap_other (by omega)).trans (h.block k hk)⟩
/-- a variable of one cell, its type known -/
def One (w : World) (g : Nat) (t : TypeId) (v : Value) : Prop := w.heap[g]? = some (.cells #[v] t (0, 0))
theorem One.lt {w : World} {g : Nat} {t : TypeId} {v : Value} (h : One w g t v) : g < w.heap.size := (Array.getElem?_eq_some_iff.1 h).1
theorem One.cell {w : World} {g : Nat} {t : TypeId} {v : Value} (h : One w g t v) : w.cell? ⟨g, 0, none⟩ = some v := by
  rw [cell_of_row _ _ _ _ _ _ h]; rfl
theorem One.frozen {w : World} {g : Nat} {t : TypeId} {v : Value} (h : One w g t v) : w.frozen? ⟨g, 0, none⟩ = false := frozen_of_row _ _ _ _ _ h
theorem One.at {w w' : World} {g : Nat} {t : TypeId} {v : Value} (h : One w g t v) (e : w'.heap[g]? = w.heap[g]?) : One w' g t v := e.trans h
theorem One.below {w w' : World} {g : Nat} {t : TypeId} {v : Value} (h : One w g t v) (hb : Below w.heap.size w w') : One w' g t v := h.at (hb.block g h.lt)
theorem One.new (w : World) (t : TypeId) (v : Value) : One (w.alloc (.cells #[v] t)) w.heap.size t v := heap_alloc_new w _
theorem One.set {w : World} {g : Nat} {t : TypeId} {v : Value} (h : One w g t v) (u : Value) : One (w.setCell ⟨g, 0, none⟩ u) g t u := heap_setCell_same _ _ _ _ _ _ h
theorem One.other {w : World} {g k : Nat} {t : TypeId} {v : Value} (h : One w g t v) (u : Value) (hk : g ≠ k) : One (w.setCell ⟨k, 0, none⟩ u) g t v := h.at (Below.heap_setCell _ _ _ _ hk)
theorem One.put {w : World} {g D : Nat} {t : TypeId} {v : Value} {o : Obj} (h : One w g t v) (hk : g ≠ D) : One (w.putObj D o) g t v := h.at (World.putObj_heap_other hk)
theorem own_one {β : Type} {B g : Nat} {t : TypeId} {v : β → Value} (hg : g < B) : OwnFrom B (fun s W => One W g t (v s)) := by
  intro s W W' row hs hgr hr
  exact hs.at (hgr.block g hs.lt fun e => by have := (hr g e.symm).1; omega)
theorem own_pure {β : Type} {B : Nat} {p : β → Prop} : OwnFrom B (fun s _ => p s) := fun _ _ _ _ hs _ _ => hs
theorem all_range {n : Nat} {ys : List (Nth n)} (hy : ys.map (·.1) = List.range n) {P : Nat → Prop} (h : ∀ x ∈ ys, P x.1) : ∀ i, i < n → P i := by
  intro i hi
  have h1 : i ∈ ys.map (·.1) := by rw [hy]; simpa using hi
  obtain ⟨x, hx, rfl⟩ := List.mem_map.1 h1
  exact h x hx
/-- a bool that is handed back out of a variable, behind a range over a function -/
theorem leave_bool {fn : Func} {p : Nat} {ty : TypeId} (hres : fn.results = #[.cell p ty]) {tmps : Array Value} {D g : Nat} {W : World} {R : Ending → World → Prop} {v : Value} {d : TypeDesc}
    (hp : tmps.getD p undef = .pointer (some ⟨g, 0, none⟩)) (hd : (match d with | .struct _ | .array _ _ => true | _ => false) = false) (hu : Try.prog.underlying ty = some d)
    (h1 : One W g ty v) (hK : W.heap[D]? = some (.deferred (some []))) (hgD : g ≠ D) (hR : R (.returned v) (W.putObj D (.deferred none))) :
    bodyPostM Fence.wide 4 Try.prog fn R .ret { tmps := tmps, defers := [{ target := .collected D, args := #[] }] } W :=
  leave_mark hK (wk.results_cell1 hres tmps _ ⟨g, 0, none⟩ v d hp (h1.put hgD).cell hu (by revert hd; cases d <;> simp)) hR
theorem leave_bool0 {fn : Func} {p : Nat} {ty : TypeId} (hres : fn.results = #[.cell p ty]) {tmps : Array Value} {g : Nat} {W : World} {R : Ending → World → Prop} {v : Value} {d : TypeDesc}
    (hp : tmps.getD p undef = .pointer (some ⟨g, 0, none⟩)) (hd : (match d with | .struct _ | .array _ _ => true | _ => false) = false) (hu : Try.prog.underlying ty = some d)
    (h1 : One W g ty v) (hR : R (.returned v) W) :
    bodyPostM Fence.wide 4 Try.prog fn R .ret { tmps := tmps, defers := [] } W :=
  leave_bare (wk.results_cell1 hres tmps _ ⟨g, 0, none⟩ v d hp h1.cell hu (by revert hd; cases d <;> simp)) hR
end Go.Proofs.Ytiodjepjbooniaa.bk
/- The iterator over the parts; the law of a range over it. -/
namespace Go.Proofs.Ytiodjepjbooniaa.uk

open Go.ChangeShapes Go.WideShapes Go.ChangeAt Go.RowKit

open Go.Proofs.Ytiodjepjbooniaa.cq Go.Proofs.Ytiodjepjbooniaa.vk Go.Proofs.Ytiodjepjbooniaa.bk Go.Proofs.Ytiodjepjbooniaa.wk

set_option linter.unusedVariables false
attribute [local go_sem] Oper.semAt_some
def spa (l : List (Int × Int)) (k : Nat) : Int × Int := l.getD k (0, 0)
theorem spa_of {l : List (Int × Int)} {k : Nat} {p : Int × Int} (h : l[k]? = some p) : spa l k = p := by
  rw [spa, List.getD_eq_getElem?_getD, h]; rfl
def encp (l : List (Int × Int)) {n : Nat} (x : Nth n) : Array Value := #[.int .i64 (x.1 : Int), rng (spa l x.1).1 (spa l x.1).2]
theorem Box.at {w w' : World} {g : Nat} {v : Value} (h : Box w g v) (e : w'.heap[g]? = w.heap[g]?) : Box w' g v := by
  obtain ⟨t, h⟩ := h
  exact ⟨t, e.trans h⟩
set_option maxRecDepth 100000 in
set_option maxHeartbeats 2000000 in
theorem parts1_in (m : Nat) (l Bc Bd n₀ B : Nat) (M : List Nat) (A : Option Addr) (n c : Nat) (cuts : List Int) (d : Int) (hM : ∀ j ∈ M, n₀ ≤ j) (hBn : n₀ ≤ B) (hBc : Bc < B) (hBcM : Bc ∉ M) (hBd : Bd < B) (hBdM : Bd ∉ M)
    (J Jx : List (Nth n) → World → Prop) (W : World) (hX : ∀ w', Below n₀ W w' → wo.IsI w' A n c cuts) (hd : I64 d)
    (hJ : AbidesFrom W.heap.size J)
    (hY : ∀ pre x W, J pre W → pre.length < n → YieldAt Fence.wide (m - 1) Try.prog l (encp (sp cuts d) x) W fun e W' =>
      (e = .returned (.bool true) ∧ J (pre ++ [x]) W' ∧ Exc M B W W') ∨ (e = .returned (.bool false) ∧ Jx (pre ++ [x]) W'))
    (hB : B ≤ W.heap.size) (hc : Box W Bc (.slice A n c)) (hcd : Box W Bd (.int .i64 d)) (h0 : J [] W) :
    CallsIn Fence.wide m Try.prog 63 #[.func (.yield l) #[] #[], .pointer (some ⟨Bc, 0, none⟩), .pointer (some ⟨Bd, 0, none⟩)] W fun e W' => (∃ v, e = .returned v) ∧
      ((∃ ys, ys.map (·.1) = List.range n ∧ J ys W') ∨ (∃ pre, Jx pre W')) := by
  refine callsIn_of_wp Try.func63 rfl trivial ?_ rfl
  simp only [Try.ntmps63, List.size_toArray, List.length_cons, List.length_nil, Nat.reduceAdd, Nat.reduceSub, Array.replicate_succ, Array.replicate_zero, List.push_toArray, List.append_toArray, List.nil_append, List.cons_append]
  have hi := hX W (Below.refl _ _)
  have hn := hi.1
  have hm := hi.2.2.1
  have hnc := hi.2.1
  have hc0 := hc.cell
  have hd0 := hcd.cell
  have HC := Lib.hid hc
  have HD := Lib.hid hcd
  have HX := Lib.hid hX
  have HN := Lib.hid hn
  clear hi hc hcd hX hn
  gi_wp2
  gi_loopw [9] (fun i wr => ∃ (k : Nat) (pre : List (Nth n)), k ≤ n ∧ i = .int .i64 k ∧ pre.map (·.1) = List.range k ∧ J pre wr ∧ Exc M B W wr)
    (fun i _ => n - (intOf i).toNat)
  case atStart => exact ⟨0, [], Nat.zero_le _, rfl, rfl, h0, Exc.refl _ _ _⟩
  case round =>
    obtain ⟨k, pre, hk, rfl, hpre, hJs, hx⟩ := hrel
    by_cases hlt : k < n
    · have hlt2 : (k : Int) < (n : Int) := by omega
      have hC0 := (Box.at HC.out (hx.block Bc hBc hBcM)).cell
      have hD0 := (Box.at HD.out (hx.block Bd hBd hBdM)).cell
      obtain ⟨b, o, x, rfl, hcell, hxk, hx1, hx2⟩ := isI_at (HX.out wr (hx.below hBn hM)) hlt
      have hS := spa_of (sp_at (d := d) hxk)
      obtain ⟨fn, tmps, assign, body, hy, hR⟩ := hY pre ⟨k, hlt⟩ wr hJs (by rw [len_range hpre]; exact hlt)
      unfold encp rng at hy
      dsimp only at hy
      rw [hS] at hy
      dsimp only at hy
      by_cases hl2 : k + 1 < n
      · obtain ⟨b', o', y, hA, hcell2, hyk, hy1, hy2⟩ := isI_at (HX.out wr (hx.below hBn hM)) hl2
        cases hA
        rw [endAt_in hyk] at hy
        have hl3 : ((k + 1 : Nat) : Int) < (n : Int) := by omega
        have hl4 : (k : Int) + 1 < (n : Int) := by omega
        clear hS
        gi_wp2
        refine ⟨(fun hh => by cases hh), hR.mono ?_⟩
        rintro e W3 (⟨rfl, hJ3, hk3⟩ | ⟨rfl, hJx3⟩)
        · gi_wp2
          go_roundw
          case rel => exact ⟨k + 1, _, by omega, by simp, map_snoc pre ⟨k, hlt⟩ hpre, hJ3, hx.trans hk3⟩
          case measure => simp [intOf]; omega
        · gi_wp2
          refine bodyPost_ret (results_none rfl _ _ _) rfl ?_
          exact ⟨⟨_, rfl⟩, .inr ⟨_, hJx3⟩⟩
      · rw [endAt_out (by rw [HN.out]; omega)] at hy
        clear hS
        gi_wp2
        refine ⟨(fun hh => by cases hh), hR.mono ?_⟩
        rintro e W3 (⟨rfl, hJ3, hk3⟩ | ⟨rfl, hJx3⟩)
        · gi_wp2
          go_roundw
          case rel => exact ⟨k + 1, _, by omega, by simp, map_snoc pre ⟨k, hlt⟩ hpre, hJ3, hx.trans hk3⟩
          case measure => simp [intOf]; omega
        · gi_wp2
          refine bodyPost_ret (results_none rfl _ _ _) rfl ?_
          exact ⟨⟨_, rfl⟩, .inr ⟨_, hJx3⟩⟩
    · obtain rfl : k = n := by omega
      gi_wp2
      go_end0
      exact ⟨⟨_, rfl⟩, .inl ⟨_, hpre, hJs⟩⟩
theorem range_parts {g : Operand} {ps : Array Tmp} {assign body : Code} {Q : Exit → Act → World → Prop} {a : Act} {w : World} (n₀ Bc Bd : Nat) (M : List Nat) (A : Option Addr) (n c : Nat) (cuts : List Int) (d : Int)
    (hg : a.eval g = .func (.func 63) #[] #[.pointer (some ⟨Bc, 0, none⟩), .pointer (some ⟨Bd, 0, none⟩)]) (hps : ps.size = 2) (hM : ∀ j ∈ M, n₀ ≤ j) (hn₀ : n₀ ≤ w.heap.size) (hBc : Box w Bc (.slice A n c)) (hBcM : Bc ∉ M) (hBd : Box w Bd (.int .i64 d)) (hBdM : Bd ∉ M) (hd : I64 d) (hMB : ∀ j ∈ M, j < w.heap.size)
    (hX : ∀ w', Below n₀ w w' → wo.IsI w' A n c cuts)
    (I : List (Nth n) → World → Prop) (Ix : Code → World → Prop) (hI : OwnFrom w.heap.size I) (hIx : ∀ c, OwnFrom w.heap.size (fun (_ : Unit) W => Ix c W)) (h0 : I [] w)
    (F : Nth n → Nat → Act)
    (hassign : ∀ (l m : Nat) (x : Nth n) (W : World) (K : Act → World → Prop), K (F x W.heap.size) (W.alloc (.cells #[.int .i64 (spa (sp cuts d) x.1).1, .int .i64 (spa (sp cuts d) x.1).2] 67)) →
      assign.wpIn (Fence.wide.inRound l) m Try.prog (Exit.then K (fun _ _ _ => False)) { tmps := (ps.zip (encp (sp cuts d) x)).foldl (fun t (p, v) => t.setIfInBounds p v) a.tmps, defers := [] } W)
    (hbody : ∀ (l m : Nat) (pre : List (Nth n)) (x : Nth n) (Bx : Nat) (W : World), w.heap.size ≤ Bx → Two W Bx (.int .i64 (spa (sp cuts d) x.1).1) (.int .i64 (spa (sp cuts d) x.1).2) → Exc M w.heap.size w W → I pre W → pre.length < n →
      body.wpIn (Fence.wide.inRound l) m Try.prog (roundPost' M w.heap.size I Ix (pre ++ [x]) W) (F x Bx) W)
    (hdone : ∀ (D : Nat) (ys : List (Nth n)) (W : World), w.heap.size ≤ D → ys.map (·.1) = List.range n → Exc M w.heap.size w W → I ys W → W.heap[D]? = some (.deferred (some [])) → Q .normal { a with defers := { target := .collected D, args := #[] } :: a.defers } W)
    (hstop : ∀ (D : Nat) (c : Code) (W : World), w.heap.size ≤ D → Exc M w.heap.size w W → Ix c W → W.heap[D]? = some (.deferred (some [])) → c.wp Try.prog Q { a with defers := { target := .collected D, args := #[] } :: a.defers } W) :
    (Code.rangeFunc g ps assign body).wp Try.prog Q a w := by
  refine wpIn_wide.1 (wpIn_rangeFunc_ownH (F := Fence.wide) (n := 4) (w := w) (w0 := w) rfl (by omega) hg trivial (enters_of Try.func63 (by kernel_rfl) rfl)
    (encs := encp (sp cuts d)) (Kp := Exc M w.heap.size) (S := fun ys => ys.map (·.1) = List.range n) (Sp := fun _ => True) (N := n) ?seq
    (fun h k => h.trans k) (fun W l o o' hl _ _ _ => Exc.put _ hl) (Below.refl _ _) (fun x => by simp [encp, hps])
    (fun pre W => I pre W ∧ Exc M w.heap.size w W) (fun c _ W => Ix c W ∧ Exc M w.heap.size w W)
    (OwnFrom.and hI (Exc.own (Nat.le_refl _))) (fun c => OwnFrom.and (fun s W W' row hs hg' hr => hIx c () W W' row hs hg' hr) (Exc.own (Nat.le_refl _))) ⟨h0, Exc.refl _ _ _⟩
    (fun x a' W => ∃ Bx, w.heap.size ≤ Bx ∧ Two W Bx (.int .i64 (spa (sp cuts d) x.1).1) (.int .i64 (spa (sp cuts d) x.1).2) ∧ a' = F x Bx) ?hAx ?hassign ?hbody ?hdone ?hstop)
  case seq =>
    intro l J Jx W hW hJ hJx hY hJ0
    have hXW : ∀ w', Below n₀ W w' → wo.IsI w' A n c cuts := fun w' hb => hX w' ((hW.mono hn₀).trans hb)
    refine (parts1_in 3 l Bc Bd n₀ w.heap.size M A n c cuts d hM hn₀ hBc.lt hBcM hBd.lt hBdM J Jx W hXW hd hJ hY hW.size (Box.at hBc (hW.block _ hBc.lt)) (Box.at hBd (hW.block _ hBd.lt)) hJ0).mono ?_
    rintro e W' ⟨he, ⟨ys, hy, hj⟩ | ⟨pre, hj⟩⟩
    · exact ⟨he, .inl ⟨ys, hy, hj⟩⟩
    · exact ⟨he, .inr ⟨pre, trivial, hj⟩⟩
  case hAx =>
    rintro x a' u W W' row ⟨Bx, h1, ⟨t, h2⟩, h3⟩ hg' hr
    refine ⟨Bx, h1, ⟨t, ?_⟩, h3⟩
    have hlt := (Array.getElem?_eq_some_iff.1 h2).1
    refine (hg'.block Bx hlt fun e => ?_).trans h2
    obtain ⟨_, o, ho, hnc⟩ := hr Bx e.symm
    rw [h2] at ho
    cases ho
    cases hnc
  case hassign =>
    rintro l pre x W K ⟨hi, hx⟩ hK
    refine hassign l _ x W K ?_
    have hb : Below W.heap.size W (W.alloc (.cells #[.int .i64 (spa (sp cuts d) x.1).1, .int .i64 (spa (sp cuts d) x.1).2] 67)) := below_new _ _
    have hT := Turn.of_below (M := M) hb hx.size
    exact hK _ _ hT.keeps hT.exc ⟨hI.alloc _ hi, hx.trans hT.exc⟩ ⟨_, hx.size, Two.new _ _ _ _, rfl⟩
  case hbody =>
    rintro l pre x a' W hl hr ⟨hi, hx⟩ ⟨Bx, h1, h2, rfl⟩ hlen'
    refine wpIn_mono (hbody l _ pre x Bx W h1 h2 hx hi hlen') ?_
    intro e a3 W3 hp
    cases e with
    | normal => exact ⟨hp.1.keeps, hp.1.exc, hp.2, hx.trans hp.1.exc⟩
    | ret => exact ⟨hp.1.keeps, hp.2, hx.trans hp.1.exc⟩
    | exit id => exact hp.elim
    | goto t => exact hp.elim
    | panic c => exact hp.elim
    | outgrown => exact hp.elim
  case hdone => rintro D ys W hD hy ⟨hi, hx⟩ hK; exact hdone D ys W hD hy hx hi hK
  case hstop => rintro D c pre W hD _ ⟨hi, hx⟩ hK; exact wpIn_wide.2 (hstop D c W hD hx hi hK)
theorem range_parts' {g : Operand} {pi pr : Nat} {assign body : Code} {Q : Exit → Act → World → Prop} {T : Array Value} {w : World} (si : Option Nat) (sb : Nat) (n₀ Bc Bd : Nat) (M : List Nat) (A : Option Addr) (n c : Nat) (cuts : List Int) (d : Int)
    (hg : Act.eval { tmps := T, defers := [] } g = .func (.func 63) #[] #[.pointer (some ⟨Bc, 0, none⟩), .pointer (some ⟨Bd, 0, none⟩)]) (hM : ∀ j ∈ M, n₀ ≤ j) (hn₀ : n₀ ≤ w.heap.size) (hBc : Box w Bc (.slice A n c)) (hBcM : Bc ∉ M) (hBd : Box w Bd (.int .i64 d)) (hBdM : Bd ∉ M) (hd : I64 d) (hMB : ∀ j ∈ M, j < w.heap.size)
    (hX : ∀ w', Below n₀ w w' → wo.IsI w' A n c cuts)
    (I : List (Nth n) → World → Prop) (Ix : Code → World → Prop) (hI : OwnFrom w.heap.size I) (hIx : ∀ c, OwnFrom w.heap.size (fun (_ : Unit) W => Ix c W)) (h0 : I [] w)
    (hassign : ∀ (l m : Nat) (i : Int) (a b : Int) (W : World) (K : Act → World → Prop), K { tmps := roundT T pi pr si sb (.int .i64 i) (rng a b) W.heap.size, defers := [] } (W.alloc (.cells #[.int .i64 a, .int .i64 b] 67)) →
      assign.wpIn (Fence.wide.inRound l) m Try.prog (Exit.then K (fun _ _ _ => False)) { tmps := (T.setIfInBounds pi (.int .i64 i)).setIfInBounds pr (rng a b), defers := [] } W)
    (hbody : ∀ (l m : Nat) (pre : List (Nth n)) (x : Nth n) (Bx : Nat) (W : World), w.heap.size ≤ Bx → Two W Bx (.int .i64 (spa (sp cuts d) x.1).1) (.int .i64 (spa (sp cuts d) x.1).2) → Exc M w.heap.size w W → I pre W → pre.length < n →
      body.wpIn (Fence.wide.inRound l) m Try.prog (roundPost' M w.heap.size I Ix (pre ++ [x]) W) { tmps := roundT T pi pr si sb (.int .i64 (x.1 : Int)) (rng (spa (sp cuts d) x.1).1 (spa (sp cuts d) x.1).2) Bx, defers := [] } W)
    (hdone : ∀ (D : Nat) (ys : List (Nth n)) (W : World), w.heap.size ≤ D → ys.map (·.1) = List.range n → Exc M w.heap.size w W → I ys W → W.heap[D]? = some (.deferred (some [])) → Q .normal { tmps := T, defers := [{ target := .collected D, args := #[] }] } W)
    (hstop : ∀ (D : Nat) (c : Code) (W : World), w.heap.size ≤ D → Exc M w.heap.size w W → Ix c W → W.heap[D]? = some (.deferred (some [])) → c.wp Try.prog Q { tmps := T, defers := [{ target := .collected D, args := #[] }] } W) :
    (Code.rangeFunc g #[pi, pr] assign body).wp Try.prog Q { tmps := T, defers := [] } w := by
  refine range_parts n₀ Bc Bd M A n c cuts d hg rfl hM hn₀ hBc hBcM hBd hBdM hd hMB hX I Ix hI hIx h0 (fun x Bx => { tmps := roundT T pi pr si sb (.int .i64 (x.1 : Int)) (rng (spa (sp cuts d) x.1).1 (spa (sp cuts d) x.1).2) Bx, defers := [] }) ?_ hbody hdone hstop
  intro l m x W K hK
  have e : (#[pi, pr].zip (encp (sp cuts d) x)).foldl (fun t (q : Nat × Value) => t.setIfInBounds q.1 q.2) T = (T.setIfInBounds pi (.int .i64 (x.1 : Int))).setIfInBounds pr (rng (spa (sp cuts d) x.1).1 (spa (sp cuts d) x.1).2) := by
    simp [encp]
  have := hassign l m x.1 _ _ W K hK
  rw [← e] at this
  exact this
end Go.Proofs.Ytiodjepjbooniaa.uk
/- Whether cuts divide; lists of words. -/
namespace Go.Proofs.Ytiodjepjbooniaa.uk

open Go.ChangeShapes Go.WideShapes Go.ChangeAt Go.RowKit

open Go.Proofs.Ytiodjepjbooniaa.cq Go.Proofs.Ytiodjepjbooniaa.vk Go.Proofs.Ytiodjepjbooniaa.bk Go.Proofs.Ytiodjepjbooniaa.wk

set_option linter.unusedVariables false
attribute [local go_sem] Oper.semAt_some
def partsF (B : Nat) : Value := .func (.func 63) #[] #[.pointer (some ⟨B + 1, 0, none⟩), .pointer (some ⟨B, 0, none⟩)]
theorem alloc2 (w : World) (v1 v2 : Value) (t1 t2 : TypeId) : Box ((w.alloc (.cells #[v1] t1)).alloc (.cells #[v2] t2)) w.heap.size v1 ∧ Box ((w.alloc (.cells #[v1] t1)).alloc (.cells #[v2] t2)) (w.heap.size + 1) v2 ∧ Below w.heap.size w ((w.alloc (.cells #[v1] t1)).alloc (.cells #[v2] t2)) := box2 w v1 v2 t1 t2
set_option maxRecDepth 100000 in
theorem parts_calls (d : Int) (A : Option Addr) (n c : Nat) (w : World) :
    Calls Try.prog 39 #[.int .i64 d, .slice A n c] w fun e w' => e = .returned (partsF w.heap.size) ∧ w' = (w.alloc (.cells #[.int .i64 d] 3)).alloc (.cells #[.slice A n c] 22) := by
  unfold partsF
  go_enter Try.func39, Try.ntmps39
  go_wp2
  go_ret
  exact ⟨by simp, rfl⟩
theorem asc_not {d : Int} {cuts : List Int} {k : Nat} (hk : k < cuts.length) (h : (spa (sp cuts d) k).2 ≤ (spa (sp cuts d) k).1) : ascs (sp cuts d) = false := by
  unfold ascs
  rw [List.all_eq_false]
  have h1 : (sp cuts d)[k]? = some (spa (sp cuts d) k) := by
    rw [spa, List.getD_eq_getElem?_getD, List.getElem?_eq_getElem (by rw [sp_len]; exact hk)]; rfl
  exact ⟨_, List.mem_of_getElem? h1, by simp [asc]; omega⟩
theorem asc_all {d : Int} {cuts : List Int} (h : ∀ k, k < cuts.length → (spa (sp cuts d) k).1 < (spa (sp cuts d) k).2) : ascs (sp cuts d) = true := by
  unfold ascs
  rw [List.all_eq_true]
  intro p hp
  obtain ⟨k, hk, rfl⟩ := List.mem_iff_getElem.1 hp
  have := h k (by rw [sp_len] at hk; exact hk)
  rw [spa_of (List.getElem?_eq_getElem hk)] at this
  simp [asc, this]
set_option maxRecDepth 100000 in
set_option maxHeartbeats 2000000 in
theorem divided_calls (d : Int) (A : Option Addr) (n c : Nat) (cuts : List Int) (w : World) (h : wo.IsI w A n c cuts) (hd : I64 d) :
    Calls Try.prog 38 #[.int .i64 d, .slice A n c] w fun e w' => e = .returned (.bool (divided d cuts)) ∧ Below w.heap.size w w' := by
  have hm := h.2.2.1
  have hnc := h.2.1
  have hl := h.1
  have hB0 := below_new w (.cells #[.bool false] 4)
  have HB0 := Lib.hid hB0
  have HI := Lib.hid h
  have HO := Lib.hid (One.new w 4 (.bool false))
  have HDD := Lib.hid hd
  unfold I64 at hd
  have hE : divided d cuts = (decide (1 ≤ d) && decide (d ≤ 32) && decide (1 ≤ n) && decide (n ≤ 8) && decide (cuts.headD 1 = 0) && ascs (sp cuts d)) := by simp only [divided, hl]
  rw [hE]
  clear hB0 hE h
  refine enter_marks Try.func38 rfl ?_
  simp only [Try.ntmps38, List.size_toArray, List.length_cons, List.length_nil, Nat.reduceAdd, Nat.reduceSub, Array.replicate_succ, Array.replicate_zero, List.push_toArray, List.append_toArray, List.nil_append, List.cons_append]
  by_cases h1 : 1 ≤ d
  · by_cases h2 : d ≤ 32
    · by_cases h3 : 1 ≤ n
      · by_cases h4 : n ≤ 8
        · obtain ⟨b, o, x, rfl, hc, hx, -, -⟩ := isI_at HI.out (k := 0) (by omega)
          rw [Nat.add_zero] at hc
          have hh : cuts.headD 1 = x := by
            cases cuts with
            | nil => simp at hx
            | cons y l => simpa using hx
          rw [hh]
          have hcb : b < w.heap.size := block_lt_of_cell hc
          have hcw : (w.alloc (.cells #[.bool false] 4)).cell? ⟨b, o, none⟩ = some (.int .i64 x) := (HB0.out.cell (p := ⟨b, o, none⟩) hcb).trans hc
          have h3' : (0 : Int) < (n : Int) := by omega
          by_cases h5 : x = 0
          · subst h5
            simp only [decide_eq_true h1, decide_eq_true h2, decide_eq_true h3, decide_eq_true h4, decide_true, Bool.true_and]
            go_wp2_with fail
            refine (parts_calls _ _ _ _ _).mono ?_
            rintro e w' ⟨rfl, rfl⟩
            unfold partsF
            go_wp2_with fail
            generalize hG : w.heap.size = G at *
            have hs3 : ∀ o1 o2 o3, (((w.alloc o1).alloc o2).alloc o3).heap.size = G + 3 := by intro o1 o2 o3; simp only [size_new, hG]
            have hx2 := alloc2 (w.alloc (.cells #[.bool false] 4)) (.int .i64 d) (.slice (some ⟨b, o, none⟩) n c) 3 22
            have hB3 : Below G w (((w.alloc (.cells #[.bool false] 4)).alloc (.cells #[.int .i64 d] 3)).alloc (.cells #[.slice (some ⟨b, o, none⟩) n c] 22)) := HB0.out.trans (hx2.2.2.mono (by simp only [size_new, hG]; omega))
            refine range_parts' none 6 G (G + 1 + 1) (G + 1) [G] (some ⟨b, o, none⟩) n c cuts d ?cg ?c1 ?c2 ?c0 ?c3 ?c0' ?c3' HDD.out ?c4 ?c6 (fun pre W => One W G 4 (.bool false) ∧ ∀ x ∈ pre, (spa (sp cuts d) x.1).1 < (spa (sp cuts d) x.1).2) (fun c W => (c = .ret ∧ ascs (sp cuts d) = false) ∧ One W G 4 (.bool false)) ?c7 ?c8 ?c9 ?hassign ?hbody ?hdone ?hstop
            case cg => rfl
            case c0 => have := hx2.2.1; simp only [size_new, hG] at this; exact this
            case c0' => have := hx2.1; simp only [size_new, hG] at this; exact this
            case c1 => simp
            case c2 => rw [hs3]; omega
            case c3 => intro hh; simp only [List.mem_singleton] at hh; omega
            case c3' => intro hh; simp only [List.mem_singleton] at hh; omega
            case c4 => rw [hs3]; simp
            case c6 =>
              intro w' hb
              have hb' : Below G w w' := hB3.trans hb
              rw [← hG] at hb'
              exact isI_below HI.out hb'
            case c7 => exact OwnFrom.and (own_one (by rw [hs3]; omega)) own_pure
            case c8 => intro c'; exact OwnFrom.and own_pure (own_one (by rw [hs3]; omega))
            case c9 => exact ⟨HO.out.below (hx2.2.2.mono (by simp only [size_new, hG]; omega)), fun x hx => by cases hx⟩
            case hassign =>
              intro l m i a b W K hK
              unfold rng at hK ⊢
              simp only [roundT, List.setIfInBounds_toArray, List.set_cons_succ, List.set_cons_zero] at hK ⊢
              gi_wp2
              exact hK
            case hbody =>
              rintro l m pre x Bx W hBx hT hx ⟨hO, hI⟩ hlen
              simp only [roundT, List.setIfInBounds_toArray, List.set_cons_succ, List.set_cons_zero]
              have hT0 := hT.c0
              have hT1 := hT.c1
              have hO0 := hO.cell
              have hO1 := hO.frozen
              by_cases hle : (spa (sp cuts d) x.1).1 < (spa (sp cuts d) x.1).2
              · gi_wp2
                exact ⟨Turn.refl _ _ _, hO, fun y hy => by rcases List.mem_append.1 hy with h | h; exact hI y h; rw [List.mem_singleton] at h; subst h; exact hle⟩
              · gi_wp2
                exact ⟨Turn.setCell _ (by simp), ⟨rfl, asc_not (by rw [hl]; exact x.2) (by omega)⟩, hO.set _⟩
            case hdone =>
              rintro D ys W hD hys hx ⟨hO, hI⟩ hK
              have hO0 := hO.cell
              have hO1 := hO.frozen
              have hle : ascs (sp cuts d) = true := asc_all (by rw [hl]; exact all_range (P := fun k => (spa (sp cuts d) k).1 < (spa (sp cuts d) k).2) hys hI)
              rw [hs3] at hD
              go_wp2_with fail
              refine leave_bool (fn := Try.f38) rfl rfl rfl Try.underlying4 (hO.set _) ?_ (by omega) ⟨by rw [hle], ?_⟩
              · exact (Below.heap_setCell _ _ _ _ (by show D ≠ G; omega)).trans hK
              · rw [hG]; exact below_mark (((hB3.trans (hx.below (by rw [hs3]; omega) (by simp))).setCell (p := ⟨G, 0, none⟩) (by show G ≤ G; omega) _)) (by omega)
            case hstop =>
              rintro D c W hD hx ⟨⟨rfl, hle⟩, hO⟩ hK
              rw [hs3] at hD
              go_wp2_with fail
              refine leave_bool (fn := Try.f38) rfl rfl rfl Try.underlying4 hO hK (by omega) ⟨by rw [hle], ?_⟩
              rw [hG]
              exact below_mark (hB3.trans (hx.below (by rw [hs3]; omega) (by simp))) (by omega)
          · have h5' : (x != 0) = true := by simpa using h5
            simp only [decide_eq_false h5, Bool.and_false, Bool.false_and]
            go_wp2_with fail
            exact leave_bool0 (fn := Try.f38) rfl rfl rfl Try.underlying4 HO.out ⟨rfl, HB0.out⟩
        · simp only [decide_eq_false h4, Bool.and_false, Bool.false_and]
          go_wp2_with fail
          exact leave_bool0 (fn := Try.f38) rfl rfl rfl Try.underlying4 HO.out ⟨rfl, HB0.out⟩
      · simp only [decide_eq_false h3, Bool.and_false, Bool.false_and]
        go_wp2_with fail
        exact leave_bool0 (fn := Try.f38) rfl rfl rfl Try.underlying4 HO.out ⟨rfl, HB0.out⟩
    · simp only [decide_eq_false h2, Bool.and_false, Bool.false_and]
      go_wp2_with fail
      exact leave_bool0 (fn := Try.f38) rfl rfl rfl Try.underlying4 HO.out ⟨rfl, HB0.out⟩
  · simp only [decide_eq_false h1, Bool.false_and]
    go_wp2_with fail
    exact leave_bool0 (fn := Try.f38) rfl rfl rfl Try.underlying4 HO.out ⟨rfl, HB0.out⟩
end Go.Proofs.Ytiodjepjbooniaa.uk
