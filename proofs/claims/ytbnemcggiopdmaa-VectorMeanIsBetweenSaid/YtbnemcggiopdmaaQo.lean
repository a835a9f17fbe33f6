/- The examples of the chapter. -/
import Derived.Test.YtbnemcggiopdmaaQn

namespace Go.Proofs.Ytbnemcggiopdmaa.vk

open Go.ChangeShapes Go.WideShapes Go.ChangeAt Go.RowKit

set_option linter.unusedVariables false
def va : List Int := [1, -2, 3]
def vb : List Int := [4, 2, 3]
theorem va_vec : vq.Vec va := vq.valid_iff.1 (by decide)
theorem vb_vec : vq.Vec vb := vq.valid_iff.1 (by decide)
def bdd (l : List Int) : Bool := l.all fun x => decide (-9223372036854775808 ≤ x) && decide (x ≤ 9223372036854775807)
theorem bd_of {l : List Int} (h : bdd l = true) : ∀ x ∈ l, -9223372036854775808 ≤ x ∧ x ≤ 9223372036854775807 := by
  intro x hx
  have := List.all_eq_true.1 h x hx
  simpa using this
theorem new_lit (w : World) (l : List Int) (n : Nat) (hn : l.length = n) (h40 : n ≤ 1099511627776) (hb : bdd l = true) (t : TypeId) : wo.IsI (w.alloc (.cells (iv l).toArray t)) (some ⟨w.heap.size, 0, none⟩) n n l :=
  isI_new rfl l rfl n hn h40 (bd_of hb) t
/-- the two vectors, at hand -/
structure SA (w0 : World) (B : Nat) (w : World) : Prop where
  a : wo.IsI w (some ⟨B, 0, none⟩) 3 3 va
  b : wo.IsI w (some ⟨B + 1, 0, none⟩) 3 3 vb
  bel : Below B w0 w
  sz : w0.heap.size = B
theorem SA.next {w0 w w' : World} {B : Nat} (h : SA w0 B w) (hb : Below w.heap.size w w') : SA w0 B w' :=
  ⟨isI_below h.a hb, isI_below h.b hb, h.bel.trans (hb.mono (by have := h.bel.size; have := h.sz; omega)), h.sz⟩
theorem SA.drewN {w0 w : World} {B : Nat} (h : SA w0 B w) (q : Nat) : SA w0 B (w.drewN q) := ⟨h.a, h.b, below_drewN h.bel q, h.sz⟩
theorem SA.start (w : World) (t : TypeId) : SA w w.heap.size ((w.alloc (.cells #[.int .i64 1, .int .i64 (-2), .int .i64 3] t)).alloc (.cells #[.int .i64 4, .int .i64 2, .int .i64 3] t)) := by
  refine ⟨isI_below (new_lit w va 3 rfl (by omega) (by decide) t) (below_new _ _), ?_, Below.andThen (below_new _ _) (below_new _ _), rfl⟩
  have := new_lit (w.alloc (.cells #[.int .i64 1, .int .i64 (-2), .int .i64 3] t)) vb 3 rfl (by omega) (by decide) t
  rw [size_new] at this
  exact this
theorem isVV_new {w : World} {A1 A2 : Option Addr} {n1 n2 c1 c2 : Nat} {l1 l2 : List Int} (h1 : wo.IsI w A1 n1 c1 l1) (h2 : wo.IsI w A2 n2 c2 l2) (t : TypeId) : IsVV (w.alloc (.cells #[.slice A1 n1 c1, .slice A2 n2 c2] t)) (some ⟨w.heap.size, 0, none⟩) 2 2 [l1, l2] := by
  refine ⟨rfl, Nat.le_refl _, by omega, fun k l hk => ?_⟩
  have hc := wk.cells_new w [.slice A1 n1 c1, .slice A2 n2 c2] t
  match k, hk with
  | 0, hk =>
    simp at hk; subst hk
    have h := hc 0 _ rfl
    rw [wk.add_at] at h
    exact ⟨_, _, A1, n1, c1, rfl, by rw [size_new]; omega, h, isI_below h1 (below_new _ _)⟩
  | 1, hk =>
    simp at hk; subst hk
    have h := hc 1 _ rfl
    rw [wk.add_at] at h
    exact ⟨_, _, A2, n2, c2, rfl, by rw [size_new]; omega, h, isI_below h2 (below_new _ _)⟩
  | k + 2, hk => simp at hk
theorem enc_va : wp.encIs va = [6, 2, 3, 6] := by simp [va, wp.encIs, wp.encI, Lib.zigzag, Lib.uvarint_small]
theorem enc_nil : wp.encIs [] = [0] := by simp [wp.encIs, wp.encI, Lib.zigzag, Lib.uvarint_small]
set_option maxRecDepth 100000 in
set_option maxHeartbeats 8000000 in
theorem sanity_calls (w : World) : Calls Try.prog 11 #[] w fun e w' => e = .returned (.bool true) ∧ Below w.heap.size w w' := by
  have S2 := SA.start w 3
  go_enter Try.func11, Try.ntmps11
  go_wp2_with fail
  generalize (w.alloc (.cells #[.int .i64 1, .int .i64 (-2), .int .i64 3] 3)).alloc (.cells #[.int .i64 4, .int .i64 2, .int .i64 3] 3) = w2 at *
  generalize hB : w.heap.size = B at *
  clear hB
  refine (sub_calls _ _ 3 _ _ va vb w2 S2.a S2.b (few_of va_vec) (few_of vb_vec) (by omega)).mono ?_
  rintro e w3 ⟨A3, c3, rfl, hI3, hb3⟩
  have S3 := S2.next hb3
  clear hb3 S2
  go_wp2_with fail
  have hN3 := new_lit w3 [-3, -4, 0] 3 rfl (by omega) (by decide) 3
  have hb4 := below_new w3 (.cells (iv [-3, -4, 0]).toArray 3)
  refine (same_calls A3 _ 3 3 c3 3 (vq.sub va vb) [-3, -4, 0] _ (isI_below hI3 hb4) hN3).mono ?_
  rw [show (vq.sub va vb == [-3, -4, 0]) = true by decide]
  rintro e w5 ⟨rfl, q, rfl⟩
  have S5 := (S3.next hb4).drewN q
  clear hb4 hN3 hI3 S3
  change SA w B ((w3.alloc (.cells #[.int .i64 (-3), .int .i64 (-4), .int .i64 0] 3)).drewN q) at S5
  go_wp2_with fail
  generalize (w3.alloc (.cells #[.int .i64 (-3), .int .i64 (-4), .int .i64 0] 3)).drewN q = w5 at *
  refine (dot_calls _ _ 3 _ _ va vb w5 S5.a S5.b (few_of va_vec) (few_of vb_vec) (by omega)).mono ?_
  rw [show vq.dot va vb = 9 by decide]
  rintro e w6 ⟨rfl, hb6⟩
  have S6 := S5.next hb6
  clear hb6 S5
  go_wp2_with fail
  refine (key_calls 1 _ _ 3 _ _ va vb w6 (by omega) (by omega) S6.a S6.b (vq.sub_bound va_vec vb_vec) (by omega)).mono ?_
  rw [show vq.key 1 va vb = 7 by decide]
  rintro e w7 ⟨rfl, hb7⟩
  have S7 := S6.next hb7
  clear hb7 S6
  go_wp2_with fail
  refine (key_calls 2 _ _ 3 _ _ va vb w7 (by omega) (by omega) S7.a S7.b (vq.sub_bound va_vec vb_vec) (by omega)).mono ?_
  rw [show vq.key 2 va vb = 25 by decide]
  rintro e w8 ⟨rfl, hb8⟩
  have S8 := S7.next hb8
  clear hb8 S7
  go_wp2_with fail
  refine (key_calls 3 _ _ 3 _ _ va vb w8 (by omega) (by omega) S8.a S8.b (vq.sub_bound va_vec vb_vec) (by omega)).mono ?_
  rw [show vq.key 3 va vb = 4 by decide]
  rintro e w9 ⟨rfl, hb9⟩
  have S9 := S8.next hb9
  clear hb9 S8
  go_wp2_with fail
  have hV := isVV_new S9.a S9.b 22
  have S10 := S9.next (below_new w9 (.cells #[.slice (some ⟨B, 0, none⟩) 3 3, .slice (some ⟨B + 1, 0, none⟩) 3 3] 22))
  clear S9
  refine (mean_calls _ 2 2 3 [va, vb] _ hV (by intro l hl; simp at hl; rcases hl with rfl | rfl <;> rfl) (by intro l hl; simp at hl; rcases hl with rfl | rfl; exact va_vec; exact vb_vec) (by omega) (by omega)).mono ?_
  rw [show vq.mean [va, vb] = [2, 0, 3] by decide]
  rintro e w11 ⟨A11, c11, rfl, hI11, hb11⟩
  have S11 := S10.next hb11
  clear hb11 S10 hV
  go_wp2_with fail
  have hN11 := new_lit w11 [2, 0, 3] 3 rfl (by omega) (by decide) 3
  have hb12 := below_new w11 (.cells (iv [2, 0, 3]).toArray 3)
  refine (same_calls A11 _ 3 3 c11 3 [2, 0, 3] [2, 0, 3] _ (isI_below hI11 hb12) hN11).mono ?_
  rw [show (([2, 0, 3] : List Int) == [2, 0, 3]) = true by decide]
  rintro e w13 ⟨rfl, q, rfl⟩
  have S13 := (S11.next hb12).drewN q
  clear hb12 hN11 hI11 S11
  change SA w B ((w11.alloc (.cells #[.int .i64 2, .int .i64 0, .int .i64 3] 3)).drewN q) at S13
  go_wp2_with fail
  have hs : ((w11.alloc (.cells #[.int .i64 2, .int .i64 0, .int .i64 3] 3)).drewN q).heap.size = w11.heap.size + 1 := size_new _ _
  generalize (w11.alloc (.cells #[.int .i64 2, .int .i64 0, .int .i64 3] 3)).drewN q = w13 at *
  generalize w11.heap.size + 1 = G at *
  have hn1 := new_lit w13 [-1] 1 rfl (by omega) (by decide) 3
  have hn2 := new_lit (w13.alloc (.cells (iv [-1]).toArray 3)) [0] 1 rfl (by omega) (by decide) 3
  have hb1 := below_new w13 (.cells (iv [-1]).toArray 3)
  have hb2 := below_new (w13.alloc (.cells (iv [-1]).toArray 3)) (.cells (iv [0]).toArray 3)
  have hV := isVV_new (isI_below hn1 hb2) hn2 22
  simp only [size_new, hs] at hV
  replace hV : IsVV (((w13.alloc (.cells #[.int .i64 (-1)] 3)).alloc (.cells #[.int .i64 0] 3)).alloc (.cells #[.slice (some ⟨G, 0, none⟩) 1 1, .slice (some ⟨G + 1, 0, none⟩) 1 1] 22)) (some ⟨G + 1 + 1, 0, none⟩) 2 2 [[-1], [0]] := hV
  have S16 := ((S13.next hb1).next hb2).next (below_new _ (.cells #[.slice (some ⟨G, 0, none⟩) 1 1, .slice (some ⟨G + 1, 0, none⟩) 1 1] 22))
  clear hn1 hn2 hb1 hb2 S13 hs
  refine (mean_calls _ 2 2 1 [[-1], [0]] _ hV (by intro l hl; simp at hl; rcases hl with rfl | rfl <;> rfl) (by intro l hl; simp at hl; rcases hl with rfl | rfl <;> exact vq.valid_iff.1 (by decide)) (by omega) (by omega)).mono ?_
  rw [show vq.mean [[-1], [0]] = [-1] by decide]
  rintro e w17 ⟨A17, c17, rfl, hI17, hb17⟩
  have S17 := S16.next hb17
  clear hb17 S16 hV
  go_wp2_with fail
  have hN17 := new_lit w17 [-1] 1 rfl (by omega) (by decide) 3
  have hb18 := below_new w17 (.cells (iv [-1]).toArray 3)
  refine (same_calls A17 _ 1 1 c17 1 [-1] [-1] _ (isI_below hI17 hb18) hN17).mono ?_
  rw [show (([-1] : List Int) == [-1]) = true by decide]
  rintro e w19 ⟨rfl, q2, rfl⟩
  have S19 := (S17.next hb18).drewN q2
  clear hb18 hN17 hI17 S17
  change SA w B ((w17.alloc (.cells #[.int .i64 (-1)] 3)).drewN q2) at S19
  go_wp2_with fail
  generalize (w17.alloc (.cells #[.int .i64 (-1)] 3)).drewN q2 = w19 at *
  refine (compare_calls _ _ 3 3 3 3 va vb w19 S19.a S19.b).mono ?_
  rw [show vq.cmp va vb = -1 by decide]
  rintro e w20 ⟨rfl, hb20⟩
  have S20 := S19.next hb20
  clear hb20 S19
  go_wp2_with fail
  have hN20 := new_lit w20 [9] 1 rfl (by omega) (by decide) 3
  have hb21 := below_new w20 (.cells (iv [9]).toArray 3)
  have S21 := S20.next hb21
  refine (compare_calls _ _ 1 3 1 3 [9] va _ hN20 S21.a).mono ?_
  rw [show vq.cmp [9] va = -1 by decide]
  rintro e w22 ⟨rfl, hb22⟩
  have S22 := S21.next hb22
  clear hb22 hb21 hN20 S21 S20
  go_wp2_with fail
  refine (encode_calls _ 3 3 va w22 S22.a (by omega)).mono ?_
  rintro e w23 ⟨A23, c23, rfl, hI23, hb23⟩
  have S23 := S22.next hb23
  clear hb23 S22
  go_wp2_with fail
  refine (decode_calls A23 _ c23 _ w23 hI23 (by rw [enc_va]; decide)).mono ?_
  rw [enc_va, show vq.dec [6, 2, 3, 6] = (va, 0) by decide +kernel]
  rintro e w24 ⟨A24, n24, c24, rfl, hI24, hb24⟩
  have hn24 : n24 = 3 := hI24.1.symm
  subst hn24
  have S24 := S23.next hb24
  clear hb24 S23 hI23
  go_wp2_with fail
  refine (encode_calls none 0 0 [] w24 (isI_nil _) (by omega)).mono ?_
  rintro e w25 ⟨A25, c25, rfl, hI25, hb25⟩
  have S25 := S24.next hb25
  have hI24' := isI_below hI24 hb25
  clear hb25 S24 hI24
  go_wp2_with fail
  refine (decode_calls A25 _ c25 _ w25 hI25 (by rw [enc_nil]; decide)).mono ?_
  rw [enc_nil, show vq.dec [0] = ([], 40) by decide +kernel]
  rintro e w26 ⟨A26, n26, c26, rfl, hI26, hb26⟩
  have S26 := S25.next hb26
  have hI := isI_below hI24' hb26
  clear hb26 S25 hI25 hI26 hI24'
  go_wp2_with fail
  refine (same_calls A24 _ 3 3 c24 3 va va w26 hI S26.a).mono ?_
  rw [show (va == va) = true by decide]
  rintro e w27 ⟨rfl, q3, rfl⟩
  have S27 := S26.drewN q3
  clear S26 hI
  go_wp2_with fail
  generalize w26.drewN q3 = w27 at *
  refine (valid_calls _ 3 3 va w27 S27.a).mono ?_
  rw [show vq.valid va = true by decide]
  rintro e w28 ⟨rfl, hb28⟩
  have S28 := S27.next hb28
  clear S27 hb28
  go_wp2_with fail
  have hN28 := new_lit w28 [1001] 1 rfl (by omega) (by decide) 3
  have hb29 := below_new w28 (.cells (iv [1001]).toArray 3)
  have S29 := S28.next hb29
  refine (valid_calls _ 1 1 [1001] _ hN28).mono ?_
  rw [show vq.valid [1001] = false by decide]
  rintro e w30 ⟨rfl, hb30⟩
  have S30 := S29.next hb30
  clear S29 hb30 hN28 hb29 S28
  go_wp2_with fail
  refine (alike_calls _ _ 3 3 3 3 va vb w30 S30.a S30.b).mono ?_
  rw [show vq.alike va vb = true by decide]
  rintro e w31 ⟨rfl, hb31⟩
  have S31 := S30.next hb31
  clear S30 hb31
  go_wp2_with fail
  go_ret
  exact ⟨rfl, by rw [S31.sz]; exact S31.bel⟩
end Go.Proofs.Ytbnemcggiopdmaa.vk
