/- Joined: Kr Ks Kt. -/
import Derived.Test.YtieipbobijnmlaaG11
/- The law's examples. -/
namespace Go.Proofs.Ytieipbobijnmlaa.tk

open Go.ChangeShapes Go.WideShapes Go.ChangeAt Go.RowKit

open Go.Proofs.Ytieipbobijnmlaa.tq Go.Proofs.Ytieipbobijnmlaa.vk Go.Proofs.Ytieipbobijnmlaa.wk

set_option linter.unusedVariables false
attribute [local go_sem] Oper.semAt_some
def SI (L : List Int) (u : World) (x : Value) : Prop := ∃ A n c, x = .slice A n c ∧ wo.IsI u A n c L
theorem SI.below {L : List Int} {w w' : World} {x : Value} (h : SI L w x) (hb : Below w.heap.size w w') : SI L w' x := by
  obtain ⟨A, n, c, e, h⟩ := h; exact ⟨A, n, c, e, vk.isI_below h hb⟩
theorem isI_lit2 (w : World) (l : List Int) (h : ∀ x ∈ l, -9223372036854775808 ≤ x ∧ x ≤ 9223372036854775807) (hl : l.length ≤ 1000) : wo.IsI (w.alloc (.cells (l.map (Value.int .i64)).toArray 3)) (some ⟨w.heap.size, 0, none⟩) l.length l.length l := by
  refine ⟨rfl, Nat.le_refl _, by omega, fun _ => ⟨w.heap.size, 0, rfl, by rw [size_new]; omega, fun j u hu => ?_⟩, h⟩
  rw [cell_of_row _ _ _ _ _ _ (heap_alloc_new w _), Nat.zero_add]
  simpa using hu
theorem si_new (w : World) (L : List Int) (n : Nat) (cells : Array Value) (hn : L.length = n) (hm : n ≤ 1000) (hW : ∀ x ∈ L, -9223372036854775808 ≤ x ∧ x ≤ 9223372036854775807) (hc : cells = (L.map (Value.int .i64)).toArray) : SI L (w.alloc (.cells cells 3)) (.slice (some ⟨w.heap.size, 0, none⟩) n n) := by
  subst hn hc
  exact ⟨_, _, _, rfl, isI_lit2 w L hW hm⟩
def SB (l : List UInt8) (u : World) (x : Value) : Prop := ∃ A n c, x = .slice A n c ∧ wo.IsB u A n c l
theorem SB.below {l : List UInt8} {w w' : World} {x : Value} (h : SB l w x) (hb : Below w.heap.size w w') : SB l w' x := by
  obtain ⟨A, n, c, e, h⟩ := h; exact ⟨A, n, c, e, h.1, h.2.1, h.2.2.1, wk.RB.below h.2.2.2 hb⟩
theorem isS_is {w : World} {A : Option Addr} {n c : Nat} {p : Int → Bool} {L : List Int} (h : IsS w A n c p) (ho : Ok L) (e : ∀ x, 0 ≤ x → x < 4096 → has L x = p x) : wo.IsI w A n c L := by
  obtain ⟨d, hd, hk, hx⟩ := h
  rw [← ok_ext hk ho fun x h0 h1 => by rw [hx, e x h0 h1]]
  exact hd
theorem cOf {L D : List Int} {v : Value} (w : World) (h : SI L w v) (hl : L.length ≤ 100) (he : L.any bad = false) (ho : Ok D) (e : ∀ x, 0 ≤ x → x < 4096 → has D x = decide (x ∈ L)) : Calls Try.prog 11 #[v] w fun e w' => ∃ v', e = .returned (.tuple #[v', .int .i64 0]) ∧ SI D w' v' ∧ Below w.heap.size w w' := by
  obtain ⟨A, n, c, rfl, h⟩ := h
  refine (of_calls w h (by have := h.1; omega)).mono ?_
  rintro e' w' ⟨A', n', c', rfl, h', hb⟩
  exact ⟨_, by unfold ofe; rw [he]; rfl, ⟨_, _, _, rfl, isS_is h' ho fun x h0 h1 => by unfold ofp; rw [he, e x h0 h1]; rfl⟩, hb⟩
theorem cRun {D : List Int} (a b : Int) (w : World) (ho : Ok D) (e : ∀ x, 0 ≤ x → x < 4096 → has D x = runP a b x) : Calls Try.prog 13 #[.int .i64 a, .int .i64 b] w fun e w' => ∃ v', e = .returned v' ∧ SI D w' v' ∧ Below w.heap.size w w' := by
  refine (run_calls a b w).mono ?_
  rintro e' w' ⟨A', n', c', rfl, h', hb⟩
  exact ⟨_, rfl, ⟨_, _, _, rfl, isS_is h' ho e⟩, hb⟩
theorem cAnd {a b D : List Int} {v v' : Value} (w : World) (h : SI a w v) (h' : SI b w v') (ha : Ok a) (hb : Ok b) (ho : Ok D) (e : ∀ x, 0 ≤ x → x < 4096 → has D x = (fun p q => p && q) (has a x) (has b x)) : Calls Try.prog 30 #[v, v'] w fun e w' => ∃ v', e = .returned v' ∧ SI D w' v' ∧ Below w.heap.size w w' := by
  obtain ⟨A, n, c, rfl, h⟩ := h
  obtain ⟨A2, n2, c2, rfl, h'⟩ := h'
  refine (and_calls w h h' ha hb).mono ?_
  rintro e' w' ⟨A', n', c', rfl, h', hb⟩
  exact ⟨_, rfl, ⟨_, _, _, rfl, isS_is h' ho e⟩, hb⟩
theorem cOr {a b D : List Int} {v v' : Value} (w : World) (h : SI a w v) (h' : SI b w v') (ha : Ok a) (hb : Ok b) (ho : Ok D) (e : ∀ x, 0 ≤ x → x < 4096 → has D x = (fun p q => p || q) (has a x) (has b x)) : Calls Try.prog 32 #[v, v'] w fun e w' => ∃ v', e = .returned v' ∧ SI D w' v' ∧ Below w.heap.size w w' := by
  obtain ⟨A, n, c, rfl, h⟩ := h
  obtain ⟨A2, n2, c2, rfl, h'⟩ := h'
  refine (or_calls w h h' ha hb).mono ?_
  rintro e' w' ⟨A', n', c', rfl, h', hb⟩
  exact ⟨_, rfl, ⟨_, _, _, rfl, isS_is h' ho e⟩, hb⟩
theorem cMinus {a b D : List Int} {v v' : Value} (w : World) (h : SI a w v) (h' : SI b w v') (ha : Ok a) (hb : Ok b) (ho : Ok D) (e : ∀ x, 0 ≤ x → x < 4096 → has D x = (fun p q => p && !q) (has a x) (has b x)) : Calls Try.prog 34 #[v, v'] w fun e w' => ∃ v', e = .returned v' ∧ SI D w' v' ∧ Below w.heap.size w w' := by
  obtain ⟨A, n, c, rfl, h⟩ := h
  obtain ⟨A2, n2, c2, rfl, h'⟩ := h'
  refine (minus_calls w h h' ha hb).mono ?_
  rintro e' w' ⟨A', n', c', rfl, h', hb⟩
  exact ⟨_, rfl, ⟨_, _, _, rfl, isS_is h' ho e⟩, hb⟩
theorem cSame {a b : List Int} {v v' : Value} {r : Bool} (w : World) (h : SI a w v) (h' : SI b w v') (e : (a == b) = r) : Calls Try.prog 16 #[v, v'] w fun e w' => e = .returned (.bool r) ∧ Below w.heap.size w w' := by
  obtain ⟨A, n, c, rfl, h⟩ := h
  obtain ⟨A2, n2, c2, rfl, h'⟩ := h'
  rw [← e]
  exact rsame_calls w h h'
theorem cCount {a : List Int} {v : Value} {r : Int} (w : World) (h : SI a w v) (ho : Ok a) (e : ((slots a).length : Int) = r) : Calls Try.prog 20 #[v] w fun e w' => e = .returned (.int .i64 r) ∧ Below w.heap.size w w' := by
  obtain ⟨A, n, c, rfl, h⟩ := h
  rw [← e]
  exact count_calls w h ho
theorem cRank {a : List Int} {v : Value} {r : Int} (x : Int) (w : World) (h : SI a w v) (ho : Ok a) (e : (rk a x : Int) = r) : Calls Try.prog 25 #[v, .int .i64 x] w fun e w' => e = .returned (.int .i64 r) ∧ Below w.heap.size w w' := by
  obtain ⟨A, n, c, rfl, h⟩ := h
  rw [← e]
  exact rank_calls x w h ho
theorem cSelect {a : List Int} {v : Value} {r : Int} (x : Int) (hx : -9223372036854775808 ≤ x ∧ x ≤ 9223372036854775807) (w : World) (h : SI a w v) (ho : Ok a) (e : sel a x = r) : Calls Try.prog 27 #[v, .int .i64 x] w fun e w' => e = .returned (.int .i64 r) ∧ Below w.heap.size w w' := by
  obtain ⟨A, n, c, rfl, h⟩ := h
  rw [← e]
  exact select_calls x w hx h ho
theorem cHas {a : List Int} {v : Value} {r : Bool} (x : Int) (w : World) (h : SI a w v) (ho : Ok a) (e : has a x = r) : Calls Try.prog 18 #[v, .int .i64 x] w fun e w' => e = .returned (.bool r) ∧ Below w.heap.size w w' := by
  obtain ⟨A, n, c, rfl, h⟩ := h
  rw [← e]
  refine (has_calls x w h ho).mono ?_
  rintro e' w' ⟨rfl, rfl⟩
  exact ⟨rfl, Below.refl _ _⟩
theorem cValid {a : List Int} {v : Value} {r : Bool} (w : World) (h : SI a w v) (e : vs a = r) : Calls Try.prog 14 #[v] w fun e w' => e = .returned (.bool r) ∧ Below w.heap.size w w' := by
  obtain ⟨A, n, c, rfl, h⟩ := h
  rw [← e]
  refine (valid_calls w h).mono ?_
  rintro e' w' ⟨rfl, rfl⟩
  exact ⟨rfl, Below.refl _ _⟩
theorem cSlots {a : List Int} {v : Value} (w : World) (h : SI a w v) (ho : Ok a) : Calls Try.prog 23 #[v] w fun e w' => ∃ A' c', e = .returned (.slice A' (slots a).length c') ∧ wo.IsI w' A' (slots a).length c' (slots a) ∧ Below w.heap.size w w' := by
  obtain ⟨A, n, c, rfl, h⟩ := h
  exact slots_calls w h ho
theorem cEncode {a : List Int} {v : Value} (w : World) (h : SI a w v) (ho : Ok a) : Calls Try.prog 36 #[v] w fun e w' => ∃ v', e = .returned v' ∧ SB (wp.encIs (dif 0 a)) w' v' ∧ Below w.heap.size w w' := by
  obtain ⟨A, n, c, rfl, h⟩ := h
  refine (encode_calls w h ho).mono ?_
  rintro e' w' ⟨A', c', rfl, h', hb⟩
  exact ⟨_, rfl, ⟨_, _, _, rfl, h'⟩, hb⟩
theorem cDecode {b : List UInt8} {v : Value} {L : List Int} (w : World) (h : SB b w v) (hl : b.length ≤ 1000000) (e : decB b = (L, 0)) : Calls Try.prog 37 #[v] w fun e w' => ∃ v', e = .returned (.tuple #[v', .int .i64 0]) ∧ SI L w' v' ∧ Below w.heap.size w w' := by
  obtain ⟨A, n, c, rfl, h⟩ := h
  refine (decode_calls w h (by have := h.1; omega)).mono ?_
  rintro e' w' ⟨A', n', c', rfl, h', hb⟩
  rw [e] at h' ⊢
  exact ⟨_, rfl, ⟨_, _, _, rfl, h'⟩, hb⟩
theorem decB_enc {b : List Int} (h : Ok b) (hl : b.length ≤ 1000) : decB (wp.encIs (dif 0 b)) = (b, 0) := by
  have hd := dif_in h.1 (fun x hx => h.2.1 x hx) (Int.le_refl 0)
  have hg := vq.getL_enc (v := dif 0 b) (fun x hx => by have := hd x hx; omega) (by rw [dif_len]; exact hl)
  have hs : steps (dif 0 b) = true := by unfold steps; rw [List.all_eq_true]; exact fun x hx => decide_eq_true (hd x hx)
  unfold decB
  rw [hg]
  dsimp only
  rw [if_neg (by simp), if_neg (by omega), sm_dif, hs, vs_iff.2 h]
  rfl
theorem o1 : Ok [1, 4, 7, 8] := vs_iff.1 (by decide)
theorem o2 : Ok [3, 8] := vs_iff.1 (by decide)
theorem o3 : Ok [3, 4, 7, 8] := vs_iff.1 (by decide)
theorem o4 : Ok [1, 8] := vs_iff.1 (by decide)
theorem o5 : Ok [1, 3] := vs_iff.1 (by decide)
theorem o6 : Ok [0, 2] := vs_iff.1 (by decide)
theorem o7 : Ok [4090, 4096] := vs_iff.1 (by decide)
theorem o8 : Ok [] := vs_iff.1 (by decide)
theorem has2 (a b x : Int) (h : a < b) : has [a, b] x = decide (a ≤ x ∧ x < b) := by
  unfold has
  rw [cl_cons, cl_cons]
  have : cl [] x = 0 := rfl
  rw [this]
  by_cases h1 : a ≤ x <;> by_cases h2 : b ≤ x
  · simp [h1, h2, odd]
    try omega
  · simp [h1, h2, odd]; omega
  · omega
  · simp [h1, h2, odd]
theorem has4 (a b c d x : Int) (h : a < b) (h' : b < c) (h'' : c < d) : has [a, b, c, d] x = (decide (a ≤ x ∧ x < b) || decide (c ≤ x ∧ x < d)) := by
  rw [← has2 a b x h, ← has2 c d x h'']
  unfold has
  have e : cl [a, b, c, d] x = cl [a, b] x + cl [c, d] x := cl_append [a, b] [c, d] x
  rw [e]
  by_cases hb : c ≤ x
  · have h1 : cl [a, b] x = 2 := cl_all fun y hy => by simp at hy; omega
    rw [h1, Nat.add_comm, odd_two]; rfl
  · have h1 : cl [c, d] x = 0 := cl_none fun y hy => by simp at hy; omega
    rw [h1, Nat.add_zero]; simp [odd]
theorem e1 : ∀ x, 0 ≤ x → x < 4096 → has [1, 4, 7, 8] x = decide (x ∈ [7, 2, 1, 3, 2]) := fun x _ _ => by
  rw [has4 _ _ _ _ _ (by decide) (by decide) (by decide), ← Bool.decide_or]
  apply decide_eq_decide.2
  simp only [List.mem_cons, List.not_mem_nil, or_false]
  omega
theorem e2 : ∀ x, 0 ≤ x → x < 4096 → has [3, 8] x = runP 3 8 x := fun x _ _ => by
  rw [has2 _ _ _ (by decide)]; unfold runP; apply decide_eq_decide.2; omega
theorem e6 : ∀ x, 0 ≤ x → x < 4096 → has [0, 2] x = runP (-5) 2 x := fun x _ _ => by
  rw [has2 _ _ _ (by decide)]; unfold runP; apply decide_eq_decide.2; omega
theorem e7 : ∀ x, 0 ≤ x → x < 4096 → has [4090, 4096] x = runP 4090 5000 x := fun x _ _ => by
  rw [has2 _ _ _ (by decide)]; unfold runP; apply decide_eq_decide.2; omega
theorem e8 : ∀ x, 0 ≤ x → x < 4096 → has [] x = runP 7 7 x := fun x _ _ => by
  unfold runP; rw [decide_eq_false (by omega)]; rfl
theorem e3 : ∀ x, 0 ≤ x → x < 4096 → has [3, 4, 7, 8] x = (fun p q => p && q) (has [1, 4, 7, 8] x) (has [3, 8] x) := fun x _ _ => by
  dsimp only
  rw [has4 _ _ _ _ _ (by decide) (by decide) (by decide), has4 _ _ _ _ _ (by decide) (by decide) (by decide), has2 _ _ _ (by decide), ← Bool.decide_or, ← Bool.decide_or, ← Bool.decide_and]
  apply decide_eq_decide.2; omega
theorem e4 : ∀ x, 0 ≤ x → x < 4096 → has [1, 8] x = (fun p q => p || q) (has [1, 4, 7, 8] x) (has [3, 8] x) := fun x _ _ => by
  dsimp only
  rw [has4 _ _ _ _ _ (by decide) (by decide) (by decide), has2 _ _ _ (by decide), has2 _ _ _ (by decide), ← Bool.decide_or, ← Bool.decide_or]
  apply decide_eq_decide.2; omega
theorem e5 : ∀ x, 0 ≤ x → x < 4096 → has [1, 3] x = (fun p q => p && !q) (has [1, 4, 7, 8] x) (has [3, 8] x) := fun x _ _ => by
  dsimp only
  rw [has4 _ _ _ _ _ (by decide) (by decide) (by decide), has2 _ _ _ (by decide), has2 _ _ _ (by decide), ← Bool.decide_or, ← decide_not, ← Bool.decide_and]
  apply decide_eq_decide.2; omega
theorem s1 : slots [1, 4, 7, 8] = [1, 2, 3, 7] := by
  rw [slots_two, slots_two]; rfl
theorem n1 : ((slots [1, 4, 7, 8]).length : Int) = 4 := by rw [s1]; rfl
theorem n2 : (rk [1, 4, 7, 8] 7 : Int) = 3 := by unfold rk; rw [s1]; rfl
theorem n3 : sel [1, 4, 7, 8] 3 = 7 := by unfold sel; rw [s1]; rfl
theorem n4 : sel [1, 4, 7, 8] 4 = -1 := by unfold sel; rw [s1]; rfl
theorem n5 : has [1, 4, 7, 8] 3 = true := by decide
theorem n6 : has [1, 4, 7, 8] 4 = false := by decide
theorem n7 : decB (wp.encIs (dif 0 [1, 4, 7, 8])) = ([1, 4, 7, 8], 0) := decB_enc o1 (by decide)
theorem n8 : (wp.encIs (dif 0 [1, 4, 7, 8])).length ≤ 1000000 := by
  have := vq.encIs_length (dif 0 [1, 4, 7, 8]) (fun x hx => by have := dif_in o1.1 (fun x hx => o1.2.1 x hx) (Int.le_refl 0) x hx; omega) (by rw [dif_len]; decide)
  rw [dif_len] at this
  simp at this
  omega
end Go.Proofs.Ytieipbobijnmlaa.tk
/- The law's sanity. -/
namespace Go.Proofs.Ytieipbobijnmlaa.tk

open Go.ChangeShapes Go.WideShapes Go.ChangeAt Go.RowKit

open Go.Proofs.Ytieipbobijnmlaa.tq Go.Proofs.Ytieipbobijnmlaa.vk Go.Proofs.Ytieipbobijnmlaa.wk

set_option linter.unusedVariables false
attribute [local go_sem] Oper.semAt_some
theorem cSlots4 {v : Value} (w : World) (h : SI [1, 4, 7, 8] w v) : Calls Try.prog 23 #[v] w fun e w' => (∃ A' c', e = .returned (.slice A' 4 c')) ∧ Below w.heap.size w w' := by
  refine (cSlots w h o1).mono ?_
  rintro e w' ⟨A', c', rfl, -, hb⟩
  exact ⟨⟨A', c', by rw [s1]; rfl⟩, hb⟩
theorem cRun77 (w : World) : Calls Try.prog 13 #[.int .i64 7, .int .i64 7] w fun e w' => (∃ A' c', e = .returned (.slice A' 0 c')) ∧ Below w.heap.size w w' := by
  refine (run_calls 7 7 w).mono ?_
  rintro e w' ⟨A', n', c', rfl, h', hb⟩
  have h0 := (isS_is h' o8 e8).1
  simp at h0
  exact ⟨⟨A', c', by rw [← h0]⟩, hb⟩
set_option maxRecDepth 100000 in
set_option maxHeartbeats 8000000 in
theorem san11_calls (w : World) : Calls Try.prog 10 #[] w fun e w' => e = .returned (.bool true) ∧ Below w.heap.size w w' := by
  have HB : Hid (Below w.heap.size w w) := Below.refl _ _
  go_enter Try.func10, Try.ntmps10
  go_wp2_with fail
  refine (cOf _ (si_new _ [7, 2, 1, 3, 2] 5 _ rfl (by decide) (by decide) rfl) (by decide) (by decide) o1 e1).mono ?_
  rintro e w1 ⟨v1, rfl, hs1, hb1⟩
  replace HB := Lib.hid (HB.out.trans (((below_new w _).trans (hb1.mono (below_new w _).size)).mono HB.out.size))
  have HS1 := Lib.hid hs1
  clear hb1 hs1
  go_wp2_with fail
  refine (cRun 3 8 _ o2 e2).mono ?_
  rintro e w2 ⟨v2, rfl, hs2, hb2⟩
  replace HS1 := Lib.hid (HS1.out.below hb2)
  replace HB := Lib.hid (HB.out.trans (hb2.mono HB.out.size))
  have HS2 := Lib.hid hs2
  clear hb2 hs2
  go_wp2_with fail
  refine (cEncode _ HS1.out o1).mono ?_
  rintro e w3 ⟨v3, rfl, hs3, hb3⟩
  replace HS1 := Lib.hid (HS1.out.below hb3)
  replace HS2 := Lib.hid (HS2.out.below hb3)
  replace HB := Lib.hid (HB.out.trans (hb3.mono HB.out.size))
  have HS3 := Lib.hid hs3
  clear hb3 hs3
  go_wp2_with fail
  refine (cDecode _ HS3.out n8 n7).mono ?_
  rintro e w4 ⟨v4, rfl, hs4, hb4⟩
  replace HS1 := Lib.hid (HS1.out.below hb4)
  replace HS2 := Lib.hid (HS2.out.below hb4)
  replace HS3 := Lib.hid (HS3.out.below hb4)
  replace HB := Lib.hid (HB.out.trans (hb4.mono HB.out.size))
  have HS4 := Lib.hid hs4
  clear hb4 hs4
  go_wp2_with fail
  refine (cSame _ (HS1.out.below (below_new _ _)) (si_new _ [1, 4, 7, 8] 4 _ rfl (by decide) (by decide) rfl) (by decide : _ = true)).mono ?_
  rintro e w5 ⟨rfl, hb5⟩
  replace HS1 := Lib.hid (HS1.out.below ((below_new w4 _).trans (hb5.mono (below_new w4 _).size)))
  replace HS2 := Lib.hid (HS2.out.below ((below_new w4 _).trans (hb5.mono (below_new w4 _).size)))
  replace HS3 := Lib.hid (HS3.out.below ((below_new w4 _).trans (hb5.mono (below_new w4 _).size)))
  replace HS4 := Lib.hid (HS4.out.below ((below_new w4 _).trans (hb5.mono (below_new w4 _).size)))
  replace HB := Lib.hid (HB.out.trans (((below_new w4 _).trans (hb5.mono (below_new w4 _).size)).mono HB.out.size))
  clear hb5
  go_wp2_with fail
  refine (cSame _ (HS2.out.below (below_new _ _)) (si_new _ [3, 8] 2 _ rfl (by decide) (by decide) rfl) (by decide : _ = true)).mono ?_
  rintro e w6 ⟨rfl, hb6⟩
  replace HS1 := Lib.hid (HS1.out.below ((below_new w5 _).trans (hb6.mono (below_new w5 _).size)))
  replace HS2 := Lib.hid (HS2.out.below ((below_new w5 _).trans (hb6.mono (below_new w5 _).size)))
  replace HS3 := Lib.hid (HS3.out.below ((below_new w5 _).trans (hb6.mono (below_new w5 _).size)))
  replace HS4 := Lib.hid (HS4.out.below ((below_new w5 _).trans (hb6.mono (below_new w5 _).size)))
  replace HB := Lib.hid (HB.out.trans (((below_new w5 _).trans (hb6.mono (below_new w5 _).size)).mono HB.out.size))
  clear hb6
  go_wp2_with fail
  refine (cAnd _ HS1.out HS2.out o1 o2 o3 e3).mono ?_
  rintro e w7 ⟨v5, rfl, hs5, hb7⟩
  replace HS1 := Lib.hid (HS1.out.below hb7)
  replace HS2 := Lib.hid (HS2.out.below hb7)
  replace HS3 := Lib.hid (HS3.out.below hb7)
  replace HS4 := Lib.hid (HS4.out.below hb7)
  replace HB := Lib.hid (HB.out.trans (hb7.mono HB.out.size))
  have HS5 := Lib.hid hs5
  clear hb7 hs5
  go_wp2_with fail
  refine (cSame _ (HS5.out.below (below_new _ _)) (si_new _ [3, 4, 7, 8] 4 _ rfl (by decide) (by decide) rfl) (by decide : _ = true)).mono ?_
  rintro e w8 ⟨rfl, hb8⟩
  replace HS1 := Lib.hid (HS1.out.below ((below_new w7 _).trans (hb8.mono (below_new w7 _).size)))
  replace HS2 := Lib.hid (HS2.out.below ((below_new w7 _).trans (hb8.mono (below_new w7 _).size)))
  replace HS3 := Lib.hid (HS3.out.below ((below_new w7 _).trans (hb8.mono (below_new w7 _).size)))
  replace HS4 := Lib.hid (HS4.out.below ((below_new w7 _).trans (hb8.mono (below_new w7 _).size)))
  replace HS5 := Lib.hid (HS5.out.below ((below_new w7 _).trans (hb8.mono (below_new w7 _).size)))
  replace HB := Lib.hid (HB.out.trans (((below_new w7 _).trans (hb8.mono (below_new w7 _).size)).mono HB.out.size))
  clear hb8
  go_wp2_with fail
  refine (cOr _ HS1.out HS2.out o1 o2 o4 e4).mono ?_
  rintro e w9 ⟨v6, rfl, hs6, hb9⟩
  replace HS1 := Lib.hid (HS1.out.below hb9)
  replace HS2 := Lib.hid (HS2.out.below hb9)
  replace HS3 := Lib.hid (HS3.out.below hb9)
  replace HS4 := Lib.hid (HS4.out.below hb9)
  replace HS5 := Lib.hid (HS5.out.below hb9)
  replace HB := Lib.hid (HB.out.trans (hb9.mono HB.out.size))
  have HS6 := Lib.hid hs6
  clear hb9 hs6
  go_wp2_with fail
  refine (cSame _ (HS6.out.below (below_new _ _)) (si_new _ [1, 8] 2 _ rfl (by decide) (by decide) rfl) (by decide : _ = true)).mono ?_
  rintro e w10 ⟨rfl, hb10⟩
  replace HS1 := Lib.hid (HS1.out.below ((below_new w9 _).trans (hb10.mono (below_new w9 _).size)))
  replace HS2 := Lib.hid (HS2.out.below ((below_new w9 _).trans (hb10.mono (below_new w9 _).size)))
  replace HS3 := Lib.hid (HS3.out.below ((below_new w9 _).trans (hb10.mono (below_new w9 _).size)))
  replace HS4 := Lib.hid (HS4.out.below ((below_new w9 _).trans (hb10.mono (below_new w9 _).size)))
  replace HS5 := Lib.hid (HS5.out.below ((below_new w9 _).trans (hb10.mono (below_new w9 _).size)))
  replace HS6 := Lib.hid (HS6.out.below ((below_new w9 _).trans (hb10.mono (below_new w9 _).size)))
  replace HB := Lib.hid (HB.out.trans (((below_new w9 _).trans (hb10.mono (below_new w9 _).size)).mono HB.out.size))
  clear hb10
  go_wp2_with fail
  refine (cMinus _ HS1.out HS2.out o1 o2 o5 e5).mono ?_
  rintro e w11 ⟨v7, rfl, hs7, hb11⟩
  replace HS1 := Lib.hid (HS1.out.below hb11)
  replace HS2 := Lib.hid (HS2.out.below hb11)
  replace HS3 := Lib.hid (HS3.out.below hb11)
  replace HS4 := Lib.hid (HS4.out.below hb11)
  replace HS5 := Lib.hid (HS5.out.below hb11)
  replace HS6 := Lib.hid (HS6.out.below hb11)
  replace HB := Lib.hid (HB.out.trans (hb11.mono HB.out.size))
  have HS7 := Lib.hid hs7
  clear hb11 hs7
  go_wp2_with fail
  refine (cSame _ (HS7.out.below (below_new _ _)) (si_new _ [1, 3] 2 _ rfl (by decide) (by decide) rfl) (by decide : _ = true)).mono ?_
  rintro e w12 ⟨rfl, hb12⟩
  replace HS1 := Lib.hid (HS1.out.below ((below_new w11 _).trans (hb12.mono (below_new w11 _).size)))
  replace HS2 := Lib.hid (HS2.out.below ((below_new w11 _).trans (hb12.mono (below_new w11 _).size)))
  replace HS3 := Lib.hid (HS3.out.below ((below_new w11 _).trans (hb12.mono (below_new w11 _).size)))
  replace HS4 := Lib.hid (HS4.out.below ((below_new w11 _).trans (hb12.mono (below_new w11 _).size)))
  replace HS5 := Lib.hid (HS5.out.below ((below_new w11 _).trans (hb12.mono (below_new w11 _).size)))
  replace HS6 := Lib.hid (HS6.out.below ((below_new w11 _).trans (hb12.mono (below_new w11 _).size)))
  replace HS7 := Lib.hid (HS7.out.below ((below_new w11 _).trans (hb12.mono (below_new w11 _).size)))
  replace HB := Lib.hid (HB.out.trans (((below_new w11 _).trans (hb12.mono (below_new w11 _).size)).mono HB.out.size))
  clear hb12
  go_wp2_with fail
  refine (cCount _ HS1.out o1 n1).mono ?_
  rintro e w13 ⟨rfl, hb13⟩
  replace HS1 := Lib.hid (HS1.out.below hb13)
  replace HS2 := Lib.hid (HS2.out.below hb13)
  replace HS3 := Lib.hid (HS3.out.below hb13)
  replace HS4 := Lib.hid (HS4.out.below hb13)
  replace HS5 := Lib.hid (HS5.out.below hb13)
  replace HS6 := Lib.hid (HS6.out.below hb13)
  replace HS7 := Lib.hid (HS7.out.below hb13)
  replace HB := Lib.hid (HB.out.trans (hb13.mono HB.out.size))
  clear hb13
  go_wp2_with fail
  refine (cRank 7 _ HS1.out o1 n2).mono ?_
  rintro e w14 ⟨rfl, hb14⟩
  replace HS1 := Lib.hid (HS1.out.below hb14)
  replace HS2 := Lib.hid (HS2.out.below hb14)
  replace HS3 := Lib.hid (HS3.out.below hb14)
  replace HS4 := Lib.hid (HS4.out.below hb14)
  replace HS5 := Lib.hid (HS5.out.below hb14)
  replace HS6 := Lib.hid (HS6.out.below hb14)
  replace HS7 := Lib.hid (HS7.out.below hb14)
  replace HB := Lib.hid (HB.out.trans (hb14.mono HB.out.size))
  clear hb14
  go_wp2_with fail
  refine (cSelect 3 (by decide) _ HS1.out o1 n3).mono ?_
  rintro e w15 ⟨rfl, hb15⟩
  replace HS1 := Lib.hid (HS1.out.below hb15)
  replace HS2 := Lib.hid (HS2.out.below hb15)
  replace HS3 := Lib.hid (HS3.out.below hb15)
  replace HS4 := Lib.hid (HS4.out.below hb15)
  replace HS5 := Lib.hid (HS5.out.below hb15)
  replace HS6 := Lib.hid (HS6.out.below hb15)
  replace HS7 := Lib.hid (HS7.out.below hb15)
  replace HB := Lib.hid (HB.out.trans (hb15.mono HB.out.size))
  clear hb15
  go_wp2_with fail
  refine (cSelect 4 (by decide) _ HS1.out o1 n4).mono ?_
  rintro e w16 ⟨rfl, hb16⟩
  replace HS1 := Lib.hid (HS1.out.below hb16)
  replace HS2 := Lib.hid (HS2.out.below hb16)
  replace HS3 := Lib.hid (HS3.out.below hb16)
  replace HS4 := Lib.hid (HS4.out.below hb16)
  replace HS5 := Lib.hid (HS5.out.below hb16)
  replace HS6 := Lib.hid (HS6.out.below hb16)
  replace HS7 := Lib.hid (HS7.out.below hb16)
  replace HB := Lib.hid (HB.out.trans (hb16.mono HB.out.size))
  clear hb16
  go_wp2_with fail
  refine (cHas 3 _ HS1.out o1 n5).mono ?_
  rintro e w17 ⟨rfl, hb17⟩
  replace HS1 := Lib.hid (HS1.out.below hb17)
  replace HS2 := Lib.hid (HS2.out.below hb17)
  replace HS3 := Lib.hid (HS3.out.below hb17)
  replace HS4 := Lib.hid (HS4.out.below hb17)
  replace HS5 := Lib.hid (HS5.out.below hb17)
  replace HS6 := Lib.hid (HS6.out.below hb17)
  replace HS7 := Lib.hid (HS7.out.below hb17)
  replace HB := Lib.hid (HB.out.trans (hb17.mono HB.out.size))
  clear hb17
  go_wp2_with fail
  refine (cHas 4 _ HS1.out o1 n6).mono ?_
  rintro e w18 ⟨rfl, hb18⟩
  replace HS1 := Lib.hid (HS1.out.below hb18)
  replace HS2 := Lib.hid (HS2.out.below hb18)
  replace HS3 := Lib.hid (HS3.out.below hb18)
  replace HS4 := Lib.hid (HS4.out.below hb18)
  replace HS5 := Lib.hid (HS5.out.below hb18)
  replace HS6 := Lib.hid (HS6.out.below hb18)
  replace HS7 := Lib.hid (HS7.out.below hb18)
  replace HB := Lib.hid (HB.out.trans (hb18.mono HB.out.size))
  clear hb18
  go_wp2_with fail
  refine (cSlots4 _ HS1.out).mono ?_
  rintro e w19 ⟨⟨A8, c8, rfl⟩, hb19⟩
  replace HS1 := Lib.hid (HS1.out.below hb19)
  replace HS2 := Lib.hid (HS2.out.below hb19)
  replace HS3 := Lib.hid (HS3.out.below hb19)
  replace HS4 := Lib.hid (HS4.out.below hb19)
  replace HS5 := Lib.hid (HS5.out.below hb19)
  replace HS6 := Lib.hid (HS6.out.below hb19)
  replace HS7 := Lib.hid (HS7.out.below hb19)
  replace HB := Lib.hid (HB.out.trans (hb19.mono HB.out.size))
  clear hb19
  go_wp2_with fail
  refine (cSame _ HS4.out HS1.out (by decide : _ = true)).mono ?_
  rintro e w20 ⟨rfl, hb20⟩
  replace HS1 := Lib.hid (HS1.out.below hb20)
  replace HS2 := Lib.hid (HS2.out.below hb20)
  replace HS3 := Lib.hid (HS3.out.below hb20)
  replace HS4 := Lib.hid (HS4.out.below hb20)
  replace HS5 := Lib.hid (HS5.out.below hb20)
  replace HS6 := Lib.hid (HS6.out.below hb20)
  replace HS7 := Lib.hid (HS7.out.below hb20)
  replace HB := Lib.hid (HB.out.trans (hb20.mono HB.out.size))
  clear hb20
  go_wp2_with fail
  refine (cRun (-5) 2 _ o6 e6).mono ?_
  rintro e w21 ⟨v9, rfl, hs9, hb21⟩
  replace HS1 := Lib.hid (HS1.out.below hb21)
  replace HS2 := Lib.hid (HS2.out.below hb21)
  replace HS3 := Lib.hid (HS3.out.below hb21)
  replace HS4 := Lib.hid (HS4.out.below hb21)
  replace HS5 := Lib.hid (HS5.out.below hb21)
  replace HS6 := Lib.hid (HS6.out.below hb21)
  replace HS7 := Lib.hid (HS7.out.below hb21)
  replace HB := Lib.hid (HB.out.trans (hb21.mono HB.out.size))
  have HS9 := Lib.hid hs9
  clear hb21 hs9
  go_wp2_with fail
  refine (cSame _ (HS9.out.below (below_new _ _)) (si_new _ [0, 2] 2 _ rfl (by decide) (by decide) rfl) (by decide : _ = true)).mono ?_
  rintro e w22 ⟨rfl, hb22⟩
  replace HS1 := Lib.hid (HS1.out.below ((below_new w21 _).trans (hb22.mono (below_new w21 _).size)))
  replace HS2 := Lib.hid (HS2.out.below ((below_new w21 _).trans (hb22.mono (below_new w21 _).size)))
  replace HS3 := Lib.hid (HS3.out.below ((below_new w21 _).trans (hb22.mono (below_new w21 _).size)))
  replace HS4 := Lib.hid (HS4.out.below ((below_new w21 _).trans (hb22.mono (below_new w21 _).size)))
  replace HS5 := Lib.hid (HS5.out.below ((below_new w21 _).trans (hb22.mono (below_new w21 _).size)))
  replace HS6 := Lib.hid (HS6.out.below ((below_new w21 _).trans (hb22.mono (below_new w21 _).size)))
  replace HS7 := Lib.hid (HS7.out.below ((below_new w21 _).trans (hb22.mono (below_new w21 _).size)))
  replace HS9 := Lib.hid (HS9.out.below ((below_new w21 _).trans (hb22.mono (below_new w21 _).size)))
  replace HB := Lib.hid (HB.out.trans (((below_new w21 _).trans (hb22.mono (below_new w21 _).size)).mono HB.out.size))
  clear hb22
  go_wp2_with fail
  refine (cRun 4090 5000 _ o7 e7).mono ?_
  rintro e w23 ⟨v10, rfl, hs10, hb23⟩
  replace HS1 := Lib.hid (HS1.out.below hb23)
  replace HS2 := Lib.hid (HS2.out.below hb23)
  replace HS3 := Lib.hid (HS3.out.below hb23)
  replace HS4 := Lib.hid (HS4.out.below hb23)
  replace HS5 := Lib.hid (HS5.out.below hb23)
  replace HS6 := Lib.hid (HS6.out.below hb23)
  replace HS7 := Lib.hid (HS7.out.below hb23)
  replace HS9 := Lib.hid (HS9.out.below hb23)
  replace HB := Lib.hid (HB.out.trans (hb23.mono HB.out.size))
  have HS10 := Lib.hid hs10
  clear hb23 hs10
  go_wp2_with fail
  refine (cSame _ (HS10.out.below (below_new _ _)) (si_new _ [4090, 4096] 2 _ rfl (by decide) (by decide) rfl) (by decide : _ = true)).mono ?_
  rintro e w24 ⟨rfl, hb24⟩
  replace HS1 := Lib.hid (HS1.out.below ((below_new w23 _).trans (hb24.mono (below_new w23 _).size)))
  replace HS2 := Lib.hid (HS2.out.below ((below_new w23 _).trans (hb24.mono (below_new w23 _).size)))
  replace HS3 := Lib.hid (HS3.out.below ((below_new w23 _).trans (hb24.mono (below_new w23 _).size)))
  replace HS4 := Lib.hid (HS4.out.below ((below_new w23 _).trans (hb24.mono (below_new w23 _).size)))
  replace HS5 := Lib.hid (HS5.out.below ((below_new w23 _).trans (hb24.mono (below_new w23 _).size)))
  replace HS6 := Lib.hid (HS6.out.below ((below_new w23 _).trans (hb24.mono (below_new w23 _).size)))
  replace HS7 := Lib.hid (HS7.out.below ((below_new w23 _).trans (hb24.mono (below_new w23 _).size)))
  replace HS9 := Lib.hid (HS9.out.below ((below_new w23 _).trans (hb24.mono (below_new w23 _).size)))
  replace HS10 := Lib.hid (HS10.out.below ((below_new w23 _).trans (hb24.mono (below_new w23 _).size)))
  replace HB := Lib.hid (HB.out.trans (((below_new w23 _).trans (hb24.mono (below_new w23 _).size)).mono HB.out.size))
  clear hb24
  go_wp2_with fail
  refine (cRun77 _).mono ?_
  rintro e w25 ⟨⟨A11, c11, rfl⟩, hb25⟩
  replace HS1 := Lib.hid (HS1.out.below hb25)
  replace HS2 := Lib.hid (HS2.out.below hb25)
  replace HS3 := Lib.hid (HS3.out.below hb25)
  replace HS4 := Lib.hid (HS4.out.below hb25)
  replace HS5 := Lib.hid (HS5.out.below hb25)
  replace HS6 := Lib.hid (HS6.out.below hb25)
  replace HS7 := Lib.hid (HS7.out.below hb25)
  replace HS9 := Lib.hid (HS9.out.below hb25)
  replace HS10 := Lib.hid (HS10.out.below hb25)
  replace HB := Lib.hid (HB.out.trans (hb25.mono HB.out.size))
  clear hb25
  go_wp2_with fail
  refine (cValid _ HS1.out (by decide : _ = true)).mono ?_
  rintro e w26 ⟨rfl, hb26⟩
  replace HS1 := Lib.hid (HS1.out.below hb26)
  replace HS2 := Lib.hid (HS2.out.below hb26)
  replace HS3 := Lib.hid (HS3.out.below hb26)
  replace HS4 := Lib.hid (HS4.out.below hb26)
  replace HS5 := Lib.hid (HS5.out.below hb26)
  replace HS6 := Lib.hid (HS6.out.below hb26)
  replace HS7 := Lib.hid (HS7.out.below hb26)
  replace HS9 := Lib.hid (HS9.out.below hb26)
  replace HS10 := Lib.hid (HS10.out.below hb26)
  replace HB := Lib.hid (HB.out.trans (hb26.mono HB.out.size))
  clear hb26
  go_wp2_with fail
  refine (cValid _ (si_new _ [1] 1 _ rfl (by decide) (by decide) rfl) (by decide : _ = false)).mono ?_
  rintro e w27 ⟨rfl, hb27⟩
  replace HS1 := Lib.hid (HS1.out.below ((below_new w26 _).trans (hb27.mono (below_new w26 _).size)))
  replace HS2 := Lib.hid (HS2.out.below ((below_new w26 _).trans (hb27.mono (below_new w26 _).size)))
  replace HS3 := Lib.hid (HS3.out.below ((below_new w26 _).trans (hb27.mono (below_new w26 _).size)))
  replace HS4 := Lib.hid (HS4.out.below ((below_new w26 _).trans (hb27.mono (below_new w26 _).size)))
  replace HS5 := Lib.hid (HS5.out.below ((below_new w26 _).trans (hb27.mono (below_new w26 _).size)))
  replace HS6 := Lib.hid (HS6.out.below ((below_new w26 _).trans (hb27.mono (below_new w26 _).size)))
  replace HS7 := Lib.hid (HS7.out.below ((below_new w26 _).trans (hb27.mono (below_new w26 _).size)))
  replace HS9 := Lib.hid (HS9.out.below ((below_new w26 _).trans (hb27.mono (below_new w26 _).size)))
  replace HS10 := Lib.hid (HS10.out.below ((below_new w26 _).trans (hb27.mono (below_new w26 _).size)))
  replace HB := Lib.hid (HB.out.trans (((below_new w26 _).trans (hb27.mono (below_new w26 _).size)).mono HB.out.size))
  clear hb27
  go_wp2_with fail
  go_ret
  exact ⟨rfl, HB.out⟩
set_option maxRecDepth 100000 in
set_option maxHeartbeats 4000000 in
theorem lvalid_calls {a b : List Int} {v v' : Value} (w : World) (h : SI a w v) (h' : SI b w v') : Calls Try.prog 29 #[v, v'] w fun e w' => e = .returned (.bool (vs a && vs b)) ∧ Below w.heap.size w w' := by
  obtain ⟨A, n, c, rfl, h⟩ := h
  obtain ⟨A2, n2, c2, rfl, h'⟩ := h'
  have H2 := Lib.hid h'
  have HC := Lib.hid (rvalid_calls w h)
  clear h h'
  go_enter Try.func29, Try.ntmps29
  go_wp2_with fail
  refine HC.out.mono ?_
  rintro e w1 ⟨rfl, hb1⟩
  have HC2 := Lib.hid (rvalid_calls w1 (vk.isI_below H2.out hb1))
  have HB1 := Lib.hid hb1
  clear hb1
  cases hv : vs a with
  | false =>
    have HV : Hid (vs a = false) := hv
    clear hv
    go_wp2_with fail
    go_ret
    exact ⟨by rw [HV.out]; rfl, HB1.out⟩
  | true =>
    have HV : Hid (vs a = true) := hv
    clear hv
    go_wp2_with fail
    refine HC2.out.mono ?_
    rintro e w2 ⟨rfl, hb2⟩
    have HB2 := Lib.hid (HB1.out.trans (hb2.mono HB1.out.size))
    clear hb2
    go_wp2_with fail
    go_ret
    exact ⟨by rw [HV.out]; rfl, HB2.out⟩
end Go.Proofs.Ytieipbobijnmlaa.tk
/- Sets put together, with what the result is. -/
namespace Go.Proofs.Ytieipbobijnmlaa.tk

open Go.ChangeShapes Go.WideShapes Go.ChangeAt Go.RowKit

open Go.Proofs.Ytieipbobijnmlaa.tq Go.Proofs.Ytieipbobijnmlaa.vk Go.Proofs.Ytieipbobijnmlaa.wk

set_option linter.unusedVariables false
attribute [local go_sem] Oper.semAt_some
theorem gAnd {a b : List Int} {v v' : Value} (w : World) (h : SI a w v) (h' : SI b w v') (ha : Ok a) (hb : Ok b) : Calls Try.prog 30 #[v, v'] w fun e w' => ∃ v' D, e = .returned v' ∧ SI D w' v' ∧ Ok D ∧ (∀ x, has D x = (fun p q => p && q) (has a x) (has b x)) ∧ Below w.heap.size w w' := by
  obtain ⟨A, n, c, rfl, h⟩ := h
  obtain ⟨A2, n2, c2, rfl, h'⟩ := h'
  refine (and_calls w h h' ha hb).mono ?_
  rintro e' w' ⟨A', n', c', rfl, ⟨D, hd, ho, hx⟩, hb⟩
  exact ⟨_, D, rfl, ⟨_, _, _, rfl, hd⟩, ho, hx, hb⟩
theorem gOr {a b : List Int} {v v' : Value} (w : World) (h : SI a w v) (h' : SI b w v') (ha : Ok a) (hb : Ok b) : Calls Try.prog 32 #[v, v'] w fun e w' => ∃ v' D, e = .returned v' ∧ SI D w' v' ∧ Ok D ∧ (∀ x, has D x = (fun p q => p || q) (has a x) (has b x)) ∧ Below w.heap.size w w' := by
  obtain ⟨A, n, c, rfl, h⟩ := h
  obtain ⟨A2, n2, c2, rfl, h'⟩ := h'
  refine (or_calls w h h' ha hb).mono ?_
  rintro e' w' ⟨A', n', c', rfl, ⟨D, hd, ho, hx⟩, hb⟩
  exact ⟨_, D, rfl, ⟨_, _, _, rfl, hd⟩, ho, hx, hb⟩
theorem gMinus {a b : List Int} {v v' : Value} (w : World) (h : SI a w v) (h' : SI b w v') (ha : Ok a) (hb : Ok b) : Calls Try.prog 34 #[v, v'] w fun e w' => ∃ v' D, e = .returned v' ∧ SI D w' v' ∧ Ok D ∧ (∀ x, has D x = (fun p q => p && !q) (has a x) (has b x)) ∧ Below w.heap.size w w' := by
  obtain ⟨A, n, c, rfl, h⟩ := h
  obtain ⟨A2, n2, c2, rfl, h'⟩ := h'
  refine (minus_calls w h h' ha hb).mono ?_
  rintro e' w' ⟨A', n', c', rfl, ⟨D, hd, ho, hx⟩, hb⟩
  exact ⟨_, D, rfl, ⟨_, _, _, rfl, hd⟩, ho, hx, hb⟩
def N (b : List Int) : Int := ((slots b).length : Int)
theorem N_eq {b : List Int} (h : Ok b) : N b = (((rng 0 4096).countP (has b) : Nat) : Int) := by
  unfold N; rw [slots_eq h, List.countP_eq_length_filter]
theorem N_bd {b : List Int} (h : Ok b) : 0 ≤ N b ∧ N b ≤ 4096 := by
  have := slots_len h
  unfold N; omega
theorem two_counts (p q : Int → Bool) : ∀ R : List Int, R.countP (fun x => p x || q x) + R.countP (fun x => p x && q x) = R.countP p + R.countP q ∧ R.countP (fun x => p x && !q x) + R.countP (fun x => p x && q x) = R.countP p
  | [] => ⟨rfl, rfl⟩
  | x :: R => by
    have h := two_counts p q R
    simp only [List.countP_cons]
    cases p x <;> cases q x <;> simp <;> omega
theorem N_or {a b d e : List Int} (ha : Ok a) (hb : Ok b) (hd : Ok d) (he : Ok e) (h1 : ∀ x, has d x = (has a x || has b x)) (h2 : ∀ x, has e x = (has a x && has b x)) : N d = N a + N b - N e := by
  have h := (two_counts (has a) (has b) (rng 0 4096)).1
  rw [N_eq ha, N_eq hb, N_eq hd, N_eq he, funext h1, funext h2]
  omega
theorem N_minus {a b d e : List Int} (ha : Ok a) (hd : Ok d) (he : Ok e) (h1 : ∀ x, has d x = (has a x && !has b x)) (h2 : ∀ x, has e x = (has a x && has b x)) : N d + N e = N a := by
  have h := (two_counts (has a) (has b) (rng 0 4096)).2
  rw [N_eq ha, N_eq hd, N_eq he, funext h1, funext h2]
  omega
end Go.Proofs.Ytieipbobijnmlaa.tk
