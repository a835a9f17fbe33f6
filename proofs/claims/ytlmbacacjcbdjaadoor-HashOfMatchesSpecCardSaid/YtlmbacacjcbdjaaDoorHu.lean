
import Derived.Test.YtlmbacacjcbdjaaDoorHr

import Derived.Test.YtlmbacacjcbdjaaDoorEnc

import Derived.Test.YtlmbacacjcbdjaaDoorKit7

import Derived.Test.YtlmbacacjcbdjaaDoorMem

namespace Go.Proofs.YtlmbacacjcbdjaaDoor.hi

open Go.ChangeShapes Go.WideShapes Go.ChangeAt Go.RowKit

set_option linter.unusedVariables false

theorem info55x : (Tryd.prog.info? 31).map (·.size) = some 16 := by kernel_rfl
def tagB (n : Int) : UInt8 := UInt8.ofNat (n % 256).toNat
theorem tagB_eq (n : Int) : IntKind.u8.wrap n = ((tagB n).toNat : Int) := by
  unfold tagB
  rw [IntKind.wrap_u8, UInt8.toNat_ofNat']
  omega
def fr1 (a0 : Act) (x5 x10 x11 x12 x13 x14 x15 : Value) : Act := { a0 with tmps := ((((((a0.tmps.setIfInBounds 5 x5).setIfInBounds 10 x10).setIfInBounds 11 x11).setIfInBounds 12 x12).setIfInBounds 13 x13).setIfInBounds 14 x14).setIfInBounds 15 x15 }
structure I1 (tag : Int) (w0 : World) (L : Nat → Bool) (x5 x10 x11 x12 x13 x14 x15 : Value) (g3 g6 : Nat) (old : Array Value) (w : World) : Prop where
  below : Below w0.heap.size w0 w
  c0 : L 0 = true → x10 = strV (hs.H0, []) 0
  c1 : L 1 = true → x11 = .int .i64 tag
  c2 : L 2 = true → x12 = .int .u8 ((tagB tag).toNat : Int)
  c3 : L 3 = true → x13 = .slice (some ⟨g3, 0, none⟩) 1 1
  r3 : L 3 = true → L 4 = false → wp.RB w (some ⟨g3, 0, none⟩) [tagB tag]
  k3 : L 3 = true → w0.heap.size ≤ g3
  c4 : L 4 = true → x14 = .string ⟨#[tagB tag]⟩
  c5 : L 5 = true → x15 = strV (hs.feed (hs.H0, []) [tagB tag]) 1
  c6 : L 6 = true → x5 = .pointer (some ⟨g6, 0, none⟩)
  k6 : L 6 = true → w0.heap.size ≤ g6
  r6 : L 6 = true → w.heap[g6]? = some (.cells old 101 (0, 0))
  z6 : L 6 = true → old.size = 73
  c7 : L 7 = true → old = (stC (hs.feed (hs.H0, []) [tagB tag]).1 (hs.blk (hs.feed (hs.H0, []) [tagB tag]).2) 1).toArray
  o5 : L 5 = true → L 4 = true
  o7 : L 7 = true → L 6 = true
def Inv1 (tag : Int) (a0 : Act) (w0 : World) (L : Nat → Bool) (a : Act) (w : World) : Prop := ∃ x5 x10 x11 x12 x13 x14 x15 g3 g6 old, a = fr1 a0 x5 x10 x11 x12 x13 x14 x15 ∧ I1 tag w0 L x5 x10 x11 x12 x13 x14 x15 g3 g6 old w
theorem I1.moved {tag : Int} {w0 : World} {L : Nat → Bool} {x5 x10 x11 x12 x13 x14 x15 : Value} {g3 g6 : Nat} {old : Array Value} {w w' : World} (h : I1 tag w0 L x5 x10 x11 x12 x13 x14 x15 g3 g6 old w) (hb : Below w.heap.size w w') : I1 tag w0 L x5 x10 x11 x12 x13 x14 x15 g3 g6 old w' :=
  ⟨h.below.trans (hb.mono h.below.size), h.c0, h.c1, h.c2, h.c3, fun h3 h4 => wk.RB.below (h.r3 h3 h4) hb, h.k3, h.c4, h.c5, h.c6, h.k6, fun h6 => wk.row_below (h.r6 h6) hb, h.z6, h.c7, h.o5, h.o7⟩

def fr2 (a0 : Act) (x22 x23 x24 x25 x26 : Value) : Act := { a0 with tmps := ((((a0.tmps.setIfInBounds 22 x22).setIfInBounds 23 x23).setIfInBounds 24 x24).setIfInBounds 25 x25).setIfInBounds 26 x26 }
def rowS (w : World) (g : Nat) (st : hs.S8 × List UInt8) (m : Nat) : Prop := w.heap[g]? = some (.cells (stC st.1 (hs.blk st.2) (m : Int)).toArray 101 (0, 0))
/-- what a round of Of's loop starts from -/
structure Ctx2 where
  wI : World
  g : Nat
  st : hs.S8 × List UInt8
  m : Nat
  s : ByteArray
structure I2 (C : Ctx2) (w0 : World) (L : Nat → Bool) (x22 x23 x24 x25 x26 : Value) (A : Option Addr) (n c : Nat) (w : World) : Prop where
  bel : Below C.wI.heap.size C.wI w
  oth : ∀ k, k < w0.heap.size → k ≠ C.g → w.heap[k]? = w0.heap[k]?
  siz : w0.heap.size ≤ w.heap.size
  r6 : L 5 = false → rowS w C.g C.st C.m
  c0 : L 0 = true → x22 = strV C.st (C.m : Int)
  c1 : L 1 = true → x23 = .string C.s
  c2 : L 2 = true → x24 = .slice A n c
  r2 : L 2 = true → L 3 = false → wp.RB w A (wp.encB C.s.data.toList)
  n2 : L 2 = true → (wp.encB C.s.data.toList).length = n
  c3 : L 3 = true → x25 = .string ⟨(wp.encB C.s.data.toList).toArray⟩
  c4 : L 4 = true → x26 = strV (hs.feed C.st (wp.encB C.s.data.toList)) ((C.m + (wp.encB C.s.data.toList).length : Nat) : Int)
  c5 : L 5 = true → rowS w C.g (hs.feed C.st (wp.encB C.s.data.toList)) (C.m + (wp.encB C.s.data.toList).length)
  o4 : L 4 = true → L 3 = true
  o40 : L 4 = true → L 0 = true
  o54 : L 5 = true → L 4 = true
  gI : C.wI.heap.size ≤ C.g
def Inv2 (C : Ctx2) (a0 : Act) (w0 : World) (L : Nat → Bool) (a : Act) (w : World) : Prop := ∃ x22 x23 x24 x25 x26 A n c, a = fr2 a0 x22 x23 x24 x25 x26 ∧ I2 C w0 L x22 x23 x24 x25 x26 A n c w
theorem I2.moved {C : Ctx2} {w0 : World} {L : Nat → Bool} {x22 x23 x24 x25 x26 : Value} {A : Option Addr} {n c : Nat} {w w' : World} (h : I2 C w0 L x22 x23 x24 x25 x26 A n c w) (hb : Below w.heap.size w w') : I2 C w0 L x22 x23 x24 x25 x26 A n c w' :=
  ⟨h.bel.trans (hb.mono h.bel.size), fun k hk hg => (hb.block k (Nat.lt_of_lt_of_le hk h.siz)).trans (h.oth k hk hg), Nat.le_trans h.siz hb.size, fun h5 => wk.row_below (h.r6 h5) hb, h.c0, h.c1, h.c2, fun h2 h3 => wk.RB.below (h.r2 h2 h3) hb, h.n2, h.c3, h.c4, fun h5 => wk.row_below (h.c5 h5) hb, h.o4, h.o40, h.o54, h.gI⟩

set_option maxRecDepth 100000 in
set_option maxHeartbeats 2000000 in
theorem of_calls (tag : Int) (A : Option Addr) (n c : Nat) (l : List ByteArray) (w : World) (hn : l.length = n) (hnc : n ≤ c) (hc : c ≤ 9223372036854775807) (hl : wp.RC w A (l.map Value.string)) (htag : -9223372036854775808 ≤ tag ∧ tag ≤ 9223372036854775807)
    (htot : 1 + (l.flatMap fun s => wp.encB s.data.toList).length ≤ 140737488355318) (hT : TabK w) :
    Calls Tryd.prog 35 #[.int .i64 tag, .slice A n c] w fun e w' => e = .returned (.agg (wp.bc ((hs.sha (tagB tag :: l.flatMap fun s => wp.encB s.data.toList)).take 16)).toArray) ∧ Below w.heap.size w w' := by
  have HT := Lib.hid hT
  clear hT
  go_enter Tryd.func35, Tryd.ntmps35
  go_upto_region 1 with fail
  have HB0 : Hid (Below w.heap.size w (w.alloc (.cells #[.int .u8 0, .int .u8 0, .int .u8 0, .int .u8 0, .int .u8 0, .int .u8 0, .int .u8 0, .int .u8 0, .int .u8 0, .int .u8 0, .int .u8 0, .int .u8 0, .int .u8 0, .int .u8 0, .int .u8 0, .int .u8 0] 31)).drew) := ((Below.refl _ _).alloc (Nat.le_refl _) _).drew
  refine wk.region_inv (Inv1 tag) (by kernel_rfl) (by kernel_rfl) ?h0 ?hstep ?hdone
  case h0 => exact ⟨undef, undef, undef, undef, undef, undef, undef, 0, 0, #[], by simp only [fr1, List.setIfInBounds_toArray, List.set_cons_zero, List.set_cons_succ], Below.refl _ _, by simp, by simp, by simp, by simp, by simp, by simp, by simp, by simp, by simp, by simp, by simp, by simp, by simp, by simp, by simp⟩
  case hstep =>
    intro L a w1 hI i o ho hLi hdep
    obtain ⟨x5, x10, x11, x12, x13, x14, x15, g3, g6, old, rfl, h⟩ := hI
    have hi : i < 8 := (Array.getElem?_eq_some_iff.1 ho).1
    have hi8 : i = 0 ∨ i = 1 ∨ i = 2 ∨ i = 3 ∨ i = 4 ∨ i = 5 ∨ i = 6 ∨ i = 7 := by omega
    rcases hi8 with rfl | rfl | rfl | rfl | rfl | rfl | rfl | rfl
    ·
      have ho2 := (Array.getElem?_eq_some_iff.1 ho).2
      simp only [List.getElem_toArray, List.getElem_cons_zero] at ho2
      subst ho2
      refine wk.op_step ho rfl fun K hK => ?_
      have HK := Lib.hid hK
      have H := Lib.hid h
      clear hK hdep ho h
      go_simp
      refine (begin_calls _).mono ?_
      rintro e w2 ⟨rfl, hb2⟩
      have h := H.out.moved hb2
      exact HK.out _ _ ⟨x5, strV (hs.H0, []) 0, x11, x12, x13, x14, x15, g3, g6, old, by simp only [fr1, List.setIfInBounds_toArray, List.set_cons_zero, List.set_cons_succ], h.below, fun _ => rfl, h.c1, h.c2, h.c3, h.r3, h.k3, h.c4, h.c5, h.c6, h.k6, h.r6, h.z6, h.c7, h.o5, h.o7⟩
    ·
      have ho2 := (Array.getElem?_eq_some_iff.1 ho).2
      simp only [List.getElem_toArray, List.getElem_cons_succ, List.getElem_cons_zero] at ho2
      subst ho2
      refine wk.op_step ho rfl fun K hK => ?_
      have HK := Lib.hid hK
      have H := Lib.hid h
      clear hK hdep ho h
      simp only [fr1, List.setIfInBounds_toArray, List.set_cons_zero, List.set_cons_succ]
      go_simp
      have h := H.out
      exact HK.out _ _ ⟨x5, x10, .int .i64 tag, x12, x13, x14, x15, g3, g6, old, by simp only [fr1, List.setIfInBounds_toArray, List.set_cons_zero, List.set_cons_succ], h.below, h.c0, fun _ => rfl, h.c2, h.c3, h.r3, h.k3, h.c4, h.c5, h.c6, h.k6, h.r6, h.z6, h.c7, h.o5, h.o7⟩
    ·
      have ho2 := (Array.getElem?_eq_some_iff.1 ho).2
      simp only [List.getElem_toArray, List.getElem_cons_succ, List.getElem_cons_zero] at ho2
      subst ho2
      have d1 : L 1 = true := hdep { on := 1, ground := .data } (by simp) rfl
      refine wk.op_step ho rfl fun K hK => ?_
      have HK := Lib.hid hK
      have H := Lib.hid h
      clear hK hdep ho h
      have h := H.out
      have e := h.c1 d1
      subst e
      simp only [fr1, List.setIfInBounds_toArray, List.set_cons_zero, List.set_cons_succ]
      clear h
      go_simp
      have h := H.out
      exact HK.out _ _ ⟨x5, x10, .int .i64 tag, .int .u8 (IntKind.u8.wrap tag), x13, x14, x15, g3, g6, old, by simp only [fr1, List.setIfInBounds_toArray, List.set_cons_zero, List.set_cons_succ], h.below, h.c0, fun _ => rfl, fun _ => by rw [tagB_eq], h.c3, h.r3, h.k3, h.c4, h.c5, h.c6, h.k6, h.r6, h.z6, h.c7, h.o5, h.o7⟩
    ·
      have ho2 := (Array.getElem?_eq_some_iff.1 ho).2
      simp only [List.getElem_toArray, List.getElem_cons_succ, List.getElem_cons_zero] at ho2
      subst ho2
      have d2 : L 2 = true := hdep { on := 2, ground := .data } (by simp) rfl
      refine wk.op_step ho rfl fun K hK => ?_
      have HK := Lib.hid hK
      have H := Lib.hid h
      clear hK hdep ho h
      have h := H.out
      have e := h.c2 d2
      subst e
      simp only [fr1, List.setIfInBounds_toArray, List.set_cons_zero, List.set_cons_succ]
      clear h
      go_simp
      have h := H.out.moved ((Below.refl _ _).alloc (Nat.le_refl _) (.cells #[.int .u8 ((tagB tag).toNat : Int)] 5))
      exact HK.out _ _ ⟨x5, x10, x11, .int .u8 ((tagB tag).toNat : Int), .slice (some ⟨w1.heap.size, 0, none⟩) 1 1, x14, x15, w1.heap.size, g6, old, by simp only [fr1, List.setIfInBounds_toArray, List.set_cons_zero, List.set_cons_succ], h.below, h.c0, h.c1, fun _ => rfl, fun _ => rfl, fun _ _ => wi.RB_new rfl [tagB tag] _ rfl, fun _ => H.out.below.size, h.c4, h.c5, h.c6, h.k6, h.r6, h.z6, h.c7, h.o5, h.o7⟩
    ·
      have ho2 := (Array.getElem?_eq_some_iff.1 ho).2
      simp only [List.getElem_toArray, List.getElem_cons_succ, List.getElem_cons_zero] at ho2
      subst ho2
      have d3 : L 3 = true := hdep { on := 3, ground := .data } (by simp) rfl
      refine wk.op_step ho rfl fun K hK => ?_
      have HK := Lib.hid hK
      have H := Lib.hid h
      clear hK hdep ho h
      have h := H.out
      have e := h.c3 d3
      have hr := h.r3 d3 hLi
      subst e
      simp only [fr1, List.setIfInBounds_toArray, List.set_cons_zero, List.set_cons_succ]
      have hconv := wk.conv_str w1 77 5 9 Tryd.underlying77 Tryd.underlying5 Tryd.underlying9 (some ⟨g3, 0, none⟩) 1 1 [tagB tag] rfl hr
      clear h hr
      go_simp
      have h := H.out
      exact HK.out _ _ ⟨x5, x10, x11, x12, .slice (some ⟨g3, 0, none⟩) 1 1, .string ⟨#[tagB tag]⟩, x15, g3, g6, old, by simp only [fr1, List.setIfInBounds_toArray, List.set_cons_zero, List.set_cons_succ], h.below, h.c0, h.c1, h.c2, fun _ => rfl, fun _ h4 => absurd h4 (by simp), h.k3, fun _ => rfl, h.c5, h.c6, h.k6, h.r6, h.z6, h.c7, fun _ => rfl, h.o7⟩
    ·
      have ho2 := (Array.getElem?_eq_some_iff.1 ho).2
      simp only [List.getElem_toArray, List.getElem_cons_succ, List.getElem_cons_zero] at ho2
      subst ho2
      have d0 : L 0 = true := hdep { on := 0, ground := .data } (by simp) rfl
      have d4 : L 4 = true := hdep { on := 4, ground := .data } (by simp) rfl
      refine wk.op_step ho rfl fun K hK => ?_
      have HK := Lib.hid hK
      have H := Lib.hid h
      clear hK hdep ho h
      have h := H.out
      have e := h.c0 d0
      subst e
      have e := h.c4 d4
      subst e
      have hA := add_calls (hs.H0, []) 0 ⟨#[tagB tag]⟩ w1 str_begin (by show 0 + 1 ≤ _; omega) (HT.out.below HT.out.1 (HB0.out.trans (h.below.mono HB0.out.size)))
      have HA : Hid (Calls Tryd.prog 64 #[strV (hs.H0, []) 0, .string ⟨#[tagB tag]⟩] w1 fun e w' => e = .returned (strV (hs.feed (hs.H0, []) [tagB tag]) 1) ∧ Below w1.heap.size w1 w') := hA
      clear h hA
      simp only [fr1, List.setIfInBounds_toArray, List.set_cons_zero, List.set_cons_succ]
      go_simp
      refine HA.out.mono ?_
      rintro e w2 ⟨rfl, hb2⟩
      have h := H.out.moved hb2
      exact HK.out _ _ ⟨x5, strV (hs.H0, []) 0, x11, x12, x13, .string ⟨#[tagB tag]⟩, strV (hs.feed (hs.H0, []) [tagB tag]) 1, g3, g6, old, by simp only [fr1, List.setIfInBounds_toArray, List.set_cons_zero, List.set_cons_succ], h.below, fun _ => rfl, h.c1, h.c2, h.c3, h.r3, h.k3, fun _ => rfl, fun _ => rfl, h.c6, h.k6, h.r6, h.z6, h.c7, fun _ => d4, h.o7⟩
    ·
      have ho2 := (Array.getElem?_eq_some_iff.1 ho).2
      simp only [List.getElem_toArray, List.getElem_cons_succ, List.getElem_cons_zero] at ho2
      subst ho2
      refine wk.op_step ho rfl fun K hK => ?_
      have HK := Lib.hid hK
      have H := Lib.hid h
      clear hK hdep ho h
      simp only [fr1, List.setIfInBounds_toArray, List.set_cons_zero, List.set_cons_succ]
      go_simp
      have h := H.out.moved ((Below.refl _ _).alloc (Nat.le_refl _) (.cells Tryd.zeroCells101 101))
      refine HK.out _ _ ⟨.pointer (some ⟨w1.heap.size, 0, none⟩), x10, x11, x12, x13, x14, x15, g3, w1.heap.size, Tryd.zeroCells101, by simp only [fr1, List.setIfInBounds_toArray, List.set_cons_zero, List.set_cons_succ], h.below, h.c0, h.c1, h.c2, h.c3, h.r3, h.k3, h.c4, h.c5, fun _ => rfl, fun _ => H.out.below.size, fun _ => heap_alloc_new _ _, fun _ => rfl, fun h7 => ?_, h.o5, fun _ => rfl⟩
      have := H.out.o7 h7
      rw [hLi] at this
      cases this
    ·
      have ho2 := (Array.getElem?_eq_some_iff.1 ho).2
      simp only [List.getElem_toArray, List.getElem_cons_succ, List.getElem_cons_zero] at ho2
      subst ho2
      have d5 : L 5 = true := hdep { on := 5, ground := .data } (by simp) rfl
      have d6 : L 6 = true := hdep { on := 6, ground := .data } (by simp) rfl
      refine wk.op_step ho rfl fun K hK => ?_
      have HK := Lib.hid hK
      have H := Lib.hid h
      clear hK hdep ho h
      have h := H.out
      have e := h.c5 d5
      subst e
      have e := h.c6 d6
      subst e
      have hr6 := h.r6 d6
      have hz6 := h.z6 d6
      clear h
      simp only [fr1, List.setIfInBounds_toArray, List.set_cons_zero, List.set_cons_succ]
      refine wp_store_row 101 (.tmp 5) (.tmp 15) rfl g6 (stC (hs.feed (hs.H0, []) [tagB tag]).1 (hs.blk (hs.feed (hs.H0, []) [tagB tag]).2) 1).toArray rfl rfl 101 old hr6 (size_toA size73 (stC_length rfl)) (by rw [hz6]; rfl) (Array.all_eq_true_iff_forall_mem.2 fun u hu => stC_ones _ _ _ u (by simpa using hu)) ?_
      have h := H.out
      refine HK.out _ _ ⟨.pointer (some ⟨g6, 0, none⟩), x10, x11, x12, x13, x14, strV (hs.feed (hs.H0, []) [tagB tag]) 1, g3, g6, (stC (hs.feed (hs.H0, []) [tagB tag]).1 (hs.blk (hs.feed (hs.H0, []) [tagB tag]).2) 1).toArray, by simp only [fr1, Act.put, List.setIfInBounds_toArray, List.set_cons_zero, List.set_cons_succ], wk.below_setRow h.below (h.k6 d6) _, h.c0, h.c1, h.c2, h.c3, fun h3 h4 => ?_, h.k3, h.c4, fun _ => rfl, fun _ => rfl, h.k6, fun _ => setRow_heap _ _ _ _ _ _ (h.r6 d6), fun _ => rfl, fun _ => rfl, h.o5, fun _ => d6⟩
      have h5 := h.o5 d5
      have h4' : L 4 = false := h4
      rw [h5] at h4'
      cases h4'
  case hdone =>
    intro L a w1 hL hI
    obtain ⟨x5, x10, x11, x12, x13, x14, x15, g3, g6, old, rfl, h⟩ := hI
    have e6 := h.c6 (hL 6 (by decide))
    have e7 := h.c7 (hL 7 (by decide))
    have r6 := h.r6 (hL 6 (by decide))
    have k6 := h.k6 (hL 6 (by decide))
    have hbz := h.below
    rw [e7] at r6
    subst e6
    clear h e7 hL
    have hdg : w1.heap[w.heap.size]? = some (.cells #[.int .u8 0, .int .u8 0, .int .u8 0, .int .u8 0, .int .u8 0, .int .u8 0, .int .u8 0, .int .u8 0, .int .u8 0, .int .u8 0, .int .u8 0, .int .u8 0, .int .u8 0, .int .u8 0, .int .u8 0, .int .u8 0] 31 (0, 0)) := by
      refine (hbz.block _ (by simp)).trans ?_
      exact heap_alloc_new w _
    have hbw := HB0.out.trans (hbz.mono HB0.out.size)
    have k6' : w.heap.size + 1 ≤ g6 := by have h : (w.alloc (.cells #[.int .u8 0, .int .u8 0, .int .u8 0, .int .u8 0, .int .u8 0, .int .u8 0, .int .u8 0, .int .u8 0, .int .u8 0, .int .u8 0, .int .u8 0, .int .u8 0, .int .u8 0, .int .u8 0, .int .u8 0, .int .u8 0] 31)).drew.heap.size = w.heap.size + 1 := by simp
                                          rw [h] at k6; exact k6
    clear hbz k6 HB0
    generalize hB : w.heap.size = B at *
    have HB := Lib.hid hB
    clear hB
    simp only [fr1, List.setIfInBounds_toArray, List.set_cons_zero, List.set_cons_succ]
    have R6 := Lib.hid r6
    have RD := Lib.hid hdg
    have RB := Lib.hid hbw
    clear r6 hdg hbw
    go_wp2_with fail
    have HL := Lib.hid hl
    have HN := Lib.hid hn
    have HTOT := Lib.hid htot
    clear hl hn htot
    go_loopg [18] n (fun g x wr => ∃ k : Nat, k + g = n ∧ x = .int .i64 (k : Int) ∧ rowS wr g6 (hs.feed (hs.H0, []) (tagB tag :: (l.take k).flatMap fun s => wp.encB s.data.toList)) (1 + ((l.take k).flatMap fun s => wp.encB s.data.toList).length) ∧ wr.heap[B]? = some (.cells #[.int .u8 0, .int .u8 0, .int .u8 0, .int .u8 0, .int .u8 0, .int .u8 0, .int .u8 0, .int .u8 0, .int .u8 0, .int .u8 0, .int .u8 0, .int .u8 0, .int .u8 0, .int .u8 0, .int .u8 0, .int .u8 0] 31 (0, 0)) ∧ Below B w wr)
    case atStart => exact ⟨0, by omega, rfl, R6.out, RD.out, RB.out⟩
    case round =>
      obtain ⟨k, hk, rfl, hrow, hdg, hbel⟩ := hrel
      have HK0 := Lib.hid hk
      have R6 := Lib.hid hrow
      have RD := Lib.hid hdg
      have RB := Lib.hid hbel
      have hkn : k ≤ n := by omega
      clear hrow hdg hbel hk
      by_cases hlt : k < n
      · have hkl : k < l.length := by have := HN.out; omega
        have hlk : l[k]? = some l[k] := List.getElem?_eq_getElem hkl
        obtain ⟨b, o, rfl, hbw, hcell⟩ := HL.out (by simp; omega)
        have hck : wr.cell? ⟨b, o + k, none⟩ = some (.string l[k]) := by
          rw [RB.out.cell (p := ⟨b, o + k, none⟩) (by rw [← HB.out]; exact hbw)]
          exact hcell k _ (by simp [hlk])
        have HS := Lib.hid (wp.flat_snoc (fun s => wp.encB s.data.toList) hlk)
        have HLE := Lib.hid (wp.flat_le (fun s => wp.encB s.data.toList) l (k + 1))
        have HSTR : Hid (Str (hs.feed (hs.H0, []) (tagB tag :: (l.take k).flatMap fun s => wp.encB s.data.toList)) (1 + ((l.take k).flatMap fun s => wp.encB s.data.toList).length)) := by
          have := str_begin.feed (tagB tag :: (l.take k).flatMap fun s => wp.encB s.data.toList)
          rw [List.length_cons, Nat.add_comm _ 1, Nat.zero_add] at this
          exact this
        clear hcell hlk
        generalize l[k] = s at *
        generalize hP : (l.take k).flatMap (fun s => wp.encB s.data.toList) = Pk at *
        have HP := Lib.hid hP
        clear hP
        generalize hst : hs.feed (hs.H0, []) (tagB tag :: Pk) = st at *
        have HST := Lib.hid hst
        clear hst
        have HM : Hid (1 + Pk.length + (wp.encB s.data.toList).length ≤ 140737488355318) := by
          have h1 := HLE.out
          rw [HS.out, List.length_append] at h1
          have h2 := HTOT.out
          show _ ≤ _; omega
        go_upto_region 5 with fail
        obtain ⟨C, hC⟩ : ∃ C : Ctx2, C = ⟨w, g6, st, 1 + Pk.length, s⟩ := ⟨_, rfl⟩
        have HCG : Hid (C.g = g6) := by rw [hC]; rfl
        have HCS : Hid (C.s = s) := by rw [hC]; rfl
        have HCT : Hid (Str C.st C.m) := by rw [hC]; exact HSTR.out
        have HCI : Hid (C.wI = w) := by rw [hC]; rfl
        have HCM : Hid (C.m + (wp.encB C.s.data.toList).length ≤ 140737488355318) := by rw [hC]; exact HM.out
        have HBK : Hid ((hs.blk C.st.2).length = 64) := hs.blk_length (by have := HCT.out.lt; omega)
        have HBK2 : Hid ((hs.blk (hs.feed C.st (wp.encB C.s.data.toList)).2).length = 64) := hs.blk_length (by have := (HCT.out.feed (wp.encB C.s.data.toList)).lt; omega)
        have HSZ : Hid (s.size ≤ 140737488355318) := by
          have h1 := HM.out
          rw [wp.encB_eq, List.length_append] at h1
          have h2 : s.data.toList.length = s.size := by rw [Array.length_toList]; rfl
          show _ ≤ _; omega
        have HC := Lib.hid hC
        clear hC
        refine wk.region_inv (Inv2 C) (by kernel_rfl) (by kernel_rfl) ?g0 ?gstep ?gdone
        case g0 =>
          have hC := HC.out
          clear HC HCG HCS HCT HCI HCM HBK HBK2
          subst hC
          exact ⟨u22, u23, u24, u25, u26, none, 0, 0, by simp only [fr2, List.setIfInBounds_toArray, List.set_cons_zero, List.set_cons_succ], by rw [HB.out]; exact RB.out.drew, fun _ _ _ => rfl, Nat.le_refl _, fun _ => R6.out, by simp, by simp, by simp, by simp, by simp, by simp, by simp, by simp, by simp, by simp, by simp, by show w.heap.size ≤ g6; rw [HB.out]; omega⟩
        case gstep =>
          intro L a w1 hI i o ho hLi hdep
          obtain ⟨x22, x23, x24, x25, x26, A2, n2, c2, rfl, h⟩ := hI
          have hi : i < 6 := (Array.getElem?_eq_some_iff.1 ho).1
          have hi8 : i = 0 ∨ i = 1 ∨ i = 2 ∨ i = 3 ∨ i = 4 ∨ i = 5 := by omega
          rcases hi8 with rfl | rfl | rfl | rfl | rfl | rfl
          ·
            have ho2 := (Array.getElem?_eq_some_iff.1 ho).2
            simp only [List.getElem_toArray, List.getElem_cons_zero] at ho2
            subst ho2
            refine wk.op_step ho rfl fun K hK => ?_
            have HK := Lib.hid hK
            have H := Lib.hid h
            clear hK hdep ho h
            simp only [fr2, List.setIfInBounds_toArray, List.set_cons_zero, List.set_cons_succ]
            have hL5 : L 5 = false := by
              cases h5 : L 5 with
              | false => rfl
              | true => exact absurd (H.out.o40 (H.out.o54 h5)) (by rw [hLi]; simp)
            have hg := H.out.r6 hL5
            unfold rowS at hg
            have hz := size_toA size73 (stC_length (v := C.st.1) (n := (C.m : Int)) HBK.out)
            refine wp_load_row 101 (.tmp 5) rfl g6 rfl 101 (stC C.st.1 (hs.blk C.st.2) (C.m : Int)).toArray (0, 0) _ (by rw [HCG.out] at hg; exact hg) Tryd.underlying101 rfl hz ?_
            have h := H.out
            exact HK.out _ _ ⟨.agg (stC C.st.1 (hs.blk C.st.2) (C.m : Int)).toArray, x23, x24, x25, x26, A2, n2, c2, by simp only [fr2, Act.put, List.setIfInBounds_toArray, List.set_cons_zero, List.set_cons_succ], h.bel, h.oth, h.siz, h.r6, fun _ => rfl, h.c1, h.c2, h.r2, h.n2, h.c3, h.c4, h.c5, h.o4, fun _ => rfl, h.o54, h.gI⟩
          ·
            have ho2 := (Array.getElem?_eq_some_iff.1 ho).2
            simp only [List.getElem_toArray, List.getElem_cons_succ, List.getElem_cons_zero] at ho2
            subst ho2
            refine wk.op_step ho rfl fun K hK => ?_
            have HK := Lib.hid hK
            have H := Lib.hid h
            clear hK hdep ho h
            simp only [fr2, List.setIfInBounds_toArray, List.set_cons_zero, List.set_cons_succ]
            go_simp
            have h := H.out
            exact HK.out _ _ ⟨x22, .string s, x24, x25, x26, A2, n2, c2, by simp only [fr2, List.setIfInBounds_toArray, List.set_cons_zero, List.set_cons_succ], h.bel, h.oth, h.siz, h.r6, h.c0, fun _ => by rw [HCS.out], h.c2, h.r2, h.n2, h.c3, h.c4, h.c5, h.o4, h.o40, h.o54, h.gI⟩
          ·
            have ho2 := (Array.getElem?_eq_some_iff.1 ho).2
            simp only [List.getElem_toArray, List.getElem_cons_succ, List.getElem_cons_zero] at ho2
            subst ho2
            have d1 : L 1 = true := hdep { on := 1, ground := .data } (by simp) rfl
            refine wk.op_step ho rfl fun K hK => ?_
            have HK := Lib.hid hK
            have H := Lib.hid h
            clear hK hdep ho h
            have e := H.out.c1 d1
            rw [HCS.out] at e
            subst e
            simp only [fr2, List.setIfInBounds_toArray, List.set_cons_zero, List.set_cons_succ]
            go_simp
            refine (wi.bytes_out s w1 HSZ.out).mono ?_
            rintro e w2 ⟨v, rfl, hown, hb2⟩
            obtain ⟨A3, c3, rfl, hc31, hc32, hR⟩ := wp.RC.of_own hown
            have h := H.out.moved hb2
            exact HK.out _ _ ⟨x22, .string s, .slice A3 (wp.encB s.data.toList).length c3, x25, x26, A3, (wp.encB s.data.toList).length, c3, by simp only [fr2, List.setIfInBounds_toArray, List.set_cons_zero, List.set_cons_succ], h.bel, h.oth, h.siz, h.r6, h.c0, h.c1, fun _ => rfl, fun _ _ => by rw [HCS.out]; exact hR.rb, fun _ => by rw [HCS.out], h.c3, h.c4, h.c5, h.o4, h.o40, h.o54, h.gI⟩
          ·
            have ho2 := (Array.getElem?_eq_some_iff.1 ho).2
            simp only [List.getElem_toArray, List.getElem_cons_succ, List.getElem_cons_zero] at ho2
            subst ho2
            have d2 : L 2 = true := hdep { on := 2, ground := .data } (by simp) rfl
            refine wk.op_step ho rfl fun K hK => ?_
            have HK := Lib.hid hK
            have H := Lib.hid h
            clear hK hdep ho h
            have h := H.out
            have e := h.c2 d2
            have hr := h.r2 d2 hLi
            have hn2 := h.n2 d2
            subst e
            simp only [fr2, List.setIfInBounds_toArray, List.set_cons_zero, List.set_cons_succ]
            have hconv := wk.conv_str w1 77 5 9 Tryd.underlying77 Tryd.underlying5 Tryd.underlying9 A2 n2 c2 _ hn2 hr
            clear h hr hn2
            go_simp
            have h := H.out
            exact HK.out _ _ ⟨x22, x23, .slice A2 n2 c2, .string ⟨(wp.encB C.s.data.toList).toArray⟩, x26, A2, n2, c2, by simp only [fr2, List.setIfInBounds_toArray, List.set_cons_zero, List.set_cons_succ], h.bel, h.oth, h.siz, h.r6, h.c0, h.c1, fun _ => rfl, fun _ h3 => absurd h3 (by simp), h.n2, fun _ => rfl, h.c4, h.c5, fun _ => rfl, h.o40, h.o54, h.gI⟩
          ·
            have ho2 := (Array.getElem?_eq_some_iff.1 ho).2
            simp only [List.getElem_toArray, List.getElem_cons_succ, List.getElem_cons_zero] at ho2
            subst ho2
            have d0 : L 0 = true := hdep { on := 0, ground := .data } (by simp) rfl
            have d3 : L 3 = true := hdep { on := 3, ground := .data } (by simp) rfl
            refine wk.op_step ho rfl fun K hK => ?_
            have HK := Lib.hid hK
            have H := Lib.hid h
            clear hK hdep ho h
            have h := H.out
            have e := h.c0 d0
            subst e
            have e := h.c3 d3
            subst e
            have hA := add_calls C.st C.m ⟨(wp.encB C.s.data.toList).toArray⟩ w1 HCT.out (by show C.m + (wp.encB C.s.data.toList).toArray.size ≤ _; rw [List.size_toArray]; have := HCM.out; omega) (HT.out.below HT.out.1 (by have := h.bel; rw [HCI.out] at this; exact this))
            have HA : Hid (Calls Tryd.prog 64 #[strV C.st (C.m : Int), .string ⟨(wp.encB C.s.data.toList).toArray⟩] w1 fun e w' => e = .returned (strV (hs.feed C.st (wp.encB C.s.data.toList)) ((C.m + (wp.encB C.s.data.toList).length : Nat) : Int)) ∧ Below w1.heap.size w1 w') := hA
            clear h hA
            simp only [fr2, List.setIfInBounds_toArray, List.set_cons_zero, List.set_cons_succ]
            go_simp
            refine HA.out.mono ?_
            rintro e w2 ⟨rfl, hb2⟩
            have h := H.out.moved hb2
            exact HK.out _ _ ⟨strV C.st (C.m : Int), x23, x24, .string ⟨(wp.encB C.s.data.toList).toArray⟩, strV (hs.feed C.st (wp.encB C.s.data.toList)) ((C.m + (wp.encB C.s.data.toList).length : Nat) : Int), A2, n2, c2, by simp only [fr2, List.setIfInBounds_toArray, List.set_cons_zero, List.set_cons_succ], h.bel, h.oth, h.siz, h.r6, h.c0, h.c1, h.c2, h.r2, h.n2, h.c3, fun _ => rfl, h.c5, fun _ => d3, fun _ => d0, fun _ => rfl, h.gI⟩
          ·
            have ho2 := (Array.getElem?_eq_some_iff.1 ho).2
            simp only [List.getElem_toArray, List.getElem_cons_succ, List.getElem_cons_zero] at ho2
            subst ho2
            have d4 : L 4 = true := hdep { on := 4, ground := .data } (by simp) rfl
            refine wk.op_step ho rfl fun K hK => ?_
            have HK := Lib.hid hK
            have H := Lib.hid h
            clear hK hdep ho h
            have h := H.out
            have e := h.c4 d4
            subst e
            have hg := h.r6 hLi
            unfold rowS at hg
            rw [HCG.out] at hg
            clear h
            simp only [fr2, List.setIfInBounds_toArray, List.set_cons_zero, List.set_cons_succ]
            refine wp_store_row 101 (.tmp 5) (.tmp 26) rfl g6 (stC (hs.feed C.st (wp.encB C.s.data.toList)).1 (hs.blk (hs.feed C.st (wp.encB C.s.data.toList)).2) ((C.m + (wp.encB C.s.data.toList).length : Nat) : Int)).toArray rfl rfl 101 _ hg (size_toA size73 (stC_length HBK2.out)) (by rw [List.size_toArray, List.size_toArray, stC_length HBK.out, stC_length HBK2.out]) (Array.all_eq_true_iff_forall_mem.2 fun u hu => stC_ones _ _ _ u (by simpa using hu)) ?_
            have h := H.out
            refine HK.out _ _ ⟨x22, x23, x24, x25, strV (hs.feed C.st (wp.encB C.s.data.toList)) ((C.m + (wp.encB C.s.data.toList).length : Nat) : Int), A2, n2, c2, by simp only [fr2, Act.put, List.setIfInBounds_toArray, List.set_cons_zero, List.set_cons_succ], wk.below_setRow h.bel (by have := h.gI; rw [HCG.out] at this; exact this) _, fun k hk hg => ?_, by rw [size_setRow]; exact h.siz, fun h5 => absurd h5 (by simp), h.c0, h.c1, h.c2, fun h2 h3 => ?_, h.n2, h.c3, fun _ => rfl, fun _ => ?_, h.o4, h.o40, fun _ => d4, h.gI⟩
            · rw [setRow_other _ _ _ _ (by rw [HCG.out] at hg; exact hg)]; exact h.oth k hk hg
            · have h4 := h.o4 d4
              have h3' : L 3 = false := h3
              rw [h4] at h3'
              cases h3'
            · unfold rowS
              rw [HCG.out]
              exact setRow_heap _ _ _ _ _ _ hg
        case gdone =>
          intro L a w1 hL hI
          obtain ⟨x22, x23, x24, x25, x26, A2, n2, c2, rfl, h⟩ := hI
          have r6 := Lib.hid (h.c5 (hL 5 (by decide)))
          have rd : Hid (w1.heap[B]? = some (.cells #[.int .u8 0, .int .u8 0, .int .u8 0, .int .u8 0, .int .u8 0, .int .u8 0, .int .u8 0, .int .u8 0, .int .u8 0, .int .u8 0, .int .u8 0, .int .u8 0, .int .u8 0, .int .u8 0, .int .u8 0, .int .u8 0] 31 (0, 0))) := (h.oth B (wk.row_lt RD.out) (by rw [HCG.out]; omega)).trans RD.out
          have rb : Hid (Below B w w1) := by have := h.bel; rw [HCI.out, HB.out] at this; exact this
          clear h hL
          simp only [fr2, List.setIfInBounds_toArray, List.set_cons_zero, List.set_cons_succ]
          go_wp2_with fail
          go_roundg (gk - 1)
          case measure => have := HK0.out; omega
          case rel =>
            refine ⟨k + 1, by have := HK0.out; omega, by go_num, ?_, rd.out, rb.out⟩
            have h := r6.out
            rw [HC.out] at h
            have e : hs.feed (hs.H0, []) (tagB tag :: (l.take (k + 1)).flatMap fun s => wp.encB s.data.toList) = hs.feed st (wp.encB s.data.toList) := by
              rw [HS.out, ← HST.out, ← hs.feed_append]
              rfl
            rw [e, HS.out, List.length_append, ← Nat.add_assoc]
            exact h
      · obtain rfl : k = n := by omega
        have hkl : l.take k = l := by rw [← HN.out]; exact List.take_length
        have h6 := R6.out
        rw [hkl] at h6
        have HSTR : Hid (Str (hs.feed (hs.H0, []) (tagB tag :: l.flatMap fun s => wp.encB s.data.toList)) (1 + (l.flatMap fun s => wp.encB s.data.toList).length)) := by
          have := str_begin.feed (tagB tag :: l.flatMap fun s => wp.encB s.data.toList)
          rw [List.length_cons, Nat.add_comm _ 1, Nat.zero_add] at this
          exact this
        have HSHA : Hid (hs.out (hs.fin (hs.feed (hs.H0, []) (tagB tag :: l.flatMap fun s => wp.encB s.data.toList)) (1 + (l.flatMap fun s => wp.encB s.data.toList).length)) = hs.sha (tagB tag :: l.flatMap fun s => wp.encB s.data.toList)) := by
          have := sha_eq (tagB tag :: l.flatMap fun s => wp.encB s.data.toList)
          rw [List.length_cons, Nat.add_comm _ 1] at this
          exact this
        have htot := HTOT.out
        unfold rowS at h6
        generalize hMe : (l.flatMap fun s => wp.encB s.data.toList) = M at *
        have HME := Lib.hid hMe
        clear hMe
        generalize hs.feed (hs.H0, []) (tagB tag :: M) = st at *
        have hbl : (hs.blk st.2).length = 64 := hs.blk_length (by have := HSTR.out.lt; omega)
        have hz := size_toA size73 (stC_length (v := st.1) (n := ((1 + M.length : Nat) : Int)) hbl)
        have hTk := HT.out.below HT.out.1 (by have := RB.out; rw [← HB.out] at this; exact this)
        have HSC := Lib.hid (fun w' hT => sum_calls st (1 + M.length) w' HSTR.out (by omega) hT)
        rw [HSHA.out] at HSC
        have HTK := Lib.hid hTk
        have RD := Lib.hid RD.out
        clear hkl hbl hTk R6
        go_wp2_with (refine wpList_load_row rfl 101 (.tmp 5) rfl g6 rfl 101 (stC st.1 (hs.blk st.2) ((1 + M.length : Nat) : Int)).toArray (0, 0) _ h6 Tryd.underlying101 rfl hz ?_)
        refine (HSC.out wr HTK.out).mono ?_
        rintro e w2 ⟨rfl, hb2⟩
        have RD2 := Lib.hid (wk.row_below RD.out hb2)
        have RB2 := Lib.hid (RB.out.trans (hb2.mono (by have := wk.row_lt RD.out; omega)))
        have hcl : (wp.bc (hs.sha (tagB tag :: M))).length = 32 := by rw [wp.bc_length]; rfl
        generalize hsha : hs.sha (tagB tag :: M) = sh at *
        have HSH := Lib.hid hsha
        have hsl : sh.length = 32 := by rw [wp.bc_length] at hcl; exact hcl
        have HSL := Lib.hid hsl
        have hz32 := size_to size32 hcl
        have hz33 : z32.size = (wp.bc sh).length := by rw [hcl]; rfl
        unfold z32 at hz33
        have ho := wk.ones_bc sh
        clear hsha hcl hb2 h6 hz HSC HTK
        go_upto_region 9 with (refine wk.store_new rfl 95 (.tmp 8) (.tmp 29) rfl 95 _ (wp.bc sh) rfl rfl hz32 hz33 ho ?_)
        have q8 : ((w2.alloc (.cells (wp.bc sh).toArray 95)).alloc (.cells #[.int .u8 0, .int .u8 0, .int .u8 0, .int .u8 0, .int .u8 0, .int .u8 0, .int .u8 0, .int .u8 0, .int .u8 0, .int .u8 0, .int .u8 0, .int .u8 0, .int .u8 0, .int .u8 0, .int .u8 0, .int .u8 0] 31)).heap[w2.heap.size]? = some (.cells (wp.bc sh).toArray 95 (0, 0)) := heap_alloc2_old _ _ _
        have q9 : ((w2.alloc (.cells (wp.bc sh).toArray 95)).alloc (.cells #[.int .u8 0, .int .u8 0, .int .u8 0, .int .u8 0, .int .u8 0, .int .u8 0, .int .u8 0, .int .u8 0, .int .u8 0, .int .u8 0, .int .u8 0, .int .u8 0, .int .u8 0, .int .u8 0, .int .u8 0, .int .u8 0] 31)).heap[w2.heap.size + 1]? = some (.cells #[.int .u8 0, .int .u8 0, .int .u8 0, .int .u8 0, .int .u8 0, .int .u8 0, .int .u8 0, .int .u8 0, .int .u8 0, .int .u8 0, .int .u8 0, .int .u8 0, .int .u8 0, .int .u8 0, .int .u8 0, .int .u8 0] 31 (0, 0)) := heap_alloc2_new _ _ _
        have qb : Below w2.heap.size w2 ((w2.alloc (.cells (wp.bc sh).toArray 95)).alloc (.cells #[.int .u8 0, .int .u8 0, .int .u8 0, .int .u8 0, .int .u8 0, .int .u8 0, .int .u8 0, .int .u8 0, .int .u8 0, .int .u8 0, .int .u8 0, .int .u8 0, .int .u8 0, .int .u8 0, .int .u8 0, .int .u8 0] 31)) := ((Below.refl _ _).alloc (Nat.le_refl _) _).alloc (by simp) _
        have RD3 := Lib.hid (wk.row_below RD2.out qb)
        have RB3 := Lib.hid (RB2.out.trans (qb.mono (by have := wk.row_lt RD2.out; omega)))
        have HBG : Hid (B < w2.heap.size) := wk.row_lt RD2.out
        generalize (w2.alloc (.cells (wp.bc sh).toArray 95)).alloc (.cells #[.int .u8 0, .int .u8 0, .int .u8 0, .int .u8 0, .int .u8 0, .int .u8 0, .int .u8 0, .int .u8 0, .int .u8 0, .int .u8 0, .int .u8 0, .int .u8 0, .int .u8 0, .int .u8 0, .int .u8 0, .int .u8 0] 31) = w3 at *
        generalize w2.heap.size = G at *
        have R8 := Lib.hid q8
        have R9 := Lib.hid q9
        clear q8 q9 qb hz32 hz33 ho
        have hsrc : ∀ j v, (wp.bc (sh.take 16))[j]? = some v → w3.drew.cell? ((⟨G, 0, none⟩ : Addr).add j) = some v := fun j v hv => by
          rw [wk.add_at, Nat.zero_add]
          refine (cell_of_row w3 _ _ _ _ _ R8.out).trans ?_
          rw [List.getElem?_toArray]
          rw [show wp.bc (sh.take 16) = (wp.bc sh).take 16 from by simp [wp.bc, List.map_take], List.getElem?_take] at hv
          split at hv
          · exact hv
          · cases hv
        have hlen16 : (wp.bc (sh.take 16)).length = 16 := by rw [wp.bc_length, List.length_take]; omega
        have HSRC := Lib.hid hsrc
        have HL16 := Lib.hid hlen16
        clear hsrc hlen16 hsl
        go_region_law (refine step_copy_splice rfl (.tmp 30) (.tmp 31) 77 77 rfl 5 Tryd.underlying77 size_u8 (some ⟨G + 1, 0, none⟩) (some ⟨G, 0, none⟩) 16 16 32 32 rfl rfl (G + 1) 0 [.int .u8 0, .int .u8 0, .int .u8 0, .int .u8 0, .int .u8 0, .int .u8 0, .int .u8 0, .int .u8 0, .int .u8 0, .int .u8 0, .int .u8 0, .int .u8 0, .int .u8 0, .int .u8 0, .int .u8 0, .int .u8 0] 31 R9.out (wp.bc (sh.take 16)) (by rw [HL16.out]; rfl) (fun _ => ⟨rfl, _, rfl, HSRC.out⟩) (by rw [HL16.out]; decide) (wk.ones_bc _) (G + 1) w3.drew (Below.refl _ _) (Nat.le_refl _) ?_; intro w4 hg4 hb4)
        have h9 : w4.heap[G + 1]? = some (.cells (wp.bc (sh.take 16)).toArray 31 (0, 0)) := by
          have h := hg4.out
          have e : Go.splice [.int .u8 0, .int .u8 0, .int .u8 0, .int .u8 0, .int .u8 0, .int .u8 0, .int .u8 0, .int .u8 0, .int .u8 0, .int .u8 0, .int .u8 0, .int .u8 0, .int .u8 0, .int .u8 0, .int .u8 0, .int .u8 0] 0 (wp.bc (sh.take 16)) = wp.bc (sh.take 16) := by
            unfold Go.splice
            rw [HL16.out]
            simp
          rw [e] at h
          exact h
        have RD4 : w4.heap[B]? = some (.cells #[.int .u8 0, .int .u8 0, .int .u8 0, .int .u8 0, .int .u8 0, .int .u8 0, .int .u8 0, .int .u8 0, .int .u8 0, .int .u8 0, .int .u8 0, .int .u8 0, .int .u8 0, .int .u8 0, .int .u8 0, .int .u8 0] 31 (0, 0)) := (hb4.block B (by have := HBG.out; omega)).trans RD3.out
        have RB4 := Lib.hid (RB3.out.drew.trans (hb4.mono (by have := HBG.out; omega)))
        have hz1 := size_toA info55x HL16.out
        have hz2 := size_to info55x HL16.out
        have hz3 : (#[.int .u8 0, .int .u8 0, .int .u8 0, .int .u8 0, .int .u8 0, .int .u8 0, .int .u8 0, .int .u8 0, .int .u8 0, .int .u8 0, .int .u8 0, .int .u8 0, .int .u8 0, .int .u8 0, .int .u8 0, .int .u8 0] : Array Value).size = (wp.bc (sh.take 16)).length := by rw [HL16.out]; rfl
        have ho := wk.ones_bc (sh.take 16)
        clear hg4 hb4
        generalize hcs : wp.bc (sh.take 16) = cs at *
        have HCS := Lib.hid hcs
        clear hcs
        go_wp2_with (first | refine wpList_load_row rfl 31 (.tmp 9) rfl (G + 1) rfl 31 cs.toArray (0, 0) _ h9 Tryd.underlying31 rfl hz1 ?_ | refine wk.store_row rfl 31 (.tmp 4) (.tmp 33) rfl B cs rfl rfl 31 _ RD4 hz2 hz3 ho ?_)
        refine bodyPost_ret (v := .agg cs.toArray) (results_cell_row (fn := Tryd.f35) rfl _ _ B 31 cs.toArray (0, 0) _ rfl (setRow_heap _ _ _ _ _ _ RD4) Tryd.underlying31 rfl hz1) rfl ⟨?_, ?_⟩
        · rw [← HCS.out, ← HSH.out, ← HME.out]
        · rw [HB.out]; exact wk.below_setRow RB4.out (Nat.le_refl _) _
end Go.Proofs.YtlmbacacjcbdjaaDoor.hi
