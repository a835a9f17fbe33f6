import Derived.Test.YtgkhgbjfpmhbgabCmp
import Derived.Test.YtgkhgbjfpmhbgabEncD
import Derived.Test.YtgkhgbjfpmhbgabDecD
namespace Go.Proofs.Ytgkhgbjfpmhbgab.wi
open Go.ChangeShapes Go.WideShapes Go.ChangeAt Go.RowKit
set_option linter.unusedVariables false

theorem RB_new {w : World} {g : Nat} (hg : w.heap.size = g) (l : List UInt8) {cs : Array Value} (t : TypeId) (hcs : cs = (wp.bc l).toArray) : wp.RB (w.alloc (.cells cs t)) (some ⟨g, 0, none⟩) l := fun hl => by
  subst hg hcs
  exact ⟨w.heap.size, 0, rfl, by simp, fun j u hu => by
    have := wk.cells_new w (wp.bc l) t j (.int .u8 (u.toNat : Int)) (by simp [wp.bc, hu])
    rw [wk.add_at] at this
    exact this⟩
theorem RC_new {w : World} {g : Nat} (hg : w.heap.size = g) (xs : List Value) {cs : Array Value} (t : TypeId) (hcs : cs = xs.toArray) : wp.RC (w.alloc (.cells cs t)) (some ⟨g, 0, none⟩) xs := fun hl => by
  subst hg hcs
  exact ⟨w.heap.size, 0, rfl, by simp, fun j u hu => by
    have := wk.cells_new w xs t j u hu
    rw [wk.add_at] at this
    exact this⟩

theorem g1 : wp.getI [128, 1, 9] = (64, 2, 0) := by decide +kernel
theorem g2 : wp.getI [128] = (0, 0, 10) := by decide +kernel
theorem g3 : wp.getI [128, 0] = (0, 0, 11) := by decide +kernel
theorem g4 : wp.getB [4, 97, 98, 7] = ([97, 98], 3, 0) := by decide +kernel
theorem g5 : wp.getL wp.getI 1 [4, 2, 1] = ([1, -1], 3, 0) := by decide +kernel
theorem g7 : wp.getL wp.getB 1 [4, 0, 2, 97, 5] = ([[], [97]], 4, 0) := by decide +kernel
def d1 : List UInt8 := [1, 2, 0, 0, 0, 0, 0, 0, 0, 0, 0, 0, 0, 0, 0, 0]
theorem e6 : wp.encDs [d1] = 2 :: d1 := by
  simp [wp.encDs, wp.encI, Lib.zigzag, Lib.uvarint_small, d1]
theorem g6 : wp.getL wp.getD1 16 (2 :: d1) = ([d1], 17, 0) := by decide +kernel
theorem e8 : wp.encSs [⟨#[]⟩, ⟨#[97]⟩] = [4, 0, 2, 97] := by
  have h0 : ({ data := #[] } : ByteArray).size = 0 := rfl
  have h1 : ({ data := #[97] } : ByteArray).size = 1 := rfl
  simp [wp.encSs, wp.encB, wp.encI, Lib.zigzag, Lib.uvarint_small, h0, h1]
theorem e9 : wp.encI (-65) = [129, 1] := by
  simp [wp.encI, Lib.zigzag, Lib.uvarint_small, Lib.uvarint_big]
theorem e10 : wp.encB [97, 98] = [4, 97, 98] := by
  simp [wp.encB, wp.encI, Lib.zigzag, Lib.uvarint_small]
theorem e11 : wp.encIs [1, -1] = [4, 2, 1] := by
  simp [wp.encIs, wp.encI, Lib.zigzag, Lib.uvarint_small]

/-- what the later comparisons need, carried on -/
structure Live (w : World) (AL AX : Option Addr) (g : Nat) : Prop where
  l : wp.RC w AL ([1, -1].map (Value.int .i64))
  x : wp.RC w AX ([d1].flatMap wp.bc)
  d : w.heap[g]? = some (.cells (wp.bc d1).toArray 49 (0, 0))
theorem Live.below {w w' : World} {AL AX : Option Addr} {g : Nat} (h : Live w AL AX g) (hb : Below w.heap.size w w') : Live w' AL AX g :=
  ⟨h.l.below hb, h.x.below hb, by
    rw [hb.block _ (by
      rcases Nat.lt_or_ge g w.heap.size with h' | h'
      · exact h'
      · have := h.d; rw [Array.getElem?_eq_none h'] at this; cases this)]
    exact h.d⟩
theorem Live.alloc {w : World} {AL AX : Option Addr} {g : Nat} (h : Live w AL AX g) (o : Obj) : Live (w.alloc o) AL AX g := h.below ((Below.refl _ w).alloc (Nat.le_refl _) _)
theorem Live.drewN {w : World} {AL AX : Option Addr} {g : Nat} (h : Live w AL AX g) (q : Nat) : Live (w.drewN q) AL AX g := ⟨h.l, h.x, h.d⟩
theorem Live.cells {w : World} {AL AX : Option Addr} {g : Nat} (h : Live w AL AX g) : ∀ j u, (wp.bc d1)[j]? = some u → w.cell? ((⟨g, 0, none⟩ : Addr).add j) = some u := fun j u hu => by
  rw [wk.add_at, Nat.zero_add, cell_of_row _ _ _ _ _ _ h.d]
  simpa using hu
theorem below_drewN {B : Nat} {a w : World} (h : Below B a w) (q : Nat) : Below B a (w.drewN q) := ⟨h.os, h.tape, h.output, h.size, h.block⟩

set_option maxRecDepth 100000 in
set_option maxHeartbeats 4000000 in
theorem sanity_true (w : World) : Calls Try.prog 6 #[] w fun e w' => e = .returned (.bool true) ∧ Below w.heap.size w w' := by
  go_enter Try.func6, Try.ntmps6
  go_wp2_with fail
  refine (getInt_any _ _ _ [128, 1, 9] _ (by decide) (by decide) rfl (RB_new rfl _ _ rfl)).mono ?_
  rw [g1]
  rintro e w1 ⟨rfl, rfl⟩
  go_wp2_with fail
  refine (getInt_any _ _ _ [128] _ (by decide) (by decide) rfl (RB_new (by simp) _ _ rfl)).mono ?_
  rw [g2]
  rintro e w1 ⟨rfl, rfl⟩
  go_wp2_with fail
  refine (getInt_any _ _ _ [128, 0] _ (by decide) (by decide) rfl (RB_new (by simp) _ _ rfl)).mono ?_
  rw [g3]
  rintro e w1 ⟨rfl, rfl⟩
  go_wp2_with fail
  refine (getBytes_any _ _ _ [4, 97, 98, 7] _ (by decide) (by decide) rfl (RB_new (by simp) _ _ rfl)).mono ?_
  rw [g4]
  rintro e w1 ⟨rfl, rfl⟩
  go_wp2_with fail
  refine (getInts_any _ _ _ [4, 2, 1] _ (by decide) (by decide) rfl (RB_new (by simp) _ _ rfl) (by decide)).mono ?_
  rw [g5]
  rintro e w1 ⟨v1, rfl, hown1, hbel1⟩
  obtain ⟨AL, cL, rfl, hL1, hL2, hRL⟩ := wp.RC.of_own hown1
  go_wp2_with fail
  have hB1 : Below w.heap.size w w1 := ((((((Below.refl _ w).alloc (Nat.le_refl _) _).alloc (by simp) _).alloc (by simp; omega) _).alloc (by simp; omega) _).alloc (by simp; omega) _).trans (hbel1.mono (by simp; omega))
  clear hown1 hbel1 hL1 hL2
  refine (digests_out _ _ _ [d1] _ rfl (by decide) (by decide) (RC_new (by simp) ([d1].flatMap wp.bc) _ rfl) (by intro d hd; rw [List.mem_singleton.1 hd]; rfl) (by rw [e6]; decide)).mono ?_
  rw [e6]
  rintro e w2 ⟨v2, rfl, hown2, hbel2⟩
  obtain ⟨A2, cc2, rfl, hc1, hc2, hR2⟩ := wp.RC.of_own hown2
  have hB2 : Below w1.heap.size w1 w2 := (((Below.refl _ w1).alloc (Nat.le_refl _) _).alloc (by simp) _).trans (hbel2.mono (by simp; omega))
  have hD2 : w2.heap[w1.heap.size]? = some (.cells (wp.bc d1).toArray 49 (0, 0)) := by
    rw [hbel2.block _ (by simp; omega)]
    exact heap_alloc2_old w1 _ _
  clear hown2 hbel2
  go_wp2_with fail
  refine (getDigests_any A2 _ cc2 (2 :: d1) w2 hc1 (by unfold maxLen at hc2; exact hc2) rfl hR2.rb (by decide)).mono ?_
  rw [g6]
  rintro e w3 ⟨v3, rfl, hown3, hB3⟩
  obtain ⟨AX, cX, rfl, hX1, hX2, hRX⟩ := wp.RC.of_own hown3
  have hD3 : w3.heap[w1.heap.size]? = some (.cells (wp.bc d1).toArray 49 (0, 0)) := by
    rw [hB3.block _ (by
      rcases Nat.lt_or_ge w1.heap.size w2.heap.size with h | h
      · exact h
      · rw [Array.getElem?_eq_none h] at hD2; cases hD2)]
    exact hD2
  clear hR2 hc1 hc2 hown3 hD2
  have hRL3 := (hRL.below hB2).below hB3
  have hB13 : Below w.heap.size w w3 := (hB1.trans (hB2.mono hB1.size)).trans (hB3.mono (Nat.le_trans hB1.size hB2.size))
  have L3 : Live w3 AL AX w1.heap.size := ⟨hRL3, hRX, hD3⟩
  clear hB1 hB2 hB3 hRL hX1 hX2 hRX hD3 hRL3
  generalize w1.heap.size = gd at *
  go_wp2_with fail
  refine (getStrings_any _ _ _ [4, 0, 2, 97, 5] _ (by decide) (by decide) rfl (RB_new (by simp) _ _ rfl) (by decide)).mono ?_
  rw [g7]
  rintro e w4 ⟨v4, rfl, hown4, hbel4⟩
  obtain ⟨AY, cY, rfl, hY1, hY2, hRY⟩ := wp.RC.of_own hown4
  have L4 := (L3.alloc _).below hbel4
  have hB4 : Below w.heap.size w w4 := (hB13.alloc hB13.size _).trans (hbel4.mono (by have := hB13.size; simp; omega))
  clear hown4 hbel4 hY1 hY2 L3 hB13
  go_wp2_with fail
  refine (sameTexts_true AY _ 2 cY _ [⟨#[]⟩, ⟨#[97]⟩] _ rfl (by decide) (hRY.below ((Below.refl _ w4).alloc (Nat.le_refl _) _)) (RC_new (by simp) _ _ rfl)).mono ?_
  rintro e w5 ⟨rfl, q, rfl⟩
  have L5 := (L4.alloc (Obj.cells #[.string ⟨#[]⟩, .string ⟨#[97]⟩] 9)).drewN q
  have hB5 := below_drewN (hB4.alloc hB4.size (Obj.cells #[.string ⟨#[]⟩, .string ⟨#[97]⟩] 9)) q
  clear L4 hB4 hRY
  go_wp2_with fail
  refine (strings_out _ 2 _ [⟨#[]⟩, ⟨#[97]⟩] _ rfl (by decide) (by decide) (RC_new (by simp) _ _ rfl) (by rw [e8]; decide)).mono ?_
  rw [e8]
  rintro e w6 ⟨v6, rfl, hown6, hbel6⟩
  obtain ⟨A6, cc6, rfl, h61, h62, hR6⟩ := wp.RC.of_own hown6
  have L6 := (L5.alloc _).below hbel6
  have hB6 : Below w.heap.size w w6 := (hB5.alloc hB5.size _).trans (hbel6.mono (by have := hB5.size; simp at this ⊢; omega))
  clear hown6 hbel6 h61 h62 L5 hB5
  go_wp2_with fail
  refine (same_true _ _ _ _ _ _ [4, 0, 2, 97] _ rfl rfl (hR6.below ((Below.refl _ w6).alloc (Nat.le_refl _) _)).rb (RB_new (by simp) _ _ rfl)).mono ?_
  rintro e w7 ⟨rfl, rfl⟩
  go_wp2_with fail
  refine (int_out (-65) _ (by decide) (by decide)).mono ?_
  rw [e9]
  rintro e w7 ⟨v7, rfl, hown7, hbel7⟩
  obtain ⟨A7, cc7, rfl, h71, h72, hR7⟩ := wp.RC.of_own hown7
  have L7 := (L6.alloc _).below hbel7
  have hB7 : Below w.heap.size w w7 := (hB6.alloc hB6.size _).trans (hbel7.mono (by have := hB6.size; simp at this ⊢; omega))
  clear hown7 hbel7 h71 h72 L6 hB6 hR6
  go_wp2_with fail
  refine (same_true _ _ _ _ _ _ [129, 1] _ rfl rfl (hR7.below ((Below.refl _ w7).alloc (Nat.le_refl _) _)).rb (RB_new (by simp) _ _ rfl)).mono ?_
  rintro e w8 ⟨rfl, rfl⟩
  go_wp2_with fail
  refine (sameInts_true AL _ 2 cL _ [1, -1] _ rfl (by decide) ((L7.alloc _).alloc _).l (RC_new (by simp) _ _ rfl)).mono ?_
  rintro e w8 ⟨rfl, q2, rfl⟩
  have L8 := ((L7.alloc (.cells (wp.bc [129, 1]).toArray 5)).alloc (.cells ([1, -1].map (Value.int .i64)).toArray 3)).drewN q2
  have hB8 := below_drewN ((hB7.alloc hB7.size (.cells (wp.bc [129, 1]).toArray 5)).alloc (by have := hB7.size; simp; omega) (.cells ([1, -1].map (Value.int .i64)).toArray 3)) q2
  clear L7 hB7 hR7
  go_wp2_with fail
  refine (bytes_out ⟨#[97, 98]⟩ _ (by decide)).mono ?_
  rw [e10]
  rintro e w9 ⟨v9, rfl, hown9, hbel9⟩
  obtain ⟨A9, cc9, rfl, h91, h92, hR9⟩ := wp.RC.of_own hown9
  have L9 := L8.below hbel9
  have hB9 : Below w.heap.size w w9 := hB8.trans (hbel9.mono hB8.size)
  clear hown9 hbel9 h91 h92 L8 hB8
  go_wp2_with fail
  refine (same_true _ _ _ _ _ _ [4, 97, 98] _ rfl rfl (hR9.below ((Below.refl _ w9).alloc (Nat.le_refl _) _)).rb (RB_new (by simp) _ _ rfl)).mono ?_
  rintro e w10 ⟨rfl, rfl⟩
  go_wp2_with fail
  refine (ints_out _ 2 _ [1, -1] _ rfl (by decide) (by decide) (RC_new (by simp) _ _ rfl) (by decide) (by rw [e11]; decide)).mono ?_
  rw [e11]
  rintro e w10 ⟨v10, rfl, hown10, hbel10⟩
  obtain ⟨A10, cc10, rfl, h101, h102, hR10⟩ := wp.RC.of_own hown10
  have L10 := ((L9.alloc _).alloc _).below hbel10
  have hB10 : Below w.heap.size w w10 := ((hB9.alloc hB9.size _).alloc (by have := hB9.size; simp; omega) _).trans (hbel10.mono (by have := hB9.size; simp; omega))
  clear hown10 hbel10 h101 h102 L9 hB9 hR9
  go_wp2_with fail
  refine (same_true _ _ _ _ _ _ [4, 2, 1] _ rfl rfl (hR10.below ((Below.refl _ w10).alloc (Nat.le_refl _) _)).rb (RB_new (by simp) _ _ rfl)).mono ?_
  rintro e w11 ⟨rfl, rfl⟩
  have L11 := L10.alloc (.cells (wp.bc [4, 2, 1]).toArray 5)
  have hcell : ∀ j u, (wp.bc d1)[j]? = some u → (w10.alloc (Obj.cells (wp.bc [4, 2, 1]).toArray 5)).cell? ⟨gd, j, none⟩ = some u := fun j u hu => by
    have := L11.cells j u hu
    rw [wk.add_at, Nat.zero_add] at this
    exact this
  have c0 : (w10.alloc (Obj.cells (wp.bc [4, 2, 1]).toArray 5)).cell? ⟨gd, 0, none⟩ = some (.int .u8 1) := hcell 0 _ rfl
  have c1 : (w10.alloc (Obj.cells (wp.bc [4, 2, 1]).toArray 5)).cell? ⟨gd, 1, none⟩ = some (.int .u8 2) := hcell 1 _ rfl
  have c2 : (w10.alloc (Obj.cells (wp.bc [4, 2, 1]).toArray 5)).cell? ⟨gd, 2, none⟩ = some (.int .u8 0) := hcell 2 _ rfl
  have c3 : (w10.alloc (Obj.cells (wp.bc [4, 2, 1]).toArray 5)).cell? ⟨gd, 3, none⟩ = some (.int .u8 0) := hcell 3 _ rfl
  have c4 : (w10.alloc (Obj.cells (wp.bc [4, 2, 1]).toArray 5)).cell? ⟨gd, 4, none⟩ = some (.int .u8 0) := hcell 4 _ rfl
  have c5 : (w10.alloc (Obj.cells (wp.bc [4, 2, 1]).toArray 5)).cell? ⟨gd, 5, none⟩ = some (.int .u8 0) := hcell 5 _ rfl
  have c6 : (w10.alloc (Obj.cells (wp.bc [4, 2, 1]).toArray 5)).cell? ⟨gd, 6, none⟩ = some (.int .u8 0) := hcell 6 _ rfl
  have c7 : (w10.alloc (Obj.cells (wp.bc [4, 2, 1]).toArray 5)).cell? ⟨gd, 7, none⟩ = some (.int .u8 0) := hcell 7 _ rfl
  have c8 : (w10.alloc (Obj.cells (wp.bc [4, 2, 1]).toArray 5)).cell? ⟨gd, 8, none⟩ = some (.int .u8 0) := hcell 8 _ rfl
  have c9 : (w10.alloc (Obj.cells (wp.bc [4, 2, 1]).toArray 5)).cell? ⟨gd, 9, none⟩ = some (.int .u8 0) := hcell 9 _ rfl
  have c10 : (w10.alloc (Obj.cells (wp.bc [4, 2, 1]).toArray 5)).cell? ⟨gd, 10, none⟩ = some (.int .u8 0) := hcell 10 _ rfl
  have c11 : (w10.alloc (Obj.cells (wp.bc [4, 2, 1]).toArray 5)).cell? ⟨gd, 11, none⟩ = some (.int .u8 0) := hcell 11 _ rfl
  have c12 : (w10.alloc (Obj.cells (wp.bc [4, 2, 1]).toArray 5)).cell? ⟨gd, 12, none⟩ = some (.int .u8 0) := hcell 12 _ rfl
  have c13 : (w10.alloc (Obj.cells (wp.bc [4, 2, 1]).toArray 5)).cell? ⟨gd, 13, none⟩ = some (.int .u8 0) := hcell 13 _ rfl
  have c14 : (w10.alloc (Obj.cells (wp.bc [4, 2, 1]).toArray 5)).cell? ⟨gd, 14, none⟩ = some (.int .u8 0) := hcell 14 _ rfl
  have c15 : (w10.alloc (Obj.cells (wp.bc [4, 2, 1]).toArray 5)).cell? ⟨gd, 15, none⟩ = some (.int .u8 0) := hcell 15 _ rfl
  clear hcell L10 hR10
  go_wp2_with fail
  clear c0 c1 c2 c3 c4 c5 c6 c7 c8 c9 c10 c11 c12 c13 c14 c15
  refine (sameDigests_true AX _ 1 cX _ [d1] _ rfl (by decide) (L11.alloc _).x (RC_new (by simp) ([d1].flatMap wp.bc) _ rfl) (by intro d hd; rw [List.mem_singleton.1 hd]; rfl)).mono ?_
  rintro e w12 ⟨rfl, q3, rfl⟩
  go_wp2_with fail
  go_ret
  exact ⟨rfl, below_drewN ((hB10.alloc hB10.size _).alloc (by have := hB10.size; simp; omega) _) q3⟩
end Go.Proofs.Ytgkhgbjfpmhbgab.wi
