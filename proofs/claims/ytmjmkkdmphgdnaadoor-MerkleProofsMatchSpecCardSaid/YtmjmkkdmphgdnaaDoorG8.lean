/- Joined: Mp Ma Mb Mc Md Me. -/
import Derived.Test.YtmjmkkdmphgdnaaDoorG7

import Derived.Laws.MathBits

import Derived.Lib.BitFns

import Derived.Lib.Walk

import Derived.Lib.Strings

import Derived.Lib.Slices

import Derived.Lib.Small

import Derived.Great.BuildSlice
/- Hash trees: plain functions, and lists of digests in memory. -/
namespace Go.Proofs.YtmjmkkdmphgdnaaDoor.mk

open Go.ChangeShapes Go.WideShapes Go.ChangeAt Go.RowKit

set_option linter.unusedVariables false
abbrev D := List UInt8
def dv (d : D) : Value := .agg (wp.bc d).toArray
theorem dig_ex : ∃ f : Int → List D → D, ∀ t p, f t p = (hs.sha (hi.tagB t :: p.flatMap wp.encB)).take 16 := ⟨_, fun _ _ => rfl⟩
/-- the digest of a tag and parts -/
noncomputable def dig : Int → List D → D := Classical.choose dig_ex
theorem dig_eq (t : Int) (p : List D) : dig t p = (hs.sha (hi.tagB t :: p.flatMap wp.encB)).take 16 := Classical.choose_spec dig_ex t p
theorem dig_length (t : Int) (p : List D) : (dig t p).length = 16 := by rw [dig_eq]; rfl
noncomputable def leafD (s : D) : D := dig 30 [s]
noncomputable def nodeD (a b : D) : D := dig 31 [a, b]
noncomputable def emptyD : D := dig 32 []
/-- the greatest power of 2 that is less than n -/
def split (n : Nat) : Nat := 2 ^ (n - 1).log2
theorem split_lt {n : Nat} (h : 2 ≤ n) : split n < n := by
  have := Nat.log2_self_le (n := n - 1) (by omega)
  unfold split; omega
theorem split_pos (n : Nat) : 0 < split n := Nat.two_pow_pos _
theorem split_le {n : Nat} (h : 2 ≤ n) : n ≤ 2 * split n := by
  have := Nat.lt_log2_self (n := n - 1)
  unfold split; rw [Nat.pow_succ] at this; omega
/-- the root of a list -/
noncomputable def root : Nat → List D → D
  | 0, _ => emptyD
  | f + 1, l => if l.length = 0 then emptyD else if l.length = 1 then l.headD [] else nodeD (root f (l.take (split l.length))) (root f (l.drop (split l.length)))
theorem root_fuel : ∀ (f g : Nat) (l : List D), l.length ≤ f → l.length ≤ g → root f l = root g l
  | 0, 0, l, _, _ => rfl
  | 0, g + 1, l, h, _ => by rw [root, root, if_pos (by omega)]
  | f + 1, 0, l, _, h => by rw [root, root, if_pos (by omega)]
  | f + 1, g + 1, l, h1, h2 => by
    rw [root, root]
    split
    · rfl
    · split
      · rfl
      · have hl := split_lt (n := l.length) (by omega)
        have hp := split_pos l.length
        rw [root_fuel f g _ (by rw [List.length_take]; omega) (by rw [List.length_take]; omega), root_fuel f g _ (by rw [List.length_drop]; omega) (by rw [List.length_drop]; omega)]
noncomputable def rootD (l : List D) : D := root l.length l
theorem rootD_nil {l : List D} (h : l.length = 0) : rootD l = emptyD := by unfold rootD; rw [h]; rfl
theorem rootD_one {l : List D} (h : l.length = 1) : rootD l = l.headD [] := by unfold rootD; rw [h, root, if_neg (by omega), if_pos h]
theorem rootD_two {l : List D} (h : 2 ≤ l.length) : rootD l = nodeD (rootD (l.take (split l.length))) (rootD (l.drop (split l.length))) := by
  have hl := split_lt h
  have hp := split_pos l.length
  unfold rootD
  obtain ⟨k, hk⟩ : ∃ k, l.length = k + 1 := ⟨l.length - 1, by omega⟩
  conv => lhs; rw [hk]
  rw [root, if_neg (by omega), if_neg (by omega), root_fuel k _ (l.take (split l.length)) (by rw [List.length_take]; omega) (Nat.le_refl _), root_fuel k _ (l.drop (split l.length)) (by rw [List.length_drop]; omega) (Nat.le_refl _)]
theorem rootD_length {l : List D} (h : ∀ d ∈ l, d.length = 16) : (rootD l).length = 16 := by
  rcases Nat.lt_or_ge l.length 2 with h2 | h2
  · rcases Nat.lt_or_ge l.length 1 with h1 | h1
    · rw [rootD_nil (by omega)]; exact dig_length _ _
    · rw [rootD_one (by omega)]
      cases l with
      | nil => simp at h1
      | cons x r => exact h x (by simp)
  · rw [rootD_two h2]; exact dig_length _ _
/-- a slice of digests -/
structure IsD (w : World) (A : Option Addr) (n c : Nat) (l : List D) : Prop where
  len : l.length = n
  le : n ≤ c
  cap : c ≤ maxLen
  mem : wp.RC w A (l.flatMap wp.bc)
  dl : ∀ d ∈ l, d.length = 16
theorem IsD.below {w w' : World} {A : Option Addr} {n c : Nat} {l : List D} (h : IsD w A n c l) (hb : Below w.heap.size w w') : IsD w' A n c l := ⟨h.len, h.le, h.cap, h.mem.below hb, h.dl⟩
theorem flat_drop {l : List D} (h : ∀ d ∈ l, d.length = 16) (k : Nat) : (l.drop k).flatMap wp.bc = (l.flatMap wp.bc).drop (16 * k) := by
  induction l generalizing k with
  | nil => simp
  | cons x r ih =>
    cases k with
    | zero => rfl
    | succ k =>
      rw [List.drop_succ_cons, ih (fun d hd => h d (List.mem_cons_of_mem _ hd)), List.flatMap_cons, show 16 * (k + 1) = (wp.bc x).length + 16 * k by rw [wp.bc_length, h x List.mem_cons_self]; omega, List.drop_append]
      simp
theorem flat_take {l : List D} (h : ∀ d ∈ l, d.length = 16) (k : Nat) : (l.take k).flatMap wp.bc = (l.flatMap wp.bc).take (16 * k) := by
  induction l generalizing k with
  | nil => simp
  | cons x r ih =>
    cases k with
    | zero => rfl
    | succ k =>
      rw [List.take_succ_cons, List.flatMap_cons, ih (fun d hd => h d (List.mem_cons_of_mem _ hd)), List.flatMap_cons, show 16 * (k + 1) = (wp.bc x).length + 16 * k by rw [wp.bc_length, h x List.mem_cons_self]; omega, List.take_append, List.take_of_length_le (l := wp.bc x) (Nat.le_add_right _ _), Nat.add_sub_cancel_left]
theorem RC_cut {w : World} {A : Option Addr} {xs : List Value} (h : wp.RC w A xs) {k m : Nat} : 0 < ((xs.drop k).take m).length → ∃ b o, A = some ⟨b, o, none⟩ ∧ b < w.heap.size ∧ ∀ j u, ((xs.drop k).take m)[j]? = some u → w.cell? ⟨b, o + k + j, none⟩ = some u := fun hl => by
  have hlen : 0 < min m (xs.length - k) := by simpa using hl
  obtain ⟨b, o, rfl, hb, hcell⟩ := h (by omega)
  refine ⟨b, o, rfl, hb, fun j u hu => ?_⟩
  rw [Nat.add_assoc]
  refine hcell _ u ?_
  rw [List.getElem?_take] at hu
  split at hu
  · rw [← hu, List.getElem?_drop]
  · cases hu
/-- a cut of a list of digests -/
theorem IsD.cut {w : World} {A : Option Addr} {n c : Nat} {l : List D} (h : IsD w A n c l) {lo hi m : Nat} (h1 : lo ≤ hi) (h2 : hi ≤ n) (h3 : hi ≤ m) (h4 : m ≤ c) :
    IsD w (if m = lo then A else A.map (·.add (lo * 16))) (hi - lo) (m - lo) ((l.drop lo).take (hi - lo)) := by
  have hdl : ∀ d ∈ l.drop lo, d.length = 16 := fun d hd => h.dl d (List.mem_of_mem_drop hd)
  refine ⟨by have := h.len; simp; omega, by omega, by have := h.cap; omega, ?_, fun d hd => hdl d (List.mem_of_mem_take hd)⟩
  intro hl
  rw [flat_take hdl, flat_drop h.dl] at hl ⊢
  obtain ⟨b, o, rfl, hb, hc⟩ := RC_cut h.mem hl
  have hne : ¬ m = lo := fun e => by
    have : hi - lo = 0 := by omega
    rw [this] at hl; simp at hl
  rw [if_neg hne]
  refine ⟨b, o + 16 * lo, by simp [wk.add_at, Nat.mul_comm], hb, hc⟩
/-- one digest of a list -/
theorem IsD.cell {w : World} {A : Option Addr} {n c : Nat} {l : List D} (h : IsD w A n c l) {i : Nat} {d : D} (hi : l[i]? = some d) : ∃ b o, A = some ⟨b, o, none⟩ ∧ b < w.heap.size ∧ ∀ j u, (wp.bc d)[j]? = some u → w.cell? ⟨b, o + i * 16 + j, none⟩ = some u := by
  have hil : i < l.length := by
    rcases Nat.lt_or_ge i l.length with h' | h'
    · exact h'
    · rw [List.getElem?_eq_none h'] at hi; cases hi
  obtain ⟨b, o, rfl, hb, hc⟩ := h.mem (by rw [wp.flat_bc_length h.dl]; omega)
  refine ⟨b, o, rfl, hb, fun j u hu => ?_⟩
  rw [show o + i * 16 + j = o + (16 * i + j) by omega]
  exact hc _ u (wp.flat_bc_at h.dl hi hu)
end Go.Proofs.YtmjmkkdmphgdnaaDoor.mk
/- Leaf and Node, the program's and the reference's. -/
namespace Go.Proofs.YtmjmkkdmphgdnaaDoor.mk

open Go.ChangeShapes Go.WideShapes Go.ChangeAt Go.RowKit

set_option linter.unusedVariables false
def Tab (w : World) : Prop := hi.TabK w ∧ hi.TabC w
theorem Tab.below {w w' : World} (h : Tab w) {B : Nat} (hB : 1 < B) (hb : Below B w w') : Tab w' := ⟨h.1.below hB hb, h.2.below (by omega) hb⟩
theorem Tab.next {w w' : World} (h : Tab w) (hb : Below w.heap.size w w') : Tab w' := h.below h.1.1 hb
theorem encB_le (s : D) (h : s.length ≤ 1000) : (wp.encB s).length ≤ 1010 := by
  have := wp.encI_length (n := (s.length : Int)) (by omega) (by omega)
  unfold wp.encB; rw [List.length_append]; omega
/-- the digest of a few short parts, the program's -/
theorem hof (tag : Int) (A : Option Addr) (n c : Nat) (l : List ByteArray) (w : World) (hn : l.length = n) (hnc : n ≤ c) (hc : c ≤ 9223372036854775807) (hl : wp.RC w A (l.map Value.string)) (htag : -9223372036854775808 ≤ tag ∧ tag ≤ 9223372036854775807)
    (h2 : n ≤ 2) (hsh : ∀ s ∈ l, s.size ≤ 1000) (hT : Tab w) :
    Calls Tryd.prog 37 #[.int .i64 tag, .slice A n c] w fun e w' => e = .returned (dv (dig tag (l.map fun s => s.data.toList))) ∧ Below w.heap.size w w' := by
  have hfl : (l.flatMap fun s => wp.encB s.data.toList) = (l.map fun s => s.data.toList).flatMap wp.encB := by rw [List.flatMap_map]
  have hle : ∀ l : List ByteArray, (∀ s ∈ l, s.size ≤ 1000) → (l.flatMap fun s => wp.encB s.data.toList).length ≤ 1010 * l.length := by
    intro l hl
    induction l with
    | nil => simp
    | cons x r ih =>
      have h1 := ih fun s hs => hl s (by simp [hs])
      have h2 := encB_le x.data.toList (by rw [Array.length_toList]; exact hl x (by simp))
      rw [List.flatMap_cons, List.length_append, List.length_cons]; omega
  have := hle l hsh
  refine (hi.of_calls tag A n c l w hn hnc hc hl htag (by omega) hT.1).mono ?_
  rintro e w' ⟨rfl, hb⟩
  refine ⟨?_, hb⟩
  unfold dv
  rw [dig_eq, hfl]
/-- .. and the reference's -/
theorem rof (tag : Int) (A : Option Addr) (n c : Nat) (l : List ByteArray) (w : World) (hn : l.length = n) (hnc : n ≤ c) (hc : c ≤ 9223372036854775807) (hl : wp.RC w A (l.map Value.string)) (htag : -9223372036854775808 ≤ tag ∧ tag ≤ 9223372036854775807)
    (h2 : n ≤ 2) (hsh : ∀ s ∈ l, s.size ≤ 1000) (hT : Tab w) :
    Calls Tryd.prog 41 #[.int .i64 tag, .slice A n c] w fun e w' => e = .returned (dv (dig tag (l.map fun s => s.data.toList))) ∧ Below w.heap.size w w' := by
  have hfl : (hashOfMatchesSpec.flat l) = (l.map fun s => s.data.toList).flatMap wp.encB := by unfold hashOfMatchesSpec.flat; rw [List.flatMap_map]
  have hle : ∀ l : List ByteArray, (∀ s ∈ l, s.size ≤ 1000) → (hashOfMatchesSpec.flat l).length ≤ 1010 * l.length := by
    intro l hl
    induction l with
    | nil => simp [hashOfMatchesSpec.flat]
    | cons x r ih =>
      have h1 := ih fun s hs => hl s (by simp [hs])
      have h2 := encB_le x.data.toList (by rw [Array.length_toList]; exact hl x (by simp))
      unfold hashOfMatchesSpec.flat at *
      rw [List.flatMap_cons, List.length_append, List.length_cons]; omega
  have := hle l hsh
  refine (hashOfMatchesSpec.rof_calls tag A n c l w hn hnc hc hl htag (by omega) hT.2).mono ?_
  rintro e w' ⟨rfl, hb⟩
  refine ⟨?_, hb⟩
  unfold dv
  rw [dig_eq, hfl]
theorem infoD : (Tryd.prog.info? 31).map (·.size) = some 16 := by kernel_rfl
def zero16 : Value := .agg hi.z16
/-- the end of a function whose result is a digest in a cell of its own -/
theorem dv_size {d : D} (hd : d.length = 16) : (Tryd.prog.info? 31).map (·.size) = some (wp.bc d).length := hi.size_to hi.info55x (by rw [wp.bc_length]; exact hd)
theorem dv_sizeA {d : D} (hd : d.length = 16) : (Tryd.prog.info? 31).map (·.size) = some (wp.bc d).toArray.size := hi.size_toA hi.info55x (by rw [wp.bc_length]; exact hd)
section

variable (B : Nat) (w : World)
theorem zrow (w : World) : (w.alloc (.cells hi.z16 31)).heap[w.heap.size]? = some (.cells hi.z16 31 (0, 0)) := heap_alloc_new _ _
theorem zbelow (w : World) : Below w.heap.size w (w.alloc (.cells hi.z16 31)) := (Below.refl _ _).alloc (Nat.le_refl _) _
end
theorem RB_row {w : World} {g : Nat} {a : D} {t : TypeId} (h : w.heap[g]? = some (.cells (wp.bc a).toArray t (0, 0))) : wp.RB w (some ⟨g, 0, none⟩) a := fun hl => by
  refine ⟨g, 0, rfl, wk.row_lt h, fun j u hu => ?_⟩
  rw [cell_of_row _ _ _ _ _ _ h]
  simp only [wp.bc, Nat.zero_add, List.getElem?_toArray, List.getElem?_map, hu, Option.map_some]
set_option maxRecDepth 100000 in
set_option maxHeartbeats 4000000 in
theorem leaf_calls (s : ByteArray) (hs : s.size ≤ 1000) (w : World) (hT : Tab w) :
    Calls Tryd.prog 14 #[.string s] w fun e w' => e = .returned (dv (leafD s.data.toList)) ∧ Below w.heap.size w w' := by
  have HT := Lib.hid hT
  clear hT
  go_enter Tryd.func14, Tryd.ntmps14
  go_upto_region 1 with fail
  have q0 := zrow w
  have hb1 := zbelow w
  change Code.wp _ _ _ _ (w.alloc (.cells hi.z16 31))
  generalize w.alloc (.cells hi.z16 31) = w1 at *
  generalize hB : w.heap.size = B at *
  have HB := Lib.hid hB
  have hs1 : B < w1.heap.size := wk.row_lt q0
  have Q0 := Lib.hid q0
  have HB1 := Lib.hid hb1
  clear hB q0 hb1
  go_wp2_with fail
  have hbn : Below w1.heap.size w1 (w1.alloc (Obj.cells #[Value.string s] 9)) := (Below.refl _ _).alloc (Nat.le_refl _) _
  have hrc : wp.RC (w1.alloc (Obj.cells #[Value.string s] 9)) (some ⟨w1.heap.size, 0, none⟩) ([s].map Value.string) := wi.RC_new rfl _ _ rfl
  have hB1 := HB1.out
  have hTn := (HT.out.below HT.out.1.1 (by rw [HB.out]; exact hB1)).next hbn
  have hcall := hof 30 (some ⟨w1.heap.size, 0, none⟩) 1 1 [s] (w1.alloc (Obj.cells #[Value.string s] 9)) rfl (Nat.le_refl _) (by omega) hrc (by omega) (by omega) (by simpa using hs) hTn
  have HC := Lib.hid hcall
  have Q1 := wk.row_below Q0.out hbn
  have hB2 := hB1.trans (hbn.mono (Nat.le_of_lt hs1))
  have hsB : B < (w1.alloc (Obj.cells #[Value.string s] 9)).heap.size := wk.row_lt Q1
  generalize w1.alloc (Obj.cells #[Value.string s] 9) = w2 at *
  generalize w1.heap.size = G at *
  have HQ1 := Lib.hid Q1
  have HB2 := Lib.hid hB2
  have HsB := Lib.hid hsB
  clear hcall Q1 hB2 hbn hrc hTn hB1 hs1 HB1 Q0 hsB
  refine HC.out.mono ?_
  rintro e w3 ⟨rfl, hb3⟩
  have q0 := wk.row_below HQ1.out hb3
  have HB3 := Lib.hid (HB2.out.trans (hb3.mono (Nat.le_of_lt HsB.out)))
  have hz := dv_size (dig_length 30 [s.data.toList])
  have hz2 := dv_sizeA (dig_length 30 [s.data.toList])
  have hz3 : hi.z16.size = (wp.bc (dig 30 [s.data.toList])).length := by rw [wp.bc_length, dig_length]; rfl
  have ho := wk.ones_bc (dig 30 [s.data.toList])
  clear hb3 HC
  have hdv : dv (dig 30 ([s].map fun s => s.data.toList)) = .agg (wp.bc (dig 30 [s.data.toList])).toArray := rfl
  rw [hdv]
  generalize hcs : wp.bc (dig 30 [s.data.toList]) = cs at *
  have HCS := Lib.hid hcs
  clear hcs hdv
  go_wp2_with (refine wk.store_row rfl 31 (.tmp 2) (.tmp 5) rfl B cs rfl rfl 31 hi.z16 q0 hz hz3 ho ?_)
  refine bodyPost_ret (v := .agg cs.toArray) (results_cell_row (fn := Tryd.f14) rfl _ _ B 31 cs.toArray (0, 0) _ rfl (setRow_heap _ _ _ _ _ _ q0) Tryd.underlying31 rfl hz2) rfl ⟨by unfold leafD dv; rw [HCS.out], ?_⟩
  rw [HB.out]; exact wk.below_setRow HB3.out (Nat.le_refl _) _
set_option maxRecDepth 100000 in
set_option maxHeartbeats 4000000 in
theorem node_calls (a b : D) (ha : a.length = 16) (hb : b.length = 16) (w : World) (hT : Tab w) :
    Calls Tryd.prog 19 #[dv a, dv b] w fun e w' => e = .returned (dv (nodeD a b)) ∧ Below w.heap.size w w' := by
  have HT := Lib.hid hT
  clear hT
  have HA := Lib.hid ha
  have HBb := Lib.hid hb
  have hza := dv_size ha
  have hzb := dv_size hb
  have hoa := wk.ones_bc a
  have hob := wk.ones_bc b
  unfold dv
  clear ha hb
  go_enter Tryd.func19, Tryd.ntmps19
  go_upto_region 1 with fail
  change Code.wp _ _ _ _ (((w.alloc (.cells (wp.bc a).toArray 31)).alloc (.cells (wp.bc b).toArray 31)).alloc (.cells hi.z16 31))
  have b1 : Below w.heap.size w (w.alloc (.cells (wp.bc a).toArray 31)) := (Below.refl _ _).alloc (Nat.le_refl _) _
  have q1 : (w.alloc (.cells (wp.bc a).toArray 31)).heap[w.heap.size]? = some (.cells (wp.bc a).toArray 31 (0, 0)) := heap_alloc_new _ _
  have s1 : (w.alloc (.cells (wp.bc a).toArray 31)).heap.size = w.heap.size + 1 := Array.size_push ..
  generalize w.alloc (.cells (wp.bc a).toArray 31) = w1 at *
  have b2 : Below w1.heap.size w1 (w1.alloc (.cells (wp.bc b).toArray 31)) := (Below.refl _ _).alloc (Nat.le_refl _) _
  have q2 : (w1.alloc (.cells (wp.bc b).toArray 31)).heap[w1.heap.size]? = some (.cells (wp.bc b).toArray 31 (0, 0)) := heap_alloc_new _ _
  have s2 : (w1.alloc (.cells (wp.bc b).toArray 31)).heap.size = w1.heap.size + 1 := Array.size_push ..
  generalize w1.alloc (.cells (wp.bc b).toArray 31) = w2 at *
  have q3 := zrow w2
  have b3 := zbelow w2
  generalize w2.alloc (.cells hi.z16 31) = w3 at *
  obtain ⟨g, hg⟩ : ∃ g, g = w.heap.size := ⟨_, rfl⟩
  have e1 : w1.heap.size = g + 1 := by omega
  have e2 : w2.heap.size = g + 1 + 1 := by omega
  rw [← hg] at q1 b1 ⊢
  rw [e1] at q2 b2
  rw [e2] at q3 b3
  have hB3 : Below g w w3.drew := ((b1.trans (b2.mono (by omega))).trans (b3.mono (by omega))).drew
  have hq1 : w3.drew.heap[g]? = some (.cells (wp.bc a).toArray 31 (0, 0)) := wk.row_below (wk.row_below q1 (by rw [e1]; exact b2)) (by rw [e2]; exact b3.drew)
  have hq2 : w3.drew.heap[g + 1]? = some (.cells (wp.bc b).toArray 31 (0, 0)) := wk.row_below q2 (by rw [e2]; exact b3.drew)
  have hq3 : w3.drew.heap[g + 1 + 1]? = some (.cells hi.z16 31 (0, 0)) := q3
  have hT3 : Tab w3.drew := HT.out.below (B := g) (by rw [hg]; exact HT.out.1.1) hB3
  have HB3 := Lib.hid hB3
  have Q1 := Lib.hid hq1
  have Q2 := Lib.hid hq2
  have Q3 := Lib.hid hq3
  have HT3 := Lib.hid hT3
  have HG := Lib.hid hg
  clear q1 q2 q3 b1 b2 b3 s1 s2 e1 e2 hB3 hq1 hq2 hq3 hT3 hg HT hza hzb hoa hob
  have hsA : (⟨a.toArray⟩ : ByteArray).size = 16 := by show a.toArray.size = 16; rw [List.size_toArray]; exact HA.out
  have hsB : (⟨b.toArray⟩ : ByteArray).size = 16 := by show b.toArray.size = 16; rw [List.size_toArray]; exact HBb.out
  refine wk.region_tail 6 [.is (.slice (some ⟨g, 0, none⟩) 16 16), .is (.string ⟨a.toArray⟩), .is (.slice (some ⟨g + 1, 0, none⟩) 16 16), .is (.string ⟨b.toArray⟩), .st (fun w v => ∃ G, v = .slice (some ⟨G, 0, none⟩) 2 2 ∧ wp.RC w (some ⟨G, 0, none⟩) [.string ⟨a.toArray⟩, .string ⟨b.toArray⟩]) (fun w w' v ⟨G, h1, h2⟩ hb => ⟨G, h1, h2.below hb⟩), .is (dv (nodeD a b))] [some 5, some 6, some 7, some 8, some 9, some 10] (by kernel_rfl) (by kernel_rfl) (by kernel_rfl) (by kernel_rfl) (by kernel_rfl) (by kernel_rfl) ?hstep ?hdone
  case hstep =>
    intro i o ho hi E w4 hb4 D
    have hi2 : i = 0 ∨ i = 1 ∨ i = 2 ∨ i = 3 ∨ i = 4 ∨ i = 5 := by omega
    clear hi
    rcases hi2 with rfl | rfl | rfl | rfl | rfl | rfl
    ·
      have ho2 := (Array.getElem?_eq_some_iff.1 ho).2
      simp only [List.getElem_toArray, List.getElem_cons_zero] at ho2
      subst ho2
      clear ho
      have e2 := D.old 2 (by kernel_rfl)
      exact wk.does_run (by simp only [execOp, e2]; go_simp) rfl
    ·
      have ho2 := (Array.getElem?_eq_some_iff.1 ho).2
      simp only [List.getElem_toArray, List.getElem_cons_succ, List.getElem_cons_zero] at ho2
      subst ho2
      clear ho
      have e5 := D.is { on := 0, ground := .data } (by simp) rfl rfl 5 rfl
      exact wk.does_run (by simp only [execOp, e5]; rw [Sem.run_bind, wk.conv_str w4 75 5 9 Tryd.underlying75 Tryd.underlying5 Tryd.underlying9 (some ⟨g, 0, none⟩) 16 16 a HA.out (RB_row (wk.row_below Q1.out hb4))]; rfl) rfl
    ·
      have ho2 := (Array.getElem?_eq_some_iff.1 ho).2
      simp only [List.getElem_toArray, List.getElem_cons_succ, List.getElem_cons_zero] at ho2
      subst ho2
      clear ho
      have e3 := D.old 3 (by kernel_rfl)
      exact wk.does_run (by simp only [execOp, e3]; go_simp) rfl
    ·
      have ho2 := (Array.getElem?_eq_some_iff.1 ho).2
      simp only [List.getElem_toArray, List.getElem_cons_succ, List.getElem_cons_zero] at ho2
      subst ho2
      clear ho
      have e7 := D.is { on := 2, ground := .data } (by simp) rfl rfl 7 rfl
      exact wk.does_run (by simp only [execOp, e7]; rw [Sem.run_bind, wk.conv_str w4 75 5 9 Tryd.underlying75 Tryd.underlying5 Tryd.underlying9 (some ⟨g + 1, 0, none⟩) 16 16 b HBb.out (RB_row (wk.row_below Q2.out hb4))]; rfl) rfl
    ·
      have ho2 := (Array.getElem?_eq_some_iff.1 ho).2
      simp only [List.getElem_toArray, List.getElem_cons_succ, List.getElem_cons_zero] at ho2
      subst ho2
      clear ho
      have e6 := D.is { on := 1, ground := .data } (by simp) rfl rfl 6 rfl
      have e8 := D.is { on := 3, ground := .data } (by simp) rfl rfl 8 rfl
      refine wk.does_new (v := .slice (some ⟨w4.heap.size, 0, none⟩) 2 2) (w' := w4.alloc (.cells #[.string ⟨a.toArray⟩, .string ⟨b.toArray⟩] 9)) (by simp only [execOp, List.map_toArray, List.map_cons, List.map_nil, e6, e8]; go_simp) ((Below.refl _ _).alloc (Nat.le_refl _) _) ⟨_, rfl, wi.RC_new rfl _ _ rfl⟩
    ·
      have ho2 := (Array.getElem?_eq_some_iff.1 ho).2
      simp only [List.getElem_toArray, List.getElem_cons_succ, List.getElem_cons_zero] at ho2
      subst ho2
      clear ho
      have s9 := D.st { on := 4, ground := .data } (by simp) rfl rfl 9 rfl
      obtain ⟨G, e9, hrc⟩ := s9
      refine wk.does_fn (f := 37) (vs := #[.int .i64 31, .slice (some ⟨G, 0, none⟩) 2 2]) rfl (D.fn _) (by simp [e9, D.con]) (by go_simp) ?_
      refine (hof 31 (some ⟨G, 0, none⟩) 2 2 [⟨a.toArray⟩, ⟨b.toArray⟩] w4 rfl (Nat.le_refl _) (by omega) hrc (by omega) (by omega) (by simp [hsA, hsB]) (HT3.out.next hb4)).mono ?_
      rintro e w5 ⟨rfl, hb5⟩
      exact ⟨_, rfl, hb5, rfl⟩
  case hdone =>
    intro vals w4 hb4 hv
    have h5 : vals 5 = dv (nodeD a b) := hv 5 (by omega)
    have q3 := wk.row_below Q3.out hb4
    have HB4 := Lib.hid (HB3.out.trans (hb4.mono (by rw [HG.out]; exact HB3.out.size)))
    clear hv hb4
    simp only [List.drop_succ_cons, List.drop_zero, wk.setL, List.setIfInBounds_toArray, List.set_cons_zero, List.set_cons_succ, Nat.zero_add, Nat.reduceAdd, h5]
    generalize vals 0 = x0
    generalize vals 1 = x1
    generalize vals 2 = x2
    generalize vals 3 = x3
    generalize vals 4 = x4
    unfold dv
    have hz := dv_size (dig_length 31 [a, b])
    have hz2 := dv_sizeA (dig_length 31 [a, b])
    have hz3 : hi.z16.size = (wp.bc (dig 31 [a, b])).length := by rw [wp.bc_length, dig_length]; rfl
    have ho := wk.ones_bc (dig 31 [a, b])
    have hnd : nodeD a b = dig 31 [a, b] := rfl
    rw [hnd]
    generalize hcs : wp.bc (dig 31 [a, b]) = cs at *
    go_wp2_with (refine wk.store_row rfl 31 (.tmp 4) (.tmp 10) rfl (g + 1 + 1) cs rfl rfl 31 hi.z16 q3 hz hz3 ho ?_)
    refine bodyPost_ret (v := .agg cs.toArray) (results_cell_row (fn := Tryd.f19) rfl _ _ (g + 1 + 1) 31 cs.toArray (0, 0) _ rfl (setRow_heap _ _ _ _ _ _ q3) Tryd.underlying31 rfl hz2) rfl ⟨by rw [hnd, hcs], ?_⟩
    rw [← HG.out]; exact wk.below_setRow HB4.out (by omega) _
set_option maxRecDepth 100000 in
set_option maxHeartbeats 4000000 in
theorem empty_calls (w : World) (hT : Tab w) :
    Calls Tryd.prog 38 #[] w fun e w' => e = .returned (dv emptyD) ∧ Below w.heap.size w w' := by
  have HT := Lib.hid hT
  clear hT
  go_enter Tryd.func38, Tryd.ntmps38
  go_upto_region 1 with fail
  have q0 := zrow w
  have hb1 := zbelow w
  change Code.wp _ _ _ _ (w.alloc (.cells hi.z16 31))
  generalize w.alloc (.cells hi.z16 31) = w1 at *
  generalize hB : w.heap.size = B at *
  have HB := Lib.hid hB
  have hs1 : B < w1.heap.size := wk.row_lt q0
  have Q0 := Lib.hid q0
  have HB1 := Lib.hid hb1
  have hT1 := HT.out.below HT.out.1.1 (by rw [HB.out]; exact hb1)
  have hcall := hof 32 none 0 0 [] w1 rfl (Nat.le_refl _) (by omega) (fun h => absurd h (by simp)) (by omega) (by omega) (by simp) hT1
  have HC := Lib.hid hcall
  have HS1 := Lib.hid hs1
  clear hB q0 hb1 hcall hT1 hs1
  go_wp2_with fail
  refine HC.out.mono ?_
  rintro e w3 ⟨rfl, hb3⟩
  have q0 := wk.row_below Q0.out hb3
  have HB3 := Lib.hid (HB1.out.trans (hb3.mono (Nat.le_of_lt HS1.out)))
  have hz := dv_size (dig_length 32 [])
  have hz2 := dv_sizeA (dig_length 32 [])
  have hz3 : hi.z16.size = (wp.bc (dig 32 [])).length := by rw [wp.bc_length, dig_length]; rfl
  have ho := wk.ones_bc (dig 32 [])
  clear hb3 HC
  have hdv : dv (dig 32 (([] : List ByteArray).map fun s => s.data.toList)) = .agg (wp.bc (dig 32 [])).toArray := rfl
  rw [hdv]
  generalize hcs : wp.bc (dig 32 []) = cs at *
  have HCS := Lib.hid hcs
  clear hcs hdv
  go_wp2_with (refine wk.store_row rfl 31 (.tmp 0) (.tmp 1) rfl B cs rfl rfl 31 hi.z16 q0 hz hz3 ho ?_)
  refine bodyPost_ret (v := .agg cs.toArray) (results_cell_row (fn := Tryd.f38) rfl _ _ B 31 cs.toArray (0, 0) _ rfl (setRow_heap _ _ _ _ _ _ q0) Tryd.underlying31 rfl hz2) rfl ⟨by unfold emptyD dv; rw [HCS.out], ?_⟩
  rw [HB.out]; exact wk.below_setRow HB3.out (Nat.le_refl _) _
set_option maxRecDepth 100000 in
set_option maxHeartbeats 4000000 in
theorem rleaf_calls (s : ByteArray) (hs : s.size ≤ 1000) (w : World) (hT : Tab w) :
    Calls Tryd.prog 18 #[.string s] w fun e w' => e = .returned (dv (leafD s.data.toList)) ∧ Below w.heap.size w w' := by
  have HT := Lib.hid hT
  clear hT
  go_enter Tryd.func18, Tryd.ntmps18
  go_upto_region 1 with fail
  have q0 := zrow w
  have hb1 := zbelow w
  change Code.wp _ _ _ _ (w.alloc (.cells hi.z16 31))
  generalize w.alloc (.cells hi.z16 31) = w1 at *
  generalize hB : w.heap.size = B at *
  have HB := Lib.hid hB
  have hs1 : B < w1.heap.size := wk.row_lt q0
  have Q0 := Lib.hid q0
  have HB1 := Lib.hid hb1
  clear hB q0 hb1
  go_wp2_with fail
  have hbn : Below w1.heap.size w1 (w1.alloc (Obj.cells #[Value.string s] 9)) := (Below.refl _ _).alloc (Nat.le_refl _) _
  have hrc : wp.RC (w1.alloc (Obj.cells #[Value.string s] 9)) (some ⟨w1.heap.size, 0, none⟩) ([s].map Value.string) := wi.RC_new rfl _ _ rfl
  have hB1 := HB1.out
  have hTn := (HT.out.below HT.out.1.1 (by rw [HB.out]; exact hB1)).next hbn
  have hcall := rof 30 (some ⟨w1.heap.size, 0, none⟩) 1 1 [s] (w1.alloc (Obj.cells #[Value.string s] 9)) rfl (Nat.le_refl _) (by omega) hrc (by omega) (by omega) (by simpa using hs) hTn
  have HC := Lib.hid hcall
  have Q1 := wk.row_below Q0.out hbn
  have hB2 := hB1.trans (hbn.mono (Nat.le_of_lt hs1))
  have hsB : B < (w1.alloc (Obj.cells #[Value.string s] 9)).heap.size := wk.row_lt Q1
  generalize w1.alloc (Obj.cells #[Value.string s] 9) = w2 at *
  generalize w1.heap.size = G at *
  have HQ1 := Lib.hid Q1
  have HB2 := Lib.hid hB2
  have HsB := Lib.hid hsB
  clear hcall Q1 hB2 hbn hrc hTn hB1 hs1 HB1 Q0 hsB
  refine HC.out.mono ?_
  rintro e w3 ⟨rfl, hb3⟩
  have q0 := wk.row_below HQ1.out hb3
  have HB3 := Lib.hid (HB2.out.trans (hb3.mono (Nat.le_of_lt HsB.out)))
  have hz := dv_size (dig_length 30 [s.data.toList])
  have hz2 := dv_sizeA (dig_length 30 [s.data.toList])
  have hz3 : hi.z16.size = (wp.bc (dig 30 [s.data.toList])).length := by rw [wp.bc_length, dig_length]; rfl
  have ho := wk.ones_bc (dig 30 [s.data.toList])
  clear hb3 HC
  have hdv : dv (dig 30 ([s].map fun s => s.data.toList)) = .agg (wp.bc (dig 30 [s.data.toList])).toArray := rfl
  rw [hdv]
  generalize hcs : wp.bc (dig 30 [s.data.toList]) = cs at *
  have HCS := Lib.hid hcs
  clear hcs hdv
  go_wp2_with (refine wk.store_row rfl 31 (.tmp 2) (.tmp 5) rfl B cs rfl rfl 31 hi.z16 q0 hz hz3 ho ?_)
  refine bodyPost_ret (v := .agg cs.toArray) (results_cell_row (fn := Tryd.f18) rfl _ _ B 31 cs.toArray (0, 0) _ rfl (setRow_heap _ _ _ _ _ _ q0) Tryd.underlying31 rfl hz2) rfl ⟨by unfold leafD dv; rw [HCS.out], ?_⟩
  rw [HB.out]; exact wk.below_setRow HB3.out (Nat.le_refl _) _
set_option maxRecDepth 100000 in
set_option maxHeartbeats 4000000 in
theorem rnode_calls (a b : D) (ha : a.length = 16) (hb : b.length = 16) (w : World) (hT : Tab w) :
    Calls Tryd.prog 20 #[dv a, dv b] w fun e w' => e = .returned (dv (nodeD a b)) ∧ Below w.heap.size w w' := by
  have HT := Lib.hid hT
  clear hT
  have HA := Lib.hid ha
  have HBb := Lib.hid hb
  have hza := dv_size ha
  have hzb := dv_size hb
  have hoa := wk.ones_bc a
  have hob := wk.ones_bc b
  unfold dv
  clear ha hb
  go_enter Tryd.func20, Tryd.ntmps20
  go_upto_region 1 with fail
  change Code.wp _ _ _ _ (((w.alloc (.cells (wp.bc a).toArray 31)).alloc (.cells (wp.bc b).toArray 31)).alloc (.cells hi.z16 31))
  have b1 : Below w.heap.size w (w.alloc (.cells (wp.bc a).toArray 31)) := (Below.refl _ _).alloc (Nat.le_refl _) _
  have q1 : (w.alloc (.cells (wp.bc a).toArray 31)).heap[w.heap.size]? = some (.cells (wp.bc a).toArray 31 (0, 0)) := heap_alloc_new _ _
  have s1 : (w.alloc (.cells (wp.bc a).toArray 31)).heap.size = w.heap.size + 1 := Array.size_push ..
  generalize w.alloc (.cells (wp.bc a).toArray 31) = w1 at *
  have b2 : Below w1.heap.size w1 (w1.alloc (.cells (wp.bc b).toArray 31)) := (Below.refl _ _).alloc (Nat.le_refl _) _
  have q2 : (w1.alloc (.cells (wp.bc b).toArray 31)).heap[w1.heap.size]? = some (.cells (wp.bc b).toArray 31 (0, 0)) := heap_alloc_new _ _
  have s2 : (w1.alloc (.cells (wp.bc b).toArray 31)).heap.size = w1.heap.size + 1 := Array.size_push ..
  generalize w1.alloc (.cells (wp.bc b).toArray 31) = w2 at *
  have q3 := zrow w2
  have b3 := zbelow w2
  generalize w2.alloc (.cells hi.z16 31) = w3 at *
  obtain ⟨g, hg⟩ : ∃ g, g = w.heap.size := ⟨_, rfl⟩
  have e1 : w1.heap.size = g + 1 := by omega
  have e2 : w2.heap.size = g + 1 + 1 := by omega
  rw [← hg] at q1 b1 ⊢
  rw [e1] at q2 b2
  rw [e2] at q3 b3
  have hB3 : Below g w w3.drew := ((b1.trans (b2.mono (by omega))).trans (b3.mono (by omega))).drew
  have hq1 : w3.drew.heap[g]? = some (.cells (wp.bc a).toArray 31 (0, 0)) := wk.row_below (wk.row_below q1 (by rw [e1]; exact b2)) (by rw [e2]; exact b3.drew)
  have hq2 : w3.drew.heap[g + 1]? = some (.cells (wp.bc b).toArray 31 (0, 0)) := wk.row_below q2 (by rw [e2]; exact b3.drew)
  have hq3 : w3.drew.heap[g + 1 + 1]? = some (.cells hi.z16 31 (0, 0)) := q3
  have hT3 : Tab w3.drew := HT.out.below (B := g) (by rw [hg]; exact HT.out.1.1) hB3
  have HB3 := Lib.hid hB3
  have Q1 := Lib.hid hq1
  have Q2 := Lib.hid hq2
  have Q3 := Lib.hid hq3
  have HT3 := Lib.hid hT3
  have HG := Lib.hid hg
  clear q1 q2 q3 b1 b2 b3 s1 s2 e1 e2 hB3 hq1 hq2 hq3 hT3 hg HT hza hzb hoa hob
  have hsA : (⟨a.toArray⟩ : ByteArray).size = 16 := by show a.toArray.size = 16; rw [List.size_toArray]; exact HA.out
  have hsB : (⟨b.toArray⟩ : ByteArray).size = 16 := by show b.toArray.size = 16; rw [List.size_toArray]; exact HBb.out
  refine wk.region_tail 6 [.is (.slice (some ⟨g, 0, none⟩) 16 16), .is (.string ⟨a.toArray⟩), .is (.slice (some ⟨g + 1, 0, none⟩) 16 16), .is (.string ⟨b.toArray⟩), .st (fun w v => ∃ G, v = .slice (some ⟨G, 0, none⟩) 2 2 ∧ wp.RC w (some ⟨G, 0, none⟩) [.string ⟨a.toArray⟩, .string ⟨b.toArray⟩]) (fun w w' v ⟨G, h1, h2⟩ hb => ⟨G, h1, h2.below hb⟩), .is (dv (nodeD a b))] [some 5, some 6, some 7, some 8, some 9, some 10] (by kernel_rfl) (by kernel_rfl) (by kernel_rfl) (by kernel_rfl) (by kernel_rfl) (by kernel_rfl) ?hstep ?hdone
  case hstep =>
    intro i o ho hi E w4 hb4 D
    have hi2 : i = 0 ∨ i = 1 ∨ i = 2 ∨ i = 3 ∨ i = 4 ∨ i = 5 := by omega
    clear hi
    rcases hi2 with rfl | rfl | rfl | rfl | rfl | rfl
    ·
      have ho2 := (Array.getElem?_eq_some_iff.1 ho).2
      simp only [List.getElem_toArray, List.getElem_cons_zero] at ho2
      subst ho2
      clear ho
      have e2 := D.old 2 (by kernel_rfl)
      exact wk.does_run (by simp only [execOp, e2]; go_simp) rfl
    ·
      have ho2 := (Array.getElem?_eq_some_iff.1 ho).2
      simp only [List.getElem_toArray, List.getElem_cons_succ, List.getElem_cons_zero] at ho2
      subst ho2
      clear ho
      have e5 := D.is { on := 0, ground := .data } (by simp) rfl rfl 5 rfl
      exact wk.does_run (by simp only [execOp, e5]; rw [Sem.run_bind, wk.conv_str w4 75 5 9 Tryd.underlying75 Tryd.underlying5 Tryd.underlying9 (some ⟨g, 0, none⟩) 16 16 a HA.out (RB_row (wk.row_below Q1.out hb4))]; rfl) rfl
    ·
      have ho2 := (Array.getElem?_eq_some_iff.1 ho).2
      simp only [List.getElem_toArray, List.getElem_cons_succ, List.getElem_cons_zero] at ho2
      subst ho2
      clear ho
      have e3 := D.old 3 (by kernel_rfl)
      exact wk.does_run (by simp only [execOp, e3]; go_simp) rfl
    ·
      have ho2 := (Array.getElem?_eq_some_iff.1 ho).2
      simp only [List.getElem_toArray, List.getElem_cons_succ, List.getElem_cons_zero] at ho2
      subst ho2
      clear ho
      have e7 := D.is { on := 2, ground := .data } (by simp) rfl rfl 7 rfl
      exact wk.does_run (by simp only [execOp, e7]; rw [Sem.run_bind, wk.conv_str w4 75 5 9 Tryd.underlying75 Tryd.underlying5 Tryd.underlying9 (some ⟨g + 1, 0, none⟩) 16 16 b HBb.out (RB_row (wk.row_below Q2.out hb4))]; rfl) rfl
    ·
      have ho2 := (Array.getElem?_eq_some_iff.1 ho).2
      simp only [List.getElem_toArray, List.getElem_cons_succ, List.getElem_cons_zero] at ho2
      subst ho2
      clear ho
      have e6 := D.is { on := 1, ground := .data } (by simp) rfl rfl 6 rfl
      have e8 := D.is { on := 3, ground := .data } (by simp) rfl rfl 8 rfl
      refine wk.does_new (v := .slice (some ⟨w4.heap.size, 0, none⟩) 2 2) (w' := w4.alloc (.cells #[.string ⟨a.toArray⟩, .string ⟨b.toArray⟩] 9)) (by simp only [execOp, List.map_toArray, List.map_cons, List.map_nil, e6, e8]; go_simp) ((Below.refl _ _).alloc (Nat.le_refl _) _) ⟨_, rfl, wi.RC_new rfl _ _ rfl⟩
    ·
      have ho2 := (Array.getElem?_eq_some_iff.1 ho).2
      simp only [List.getElem_toArray, List.getElem_cons_succ, List.getElem_cons_zero] at ho2
      subst ho2
      clear ho
      have s9 := D.st { on := 4, ground := .data } (by simp) rfl rfl 9 rfl
      obtain ⟨G, e9, hrc⟩ := s9
      refine wk.does_fn (f := 41) (vs := #[.int .i64 31, .slice (some ⟨G, 0, none⟩) 2 2]) rfl (D.fn _) (by simp [e9, D.con]) (by go_simp) ?_
      refine (rof 31 (some ⟨G, 0, none⟩) 2 2 [⟨a.toArray⟩, ⟨b.toArray⟩] w4 rfl (Nat.le_refl _) (by omega) hrc (by omega) (by omega) (by simp [hsA, hsB]) (HT3.out.next hb4)).mono ?_
      rintro e w5 ⟨rfl, hb5⟩
      exact ⟨_, rfl, hb5, rfl⟩
  case hdone =>
    intro vals w4 hb4 hv
    have h5 : vals 5 = dv (nodeD a b) := hv 5 (by omega)
    have q3 := wk.row_below Q3.out hb4
    have HB4 := Lib.hid (HB3.out.trans (hb4.mono (by rw [HG.out]; exact HB3.out.size)))
    clear hv hb4
    simp only [List.drop_succ_cons, List.drop_zero, wk.setL, List.setIfInBounds_toArray, List.set_cons_zero, List.set_cons_succ, Nat.zero_add, Nat.reduceAdd, h5]
    generalize vals 0 = x0
    generalize vals 1 = x1
    generalize vals 2 = x2
    generalize vals 3 = x3
    generalize vals 4 = x4
    unfold dv
    have hz := dv_size (dig_length 31 [a, b])
    have hz2 := dv_sizeA (dig_length 31 [a, b])
    have hz3 : hi.z16.size = (wp.bc (dig 31 [a, b])).length := by rw [wp.bc_length, dig_length]; rfl
    have ho := wk.ones_bc (dig 31 [a, b])
    have hnd : nodeD a b = dig 31 [a, b] := rfl
    rw [hnd]
    generalize hcs : wp.bc (dig 31 [a, b]) = cs at *
    go_wp2_with (refine wk.store_row rfl 31 (.tmp 4) (.tmp 10) rfl (g + 1 + 1) cs rfl rfl 31 hi.z16 q3 hz hz3 ho ?_)
    refine bodyPost_ret (v := .agg cs.toArray) (results_cell_row (fn := Tryd.f20) rfl _ _ (g + 1 + 1) 31 cs.toArray (0, 0) _ rfl (setRow_heap _ _ _ _ _ _ q3) Tryd.underlying31 rfl hz2) rfl ⟨by rw [hnd, hcs], ?_⟩
    rw [← HG.out]; exact wk.below_setRow HB4.out (by omega) _
set_option maxRecDepth 100000 in
set_option maxHeartbeats 4000000 in
theorem rempty_calls (w : World) (hT : Tab w) :
    Calls Tryd.prog 39 #[] w fun e w' => e = .returned (dv emptyD) ∧ Below w.heap.size w w' := by
  have HT := Lib.hid hT
  clear hT
  go_enter Tryd.func39, Tryd.ntmps39
  go_upto_region 1 with fail
  have q0 := zrow w
  have hb1 := zbelow w
  change Code.wp _ _ _ _ (w.alloc (.cells hi.z16 31))
  generalize w.alloc (.cells hi.z16 31) = w1 at *
  generalize hB : w.heap.size = B at *
  have HB := Lib.hid hB
  have hs1 : B < w1.heap.size := wk.row_lt q0
  have Q0 := Lib.hid q0
  have HB1 := Lib.hid hb1
  have hT1 := HT.out.below HT.out.1.1 (by rw [HB.out]; exact hb1)
  have hcall := rof 32 none 0 0 [] w1 rfl (Nat.le_refl _) (by omega) (fun h => absurd h (by simp)) (by omega) (by omega) (by simp) hT1
  have HC := Lib.hid hcall
  have HS1 := Lib.hid hs1
  clear hB q0 hb1 hcall hT1 hs1
  go_wp2_with fail
  refine HC.out.mono ?_
  rintro e w3 ⟨rfl, hb3⟩
  have q0 := wk.row_below Q0.out hb3
  have HB3 := Lib.hid (HB1.out.trans (hb3.mono (Nat.le_of_lt HS1.out)))
  have hz := dv_size (dig_length 32 [])
  have hz2 := dv_sizeA (dig_length 32 [])
  have hz3 : hi.z16.size = (wp.bc (dig 32 [])).length := by rw [wp.bc_length, dig_length]; rfl
  have ho := wk.ones_bc (dig 32 [])
  clear hb3 HC
  have hdv : dv (dig 32 (([] : List ByteArray).map fun s => s.data.toList)) = .agg (wp.bc (dig 32 [])).toArray := rfl
  rw [hdv]
  generalize hcs : wp.bc (dig 32 []) = cs at *
  have HCS := Lib.hid hcs
  clear hcs hdv
  go_wp2_with (refine wk.store_row rfl 31 (.tmp 0) (.tmp 1) rfl B cs rfl rfl 31 hi.z16 q0 hz hz3 ho ?_)
  refine bodyPost_ret (v := .agg cs.toArray) (results_cell_row (fn := Tryd.f39) rfl _ _ B 31 cs.toArray (0, 0) _ rfl (setRow_heap _ _ _ _ _ _ q0) Tryd.underlying31 rfl hz2) rfl ⟨by unfold emptyD dv; rw [HCS.out], ?_⟩
  rw [HB.out]; exact wk.below_setRow HB3.out (Nat.le_refl _) _
end Go.Proofs.YtmjmkkdmphgdnaaDoor.mk
/- Lengths in bits, and the size of the first part. -/
namespace Go.Proofs.YtmjmkkdmphgdnaaDoor.mk

open Go.ChangeShapes Go.WideShapes Go.ChangeAt Go.RowKit

set_option linter.unusedVariables false
theorem tab_all : ∀ j : Fin 256, ((Lib.len8tab.data[j.val]?).map UInt8.toNat) = some (Lib.bitLen j.val) := by decide +kernel
theorem tab_at (n : Nat) (h : n < Lib.len8tab.size) (hn : n < 256) : ((Lib.len8tab[n]'h).toNat : Int) = Lib.bitLen n := by
  have h2 := tab_all ⟨n, hn⟩
  rw [Array.getElem?_eq_getElem (show n < Lib.len8tab.data.size from h), Option.map_some, Option.some.injEq] at h2
  exact congrArg _ h2
theorem wrap_small (k b : Nat) (hk : k ≤ 64) (hb : b ≤ 8) : wrap64 (k + wrap64 (b : Int)) = ((k + b : Nat) : Int) := by
  unfold wrap64
  omega
theorem len_fin (k : Nat) (x b v : Int) (hx : x.toNat < 2 ^ 64) (hk : k ≤ 64) (hb : b.toNat = x.toNat / 2 ^ k) (hge : 2 ^ k ≤ x.toNat) (h8 : b.toNat < 256) (hv : v = Lib.bitLen b.toNat) :
    wrap64 (k + wrap64 v) = (Lib.bitLen x.toNat : Int) := by
  rw [hv, Lib.bitLen_shift k x.toNat hge hx, ← hb]
  exact wrap_small k _ hk (Lib.bitLen_le8 ⟨b.toNat, h8⟩)
set_option maxRecDepth 100000 in
set_option maxHeartbeats 4000000 in
theorem len64_calls (x : Int) (w : World) (h0 : 0 ≤ x) (h1 : x ≤ 18446744073709551615) :
    Calls Tryd.prog 80 #[.int .u64 x] w fun e w' => e = .returned (.int .i64 (Lib.bitLen x.toNat)) ∧ w' = w := by
  go_enter Tryd.func80, Tryd.ntmps80
  have hsz : Lib.len8tab.size = 256 := by kernel_rfl
  go_wp2
  all_goals first
    | (exfalso; omega)
    | (go_ret; refine ⟨congrArg Ending.returned (congrArg (Value.int IntKind.i64) ?_), rfl⟩)
  · exact len_fin 56 x _ _ (by omega) (by omega) (by omega) (by omega) (by omega) (tab_at _ _ (by omega))
  · exact len_fin 48 x _ _ (by omega) (by omega) (by omega) (by omega) (by omega) (tab_at _ _ (by omega))
  · exact len_fin 40 x _ _ (by omega) (by omega) (by omega) (by omega) (by omega) (tab_at _ _ (by omega))
  · exact len_fin 32 x _ _ (by omega) (by omega) (by omega) (by omega) (by omega) (tab_at _ _ (by omega))
  · exact len_fin 24 x _ _ (by omega) (by omega) (by omega) (by omega) (by omega) (tab_at _ _ (by omega))
  · exact len_fin 16 x _ _ (by omega) (by omega) (by omega) (by omega) (by omega) (tab_at _ _ (by omega))
  · exact len_fin 8 x _ _ (by omega) (by omega) (by omega) (by omega) (by omega) (tab_at _ _ (by omega))
  · rw [tab_at _ _ (by omega)]
    have l := Lib.bitLen_le8 ⟨x.toNat, by omega⟩
    simp only at l
    unfold wrap64
    omega
theorem bitLen_log {n : Nat} (h : 0 < n) (hn : n < 2 ^ 64) : Lib.bitLen n = n.log2 + 1 := by
  have h1 := Nat.log2_self_le (n := n) (by omega)
  have h2 := Nat.lt_log2_self (n := n)
  have hl : n.log2 < 64 := (Nat.log2_lt (by omega)).2 hn
  have s := Lib.bitLen_shift n.log2 n h1 hn
  have e : n / 2 ^ n.log2 = 1 := by
    have hp := Nat.two_pow_pos n.log2
    refine Nat.div_eq_of_lt_le (by omega) ?_
    rw [Nat.pow_succ] at h2; omega
  rw [s, e]
  rfl
set_option maxRecDepth 100000 in
set_option maxHeartbeats 4000000 in
theorem len_calls (x : Int) (w : World) (h0 : 0 ≤ x) (h1 : x ≤ 18446744073709551615) :
    Calls Tryd.prog 70 #[.int .u64 x] w fun e w' => e = .returned (.int .i64 (Lib.bitLen x.toNat)) ∧ w' = w := by
  go_enter Tryd.func70, Tryd.ntmps70
  go_wp2_with (go_at_call 80; refine (len64_calls _ _ (by omega) (by omega)).mono ?_; rintro e w' ⟨rfl, rfl⟩)
  go_ret
  exact ⟨rfl, rfl⟩
theorem shl_one (k : Nat) (hk : k < 63) (P : Program) (w : World) : (Op.shift BinOp.shl IntKind.i64 1 IntKind.i64 (k : Int)).run P w = .ok (.int .i64 ((2 ^ k : Nat) : Int)) w := by
  have h1 : ¬ (k : Int) < 0 := by omega
  have hm : min (k : Int).toNat (IntKind.i64).bits = k := by show min _ 64 = k; omega
  have hp : (2 : Nat) ^ k ≤ 2 ^ 62 := Nat.pow_le_pow_right (by omega) (by omega)
  have he : IntKind.i64.wrap (1 * 2 ^ k) = ((2 ^ k : Nat) : Int) := by
    rw [IntKind.wrap_i64, Int.one_mul]
    have e : (2 : Int) ^ k = ((2 ^ k : Nat) : Int) := by push_cast; rfl
    rw [e]
    generalize (2 ^ k : Nat) = y at *
    omega
  simp only [Op.shift, if_neg h1, hm, he, Sem.run_pure]
theorem log2_lt63 {n : Nat} (h2 : 2 ≤ n) (h : n ≤ 9223372036854775807) : (n - 1).log2 < 63 := (Nat.log2_lt (by omega)).2 (by omega)
set_option maxRecDepth 100000 in
set_option maxHeartbeats 4000000 in
theorem firstSize_calls (n : Nat) (w : World) (h2 : 2 ≤ n) (h : n ≤ 9223372036854775807) :
    Calls Tryd.prog 50 #[.int .i64 n] w fun e w' => e = .returned (.int .i64 (split n : Nat)) ∧ w' = w := by
  have hb : Lib.bitLen (n - 1) = (n - 1).log2 + 1 := bitLen_log (by omega) (by omega)
  have hl := log2_lt63 h2 h
  have hw : wrap64 ((Lib.bitLen (n - 1) : Int) - 1) = (((n - 1).log2 : Nat) : Int) := by
    rw [hb]; unfold wrap64; omega
  have hsh := fun w => shl_one (n - 1).log2 hl Tryd.prog w
  rw [← hw] at hsh
  clear hw hb hl
  go_enter Tryd.func50, Tryd.ntmps50
  go_wp2_with (go_at_call 70; refine (len_calls _ _ (by omega) (by omega)).mono ?_; rintro e w' ⟨rfl, rfl⟩)
  go_ret
  exact ⟨rfl, rfl⟩
theorem run_sizeD (w : World) : (Go.sizeOf 31).run Tryd.prog w = .ok 16 w := wk.run_sizeOf w _ _ infoD
theorem elemD : Tryd.prog.elem 22 = 31 := by kernel_rfl
theorem underD : Tryd.prog.underlying 22 = some (.slice (Tryd.prog.elem 22)) := by kernel_rfl
/-- a cut with three bounds, or two, or one -/
theorem run_cut3 (w : World) (A : Option Addr) (n c lo hi m : Nat) (h1 : lo ≤ hi) (h2 : hi ≤ m) (h3 : m ≤ c) :
    (Instr.sliceAt 22 (.slice A n c) (some (.int .i64 lo)) (some (.int .i64 hi)) (some (.int .i64 m))).run Tryd.prog w = .ok (.slice (if m = lo then A else A.map (·.add (lo * 16))) (hi - lo) (m - lo)) w := by
  have hb : (Instr.sliceBounds true n c (some (.int .i64 lo)) (some (.int .i64 hi)) (some (.int .i64 m))).run Tryd.prog w = .ok (lo, hi, m) w := by
    simp only [Instr.sliceBounds, Sem.run_bind, run_sliceBound w IntKind.i64 (m : Int) c _ (by omega) (by omega), Result.andThen_ok, Int.toNat_natCast, run_sliceBound w IntKind.i64 (hi : Int) m _ (by omega) (by omega), run_sliceBound w IntKind.i64 (lo : Int) hi _ (by omega) (by omega), Sem.run_pure]
  rw [run_sliceAt_slice _ _ _ _ _ _ underD, run_slice_any _ _ _ _ _ underD, hb, elemD]
  simp only [Result.andThen_ok, run_sizeD, sliced]
theorem run_cut03 (w : World) (A : Option Addr) (n c hi m : Nat) (h2 : hi ≤ m) (h3 : m ≤ c) :
    (Instr.sliceAt 22 (.slice A n c) none (some (.int .i64 hi)) (some (.int .i64 m))).run Tryd.prog w = .ok (.slice (if m = 0 then A else A.map (·.add (0 * 16))) (hi - 0) (m - 0)) w := by
  have hb : (Instr.sliceBounds true n c none (some (.int .i64 hi)) (some (.int .i64 m))).run Tryd.prog w = .ok (0, hi, m) w := by
    simp only [Instr.sliceBounds, Sem.run_bind, run_sliceBound w IntKind.i64 (m : Int) c _ (by omega) (by omega), Result.andThen_ok, Int.toNat_natCast, run_sliceBound w IntKind.i64 (hi : Int) m _ (by omega) (by omega), Sem.run_pure]
  rw [run_sliceAt_slice _ _ _ _ _ _ underD, run_slice_any _ _ _ _ _ underD, hb, elemD]
  simp only [Result.andThen_ok, run_sizeD, sliced]
theorem run_cut_h (w : World) (A : Option Addr) (n c hi : Nat) (h3 : hi ≤ c) :
    (Instr.sliceAt 22 (.slice A n c) none (some (.int .i64 hi)) none).run Tryd.prog w = .ok (.slice (if c = 0 then A else A.map (·.add (0 * 16))) (hi - 0) (c - 0)) w := by
  have hb : (Instr.sliceBounds true n c none (some (.int .i64 hi)) none).run Tryd.prog w = .ok (0, hi, c) w := by
    simp only [Instr.sliceBounds, Sem.run_bind, Result.andThen_ok, Int.toNat_natCast, run_sliceBound w IntKind.i64 (hi : Int) c _ (by omega) (by omega), Sem.run_pure]
  rw [run_sliceAt_slice _ _ _ _ _ _ underD, run_slice_any _ _ _ _ _ underD, hb, elemD]
  simp only [Result.andThen_ok, run_sizeD, sliced]
theorem run_cut_l (w : World) (A : Option Addr) (n c lo : Nat) (h3 : lo ≤ n) :
    (Instr.sliceAt 22 (.slice A n c) (some (.int .i64 lo)) none none).run Tryd.prog w = .ok (.slice (if c = lo then A else A.map (·.add (lo * 16))) (n - lo) (c - lo)) w := by
  have hb : (Instr.sliceBounds true n c (some (.int .i64 lo)) none none).run Tryd.prog w = .ok (lo, n, c) w := by
    simp only [Instr.sliceBounds, Sem.run_bind, Result.andThen_ok, Int.toNat_natCast, run_sliceBound w IntKind.i64 (lo : Int) n _ (by omega) (by omega), Sem.run_pure]
  rw [run_sliceAt_slice _ _ _ _ _ _ underD, run_slice_any _ _ _ _ _ underD, hb, elemD]
  simp only [Result.andThen_ok, run_sizeD, sliced]
end Go.Proofs.YtmjmkkdmphgdnaaDoor.mk
/- The halves of a list, and its root. -/
namespace Go.Proofs.YtmjmkkdmphgdnaaDoor.mk

open Go.ChangeShapes Go.WideShapes Go.ChangeAt Go.RowKit

set_option linter.unusedVariables false
set_option maxRecDepth 100000 in
set_option maxHeartbeats 4000000 in
theorem halves_calls (A : Option Addr) (n c : Nat) (l : List D) (w : World) (h : IsD w A n c l) (h2 : 2 ≤ n) :
    Calls Tryd.prog 33 #[.slice A n c] w fun e w' => ∃ A1 A2, e = .returned (.tuple #[.slice A1 (split n) (split n), .slice A2 (n - split n) (n - split n)]) ∧ IsD w' A1 (split n) (split n) (l.take (split n)) ∧ IsD w' A2 (n - split n) (n - split n) (l.drop (split n)) ∧ Below w.heap.size w w' ∧ ∀ B, (∃ b o, A = some ⟨b, o, none⟩ ∧ b < B) → (∃ b o, A1 = some ⟨b, o, none⟩ ∧ b < B) ∧ ∃ b o, A2 = some ⟨b, o, none⟩ ∧ b < B := by
  have hle := h.le
  have hcap := h.cap
  unfold maxLen at hcap
  have hs := split_lt h2
  have hp := split_pos n
  have hF := fun w => firstSize_calls n w h2 (by omega)
  have c1 := h.cut (lo := 0) (hi := split n) (m := split n) (by omega) (by omega) (by omega) (by omega)
  have c2 := h.cut (lo := split n) (hi := n) (m := n) (by omega) (by omega) (by omega) (by omega)
  have r1 := fun w => run_cut03 w A n c (split n) (split n) (Nat.le_refl _) (by omega)
  have r2 := fun w => run_cut3 w A n c (split n) n n (by omega) (by omega) (by omega)
  have t1 : (l.drop 0).take (split n - 0) = l.take (split n) := by simp
  have t2 : (l.drop (split n)).take (n - split n) = l.drop (split n) := List.take_of_length_le (by rw [List.length_drop, h.len]; omega)
  rw [t1] at c1
  rw [t2] at c2
  simp only [Nat.sub_zero] at c1 r1
  have hlow : ∀ B, (∃ b o, A = some ⟨b, o, none⟩ ∧ b < B) → (∃ b o, (if split n = 0 then A else A.map (·.add (0 * 16))) = some ⟨b, o, none⟩ ∧ b < B) ∧ ∃ b o, (if n = split n then A else A.map (·.add (split n * 16))) = some ⟨b, o, none⟩ ∧ b < B := by
    rintro B ⟨b, o, rfl, hb⟩
    rw [if_neg (by omega), if_neg (by omega)]
    exact ⟨⟨b, _, by rw [Option.map_some, wk.add_at], hb⟩, ⟨b, _, by rw [Option.map_some, wk.add_at], hb⟩⟩
  generalize (if split n = 0 then A else A.map (·.add (0 * 16))) = A1 at *
  generalize (if n = split n then A else A.map (·.add (split n * 16))) = A2 at *
  generalize split n = k at *
  have C1 := Lib.hid c1
  have C2 := Lib.hid c2
  have HF := Lib.hid hF
  have R1 := Lib.hid r1
  have R2 := Lib.hid r2
  have HLow := Lib.hid hlow
  clear c1 c2 hF r1 r2 t1 t2 h hlow
  go_enter Tryd.func33, Tryd.ntmps33
  go_upto_region 3 with (go_at_call 50; refine (HF.out _).mono ?_; rintro e w' ⟨rfl, hw'⟩; rw [hw']; clear hw')
  refine wk.region_tail 11 [.is (.slice A n c), .is (.int .i64 k), .is (.int .i64 k), .is (.slice A1 k k), .is (.slice A n c), .is (.int .i64 k), .is (.int .i64 n), .is (.int .i64 n), .is (.slice A2 (n - k) (n - k)), .is (.slice A1 k k), .is (.slice A2 (n - k) (n - k))] [some 10, some 11, some 12, some 13, some 14, some 15, some 16, some 17, some 18, some 2, some 3] (by kernel_rfl) (by kernel_rfl) (by kernel_rfl) (by kernel_rfl) (by kernel_rfl) (by kernel_rfl) ?hstep ?hdone
  case hstep =>
    intro i o ho hi E w4 hb4 D
    have hi2 : i = 0 ∨ i = 1 ∨ i = 2 ∨ i = 3 ∨ i = 4 ∨ i = 5 ∨ i = 6 ∨ i = 7 ∨ i = 8 ∨ i = 9 ∨ i = 10 := by omega
    clear hi
    rcases hi2 with rfl | rfl | rfl | rfl | rfl | rfl | rfl | rfl | rfl | rfl | rfl
    ·
      have ho2 := (Array.getElem?_eq_some_iff.1 ho).2
      simp only [List.getElem_toArray, List.getElem_cons_zero] at ho2
      subst ho2
      clear ho
      have e0 := D.old 0 (by kernel_rfl)
      exact wk.does_move rfl (by rw [e0]; rfl)
    ·
      have ho2 := (Array.getElem?_eq_some_iff.1 ho).2
      simp only [List.getElem_toArray, List.getElem_cons_succ, List.getElem_cons_zero] at ho2
      subst ho2
      clear ho
      have e5 := D.old 5 (by kernel_rfl)
      exact wk.does_move rfl (by rw [e5]; rfl)
    ·
      have ho2 := (Array.getElem?_eq_some_iff.1 ho).2
      simp only [List.getElem_toArray, List.getElem_cons_succ, List.getElem_cons_zero] at ho2
      subst ho2
      clear ho
      have e5 := D.old 5 (by kernel_rfl)
      exact wk.does_move rfl (by rw [e5]; rfl)
    ·
      have ho2 := (Array.getElem?_eq_some_iff.1 ho).2
      simp only [List.getElem_toArray, List.getElem_cons_succ, List.getElem_cons_zero] at ho2
      subst ho2
      clear ho
      have e10 := D.is { on := 0, ground := .data } (by simp) rfl rfl 10 rfl
      have e11 := D.is { on := 1, ground := .data } (by simp) rfl rfl 11 rfl
      have e12 := D.is { on := 2, ground := .data } (by simp) rfl rfl 12 rfl
      exact wk.does_run (by simp only [execOp, e10, e11, e12, Option.map_some, Option.map_none]; rw [Sem.run_bind, R1.out]; rfl) rfl
    ·
      have ho2 := (Array.getElem?_eq_some_iff.1 ho).2
      simp only [List.getElem_toArray, List.getElem_cons_succ, List.getElem_cons_zero] at ho2
      subst ho2
      clear ho
      have e0 := D.old 0 (by kernel_rfl)
      exact wk.does_move rfl (by rw [e0]; rfl)
    ·
      have ho2 := (Array.getElem?_eq_some_iff.1 ho).2
      simp only [List.getElem_toArray, List.getElem_cons_succ, List.getElem_cons_zero] at ho2
      subst ho2
      clear ho
      have e5 := D.old 5 (by kernel_rfl)
      exact wk.does_move rfl (by rw [e5]; rfl)
    ·
      have ho2 := (Array.getElem?_eq_some_iff.1 ho).2
      simp only [List.getElem_toArray, List.getElem_cons_succ, List.getElem_cons_zero] at ho2
      subst ho2
      clear ho
      have e4 := D.old 4 (by kernel_rfl)
      exact wk.does_move rfl (by rw [e4]; rfl)
    ·
      have ho2 := (Array.getElem?_eq_some_iff.1 ho).2
      simp only [List.getElem_toArray, List.getElem_cons_succ, List.getElem_cons_zero] at ho2
      subst ho2
      clear ho
      have e4 := D.old 4 (by kernel_rfl)
      exact wk.does_move rfl (by rw [e4]; rfl)
    ·
      have ho2 := (Array.getElem?_eq_some_iff.1 ho).2
      simp only [List.getElem_toArray, List.getElem_cons_succ, List.getElem_cons_zero] at ho2
      subst ho2
      clear ho
      have e14 := D.is { on := 4, ground := .data } (by simp) rfl rfl 14 rfl
      have e15 := D.is { on := 5, ground := .data } (by simp) rfl rfl 15 rfl
      have e16 := D.is { on := 6, ground := .data } (by simp) rfl rfl 16 rfl
      have e17 := D.is { on := 7, ground := .data } (by simp) rfl rfl 17 rfl
      exact wk.does_run (by simp only [execOp, e14, e15, e16, e17, Option.map_some]; rw [Sem.run_bind, R2.out]; rfl) rfl
    ·
      have ho2 := (Array.getElem?_eq_some_iff.1 ho).2
      simp only [List.getElem_toArray, List.getElem_cons_succ, List.getElem_cons_zero] at ho2
      subst ho2
      clear ho
      have e13 := D.is { on := 3, ground := .data } (by simp) rfl rfl 13 rfl
      exact wk.does_assign rfl e13
    ·
      have ho2 := (Array.getElem?_eq_some_iff.1 ho).2
      simp only [List.getElem_toArray, List.getElem_cons_succ, List.getElem_cons_zero] at ho2
      subst ho2
      clear ho
      have e18 := D.is { on := 8, ground := .data } (by simp) rfl rfl 18 rfl
      exact wk.does_assign rfl e18
  case hdone =>
    intro vals w4 hb4 hv
    have h9 : vals 9 = .slice A1 k k := hv 9 (by omega)
    have h10 : vals 10 = .slice A2 (n - k) (n - k) := hv 10 (by omega)
    have hb5 : Below w.heap.size w w4 := (Below.refl _ _).drew.trans hb4
    clear hv hb4
    simp only [List.drop_succ_cons, List.drop_zero, wpList, wk.setL, List.setIfInBounds_toArray, List.set_cons_zero, List.set_cons_succ, Nat.zero_add, Nat.reduceAdd, h9, h10]
    generalize vals 0 = x0
    generalize vals 1 = x1
    generalize vals 2 = x2
    generalize vals 3 = x3
    generalize vals 4 = x4
    generalize vals 5 = x5
    generalize vals 6 = x6
    generalize vals 7 = x7
    generalize vals 8 = x8
    go_wp2_with fail
    go_ret2
    exact ⟨A1, A2, rfl, C1.out.below hb5, C2.out.below hb5, hb5, HLow.out⟩
/-- reading an element -/
theorem IsD.load {w : World} {A : Option Addr} {n c : Nat} {l : List D} (h : IsD w A n c l) {i : Int} (h0 : 0 ≤ i) {d : D} (hi : l[i.toNat]? = some d) :
    ∃ ad, (∀ w', (Instr.indexAt 22 (.slice A n c) (.int .i64 i)).run Tryd.prog w' = .ok (.pointer (some ad)) w') ∧ ∀ w', Below w.heap.size w w' → ∀ j v, (wp.bc d)[j]? = some v → w'.cell? (ad.add j) = some v := by
  obtain ⟨b, o, rfl, hb, hc⟩ := h.cell hi
  have hil : i.toNat < l.length := by
    rcases Nat.lt_or_ge i.toNat l.length with h' | h'
    · exact h'
    · rw [List.getElem?_eq_none h'] at hi; cases hi
  refine ⟨⟨b, o + i.toNat * 16, none⟩, fun w' => ?_, fun w' hb' j v hv => ?_⟩
  · rw [run_indexAt_slice _ _ _ _ _ _ _ underD, elemD, if_pos ⟨h0, by rw [← h.len]; omega⟩, run_sizeD, Result.andThen_ok, wk.add_at]
  · rw [wk.add_at]; exact (hb'.cell (p := ⟨b, o + i.toNat * 16 + j, none⟩) hb).trans (hc j v hv)
set_option maxRecDepth 100000 in
set_option maxHeartbeats 4000000 in
theorem root_calls : ∀ (n : Nat) (A : Option Addr) (c : Nat) (l : List D) (w : World), IsD w A n c l → Tab w →
    Calls Tryd.prog 15 #[.slice A n c] w fun e w' => e = .returned (dv (rootD l)) ∧ Below w.heap.size w w' := by
  intro n
  induction n using Nat.strongRecOn with
  | ind n ih =>
  intro A c l w h hT
  have HT := Lib.hid hT
  have HI := Lib.hid h
  have IH := Lib.hid ih
  have hlen := h.len
  clear hT h ih
  rcases (by omega : n = 0 ∨ n = 1 ∨ 2 ≤ n) with h0 | h1 | h2
  · subst h0
    go_enter Tryd.func15, Tryd.ntmps15
    go_upto_region 1 with fail
    have q0 := zrow w
    have hb1 := zbelow w
    change Code.wp _ _ _ _ (w.alloc (.cells hi.z16 31))
    generalize w.alloc (.cells hi.z16 31) = w1 at *
    generalize hB : w.heap.size = B at *
    have HB := Lib.hid hB
    have hs1 : B < w1.heap.size := wk.row_lt q0
    have Q0 := Lib.hid q0
    have HB1 := Lib.hid hb1
    have HC := Lib.hid (empty_calls w1 (HT.out.below HT.out.1.1 (by rw [HB.out]; exact hb1)))
    have HS1 := Lib.hid hs1
    clear hB q0 hb1 hs1
    go_wp2_with fail
    refine HC.out.mono ?_
    rintro e w3 ⟨rfl, hb3⟩
    have q0 := wk.row_below Q0.out hb3
    have HBn := Lib.hid (HB1.out.trans (hb3.mono (Nat.le_of_lt HS1.out)))
    clear hb3 HC
    have hel : emptyD.length = 16 := dig_length _ _
    have hz := dv_size hel
    have hz2 := dv_sizeA hel
    have hz3 : hi.z16.size = (wp.bc (emptyD)).length := by rw [wp.bc_length, hel]; rfl
    have ho := wk.ones_bc (emptyD)
    have hdv : dv (emptyD) = .agg (wp.bc (emptyD)).toArray := rfl
    rw [hdv]
    generalize hcs : wp.bc (emptyD) = cs at *
    go_wp2_with (refine wk.store_row rfl 31 (.tmp 2) (.tmp 9) rfl B cs rfl rfl 31 hi.z16 q0 hz hz3 ho ?_)
    refine bodyPost_ret (v := .agg cs.toArray) (results_cell_row (fn := Tryd.f15) rfl _ _ B 31 cs.toArray (0, 0) _ rfl (setRow_heap _ _ _ _ _ _ q0) Tryd.underlying31 rfl hz2) rfl ⟨by rw [rootD_nil hlen]; unfold dv; rw [hcs], ?_⟩
    rw [HB.out]; exact wk.below_setRow HBn.out (Nat.le_refl _) _
  · subst h1
    obtain ⟨d, rfl⟩ : ∃ d, l = [d] := by
      cases l with
      | nil => simp at hlen
      | cons x r => exact ⟨x, by have : r = [] := List.eq_nil_of_length_eq_zero (by simpa using hlen); rw [this]⟩
    have hd : d.length = 16 := HI.out.dl d (by simp)
    obtain ⟨ad, hix, hld⟩ := HI.out.load (i := 0) (by omega) (d := d) rfl
    have HLD := Lib.hid hld
    clear hld
    go_enter Tryd.func15, Tryd.ntmps15
    go_upto_region 1 with fail
    have q0 := zrow w
    have hb1 := zbelow w
    change Code.wp _ _ _ _ (w.alloc (.cells hi.z16 31))
    have hl1 := HLD.out _ hb1
    generalize w.alloc (.cells hi.z16 31) = w1 at *
    generalize hB : w.heap.size = B at *
    have HB := Lib.hid hB
    have HBn := Lib.hid hb1
    clear hB hb1
    have hz := dv_size hd
    have hz2 := dv_sizeA hd
    have hz3 : hi.z16.size = (wp.bc (d)).length := by rw [wp.bc_length, hd]; rfl
    have ho := wk.ones_bc (d)
    generalize hcs : wp.bc (d) = cs at *
    go_wp2_with (first | (refine wk.load_agg rfl 31 (.tmp 13) rfl ad rfl cs _ hl1 Tryd.underlying31 rfl hz ?_) | refine wk.store_row rfl 31 (.tmp 2) (.tmp 14) rfl B cs rfl rfl 31 hi.z16 q0 hz hz3 ho ?_)
    refine bodyPost_ret (v := .agg cs.toArray) (results_cell_row (fn := Tryd.f15) rfl _ _ B 31 cs.toArray (0, 0) _ rfl (setRow_heap _ _ _ _ _ _ q0) Tryd.underlying31 rfl hz2) rfl ⟨by rw [rootD_one hlen, List.headD_cons]; unfold dv; rw [hcs], ?_⟩
    rw [HB.out]; exact wk.below_setRow HBn.out (Nat.le_refl _) _
  · have hs := split_lt h2
    have hp := split_pos n
    have hr2 := rootD_two (l := l) (by omega)
    rw [hlen] at hr2
    have hl1 : (rootD (l.take (split n))).length = 16 := rootD_length fun d hd => HI.out.dl d (List.mem_of_mem_take hd)
    have hl2 : (rootD (l.drop (split n))).length = 16 := rootD_length fun d hd => HI.out.dl d (List.mem_of_mem_drop hd)
    have HR2 := Lib.hid hr2
    have HL1 := Lib.hid hl1
    have HL2 := Lib.hid hl2
    clear hr2 hl1 hl2
    go_enter Tryd.func15, Tryd.ntmps15
    go_upto_region 1 with fail
    have q0 := zrow w
    have hb1 := zbelow w
    change Code.wp _ _ _ _ (w.alloc (.cells hi.z16 31))
    have HI1 := Lib.hid (HI.out.below hb1)
    have HT1 := Lib.hid (HT.out.next hb1)
    generalize w.alloc (.cells hi.z16 31) = w1 at *
    generalize hB : w.heap.size = B at *
    have HB := Lib.hid hB
    have hs1 : B < w1.heap.size := wk.row_lt q0
    have Q0 := Lib.hid q0
    have HB1 := Lib.hid hb1
    have HS1 := Lib.hid hs1
    clear hB q0 hb1 hs1 HI HT
    go_wp2_with fail
    refine (halves_calls A n c l w1 HI1.out h2).mono ?_
    rintro e w2 ⟨A1, A2, rfl, i1, i2, hb2, -⟩
    have HT2 := Lib.hid (HT1.out.next hb2)
    have HI2 := Lib.hid i1
    have HI3 := Lib.hid i2
    have HB2 := Lib.hid hb2
    clear i1 i2 hb2 HI1 HT1
    generalize split n = k at *
    go_wp2_with fail
    refine (IH.out k hs A1 k _ w2 HI2.out HT2.out).mono ?_
    rintro e w3 ⟨rfl, hb3⟩
    have HT3 := Lib.hid (HT2.out.next hb3)
    have HI4 := Lib.hid (HI3.out.below hb3)
    have HB3 := Lib.hid (HB2.out.trans (hb3.mono HB2.out.size))
    clear hb3 HI2 HI3 HT2 HB2
    go_wp2_with fail
    refine (IH.out (n - k) (by omega) A2 (n - k) _ w3 HI4.out HT3.out).mono ?_
    rintro e w4 ⟨rfl, hb4⟩
    have HT4 := Lib.hid (HT3.out.next hb4)
    have HB4 := Lib.hid (HB3.out.trans (hb4.mono HB3.out.size))
    clear hb4 HI4 HT3 HB3
    go_wp2_with fail
    refine (node_calls _ _ HL1.out HL2.out w4 HT4.out).mono ?_
    rintro e w5 ⟨rfl, hb5⟩
    have hb6 := HB4.out.trans (hb5.mono HB4.out.size)
    have q0 := wk.row_below Q0.out hb6
    have HBn := Lib.hid (HB1.out.trans (hb6.mono (Nat.le_of_lt HS1.out)))
    clear hb5 hb6 HT4 HB4
    rw [← HR2.out]
    have hel : (rootD l).length = 16 := by rw [HR2.out]; exact dig_length _ _
    have hz := dv_size hel
    have hz2 := dv_sizeA hel
    have hz3 : hi.z16.size = (wp.bc (rootD l)).length := by rw [wp.bc_length, hel]; rfl
    have ho := wk.ones_bc (rootD l)
    have hdv : dv (rootD l) = .agg (wp.bc (rootD l)).toArray := rfl
    rw [hdv]
    generalize hcs : wp.bc (rootD l) = cs at *
    go_wp2_with (refine wk.store_row rfl 31 (.tmp 2) (.tmp 24) rfl B cs rfl rfl 31 hi.z16 q0 hz hz3 ho ?_)
    refine bodyPost_ret (v := .agg cs.toArray) (results_cell_row (fn := Tryd.f15) rfl _ _ B 31 cs.toArray (0, 0) _ rfl (setRow_heap _ _ _ _ _ _ q0) Tryd.underlying31 rfl hz2) rfl ⟨by unfold dv; rw [hcs], ?_⟩
    rw [HB.out]; exact wk.below_setRow HBn.out (Nat.le_refl _) _
end Go.Proofs.YtmjmkkdmphgdnaaDoor.mk
/- Proofs that are made by a closure: what it holds, and Inclusion. -/
namespace Go.Proofs.YtmjmkkdmphgdnaaDoor.mk

open Go.ChangeShapes Go.WideShapes Go.ChangeAt Go.RowKit

set_option linter.unusedVariables false
/-- a slice of digests that lies below B -/
structure IsL (B : Nat) (w : World) (A : Option Addr) (n c : Nat) (l : List D) : Prop where
  is : IsD w A n c l
  low : 0 < n → ∃ b o, A = some ⟨b, o, none⟩ ∧ b < B
theorem IsL.below {B : Nat} {w w' : World} {A : Option Addr} {n c : Nat} {l : List D} (h : IsL B w A n c l) (hB : B ≤ w.heap.size) (hb : Below B w w') : IsL B w' A n c l := by
  refine ⟨⟨h.is.len, h.is.le, h.is.cap, fun hl => ?_, h.is.dl⟩, h.low⟩
  have hn : 0 < n := by
    have := wp.flat_bc_length h.is.dl; have := h.is.len; omega
  obtain ⟨b, o, hA, hb1, hc⟩ := h.is.mem hl
  obtain ⟨b', o', hA', hb2⟩ := h.low hn
  rw [hA] at hA'
  cases hA'
  exact ⟨b, o, hA, by have := hb.size; omega, fun j u hu => (hb.cell (p := ⟨b, o + j, none⟩) hb2).trans (hc j u hu)⟩
theorem IsL.of {w : World} {A : Option Addr} {n c : Nat} {l : List D} (h : IsD w A n c l) : IsL w.heap.size w A n c l := ⟨h, fun hn => by
  obtain ⟨b, o, hA, hb, _⟩ := h.mem (by rw [wp.flat_bc_length h.dl, h.len]; omega)
  exact ⟨b, o, hA, hb⟩⟩
theorem IsL.next {B : Nat} {w w' : World} {A : Option Addr} {n c : Nat} {l : List D} (h : IsL B w A n c l) (hb : Below w.heap.size w w') : IsL B w' A n c l := ⟨h.is.below hb, h.low⟩
/-- the halves of a list that lies below B -/
theorem halves_low (B : Nat) (A : Option Addr) (n c : Nat) (l : List D) (w : World) (h : IsL B w A n c l) (h2 : 2 ≤ n) :
    Calls Tryd.prog 33 #[.slice A n c] w fun e w' => ∃ A1 A2, e = .returned (.tuple #[.slice A1 (split n) (split n), .slice A2 (n - split n) (n - split n)]) ∧ IsL B w' A1 (split n) (split n) (l.take (split n)) ∧ IsL B w' A2 (n - split n) (n - split n) (l.drop (split n)) ∧ Below w.heap.size w w' := by
  refine (halves_calls A n c l w h.is h2).mono ?_
  rintro e w' ⟨A1, A2, rfl, i1, i2, hb, hl⟩
  obtain ⟨l1, l2⟩ := hl B (h.low (by omega))
  exact ⟨A1, A2, rfl, ⟨i1, fun _ => l1⟩, ⟨i2, fun _ => l2⟩, hb⟩
theorem heap_setRow_ne {w : World} {B g : Nat} (h : B ≠ g) {cs : Array Value} : (w.setRow B cs).heap[g]? = w.heap[g]? := by
  unfold World.setRow
  simp only [Array.getElem?_modify, if_neg h]
theorem ownsRow_setRow {w : World} {B base : Nat} {e : TypeId} {size n : Nat} {v : Value} {xs : List Value} (h : w.ownsRow base e size v n xs) (hb : B < base) (cs : Array Value) : (w.setRow B cs).ownsRow base e size v n xs := by
  refine ⟨h.1, ?_⟩
  rcases h.2 with hn | ⟨g, cap, cur, hv, hg, hh, r⟩
  · exact .inl hn
  · exact .inr ⟨g, cap, cur, hv, hg, by rw [heap_setRow_ne (by omega)]; exact hh, r⟩
/-- what a prover's closure holds: the path in a cell at B, itself in a cell at B + 1 -/
structure Pst (B : Nat) (fv : Value) (ft : TypeId) (w : World) (acc : List D) : Prop where
  path : ∃ v, w.heap[B]? = some (.cells #[v] 22 (0, 0)) ∧ w.ownsRow (B + 2) 31 16 v acc.length (acc.flatMap wp.bc)
  fn : w.heap[B + 1]? = some (.cells #[fv] ft (0, 0))
theorem Pst.next {B : Nat} {fv : Value} {ft : TypeId} {w w' : World} {acc : List D} (h : Pst B fv ft w acc) (hb : Below w.heap.size w w') : Pst B fv ft w' acc := by
  obtain ⟨v, h1, h2⟩ := h.path
  exact ⟨⟨v, wk.row_below h1 hb, wk.ownsRow_below h2 hb⟩, wk.row_below h.fn hb⟩
theorem Pst.lt {B : Nat} {fv : Value} {ft : TypeId} {w : World} {acc : List D} (h : Pst B fv ft w acc) : B + 1 < w.heap.size := wk.row_lt h.fn
def zeroD : Value := .agg (Array.replicate 16 (.int .u8 0))
theorem infoDz : (Tryd.prog.info? 31).map (fun i => (i.zero, i.size, i.bytes)) = some (some zeroD, 16, 16) := by kernel_rfl
theorem infoL : (Tryd.prog.info? 22).map (·.size) = some 1 := by kernel_rfl
set_option maxRecDepth 100000 in
theorem push {B : Nat} {fv : Value} {ft : TypeId} {w : World} {acc : List D} {d : D} {ops : Array Oper} {rest : List Oper} {oA oS : Oper} {a : Act} {Q : Exit → Act → World → Prop}
    (gA : oA.guard = none) (gS : oS.guard = none) (s x p : Operand) (da : Nat) (hA : oA.op = .call { callee := .builtin .append, args := #[s, x], argTypes := #[22, 22] }) (hdA : oA.dst = some da)
    (hS : oS.op = .store 22 p (.tmp da)) (hdS : oS.dst = none) (v : Value) (hs : a.eval s = v) (hv : w.heap[B]? = some (.cells #[v] 22 (0, 0))) (G : Nat) (hx : a.eval x = .slice (some ⟨G, 0, none⟩) 1 1)
    (hG : wp.RC w (some ⟨G, 0, none⟩) (wp.bc d)) (hd : d.length = 16) (hp : ∀ v', (a.put (some da) v').eval p = .pointer (some ⟨B, 0, none⟩)) (hda : ∀ v', (a.put (some da) v').eval (.tmp da) = v')
    (hP : Pst B fv ft w acc) (hlen : acc.length ≤ 1000000)
    (h : ∀ v' w', Pst B fv ft w' (acc ++ [d]) → Below B w w' → wpList Tryd.prog ops Q rest (a.put (some da) v') w') : wpList Tryd.prog ops Q (oA :: oS :: rest) a w := by
  obtain ⟨i0, hi, hz0, hz1, hz2⟩ := info_parts infoDz
  obtain ⟨v2, hv2, hown⟩ := hP.path
  rw [hv] at hv2
  simp only [Option.some.injEq, Obj.cells.injEq, Array.mk.injEq, List.cons.injEq, and_true] at hv2
  subst hv2
  have hsz := hP.lt
  have hdl : (wp.bc d).length = 16 := by rw [wp.bc_length]; exact hd
  obtain ⟨b, o, hA2, hb, hc⟩ := hG (by omega)
  simp only [Option.some.injEq, Addr.mk.injEq, and_true] at hA2
  obtain ⟨rfl, rfl⟩ := hA2
  refine wpList_append_own w gA s x 22 hA (B + 2) 31 i0 zeroD 16 16 Tryd.underlying22 hi hz0 hz1 hz2 rfl (by decide) v _ _ hs hown ⟨G, 0, none⟩ 1 1 (wp.bc d) hx (by rw [hdl]) (fun j u hu => by rw [wk.add_at]; exact hc j u hu) wp.bc_one (by unfold maxLen; omega) (by omega) (by omega) ?_
  intro v' w' hown' hgrow _
  rw [hdA]
  have hrow : ∀ k, v.ownBlock = some k → B + 2 ≤ k := fun k hk => (hown.lt k hk).1
  have hB' : w'.heap[B]? = some (.cells #[v] 22 (0, 0)) := (hgrow.block B (by omega) (fun e => by have := hrow B e.symm; omega)).trans hv
  have hF' : w'.heap[B + 1]? = some (.cells #[fv] ft (0, 0)) := (hgrow.block (B + 1) (by omega) (fun e => by have := hrow (B + 1) e.symm; omega)).trans hP.fn
  have h1v : v'.oneCell' = true := by
    rcases hown'.2 with ⟨rfl, _⟩ | ⟨g, cap, cur, rfl, _⟩ <;> rfl
  refine wpList_store_one gS 22 p (.tmp da) hS B (hp v') (by rw [hda]; exact h1v) 22 v hB' infoL ?_
  rw [hda, hdS]
  refine h v' _ ⟨⟨v', setRow_heap _ _ _ _ _ _ hB', ?_⟩, by rw [heap_setRow_ne (by omega)]; exact hF'⟩ ?_
  · have := ownsRow_setRow hown' (B := B) (by omega) #[v']
    simpa using this
  · exact wk.below_setRow ((Below.refl _ _).grown hgrow (by omega) (fun k hk => by have := hrow k hk; omega)) (Nat.le_refl _) _
/-- the proof that a list has its element at a position -/
noncomputable def incl : Nat → List D → Nat → List D
  | 0, _, _ => []
  | f + 1, l, i => if l.length ≤ 1 then [] else if i < split l.length then incl f (l.take (split l.length)) i ++ [rootD (l.drop (split l.length))] else incl f (l.drop (split l.length)) (i - split l.length) ++ [rootD (l.take (split l.length))]
theorem incl_fuel : ∀ (f g : Nat) (l : List D) (i : Nat), l.length ≤ f → l.length ≤ g → incl f l i = incl g l i
  | 0, 0, l, _, _, _ => rfl
  | 0, g + 1, l, i, h, _ => by rw [incl, incl, if_pos (by omega)]
  | f + 1, 0, l, i, _, h => by rw [incl, incl, if_pos (by omega)]
  | f + 1, g + 1, l, i, h1, h2 => by
    rw [incl, incl]
    split
    · rfl
    · have hl := split_lt (n := l.length) (by omega)
      have hp := split_pos l.length
      rw [incl_fuel f g _ i (by rw [List.length_take]; omega) (by rw [List.length_take]; omega), incl_fuel f g _ _ (by rw [List.length_drop]; omega) (by rw [List.length_drop]; omega)]
noncomputable def inclD (l : List D) (i : Nat) : List D := incl l.length l i
theorem inclD_one {l : List D} (i : Nat) (h : l.length ≤ 1) : inclD l i = [] := by
  unfold inclD
  rcases Nat.eq_zero_or_pos l.length with h0 | h0
  · rw [h0]; rfl
  · rw [show l.length = 0 + 1 by omega, incl, if_pos h]
theorem inclD_two {l : List D} (i : Nat) (h : 2 ≤ l.length) : inclD l i = if i < split l.length then inclD (l.take (split l.length)) i ++ [rootD (l.drop (split l.length))] else inclD (l.drop (split l.length)) (i - split l.length) ++ [rootD (l.take (split l.length))] := by
  have hl := split_lt h
  have hp := split_pos l.length
  unfold inclD
  obtain ⟨k, hk⟩ : ∃ k, l.length = k + 1 := ⟨l.length - 1, by omega⟩
  conv => lhs; rw [hk]
  rw [incl, if_neg (by omega), incl_fuel k _ (l.take (split l.length)) _ (by rw [List.length_take]; omega) (Nat.le_refl _), incl_fuel k _ (l.drop (split l.length)) _ (by rw [List.length_drop]; omega) (Nat.le_refl _)]
theorem incl_length : ∀ (f : Nat) (l : List D) (i : Nat), (incl f l i).length ≤ l.length
  | 0, _, _ => Nat.zero_le _
  | f + 1, l, i => by
    rw [incl]
    split
    · exact Nat.zero_le _
    · have hl := split_lt (n := l.length) (by omega)
      have hp := split_pos l.length
      split
      · rw [List.length_append, List.length_singleton]
        have := incl_length f (l.take (split l.length)) i
        rw [List.length_take] at this; omega
      · rw [List.length_append, List.length_singleton]
        have := incl_length f (l.drop (split l.length)) (i - split l.length)
        rw [List.length_drop] at this; omega
theorem incl_16 : ∀ (f : Nat) (l : List D) (i : Nat), (∀ d ∈ l, d.length = 16) → ∀ d ∈ incl f l i, d.length = 16
  | 0, _, _, _ => fun d hd => by simp [incl] at hd
  | f + 1, l, i, h => by
    rw [incl]
    split
    · intro d hd; cases hd
    · split
      all_goals
        intro d hd
        rw [List.mem_append, List.mem_singleton] at hd
        rcases hd with hd | rfl
      · exact incl_16 f _ _ (fun d hd => h d (List.mem_of_mem_take hd)) d hd
      · exact rootD_length fun d hd => h d (List.mem_of_mem_drop hd)
      · exact incl_16 f _ _ (fun d hd => h d (List.mem_of_mem_drop hd)) d hd
      · exact rootD_length fun d hd => h d (List.mem_of_mem_take hd)
theorem run_build1 {o : Oper} {E : Operand → Value} {w : World} {x : Operand} {d : D} (ho : o.op = .buildSlice 22 1 #[(0, x)]) (hx : E x = dv d) (hd : d.length = 16) :
    (execOp E o).run Tryd.prog w = .ok (.value (.slice (some ⟨w.heap.size, 0, none⟩) 1 1)) (w.alloc (.cells (wp.bc d).toArray 31)) := by
  have hdl : (wp.bc d).length = 16 := by rw [wp.bc_length]; exact hd
  have hfold : List.foldl (fun (cs : Array Value) (x : Value × Nat) => cs.setIfInBounds x.2 x.1) #[.int .u8 0, .int .u8 0, .int .u8 0, .int .u8 0, .int .u8 0, .int .u8 0, .int .u8 0, .int .u8 0, .int .u8 0, .int .u8 0, .int .u8 0, .int .u8 0, .int .u8 0, .int .u8 0, .int .u8 0, .int .u8 0] (wp.bc d).zipIdx = (wp.bc d).toArray :=
    wk.fold_set (wp.bc d) [] (List.replicate 16 (.int .u8 0)) (by rw [hdl]; rfl)
  unfold dv at hx
  unfold execOp
  simp only [ho, List.map_toArray, List.map_cons, List.map_nil, hx]
  go_simp
def inclF (B : Nat) : Value := .func (.func 32) #[] #[.pointer (some ⟨B + 1, 0, none⟩), .pointer (some ⟨B, 0, none⟩)]
set_option maxRecDepth 100000 in
set_option maxHeartbeats 4000000 in
theorem incl1_calls (B : Nat) (hB1 : 1 < B) : ∀ (n : Nat) (A : Option Addr) (c : Nat) (l : List D) (i : Nat) (w : World) (acc : List D), IsL B w A n c l → i < n → Pst B (inclF B) 64 w acc → Tab w → acc.length + n ≤ 100000 →
    Calls Tryd.prog 32 #[.slice A n c, .int .i64 i, .pointer (some ⟨B + 1, 0, none⟩), .pointer (some ⟨B, 0, none⟩)] w fun e w' => e = .returned (.tuple #[]) ∧ Pst B (inclF B) 64 w' (acc ++ inclD l i) ∧ Below B w w' := by
  intro n
  induction n using Nat.strongRecOn with
  | ind n ih =>
  intro A c l i w acc h hi hP hT hbd
  have hlen := h.is.len
  rcases (by omega : n = 1 ∨ 2 ≤ n) with h1 | h2
  · subst h1
    have HP := Lib.hid hP
    have hin := inclD_one i (l := l) (by omega)
    go_enter Tryd.func32, Tryd.ntmps32
    go_wp2_with fail
    refine bodyPost_ret (results_none rfl _ _ _) rfl ⟨rfl, ?_, Below.refl _ _⟩
    rw [hin, List.append_nil]
    exact HP.out
  · have hs := split_lt h2
    have hp := split_pos n
    have hr2 := inclD_two (l := l) i (by omega)
    rw [hlen] at hr2
    have HIN := Lib.hid hr2
    have HT := Lib.hid hT
    have HP := Lib.hid hP
    have HI := Lib.hid h
    have IH := Lib.hid ih
    have hls1 : (l.take (split n)).length = split n := by rw [List.length_take]; omega
    have hls2 : (l.drop (split n)).length = n - split n := by rw [List.length_drop]; omega
    have hi1 := incl_length (split n) (l.take (split n)) i
    have hi2 := incl_length (n - split n) (l.drop (split n)) (i - split n)
    have HIL1 : Hid ((inclD (l.take (split n)) i).length ≤ split n) := by show _ ≤ _; unfold inclD; rw [hls1] at hi1 ⊢; exact hi1
    have HIL2 : Hid ((inclD (l.drop (split n)) (i - split n)).length ≤ n - split n) := by show _ ≤ _; unfold inclD; rw [hls2] at hi2 ⊢; exact hi2
    have HR1 : Hid ((rootD (l.take (split n))).length = 16) := rootD_length fun d hd => h.is.dl d (List.mem_of_mem_take hd)
    have HR2 : Hid ((rootD (l.drop (split n))).length = 16) := rootD_length fun d hd => h.is.dl d (List.mem_of_mem_drop hd)
    clear hr2 hT hP h ih hls1 hls2 hi1 hi2
    go_enter Tryd.func32, Tryd.ntmps32
    go_wp2_with fail
    refine (halves_low B A n c l w HI.out h2).mono ?_
    rintro e w1 ⟨A1, A2, rfl, i1, i2, hb1⟩
    have HT1 := Lib.hid (HT.out.next hb1)
    have HP1 := Lib.hid (HP.out.next hb1)
    have HL1 := Lib.hid i1
    have HL2 := Lib.hid i2
    have HB1 := Lib.hid (hb1.mono (by have := HP.out.lt; omega : B ≤ w.heap.size))
    have hcf := wk.cell_row1 HP1.out.fn
    clear i1 i2 hb1 HT HP HI
    generalize split n = k at *
    by_cases hik : i < k
    · have hr2 := HIN.out
      rw [if_pos hik] at hr2
      have HIN2 := Lib.hid hr2
      clear HIN hr2
      unfold inclF at hcf
      go_wp2_with fail
      refine (IH.out k hs A1 k _ i w1 acc HL1.out hik HP1.out HT1.out (by omega)).mono ?_
      rintro e w2 ⟨rfl, hP2, hb2⟩
      have HTn := Lib.hid (HT1.out.below hB1 hb2)
      have HL := Lib.hid (HL2.out.below (by have := HP1.out.lt; omega) hb2)
      have HB2 := Lib.hid (HB1.out.trans hb2)
      have HP2 := Lib.hid hP2
      obtain ⟨v, hv, _⟩ := hP2.path
      clear hP2 hb2 hcf HP1 HL1 HL2 HB1 IH HT1
      go_upto_region 4 with fail
      have HV := Lib.hid (wk.row_below hv ((Below.refl w2.heap.size w2).drew))
      replace HL := Lib.hid (HL.out.next (Below.refl w2.heap.size w2).drew)
      replace HTn := Lib.hid (HTn.out.next (Below.refl w2.heap.size w2).drew)
      replace HP2 := Lib.hid (HP2.out.next (Below.refl w2.heap.size w2).drew)
      have HAL : Hid ((acc ++ inclD (l.take k) i).length ≤ 1000000) := by have := HIL1.out; show _ ≤ _; rw [List.length_append]; omega
      have HRL := HR2
      clear hv
      refine wk.region_tail 4 [.is v, .is (.slice A2 (n - k) (n - k)), .is (dv (rootD (l.drop k))), .st (fun w v => ∃ G, v = .slice (some ⟨G, 0, none⟩) 1 1 ∧ wp.RC w (some ⟨G, 0, none⟩) (wp.bc (rootD (l.drop k)))) (fun w w' v ⟨G, h1, h2⟩ hb => ⟨G, h1, h2.below hb⟩)] [some 24, some 25, some 26, some 27] (by kernel_rfl) (by kernel_rfl) (by kernel_rfl) (by kernel_rfl) (by kernel_rfl) (by kernel_rfl) ?hstep ?hdone
      case hstep =>
        intro i o ho hi E w4 hb4 D
        have hi2 : i = 0 ∨ i = 1 ∨ i = 2 ∨ i = 3 := by omega
        clear hi
        rcases hi2 with rfl | rfl | rfl | rfl
        ·
          have ho2 := (Array.getElem?_eq_some_iff.1 ho).2
          simp only [List.getElem_toArray, List.getElem_cons_zero] at ho2
          subst ho2
          clear ho
          have e3 := D.old 3 (by kernel_rfl)
          exact wk.does_load1 rfl (by rw [e3]; rfl) (wk.cell_row1 (wk.row_below HV.out hb4)) Tryd.underlying22 rfl rfl
        ·
          have ho2 := (Array.getElem?_eq_some_iff.1 ho).2
          simp only [List.getElem_toArray, List.getElem_cons_succ, List.getElem_cons_zero] at ho2
          subst ho2
          clear ho
          have e7 := D.old 7 (by kernel_rfl)
          exact wk.does_move rfl (by rw [e7]; rfl)
        ·
          have ho2 := (Array.getElem?_eq_some_iff.1 ho).2
          simp only [List.getElem_toArray, List.getElem_cons_succ, List.getElem_cons_zero] at ho2
          subst ho2
          clear ho
          have e25 := D.is { on := 1, ground := .data } (by simp) rfl rfl 25 rfl
          refine wk.does_fn (f := 15) (vs := #[.slice A2 (n - k) (n - k)]) rfl (D.fn _) (by simp [e25]) (by go_simp) ?_
          refine (root_calls _ _ _ _ _ (HL.out.is.below hb4) (HTn.out.next hb4)).mono ?_
          rintro e w5 ⟨rfl, hb5⟩
          exact ⟨_, rfl, hb5, rfl⟩
        ·
          have ho2 := (Array.getElem?_eq_some_iff.1 ho).2
          simp only [List.getElem_toArray, List.getElem_cons_succ, List.getElem_cons_zero] at ho2
          subst ho2
          clear ho
          have e26 := D.is { on := 2, ground := .data } (by simp) rfl rfl 26 rfl
          refine wk.does_new (v := .slice (some ⟨w4.heap.size, 0, none⟩) 1 1) (w' := w4.alloc (.cells (wp.bc (rootD (l.drop k))).toArray 31)) ?_ ((Below.refl _ _).alloc (Nat.le_refl _) _) ⟨_, rfl, wi.RC_new rfl _ _ rfl⟩
          exact run_build1 (o := _) (x := .tmp 26) rfl e26 HRL.out
      case hdone =>
        intro vals w4 hb4 hv
        have h3 := hv 3 (by omega)
        have h0 := hv 0 (by omega)
        clear hv
        replace h0 : vals 0 = v := h0
        simp only [List.drop_succ_cons, List.drop_zero, wk.setL, List.setIfInBounds_toArray, List.set_cons_zero, List.set_cons_succ, Nat.zero_add, Nat.reduceAdd, h0]
        generalize vals 1 = x1
        generalize vals 2 = x2
        generalize vals 3 = x3 at *
        obtain ⟨G, hG, hrc⟩ := h3
        have HPn := HP2.out.next hb4
        have hv4 := wk.row_below HV.out hb4
        have HB4 := Lib.hid hb4
        clear hb4
        rw [hG]
        refine push rfl rfl (.tmp 24) (.tmp 27) (.tmp 3) 28 rfl rfl rfl rfl v rfl hv4 G rfl hrc HRL.out (fun _ => rfl) (fun _ => rfl) HPn HAL.out ?_
        intro v' w6 hP6 hb6
        simp only [Act.put, List.setIfInBounds_toArray, List.set_cons_zero, List.set_cons_succ]
        go_wp2_with fail
        go_end0
        refine ⟨rfl, ?_, ?_⟩
        · rw [HIN2.out, ← List.append_assoc]
          exact hP6
        · exact HB2.out.trans ((Below.refl _ _).drew.trans ((HB4.out.mono (by have := HP2.out.lt; omega)).trans hb6))
    · have hr2 := HIN.out
      rw [if_neg hik] at hr2
      have HIN2 := Lib.hid hr2
      clear HIN hr2
      unfold inclF at hcf
      have hci : ((i : Int) - (k : Int)) = ((i - k : Nat) : Int) := by omega
      go_wp2_with fail
      refine (IH.out (n - k) (by omega) A2 (n - k) _ (i - k) w1 acc HL2.out (by omega) HP1.out HT1.out (by omega)).mono ?_
      rintro e w2 ⟨rfl, hP2, hb2⟩
      have HTn := Lib.hid (HT1.out.below hB1 hb2)
      have HL := Lib.hid (HL1.out.below (by have := HP1.out.lt; omega) hb2)
      have HB2 := Lib.hid (HB1.out.trans hb2)
      have HP2 := Lib.hid hP2
      obtain ⟨v, hv, _⟩ := hP2.path
      clear hP2 hb2 hcf HP1 HL1 HL2 HB1 IH HT1
      go_upto_region 6 with fail
      have HV := Lib.hid (wk.row_below hv ((Below.refl w2.heap.size w2).drew))
      replace HL := Lib.hid (HL.out.next (Below.refl w2.heap.size w2).drew)
      replace HTn := Lib.hid (HTn.out.next (Below.refl w2.heap.size w2).drew)
      replace HP2 := Lib.hid (HP2.out.next (Below.refl w2.heap.size w2).drew)
      have HAL : Hid ((acc ++ inclD (l.drop k) (i - k)).length ≤ 1000000) := by have := HIL2.out; show _ ≤ _; rw [List.length_append]; omega
      have HRL := HR1
      clear hv
      refine wk.region_tail 4 [.is v, .is (.slice A1 k k), .is (dv (rootD (l.take k))), .st (fun w v => ∃ G, v = .slice (some ⟨G, 0, none⟩) 1 1 ∧ wp.RC w (some ⟨G, 0, none⟩) (wp.bc (rootD (l.take k)))) (fun w w' v ⟨G, h1, h2⟩ hb => ⟨G, h1, h2.below hb⟩)] [some 36, some 37, some 38, some 39] (by kernel_rfl) (by kernel_rfl) (by kernel_rfl) (by kernel_rfl) (by kernel_rfl) (by kernel_rfl) ?hstep ?hdone
      case hstep =>
        intro i o ho hi E w4 hb4 D
        have hi2 : i = 0 ∨ i = 1 ∨ i = 2 ∨ i = 3 := by omega
        clear hi
        rcases hi2 with rfl | rfl | rfl | rfl
        ·
          have ho2 := (Array.getElem?_eq_some_iff.1 ho).2
          simp only [List.getElem_toArray, List.getElem_cons_zero] at ho2
          subst ho2
          clear ho
          have e3 := D.old 3 (by kernel_rfl)
          exact wk.does_load1 rfl (by rw [e3]; rfl) (wk.cell_row1 (wk.row_below HV.out hb4)) Tryd.underlying22 rfl rfl
        ·
          have ho2 := (Array.getElem?_eq_some_iff.1 ho).2
          simp only [List.getElem_toArray, List.getElem_cons_succ, List.getElem_cons_zero] at ho2
          subst ho2
          clear ho
          have e6 := D.old 6 (by kernel_rfl)
          exact wk.does_move rfl (by rw [e6]; rfl)
        ·
          have ho2 := (Array.getElem?_eq_some_iff.1 ho).2
          simp only [List.getElem_toArray, List.getElem_cons_succ, List.getElem_cons_zero] at ho2
          subst ho2
          clear ho
          have e37 := D.is { on := 1, ground := .data } (by simp) rfl rfl 37 rfl
          refine wk.does_fn (f := 15) (vs := #[.slice A1 k k]) rfl (D.fn _) (by simp [e37]) (by go_simp) ?_
          refine (root_calls _ _ _ _ _ (HL.out.is.below hb4) (HTn.out.next hb4)).mono ?_
          rintro e w5 ⟨rfl, hb5⟩
          exact ⟨_, rfl, hb5, rfl⟩
        ·
          have ho2 := (Array.getElem?_eq_some_iff.1 ho).2
          simp only [List.getElem_toArray, List.getElem_cons_succ, List.getElem_cons_zero] at ho2
          subst ho2
          clear ho
          have e38 := D.is { on := 2, ground := .data } (by simp) rfl rfl 38 rfl
          refine wk.does_new (v := .slice (some ⟨w4.heap.size, 0, none⟩) 1 1) (w' := w4.alloc (.cells (wp.bc (rootD (l.take k))).toArray 31)) ?_ ((Below.refl _ _).alloc (Nat.le_refl _) _) ⟨_, rfl, wi.RC_new rfl _ _ rfl⟩
          exact run_build1 (o := _) (x := .tmp 38) rfl e38 HRL.out
      case hdone =>
        intro vals w4 hb4 hv
        have h3 := hv 3 (by omega)
        have h0 := hv 0 (by omega)
        clear hv
        replace h0 : vals 0 = v := h0
        simp only [List.drop_succ_cons, List.drop_zero, wk.setL, List.setIfInBounds_toArray, List.set_cons_zero, List.set_cons_succ, Nat.zero_add, Nat.reduceAdd, h0]
        generalize vals 1 = x1
        generalize vals 2 = x2
        generalize vals 3 = x3 at *
        obtain ⟨G, hG, hrc⟩ := h3
        have HPn := HP2.out.next hb4
        have hv4 := wk.row_below HV.out hb4
        have HB4 := Lib.hid hb4
        clear hb4
        rw [hG]
        refine push rfl rfl (.tmp 36) (.tmp 39) (.tmp 3) 40 rfl rfl rfl rfl v rfl hv4 G rfl hrc HRL.out (fun _ => rfl) (fun _ => rfl) HPn HAL.out ?_
        intro v' w6 hP6 hb6
        simp only [Act.put, List.setIfInBounds_toArray, List.set_cons_zero, List.set_cons_succ]
        go_wp2_with fail
        go_end0
        refine ⟨rfl, ?_, ?_⟩
        · rw [HIN2.out, ← List.append_assoc]
          exact hP6
        · exact HB2.out.trans ((Below.refl _ _).drew.trans ((HB4.out.mono (by have := HP2.out.lt; omega)).trans hb6))
end Go.Proofs.YtmjmkkdmphgdnaaDoor.mk
/- Inclusion. -/
namespace Go.Proofs.YtmjmkkdmphgdnaaDoor.mk

open Go.ChangeShapes Go.WideShapes Go.ChangeAt Go.RowKit

set_option linter.unusedVariables false
theorem infoF1 : (Tryd.prog.info? 64).map (·.size) = some 1 := by kernel_rfl
theorem pst_start {B : Nat} {fv : Value} {ft : TypeId} {w : World} (h1 : w.heap[B]? = some (.cells #[.slice none 0 0] 22 (0, 0))) (h2 : w.heap[B + 1]? = some (.cells #[fv] ft (0, 0))) : Pst B fv ft w [] :=
  ⟨⟨_, h1, World.ownsRow_nil _ _ _ _⟩, h2⟩
theorem hmf {P : Program} (fn : Fn) (first cap : Array Value) (w : World) : (Instr.makeFunc fn first cap).run P w = .ok (.func fn first cap) w := rfl
noncomputable def inclP (l : List D) (i : Int) : List D := if 0 ≤ i ∧ i < l.length then inclD l i.toNat else []
def inclE (n : Nat) (i : Int) : Int := if 0 ≤ i ∧ i < n then 0 else 1
theorem ownsRow_weak {w : World} {base base' : Nat} {e : TypeId} {size n : Nat} {v : Value} {xs : List Value} (h : w.ownsRow base e size v n xs) (hb : base' ≤ base) : w.ownsRow base' e size v n xs := by
  refine ⟨h.1, ?_⟩
  rcases h.2 with hn | ⟨g, cap, cur, hv, hg, r⟩
  · exact .inl hn
  · exact .inr ⟨g, cap, cur, hv, by omega, r⟩
set_option maxRecDepth 100000 in
set_option maxHeartbeats 4000000 in
theorem incl_calls (A : Option Addr) (n c : Nat) (l : List D) (i : Int) (w : World) (h : IsD w A n c l) (hT : Tab w) (hn : n ≤ 1000) :
    Calls Tryd.prog 10 #[.slice A n c, .int .i64 i] w fun e w' => ∃ v, e = .returned (.tuple #[v, .int .i64 (inclE n i)]) ∧ w'.ownsRow w.heap.size 31 16 v (inclP l i).length ((inclP l i).flatMap wp.bc) ∧ Below w.heap.size w w' := by
  have hlen := h.len
  by_cases hi : 0 ≤ i ∧ i < n
  · obtain ⟨h0, h1⟩ := hi
    have hE : inclE n i = 0 := by unfold inclE; rw [if_pos ⟨h0, h1⟩]
    have hPp : inclP l i = inclD l i.toNat := by unfold inclP; rw [hlen, if_pos ⟨h0, h1⟩]
    rw [hE, hPp]
    have HT := Lib.hid hT
    have HI := Lib.hid (IsL.of h)
    have hmf := fun (fn : Fn) (first cap : Array Value) (w : World) => hmf (P := Tryd.prog) fn first cap w
    clear hE hPp hT h hlen
    go_enter Tryd.func10, Tryd.ntmps10
    go_upto_region 5 with fail
    have b1 : Below w.heap.size w (w.alloc (.cells #[.slice none 0 0] 22)) := (Below.refl _ _).alloc (Nat.le_refl _) _
    have q1 : (w.alloc (.cells #[.slice none 0 0] 22)).heap[w.heap.size]? = some (.cells #[.slice none 0 0] 22 (0, 0)) := heap_alloc_new _ _
    have s1 : (w.alloc (.cells #[.slice none 0 0] 22)).heap.size = w.heap.size + 1 := Array.size_push ..
    generalize w.alloc (.cells #[.slice none 0 0] 22) = w1 at *
    have b2 : Below w1.heap.size w1 (w1.alloc (.cells #[.nilFunc] 64)) := (Below.refl _ _).alloc (Nat.le_refl _) _
    have q2 : (w1.alloc (.cells #[.nilFunc] 64)).heap[w1.heap.size]? = some (.cells #[.nilFunc] 64 (0, 0)) := heap_alloc_new _ _
    have q1' := wk.row_below q1 b2
    have b12 := b1.trans (b2.mono (by omega))
    rw [s1] at q2
    generalize w1.alloc (.cells #[.nilFunc] 64) = w2 at *
    generalize hB : w.heap.size = B at *
    have HB := Lib.hid hB
    have Q1 := Lib.hid q1'
    have Q2 := Lib.hid q2
    have HB2 := Lib.hid b12
    clear q1 q2 q1' b1 b2 b12 hB
    go_upto_region 6 with (refine wpList_store_oneTo rfl 64 (.tmp 7) (.tmp 16) rfl rfl (B + 1) (inclF B) rfl rfl rfl 64 .nilFunc Q2.out infoF1 ?_)
    have hP3 : Pst B (inclF B) 64 (w2.setRow (B + 1) #[inclF B]) [] := pst_start (by rw [heap_setRow_ne (by omega)]; exact Q1.out) (setRow_heap _ _ _ _ _ _ Q2.out)
    have hb3 : Below B w (w2.setRow (B + 1) #[inclF B]) := wk.below_setRow HB2.out (by omega) _
    generalize w2.setRow (B + 1) #[inclF B] = w3 at *
    have hcf := wk.cell_row1 hP3.fn
    have HP3 := Lib.hid hP3
    have HB3 := Lib.hid hb3
    have HI3 := Lib.hid (HI.out.below (by rw [HB.out]; exact Nat.le_refl _) hb3)
    have HT3 := Lib.hid (HT.out.below HT.out.1.1 (by rw [HB.out]; exact hb3))
    have h1B : 1 < B := by have := HT.out.1.1; have := HB.out; omega
    obtain ⟨k, rfl⟩ : ∃ k : Nat, i = k := ⟨i.toNat, by omega⟩
    have HX := Lib.hid (incl1_calls B h1B n A c l k w3 [] HI3.out (by omega) HP3.out HT3.out (by simp; omega))
    unfold inclF at hcf
    clear hP3 hb3 HI HT HB2 Q1 Q2
    go_wp2_with fail
    refine HX.out.mono ?_
    rintro e w4 ⟨rfl, hP4, hb4⟩
    obtain ⟨⟨v, hv, hown⟩, _⟩ := hP4
    have hcv := wk.cell_row1 hv
    have HO := Lib.hid hown
    have HB4 := Lib.hid hb4
    clear hv hown hb4 hcf HX
    go_wp2_with fail
    go_ret2
    refine ⟨v, rfl, ?_, ?_⟩
    · rw [HB.out]
      have := ownsRow_weak HO.out (base' := B) (by omega)
      rw [List.nil_append] at this
      exact this
    · rw [HB.out]
      exact HB3.out.trans HB4.out
  · have hE : inclE n i = 1 := by unfold inclE; rw [if_neg hi]
    have hPp : inclP l i = [] := by unfold inclP; rw [hlen, if_neg hi]
    rw [hE, hPp]
    clear hE hPp hT h hlen
    rcases (by omega : i < 0 ∨ (n : Int) ≤ i ∧ ¬ i < 0) with h1 | ⟨h1, h2⟩
    all_goals
      clear hi
      go_enter Tryd.func10, Tryd.ntmps10
      go_wp2_with fail
      go_ret2
      exact ⟨_, rfl, World.ownsRow_nil _ _ _ _, Below.refl _ _⟩
end Go.Proofs.YtmjmkkdmphgdnaaDoor.mk
