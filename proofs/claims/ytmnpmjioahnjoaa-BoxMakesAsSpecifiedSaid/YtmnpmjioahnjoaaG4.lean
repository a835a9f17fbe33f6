/- Joined: Kit7 Kit8. -/
import Derived.Test.YtmnpmjioahnjoaaG3

import Derived.Lib.ConvBytes

import Derived.Laws.AppendOwn

import Derived.StillTailTactics
/- A region that draws its order, by one invariant on what has been done. No program here. -/
namespace Go.Proofs.Ytmnpmjioahnjoaa.wk

open Go.RowKit

section

variable {P : Program} {ops : Array Oper} {Q : Exit → Act → World → Prop} {md : Region.Mode}

/-- what is done, as a function -/
def done (listed : Array Bool) (i : Nat) : Bool := listed.getD i false
/-- every operation stands behind those that it waits for -/
def ordered (ops : Array Oper) : Bool := (List.range ops.size).all fun i => ((ops[i]?).map (·.after.all fun e => e.on < i)).getD false

theorem getD_set (listed : Array Bool) (i j : Nat) (h : i < listed.size) : done (listed.setIfInBounds i true) j = if j = i then true else done listed j := by
  unfold done
  rw [Array.getD_eq_getD_getElem?, Array.getD_eq_getD_getElem?, Array.getElem?_setIfInBounds]
  by_cases hj : i = j
  · subst hj; simp [h]
  · rw [if_neg hj, if_neg fun h => hj h.symm]

theorem ready_mem {listed : Array Bool} {i : Nat} (hs : listed.size = ops.size) (h : i ∈ Region.ready md ops listed) :
    ∃ o, ops[i]? = some o ∧ done listed i = false ∧ ∀ e ∈ o.after, Region.binds md e = true → done listed e.on = true := by
  unfold Region.ready at h
  rw [List.mem_filter, List.mem_range] at h
  obtain ⟨hi, h⟩ := h
  rw [Bool.and_eq_true] at h
  obtain ⟨h1, h2⟩ := h
  have ho : ops[i]? = some ops[i] := Array.getElem?_eq_getElem hi
  refine ⟨ops[i], ho, ?_, fun e he hb => ?_⟩
  · unfold done
    rw [Array.getD_eq_getD_getElem?, Array.getElem?_eq_getElem (by omega)] at *
    simpa using h1
  · rw [ho] at h2
    simp only [Option.map_some, Option.getD_some] at h2
    have := Array.all_eq_true_iff_forall_mem.1 h2 e he
    rw [hb] at this
    simpa [done] using this

theorem ready_nil {listed : Array Bool} (hs : listed.size = ops.size) (hord : ordered ops = true) (h : Region.ready md ops listed = []) : ∀ i, i < ops.size → done listed i = true := by
  intro i
  induction i using Nat.strongRecOn with
  | ind i ih =>
    intro hi
    cases hd : done listed i with
    | true => rfl
    | false =>
      exfalso
      have ho : ops[i]? = some ops[i] := Array.getElem?_eq_getElem hi
      have hmem : i ∈ Region.ready md ops listed := by
        unfold Region.ready
        rw [List.mem_filter, List.mem_range]
        refine ⟨hi, ?_⟩
        rw [Bool.and_eq_true]
        constructor
        · unfold done at hd
          rw [Array.getD_eq_getD_getElem?, Array.getElem?_eq_getElem (by omega)] at *
          simpa using hd
        · rw [ho]
          simp only [Option.map_some, Option.getD_some]
          refine Array.all_eq_true_iff_forall_mem.2 fun e he => ?_
          have h1 := List.all_eq_true.1 hord i (List.mem_range.2 hi)
          rw [ho] at h1
          simp only [Option.map_some, Option.getD_some] at h1
          have h2 := of_decide_eq_true (Array.all_eq_true_iff_forall_mem.1 h1 e he)
          have := ih e.on h2 (by omega)
          unfold done at this
          rw [this]; simp
      rw [h] at hmem
      cases hmem

theorem any_inv (I : (Nat → Bool) → Act → World → Prop) (hord : ordered ops = true)
    (hstep : ∀ L a w, I L a w → ∀ i o, ops[i]? = some o → L i = false → (∀ e ∈ o.after, Region.binds md e = true → L e.on = true) → wpOp P ops Q i (fun a' w' => I (fun j => if j = i then true else L j) a' w') a w)
    (hdone : ∀ L a w, (∀ i, i < ops.size → L i = true) → I L a w → Q .normal a w) :
    ∀ (fuel : Nat) (listed : Array Bool) (a : Act) (w : World), listed.size = ops.size → (listed.toList.filter (!·)).length ≤ fuel → I (done listed) a w → wpAny P md ops Q fuel listed a w
  | 0, listed, a, w, hs, hf, hI => by
    have hall : ∀ i, i < ops.size → done listed i = true := fun i hi => by
      have h0 : listed.toList.filter (!·) = [] := List.eq_nil_of_length_eq_zero (by omega)
      rw [List.filter_eq_nil_iff] at h0
      have := h0 listed[i] (by simp)
      unfold done
      rw [Array.getD_eq_getD_getElem?, Array.getElem?_eq_getElem (by omega)]
      simpa using this
    refine ⟨?_, hdone _ a w hall hI⟩
    cases hr : Region.ready md ops listed with
    | nil => rfl
    | cons i r =>
      obtain ⟨o, ho, h1, _⟩ := ready_mem (i := i) hs (by rw [hr]; exact List.mem_cons_self)
      have hi : i < ops.size := (Array.getElem?_eq_some_iff.1 ho).1
      rw [hall i hi] at h1
      cases h1
  | fuel + 1, listed, a, w, hs, hf, hI => by
    refine ⟨fun hr => hdone _ a w (ready_nil hs hord hr) hI, fun i hi => ?_⟩
    obtain ⟨o, ho, h1, h2⟩ := ready_mem hs hi
    have hil : i < listed.size := by rw [hs]; exact (Array.getElem?_eq_some_iff.1 ho).1
    refine wpOp_mono (fun a' w' h => any_inv I hord hstep hdone fuel (listed.setIfInBounds i true) a' w' (by simpa using hs) ?_ ?_) (hstep (done listed) a w hI i o ho h1 h2)
    · have hl : listed.toList[i]? = some false := by
        unfold done at h1
        rw [Array.getD_eq_getD_getElem?, Array.getElem?_eq_getElem hil] at h1
        rw [Array.getElem?_toList, Array.getElem?_eq_getElem hil]
        simpa using h1
      have key : ∀ (l : List Bool) (i : Nat), l[i]? = some false → ((l.set i true).filter (!·)).length + 1 = (l.filter (!·)).length := by
        intro l
        induction l with
        | nil => intro i h; simp at h
        | cons b r ih =>
          intro i h
          cases i with
          | zero =>
            simp only [List.getElem?_cons_zero, Option.some.injEq] at h
            subst h
            simp
          | succ i =>
            have := ih i (by simpa using h)
            cases b <;> simp <;> omega
      have := key _ _ hl
      simp only [Array.toList_setIfInBounds]
      omega
    · have e : done (listed.setIfInBounds i true) = fun j => if j = i then true else done listed j := funext fun j => getD_set listed i j hil
      rw [e]
      exact h

/-- one operation that stands under no guard -/
theorem op_step {i : Nat} {o : Oper} {K : Act → World → Prop} {a : Act} {w : World} (ho : ops[i]? = some o) (hg : o.guard = none)
    (h : ∀ K' : Act → World → Prop, (∀ a w, K a w → K' a w) → Oper.wp P o a w K' Q) : wpOp P ops Q i K a w :=
  wpOp_step ho fun K' hK => by rw [if_pos (by simp [Region.wanted, hg])]; exact h K' hK
/-- the frame, the start of a region known: a region that draws, by an invariant -/
theorem region_inv {id : Nat} {a0 : Act} {w0 : World} (I : Act → World → (Nat → Bool) → Act → World → Prop) (hm : P.follows .mixedOrders = true) (hord : ordered ops = true)
    (h0 : I a0 w0.drew (fun _ => false) a0 w0.drew)
    (hstep : ∀ L a w, I a0 w0.drew L a w → ∀ i o, ops[i]? = some o → L i = false → (∀ e ∈ o.after, Region.binds .any e = true → L e.on = true) → wpOp P ops Q i (fun a' w' => I a0 w0.drew (fun j => if j = i then true else L j) a' w') a w)
    (hdone : ∀ L a w, (∀ i, i < ops.size → L i = true) → I a0 w0.drew L a w → Q .normal a w) : (Code.region id ops true).wp P Q a0 w0 :=
  wp_region_any hm (any_inv (I a0 w0.drew) hord hstep hdone _ _ a0 w0.drew (by simp) (Nat.le_trans (List.length_filter_le _ _) (by simp)) (by
    have e : done (Array.replicate ops.size false) = fun _ => false := funext fun j => by
      unfold done
      rw [Array.getD_eq_getD_getElem?, Array.getElem?_replicate]
      split <;> rfl
    rw [e]
    exact h0))
end

section

variable {P : Program} {ops : Array Oper} {rest : List Oper} {o : Oper} {a : Act} {w : World} {Q : Exit → Act → World → Prop}
/-- an operation whose guard bids it run -/
theorem wpList_due (hw : Region.wanted o (yielded ops a.tmps) = true)
    (h : ∀ K : Act → World → Prop, (∀ a w, wpList P ops Q rest a w → K a w) → o.wp P a w K Q) : wpList P ops Q (o :: rest) a w :=
  wpList_step fun K hK => by rw [if_pos hw]; exact h K hK
theorem load_due (hw : Region.wanted o (yielded ops a.tmps) = true) (ty : TypeId) (x : Operand) (ho : o.op = .load ty x)
    (g : Nat) (hx : a.eval x = .pointer (some ⟨g, 0, none⟩)) (t : TypeId) (cs : Array Value) (fr : Nat × Nat) (d : TypeDesc) (hg : w.heap[g]? = some (.cells cs t fr))
    (hu : P.underlying ty = some d) (hd : (match d with | .struct _ | .array _ _ => true | _ => false) = true) (hi : (P.info? ty).map (·.size) = some cs.size)
    (h : wpList P ops Q rest (a.put o.dst (.agg cs)) w) : wpList P ops Q (o :: rest) a w :=
  wpList_due hw fun _ hK => wp_load_row ty x ho g hx t cs fr d hg hu hd hi (hK _ _ h)
end

end Go.Proofs.Ytmnpmjioahnjoaa.wk

namespace Go.Proofs.Ytmnpmjioahnjoaa.wk

open Go.RowKit

section

variable {P : Program}
/-- '[]byte(s)' -/
theorem conv_bytes (w : World) (src dst e : TypeId) (s : ByteArray) (hs : P.underlying src = some .string) (hd : P.underlying dst = some (.slice e)) (he : P.underlying e = some (.int .u8)) (hm : s.size ≤ maxLen) :
    ∃ A c w', (convert src dst (.string s)).run P w = .ok (.slice A s.size c) w' ∧ s.size ≤ c ∧ c ≤ 9223372036854775807 ∧ wp.RB w' A s.data.toList ∧ Below w.heap.size w w' := by
  have hz : s.data.toList.length = s.size := by rw [Array.length_toList]; rfl
  refine ⟨_, _, _, Lib.run_convert_string_bytes w src dst e s hs hd he, grownCap_ge _ _ _ _, ?_, fun _ => ⟨w.heap.size, 0, rfl, by rw [Lib.bytesWorld_size]; omega, fun j u hu => ?_⟩, ?_⟩
  · have := grownCap_le_maxLen w s.size 0 e hm
    unfold maxLen at this
    omega
  · have hj : j < s.size := by
      rw [← hz]
      rcases Nat.lt_or_ge j s.data.toList.length with h | h
      · exact h
      · rw [List.getElem?_eq_none h] at hu; cases hu
    rw [Nat.zero_add, Lib.bytesWorld_cell w e s j hj, List.getD_eq_getElem?_getD, hu]
    rfl
  · refine ⟨?_, ?_, ?_, by rw [Lib.bytesWorld_size]; omega, fun k hk => Lib.bytesWorld_at_old w e s k hk⟩ <;>
      simp [Lib.bytesWorld, World.freeze, World.alloc, World.drew, -World.alloc_eq, -World.drew_eq]
/-- a load of a whole struct in the quiet head of a region -/
theorem still_load {ops : Array Oper} {w : World} {Q : Act → Prop} {a : Act} {o : Oper} {rest : List Oper} (hgd : o.guard = none) (ty : TypeId) (x : Operand) (ho : o.op = .load ty x)
    (ad : Addr) (hx : a.eval x = .pointer (some ad)) (cs : List Value) (d : TypeDesc) (hc : ∀ j v, cs[j]? = some v → w.cell? (ad.add j) = some v)
    (hu : P.underlying ty = some d) (hd : (match d with | .struct _ | .array _ _ => true | _ => false) = true) (hi : (P.info? ty).map (·.size) = some cs.length)
    (h : wpStill P ops w Q rest (a.put o.dst (.agg cs.toArray))) : wpStill P ops w Q (o :: rest) a :=
  wpStill_step fun K hK => by
    rw [if_pos (by simp [Region.wanted, hgd])]
    unfold Oper.still execOp
    simp only [ho, hx, run_loadAt_agg w ad ty cs d hc hu hd hi, Sem.run_bind, Sem.run_pure, Result.andThen_ok]
    exact ⟨rfl, hK _ h⟩
end

end Go.Proofs.Ytmnpmjioahnjoaa.wk
