/- A cut whose two boxes come to lie in memory, in a region that draws its order. -/
import Derived.Test.YtlcdjabfkfmpdaaVal

import Derived.Test.YtlcdjabfkfmpdaaBm

import Derived.Test.YtlcdjabfkfmpdaaBo

namespace Go.Proofs.Ytlcdjabfkfmpdaa.wk

open Go.RowKit

set_option linter.unusedVariables false

section

variable {P : Program} {ops : Array Oper} {Q : Exit → Act → World → Prop} {md : Region.Mode}
theorem linv_step3 {Γ : Type} {γ : Γ} {a0 : Act} {k : Nat} (R : Γ → (Nat → Bool) → Nat → World → Value → Prop) (hap : apart ops a0.tmps.size = true) (hg : noGuard ops k = true) {L : Nat → Bool} {a : Act} {w : World} {i : Nat} {o : Oper} (hik : i < k) (hI : LInv ops (R γ) a0 L a w) (ho : ops[i]? = some o) (hdep : ∀ e ∈ o.after, Region.binds .any e = true → L e.on = true)
    {S : Γ → World → Prop} (hstep : ∀ E, DueG ops (R γ L) a0 o E w → DoesT P Q o E w fun w' v => ∃ γ', R γ' (fun j => if j = i then true else L j) i w' v ∧ (∀ j u, L j = true → (∀ d, dstOf ops j = some d → E (.tmp d) = u) → R γ L j w u → R γ' (fun j => if j = i then true else L j) j w' u) ∧ S γ' w') :
    wpOp P ops Q i (fun a' w' => ∃ γ', LInv ops (R γ') a0 (fun j => if j = i then true else L j) a' w' ∧ S γ' w') a w := by
  have hio : i < ops.size := (Array.getElem?_eq_some_iff.1 ho).1
  have hdv : ∀ e ∈ o.after, Region.binds .any e = true → ∃ v, R γ L e.on w v ∧ ∀ d, dstOf ops e.on = some d → a.tmps[d]? = some v := fun e he hb => hI.vals e.on (hdep e he hb)
  have hgn : o.guard = none := by
    have h1 := List.all_eq_true.1 hg i (List.mem_range.2 hik)
    simp only [ho, Option.isNone_iff_eq_none] at h1
    exact h1
  refine wpOp_step ho fun K' hK => ?_
  rw [if_pos (by simp [Region.wanted, hgn])]
  refine hstep a.eval ⟨fun _ => rfl, fun _ => rfl, fun k hk => ?_, fun e he hb => ?_⟩ a K' rfl fun v w' hRT => ?_
  · show a.tmps.getD k undef = a0.tmps.getD k undef
    rw [Array.getD_eq_getD_getElem?, Array.getD_eq_getD_getElem?, hI.rest k fun j hj h => ?_]
    have := List.all_eq_true.1 hk j (List.mem_range.2 (dst_lt h))
    rw [h] at this
    simp at this
  · obtain ⟨v, hv, hd⟩ := hdv e he hb
    exact ⟨v, hv, fun d hdd => getD_of (hd d hdd)⟩
  · obtain ⟨γ', hv, hT, hS⟩ := hRT
    have hdo : dstOf ops i = o.dst := by unfold dstOf; rw [ho]; rfl
    refine hK _ _ ⟨γ', ⟨?_, ?_, fun j hj => ?_, fun k hk => ?_⟩, hS⟩
    · cases hd : o.dst <;> exact hI.defers
    · cases hd : o.dst <;> simp only [Act.put, Array.size_setIfInBounds] <;> exact hI.size
    · by_cases hji : j = i
      · subst hji
        refine ⟨v, hv, fun d hd => ?_⟩
        rw [hdo] at hd
        have hlt := apart_lt hap hio (by rw [hdo]; exact hd)
        rw [hd]
        show (a.tmps.setIfInBounds d _)[d]? = some _
        rw [Array.getElem?_setIfInBounds, if_pos rfl, if_pos (by rw [hI.size]; exact hlt)]
      · rw [if_neg hji] at hj
        obtain ⟨u, hu, hud⟩ := hI.vals j hj
        refine ⟨u, hT j u hj (fun d hd => getD_of (hud d hd)) hu, fun d hd => ?_⟩
        cases hod : o.dst with
        | none => exact hud d hd
        | some d' =>
          have hne : d' ≠ d := fun e => hji (apart_ne hap (dst_lt hd) hio hd (by rw [hdo, hod, e]))
          show (a.tmps.setIfInBounds d' _)[d]? = _
          rw [Array.getElem?_setIfInBounds, if_neg hne]
          exact hud d hd
    · have hk' : ∀ j, L j = true → dstOf ops j ≠ some k := fun j hj => hk j (by by_cases h : j = i <;> simp [h, hj])
      have hki : o.dst ≠ some k := by rw [← hdo]; exact hk i (by simp)
      cases hod : o.dst with
      | none => exact hI.rest k hk'
      | some d' =>
        have hne : d' ≠ k := fun e => hki (by rw [hod, e])
        show (a.tmps.setIfInBounds d' _)[k]? = _
        rw [Array.getElem?_setIfInBounds, if_neg hne]
        exact hI.rest k hk'
/-- .. where what is said of the values rests on what has been done -/
theorem region_lev3 {Γ : Type} (γ0 : Γ) {id : Nat} {a0 : Act} {w0 : World} (k : Nat) (R : Γ → (Nat → Bool) → Nat → World → Value → Prop) (ds : List (Option Tmp)) (S : Γ → (Nat → Bool) → World → Prop) (h0 : S γ0 (fun _ => false) w0.drew) (hm : P.follows .mixedOrders = true) (hord : orderedB .any ops = true) (hap : apart ops a0.tmps.size = true) (hg : noGuard ops k = true) (hds : (List.range k).map (dstOf ops) = ds) (htl : tailed ops k = true)
    (hstep : ∀ i o, ops[i]? = some o → i < k → ∀ E L w γ, S γ L w → L i = false → (∀ e ∈ o.after, Region.binds .any e = true → L e.on = true) → DueG ops (R γ L) a0 o E w → DoesT P Q o E w (fun w' v => ∃ γ', R γ' (fun j => if j = i then true else L j) i w' v ∧ (∀ j u, L j = true → (∀ d, dstOf ops j = some d → E (.tmp d) = u) → R γ L j w u → R γ' (fun j => if j = i then true else L j) j w' u) ∧ S γ' (fun j => if j = i then true else L j) w'))
    (hdone : ∀ (vals : Nat → Value) L w γ, (∀ j, j < k → L j = true) → S γ L w → (∀ i, i < k → R γ L i w (vals i)) → wpList P ops Q (ops.toList.drop k) { a0 with tmps := setL ds vals 0 a0.tmps } w) : (Code.region id ops true).wp P Q a0 w0 := by
  unfold tailed at htl
  simp only [Bool.and_eq_true, decide_eq_true_eq] at htl
  obtain ⟨⟨hkn, hcov⟩, hch⟩ := htl
  have hchain : ∀ i, k ≤ i → i + 1 < ops.size → waitsFor ops (i + 1) i = true := fun i h1 h2 => by
    have := List.all_eq_true.1 hch i (List.mem_range.2 (by omega))
    simp only [Bool.or_eq_true, decide_eq_true_eq] at this
    rcases this with (h | h) | h
    · omega
    · omega
    · exact h
  have hcover : ∀ j, j < k → k < ops.size → ∃ i, j < i ∧ i ≤ k ∧ waitsFor ops i j = true := fun j h1 h2 => by
    have := List.all_eq_true.1 hcov j (List.mem_range.2 h1)
    simp only [Bool.or_eq_true, beq_iff_eq] at this
    rcases this with h | h
    · omega
    · obtain ⟨i, hi, h⟩ := List.any_eq_true.1 h
      simp only [Bool.and_eq_true, decide_eq_true_eq] at h
      exact ⟨i, h.1, by have := List.mem_range.1 hi; omega, h.2⟩
  have hfin : ∀ L a w γ, LInv ops (R γ) a0 L a w → S γ L w → (∀ j, j < k → L j = true) → (∀ j, k ≤ j → L j = false) → wpList P ops Q (ops.toList.drop k) a w := fun L a w γ hI hw hall hno => by
    have hv : ∀ i, ∃ v, i < k → R γ L i w v ∧ ∀ d, dstOf ops i = some d → a.tmps[d]? = some v := fun i => by
      by_cases hi : i < k
      · obtain ⟨v, h⟩ := hI.vals i (hall i hi); exact ⟨v, fun _ => h⟩
      · exact ⟨undef, fun h => absurd h hi⟩
    obtain ⟨vals, hvals⟩ := Classical.axiomOfChoice hv
    have ha : a = { a0 with tmps := setAll ops vals k a0.tmps } := by
      obtain ⟨tm, df⟩ := a
      have h1 : df = a0.defers := hI.defers
      have h2 : tm = setAll ops vals k a0.tmps := by
        refine Array.ext_getElem? fun s => ?_
        have hset := setAll_get vals hap s k a0.tmps hkn rfl
        by_cases hk : ∃ i, i < k ∧ dstOf ops i = some s
        · obtain ⟨i, hik, hi⟩ := hk
          rw [hset.2 i hik hi]
          exact (hvals i hik).2 s hi
        · rw [hset.1 fun i hi h => hk ⟨i, hi, h⟩]
          refine hI.rest s fun i hi h => ?_
          rcases Nat.lt_or_ge i k with hl | hl
          · exact hk ⟨i, hl, h⟩
          · rw [hno i hl] at hi; cases hi
      rw [h1, h2]
    rw [ha, setAll_eq, hds]
    exact hdone vals L w γ hall hw fun i hi => (hvals i hi).1
  refine region_invB (fun a0' B L a w => ((∃ γ, LInv ops (R γ) a0 L a w ∧ S γ L w) ∧ (∀ i, k ≤ i → L i = false) ∧ Closed ops L) ∨ ∃ m, k ≤ m ∧ m ≤ ops.size ∧ (∀ i, L i = decide (i < m)) ∧ wpList P ops Q (ops.toList.drop m) a w) hm hord
    (Or.inl ⟨⟨γ0, ⟨rfl, rfl, fun i h => (Bool.noConfusion h), fun k _ => rfl⟩, h0⟩, fun _ _ => rfl, fun i o _ h => (Bool.noConfusion h)⟩) ?_ ?_
  · intro L a w hI i o ho hLi hdep
    have hio : i < ops.size := (Array.getElem?_eq_some_iff.1 ho).1
    rcases hI with ⟨⟨γ, hI, hSw⟩, hno, hcl⟩ | ⟨m, hm1, hm2, hL, hwp⟩
    · by_cases hik : i < k
      · refine wpOp_mono (fun a' w' h => Or.inl ?_) (linv_step3 R hap hg hik hI ho hdep (S := fun γ => S γ (fun j => if j = i then true else L j)) fun E hE => hstep i o ho hik E L w γ hSw hLi hdep hE)
        refine ⟨h, fun j hj => ?_, fun j o' ho' hj e he hb => ?_⟩
        · have hji : j ≠ i := by omega
          simp only [hji, if_false]
          exact hno j hj
        · by_cases hji : j = i
          · subst hji
            rw [ho] at ho'; cases ho'
            by_cases h2 : e.on = j
            · simp [h2]
            · simp only [h2, if_false]; exact hdep e he hb
          · simp only [hji, if_false] at hj
            by_cases h2 : e.on = i
            · simp [h2]
            · simp only [h2, if_false]; exact hcl j o' ho' hj e he hb
      · have hik' : i = k := by
          rcases Nat.lt_or_ge k i with h | h
          · have := waits_done (L := L) (hchain (i - 1) (by omega) (by omega)) (by rw [show i - 1 + 1 = i by omega]; exact ho) hdep
            rw [hno (i - 1) (by omega)] at this; cases this
          · omega
        subst hik'
        have hall : ∀ d j, i - j ≤ d → j < i → L j = true := by
          intro d
          induction d with
          | zero => intro j h1 h2; omega
          | succ d ih =>
            intro j h1 h2
            obtain ⟨q, hq1, hq2, hq3⟩ := hcover j h2 hio
            by_cases hqi : q = i
            · subst hqi; exact waits_done hq3 ho hdep
            · have hq : L q = true := ih q (by omega) (by omega)
              have hqo : ops[q]? = some ops[q] := Array.getElem?_eq_getElem (by omega)
              exact waits_done hq3 hqo (hcl q _ hqo hq)
        refine wpOp_mono (fun a' w' h => Or.inr ⟨i + 1, by omega, by omega, fun j => ?_, h⟩) (wpList_to_op ho (hfin L a w γ hI hSw (fun j hj => hall _ j (Nat.le_refl _) hj) hno))
        by_cases hji : j = i
        · subst hji; simp
        · simp only [hji, if_false]
          rcases Nat.lt_or_ge j i with h1 | h1
          · rw [hall _ j (Nat.le_refl _) h1]; simp; omega
          · rw [hno j h1]; simp; omega
    · have him : i = m := by
        have h1 : ¬ i < m := fun h => by rw [hL i] at hLi; simp [h] at hLi
        rcases Nat.lt_or_ge m i with h | h
        · have := waits_done (L := L) (hchain (i - 1) (by omega) (by omega)) (by rw [show i - 1 + 1 = i by omega]; exact ho) hdep
          rw [hL (i - 1)] at this
          simp at this; omega
        · omega
      subst him
      refine wpOp_mono (fun a' w' h => Or.inr ⟨i + 1, by omega, by omega, fun j => ?_, h⟩) (wpList_to_op ho hwp)
      by_cases hji : j = i
      · subst hji; simp
      · simp only [hji, if_false]
        rw [hL j]
        rcases Nat.lt_or_ge j i with h1 | h1
        · simp [h1]; omega
        · simp; omega
  · intro L a w hall hI
    rcases hI with ⟨⟨γ, hI, hSw⟩, hno, hcl⟩ | ⟨m, hm1, hm2, hL, hwp⟩
    · have hk : k = ops.size := by
        rcases Nat.lt_or_ge k ops.size with h | h
        · have := hall k h; rw [hno k (Nat.le_refl _)] at this; cases this
        · omega
      have := hfin L a w γ hI hSw (fun j hj => hall j (by omega)) hno
      rw [hk, ← Array.length_toList, List.drop_length] at this
      exact this
    · have hk : m = ops.size := by
        rcases Nat.lt_or_ge m ops.size with h | h
        · have := hall m h; rw [hL m] at this; simp at this
        · omega
      rw [hk, ← Array.length_toList, List.drop_length] at hwp
      exact hwp
end

end Go.Proofs.Ytlcdjabfkfmpdaa.wk

namespace Go.Proofs.Ytlcdjabfkfmpdaa.bk

open Go.ChangeShapes Go.WideShapes Go.ChangeAt Go.RowKit

open Go.Proofs.Ytlcdjabfkfmpdaa.bq Go.Proofs.Ytlcdjabfkfmpdaa.vk Go.Proofs.Ytlcdjabfkfmpdaa.wk

set_option linter.unusedVariables false
def CtR (c1 c2 : Pair) (ke : Int) (bx vA : Value) (ax nn rr tt : Int) (γ : Nat × Nat) (L : Nat → Bool) (i : Nat) (u : World) (x : Value) : Prop :=
  match i with
  | 0 => x = bx
  | 1 => x = .int .u8 ax
  | 2 => x = .int .i64 ax
  | 3 => x = vA
  | 4 => x = .int .i64 nn
  | 5 => x = .int .i64 rr
  | 6 => x = .int .i64 tt
  | 7 => ∃ a b, x = .tuple #[a, b, .int .i64 ke] ∧ IsX u a c1 ∧ IsX u b c2
  | 8 => ∃ a b, x = .tuple #[a, b, .int .i64 ke] ∧ IsX u a c1 ∧ IsX u b c2
  | 9 => IsX u x c1
  | 10 => IsX u x c2
  | 11 => x = .int .i64 ke
  | 12 => x = .pointer (some ⟨γ.1, 0, none⟩) ∧ ∃ A n c A' n' c', TwoX u γ.1 (.slice A n c) (.slice A' n' c') ∧ (L 14 = true → IsX u (.agg #[.slice A n c, .slice A' n' c']) c1)
  | 13 => x = .pointer (some ⟨γ.2, 0, none⟩) ∧ ∃ A n c A' n' c', TwoX u γ.2 (.slice A n c) (.slice A' n' c') ∧ (L 15 = true → IsX u (.agg #[.slice A n c, .slice A' n' c']) c2)
  | 16 => x = .int .i64 ke
  | _ => True
section

variable {c1 c2 : Pair} {ke : Int} {bx vA : Value} {ax nn rr tt : Int} {γ γ' : Nat × Nat} {L L' : Nat → Bool} {i : Nat} {u u' W : World} {x : Value}
theorem CtR.next (h1 : i = 12 → γ'.1 = γ.1) (h2 : i = 13 → γ'.2 = γ.2) (h14 : L' 14 = L 14) (h15 : L' 15 = L 15) (hb : Below u.heap.size u u') (h : CtR c1 c2 ke bx vA ax nn rr tt γ L i u x) : CtR c1 c2 ke bx vA ax nn rr tt γ' L' i u' x := by
  unfold CtR at *
  split
  case h_8 => obtain ⟨a, b, h1, h2, h3⟩ := h; exact ⟨a, b, h1, h2.below hb, h3.below hb⟩
  case h_9 => obtain ⟨a, b, h1, h2, h3⟩ := h; exact ⟨a, b, h1, h2.below hb, h3.below hb⟩
  case h_10 => exact IsX.below h hb
  case h_11 => exact IsX.below h hb
  case h_13 =>
    obtain ⟨hx, a1, a2, a3, a4, a5, a6, hT, hX⟩ := h
    rw [h1 rfl, h14]
    exact ⟨hx, _, _, _, _, _, _, hT.below hb, fun e => (hX e).below hb⟩
  case h_14 =>
    obtain ⟨hx, a1, a2, a3, a4, a5, a6, hT, hX⟩ := h
    rw [h2 rfl, h15]
    exact ⟨hx, _, _, _, _, _, _, hT.below hb, fun e => (hX e).below hb⟩
  all_goals first | trivial | exact h
theorem CtR.store14 {a1 a4 b1 b4 : Option Addr} {a2 a3 a5 a6 b2 b3 b5 b6 : Nat} (hT : TwoX u γ.1 (.slice a1 a2 a3) (.slice a4 a5 a6)) (hne : i = 13 → γ.2 ≠ γ.1) (hq1 : wo.IsI u b1 b2 b3 c1.1) (hq2 : wo.IsI u b4 b5 b6 c1.2)
    (h : CtR c1 c2 ke bx vA ax nn rr tt γ L i u x) : CtR c1 c2 ke bx vA ax nn rr tt γ (fun j => if j = 14 then true else L j) i ((u.setCell ⟨γ.1, 0, none⟩ (.slice b1 b2 b3)).setCell ⟨γ.1, 1, none⟩ (.slice b4 b5 b6)) x := by
  unfold CtR at *
  split
  case h_8 => obtain ⟨a, b, h1, h2, h3⟩ := h; exact ⟨a, b, h1, isX_set2 h2 hT _ _, isX_set2 h3 hT _ _⟩
  case h_9 => obtain ⟨a, b, h1, h2, h3⟩ := h; exact ⟨a, b, h1, isX_set2 h2 hT _ _, isX_set2 h3 hT _ _⟩
  case h_10 => exact isX_set2 h hT _ _
  case h_11 => exact isX_set2 h hT _ _
  case h_13 => exact ⟨h.1, b1, b2, b3, b4, b5, b6, hT.set _ _, fun _ => ⟨_, _, _, _, _, _, rfl, isI_set2 hq1 hT _ _, isI_set2 hq2 hT _ _⟩⟩
  case h_14 =>
    obtain ⟨hx, d1, d2, d3, d4, d5, d6, hD, hX⟩ := h
    exact ⟨hx, _, _, _, _, _, _, hD.other2 (hne rfl) _ _, fun e => isX_set2 (hX e) hT _ _⟩
  all_goals first | trivial | exact h
theorem CtR.store15 {a1 a4 b1 b4 : Option Addr} {a2 a3 a5 a6 b2 b3 b5 b6 : Nat} (hT : TwoX u γ.2 (.slice a1 a2 a3) (.slice a4 a5 a6)) (hne : i = 12 → γ.1 ≠ γ.2) (hq1 : wo.IsI u b1 b2 b3 c2.1) (hq2 : wo.IsI u b4 b5 b6 c2.2)
    (h : CtR c1 c2 ke bx vA ax nn rr tt γ L i u x) : CtR c1 c2 ke bx vA ax nn rr tt γ (fun j => if j = 15 then true else L j) i ((u.setCell ⟨γ.2, 0, none⟩ (.slice b1 b2 b3)).setCell ⟨γ.2, 1, none⟩ (.slice b4 b5 b6)) x := by
  unfold CtR at *
  split
  case h_8 => obtain ⟨a, b, h1, h2, h3⟩ := h; exact ⟨a, b, h1, isX_set2 h2 hT _ _, isX_set2 h3 hT _ _⟩
  case h_9 => obtain ⟨a, b, h1, h2, h3⟩ := h; exact ⟨a, b, h1, isX_set2 h2 hT _ _, isX_set2 h3 hT _ _⟩
  case h_10 => exact isX_set2 h hT _ _
  case h_11 => exact isX_set2 h hT _ _
  case h_14 => exact ⟨h.1, b1, b2, b3, b4, b5, b6, hT.set _ _, fun _ => ⟨_, _, _, _, _, _, rfl, isI_set2 hq1 hT _ _, isI_set2 hq2 hT _ _⟩⟩
  case h_13 =>
    obtain ⟨hx, d1, d2, d3, d4, d5, d6, hD, hX⟩ := h
    exact ⟨hx, _, _, _, _, _, _, hD.other2 (hne rfl) _ _, fun e => isX_set2 (hX e) hT _ _⟩
  all_goals first | trivial | exact h
structure CtS (W : World) (γ : Nat × Nat) (L : Nat → Bool) (u : World) : Prop where
  below : Below W.heap.size W u
  c14 : L 14 = true → L 12 = true
  c15 : L 15 = true → L 13 = true
  lt1 : L 12 = true → γ.1 < u.heap.size ∧ W.heap.size ≤ γ.1
  lt2 : L 13 = true → γ.2 < u.heap.size ∧ W.heap.size ≤ γ.2
  ne : L 12 = true → L 13 = true → γ.1 ≠ γ.2
theorem CtS.next (h : CtS W γ L u) (h12 : L' 12 = L 12) (h13 : L' 13 = L 13) (h14 : L' 14 = L 14) (h15 : L' 15 = L 15) (hb : Below u.heap.size u u') : CtS W γ L' u' := by
  have := hb.size
  refine ⟨h.below.trans (hb.mono h.below.size), ?_, ?_, ?_, ?_, ?_⟩
  · rw [h14, h12]; exact h.c14
  · rw [h15, h13]; exact h.c15
  · rw [h12]; intro e; have := h.lt1 e; omega
  · rw [h13]; intro e; have := h.lt2 e; omega
  · rw [h12, h13]; exact h.ne
theorem CtS.next12 (h : CtS W γ L u) (hlt : u.heap.size < u'.heap.size) (hb : Below u.heap.size u u') : CtS W (u.heap.size, γ.2) (fun j => if j = 12 then true else L j) u' := by
  have hs := h.below.size
  exact ⟨h.below.trans (hb.mono h.below.size), fun _ => rfl, h.c15, fun _ => ⟨hlt, hs⟩, fun e => by have := h.lt2 e; exact ⟨by show γ.2 < _; omega, this.2⟩, fun _ e => by have := h.lt2 e; show u.heap.size ≠ γ.2; omega⟩
theorem CtS.next13 (h : CtS W γ L u) (hlt : u.heap.size < u'.heap.size) (hb : Below u.heap.size u u') : CtS W (γ.1, u.heap.size) (fun j => if j = 13 then true else L j) u' := by
  have hs := h.below.size
  exact ⟨h.below.trans (hb.mono h.below.size), h.c14, fun _ => rfl, fun e => by have := h.lt1 e; exact ⟨by show γ.1 < _; omega, this.2⟩, fun _ => ⟨hlt, hs⟩, fun e _ => by have := h.lt1 e; show γ.1 ≠ u.heap.size; omega⟩
theorem size_set2 (u : World) (g : Nat) (x y : Value) : u.heap.size ≤ ((u.setCell ⟨g, 0, none⟩ x).setCell ⟨g, 1, none⟩ y).heap.size := (below_set2 (Below.refl 0 u) (Nat.zero_le g) x y).size
theorem CtS.store14 (h : CtS W γ L u) (h12 : L 12 = true) {x y : Value} : CtS W γ (fun j => if j = 14 then true else L j) ((u.setCell ⟨γ.1, 0, none⟩ x).setCell ⟨γ.1, 1, none⟩ y) := by
  have hs := size_set2 u γ.1 x y
  exact ⟨below_set2 h.below (h.lt1 h12).2 _ _, fun _ => h12, h.c15, fun e => by have := h.lt1 e; exact ⟨by omega, this.2⟩, fun e => by have := h.lt2 e; exact ⟨by omega, this.2⟩, h.ne⟩
theorem CtS.store15 (h : CtS W γ L u) (h13 : L 13 = true) {x y : Value} : CtS W γ (fun j => if j = 15 then true else L j) ((u.setCell ⟨γ.2, 0, none⟩ x).setCell ⟨γ.2, 1, none⟩ y) := by
  have hs := size_set2 u γ.2 x y
  exact ⟨below_set2 h.below (h.lt2 h13).2 _ _, h.c14, fun _ => h13, fun e => by have := h.lt1 e; exact ⟨by omega, this.2⟩, fun e => by have := h.lt2 e; exact ⟨by omega, this.2⟩, h.ne⟩
end

end Go.Proofs.Ytlcdjabfkfmpdaa.bk
