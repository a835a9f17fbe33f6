/- Joined: Val6 Pg Ph Pi Pj Val8. -/
import Derived.Test.YteeianandjokaaaG8
/- A region whose tail writes a slot that its first operations read. No program here. -/
namespace Go.Proofs.Yteeianandjokaaa.wk

open Go.RowKit

set_option linter.unusedVariables false

section

variable {P : Program} {ops : Array Oper} {Q : Exit → Act → World → Prop}
/-- none of the first k operations writes this slot -/
def unwK (ops : Array Oper) (k s : Nat) : Bool := (List.range k).all fun i => dstOf ops i != some s
theorem vinv_stepK {a0 : Act} {B : World} {k : Nat} (R : List SP) (hap : apart ops a0.tmps.size = true) (hg : guardedS ops R k = true) (hsk : ∀ i, i < k → skips ops R i = true → R.getD i SP.any = .is undef) {L : Nat → Bool} {a : Act} {w : World} {i : Nat} {o : Oper} (hik : i < k) (hI : VInv ops R B a0 L a w) (ho : ops[i]? = some o) (hLi : L i = false) (hdep : ∀ e ∈ o.after, Region.binds .any e = true → L e.on = true) (hno : ∀ j, k ≤ j → L j = false)
    (hstep : skips ops R i = false → ∀ E w, Below B.heap.size B w → Due ops R a0 o E w → (∀ s, unwK ops k s = true → E (.tmp s) = a0.eval (.tmp s)) → Does P Q o E w (R.getD i SP.any).has) :
    wpOp P ops Q i (fun a' w' => VInv ops R B a0 (fun j => if j = i then true else L j) a' w') a w := by
  have hio : i < ops.size := (Array.getElem?_eq_some_iff.1 ho).1
  have hdv : ∀ e ∈ o.after, Region.binds .any e = true → ∃ v, (R.getD e.on SP.any).has w v ∧ ∀ d, dstOf ops e.on = some d → a.tmps[d]? = some v := fun e he hb => hI.vals e.on (hdep e he hb)
  have hfin : ∀ v w', Below w.heap.size w w' → (R.getD i SP.any).has w' v → VInv ops R B a0 (fun j => if j = i then true else L j) (a.put o.dst v) w' := fun v w' hb hR => by
    have hB := hI.below.trans (hb.mono hI.below.size)
    have hdo : dstOf ops i = o.dst := by unfold dstOf; rw [ho]; rfl
    refine ⟨hB, ?_, ?_, fun j hj => ?_, fun k hk => ?_⟩
    · cases hd : o.dst <;> exact hI.defers
    · cases hd : o.dst <;> simp only [Act.put, Array.size_setIfInBounds] <;> exact hI.size
    · by_cases hji : j = i
      · subst hji
        refine ⟨v, hR, fun d hd => ?_⟩
        rw [hdo] at hd
        have hlt := apart_lt hap hio (by rw [hdo]; exact hd)
        rw [hd]
        show (a.tmps.setIfInBounds d v)[d]? = some v
        rw [Array.getElem?_setIfInBounds, if_pos rfl, if_pos (by rw [hI.size]; exact hlt)]
      · rw [if_neg hji] at hj
        obtain ⟨u, hu, hud⟩ := hI.vals j hj
        refine ⟨u, SP.has_below hu hb, fun d hd => ?_⟩
        cases hod : o.dst with
        | none => exact hud d hd
        | some d' =>
          have hne : d' ≠ d := fun e => hji (apart_ne hap (dst_lt hd) hio hd (by rw [hdo, hod, e]))
          show (a.tmps.setIfInBounds d' v)[d]? = some u
          rw [Array.getElem?_setIfInBounds, if_neg hne]
          exact hud d hd
    · have hk' : ∀ j, L j = true → dstOf ops j ≠ some k := fun j hj => hk j (by by_cases h : j = i <;> simp [h, hj])
      have hki : o.dst ≠ some k := by rw [← hdo]; exact hk i (by simp)
      cases hod : o.dst with
      | none => exact hI.rest k hk'
      | some d' =>
        have hne : d' ≠ k := fun e => hki (by rw [hod, e])
        show (a.tmps.setIfInBounds d' v)[k]? = _
        rw [Array.getElem?_setIfInBounds, if_neg hne]
        exact hI.rest k hk'
  by_cases hs : skips ops R i = true
  · have hw : Region.wanted o (yielded ops a.tmps) = false := by
      have h1 := List.all_eq_true.1 hg i (List.mem_range.2 hik)
      unfold skips at hs
      simp only [ho] at h1 hs
      unfold Region.wanted
      cases hgd : o.guard with
      | none => rw [hgd] at hs; cases hs
      | some x =>
        obtain ⟨j, want⟩ := x
        simp only [hgd, Bool.and_eq_true] at h1 hs
        obtain ⟨⟨_, hsm⟩, h2⟩ := h1
        obtain ⟨ix, hix, h3⟩ := Array.any_eq_true.1 h2
        have he : o.after[ix] ∈ o.after := Array.getElem_mem hix
        generalize o.after[ix] = e at *
        simp only [Bool.and_eq_true, beq_iff_eq] at h3
        obtain ⟨h3, h4⟩ := h3
        obtain ⟨v, hv, hd⟩ := hdv e he h4
        rw [h3] at hv hd
        have hvb : v = .bool (!want) := by
          cases hr : R.getD j SP.any with
          | is x =>
            rw [hr] at hs hv
            cases x <;> simp only [SP.bool?, Bool.false_eq_true] at hs
            rename_i bb
            have hbb : bb = !want := by cases bb <;> cases want <;> simp_all
            rw [hbb] at hv
            exact hv
          | st p hp => rw [hr] at hs; simp [SP.bool?] at hs
        obtain ⟨d, hdj⟩ := Option.isSome_iff_exists.1 hsm
        have hy : yielded ops a.tmps j = some (!want) := by
          unfold yielded
          have e1 : (ops[j]?).bind (·.dst) = some d := hdj
          rw [e1]
          simp only [Option.bind_some, hd d hdj, hvb]
        simp only [hy]
        cases want <;> rfl
    refine wpOp_step ho fun K' hK => ?_
    rw [if_neg (by rw [hw]; exact Bool.false_ne_true)]
    exact hK _ _ (hfin undef w (Below.refl _ _) (by rw [hsk i hik hs]; rfl))
  have hw : Region.wanted o (yielded ops a.tmps) = true := by
    have h1 := List.all_eq_true.1 hg i (List.mem_range.2 hik)
    unfold skips at hs
    simp only [ho] at h1 hs
    unfold Region.wanted
    cases hgd : o.guard with
    | none => rfl
    | some x =>
      obtain ⟨j, want⟩ := x
      simp only [hgd, Bool.and_eq_true] at h1 hs
      obtain ⟨⟨⟨hbs, _⟩, hsm⟩, h2⟩ := h1
      obtain ⟨ix, hix, h3⟩ := Array.any_eq_true.1 h2
      have he : o.after[ix] ∈ o.after := Array.getElem_mem hix
      generalize o.after[ix] = e at *
      simp only [Bool.and_eq_true, beq_iff_eq] at h3
      obtain ⟨h3, h4⟩ := h3
      obtain ⟨v, hv, hd⟩ := hdv e he h4
      rw [h3] at hv hd
      have hvb : v = .bool want := by
        cases hr : R.getD j SP.any with
        | is x =>
          rw [hr] at hs hv hbs
          cases x <;> simp only [SP.bool?, Option.isSome_none, Bool.false_eq_true] at hbs
          rename_i bb
          simp only [SP.bool?] at hs
          have hbb : bb = want := by cases bb <;> cases want <;> simp_all
          rw [hbb] at hv
          exact hv
        | st p hp => rw [hr] at hbs; simp [SP.bool?] at hbs
      obtain ⟨d, hdj⟩ := Option.isSome_iff_exists.1 hsm
      have hy : yielded ops a.tmps j = some want := by
        unfold yielded
        have e1 : (ops[j]?).bind (·.dst) = some d := hdj
        rw [e1]
        simp only [Option.bind_some, hd d hdj, hvb]
      simp only [hy, beq_self_eq_true]
  refine wpOp_step ho fun K' hK => ?_
  rw [if_pos hw]
  refine hstep (by simpa using hs) a.eval w hI.below ⟨fun _ => rfl, fun _ => rfl, fun k hk => ?_, fun e he hb => ?_⟩ (fun s hs2 => ?_) a K' rfl fun v w' hb hR => ?_
  · show a.tmps.getD k undef = a0.tmps.getD k undef
    rw [Array.getD_eq_getD_getElem?, Array.getD_eq_getD_getElem?, hI.rest k fun j hj h => ?_]
    have := List.all_eq_true.1 hk j (List.mem_range.2 (dst_lt h))
    rw [h] at this
    simp at this
  · obtain ⟨v, hv, hd⟩ := hdv e he hb
    exact ⟨v, hv, fun d hdd => getD_of (hd d hdd)⟩
  · show a.tmps.getD s undef = a0.tmps.getD s undef
    rw [Array.getD_eq_getD_getElem?, Array.getD_eq_getD_getElem?, hI.rest s fun j hj h => ?_]
    have hjk : j < k := by
      rcases Nat.lt_or_ge j k with h1 | h1
      · exact h1
      · rw [hno j h1] at hj; cases hj
    have := List.all_eq_true.1 hs2 j (List.mem_range.2 hjk)
    rw [h] at this
    simp at this
  · exact hK _ _ (hfin v w' hb hR)
theorem region_tailK {id : Nat} {a0 : Act} {w0 : World} (k : Nat) (R : List SP) (ds : List (Option Tmp)) (hm : P.follows .mixedOrders = true) (hord : orderedB .any ops = true) (hap : apart ops a0.tmps.size = true) (hg : guardedS ops R k = true) (sk : List Nat) (hskl : skipped ops R k = sk) (hsk0 : ∀ p ∈ sk, R.getD p SP.any = .is undef) (hds : (List.range k).map (dstOf ops) = ds) (htl : tailed ops k = true)
    (hstep : ∀ i o, ops[i]? = some o → i < k → skips ops R i = false → ∀ E w, Below w0.drew.heap.size w0.drew w → Due ops R a0 o E w → (∀ s, unwK ops k s = true → E (.tmp s) = a0.eval (.tmp s)) → Does P Q o E w (R.getD i SP.any).has)
    (hdone : ∀ (vals : Nat → Value) w, Below w0.drew.heap.size w0.drew w → (∀ i, i < k → (R.getD i SP.any).has w (vals i)) → wpList P ops Q (ops.toList.drop k) { a0 with tmps := setL ds vals 0 a0.tmps } w) : (Code.region id ops true).wp P Q a0 w0 := by
  have hsk := skip_of hskl hsk0
  unfold tailed at htl
  simp only [Bool.and_eq_true, decide_eq_true_eq] at htl
  obtain ⟨⟨hkn, hcov⟩, hch⟩ := htl
  have hchain : ∀ i, k ≤ i → i + 1 < ops.size → waitsFor ops (i + 1) i = true := fun i h1 h2 => by
    have := List.all_eq_true.1 hch i (List.mem_range.2 (by omega))
    simp only [Bool.or_eq_true, decide_eq_true_eq] at this
    rcases this with (h | h) | h
    · omega
    · omega
    · exact h
  have hcover : ∀ j, j < k → k < ops.size → ∃ i, j < i ∧ i ≤ k ∧ waitsFor ops i j = true := fun j h1 h2 => by
    have := List.all_eq_true.1 hcov j (List.mem_range.2 h1)
    simp only [Bool.or_eq_true, beq_iff_eq] at this
    rcases this with h | h
    · omega
    · obtain ⟨i, hi, h⟩ := List.any_eq_true.1 h
      simp only [Bool.and_eq_true, decide_eq_true_eq] at h
      exact ⟨i, h.1, by have := List.mem_range.1 hi; omega, h.2⟩
  have hfin : ∀ L a w, VInv ops R w0.drew a0 L a w → (∀ j, j < k → L j = true) → (∀ j, k ≤ j → L j = false) → wpList P ops Q (ops.toList.drop k) a w := fun L a w hI hall hno => by
    have hv : ∀ i, ∃ v, i < k → (R.getD i SP.any).has w v ∧ ∀ d, dstOf ops i = some d → a.tmps[d]? = some v := fun i => by
      by_cases hi : i < k
      · obtain ⟨v, h⟩ := hI.vals i (hall i hi); exact ⟨v, fun _ => h⟩
      · exact ⟨undef, fun h => absurd h hi⟩
    obtain ⟨vals, hvals⟩ := Classical.axiomOfChoice hv
    have ha : a = { a0 with tmps := setAll ops vals k a0.tmps } := by
      obtain ⟨tm, df⟩ := a
      have h1 : df = a0.defers := hI.defers
      have h2 : tm = setAll ops vals k a0.tmps := by
        refine Array.ext_getElem? fun s => ?_
        have hset := setAll_get vals hap s k a0.tmps hkn rfl
        by_cases hk : ∃ i, i < k ∧ dstOf ops i = some s
        · obtain ⟨i, hik, hi⟩ := hk
          rw [hset.2 i hik hi]
          exact (hvals i hik).2 s hi
        · rw [hset.1 fun i hi h => hk ⟨i, hi, h⟩]
          refine hI.rest s fun i hi h => ?_
          rcases Nat.lt_or_ge i k with hl | hl
          · exact hk ⟨i, hl, h⟩
          · rw [hno i hl] at hi; cases hi
      rw [h1, h2]
    rw [ha, setAll_eq, hds]
    exact hdone vals w hI.below fun i hi => (hvals i hi).1
  refine region_invB (fun a0 B L a w => (VInv ops R B a0 L a w ∧ (∀ i, k ≤ i → L i = false) ∧ Closed ops L) ∨ ∃ m, k ≤ m ∧ m ≤ ops.size ∧ (∀ i, L i = decide (i < m)) ∧ wpList P ops Q (ops.toList.drop m) a w) hm hord
    (Or.inl ⟨⟨Below.refl _ _, rfl, rfl, fun i h => (Bool.noConfusion h), fun k _ => rfl⟩, fun _ _ => rfl, fun i o _ h => (Bool.noConfusion h)⟩) ?_ ?_
  · intro L a w hI i o ho hLi hdep
    have hio : i < ops.size := (Array.getElem?_eq_some_iff.1 ho).1
    rcases hI with ⟨hI, hno, hcl⟩ | ⟨m, hm1, hm2, hL, hwp⟩
    · by_cases hik : i < k
      · refine wpOp_mono (fun a' w' h => Or.inl ?_) (vinv_stepK R hap hg hsk hik hI ho hLi hdep hno (hstep i o ho hik))
        refine ⟨h, fun j hj => ?_, fun j o' ho' hj e he hb => ?_⟩
        · have hji : j ≠ i := by omega
          simp only [hji, if_false]
          exact hno j hj
        · by_cases hji : j = i
          · subst hji
            rw [ho] at ho'; cases ho'
            by_cases h2 : e.on = j
            · simp [h2]
            · simp only [h2, if_false]; exact hdep e he hb
          · simp only [hji, if_false] at hj
            by_cases h2 : e.on = i
            · simp [h2]
            · simp only [h2, if_false]; exact hcl j o' ho' hj e he hb
      · have hik' : i = k := by
          rcases Nat.lt_or_ge k i with h | h
          · have := waits_done (L := L) (hchain (i - 1) (by omega) (by omega)) (by rw [show i - 1 + 1 = i by omega]; exact ho) hdep
            rw [hno (i - 1) (by omega)] at this; cases this
          · omega
        subst hik'
        have hall : ∀ d j, i - j ≤ d → j < i → L j = true := by
          intro d
          induction d with
          | zero => intro j h1 h2; omega
          | succ d ih =>
            intro j h1 h2
            obtain ⟨q, hq1, hq2, hq3⟩ := hcover j h2 hio
            by_cases hqi : q = i
            · subst hqi; exact waits_done hq3 ho hdep
            · have hq : L q = true := ih q (by omega) (by omega)
              have hqo : ops[q]? = some ops[q] := Array.getElem?_eq_getElem (by omega)
              exact waits_done hq3 hqo (hcl q _ hqo hq)
        refine wpOp_mono (fun a' w' h => Or.inr ⟨i + 1, by omega, by omega, fun j => ?_, h⟩) (wpList_to_op ho (hfin L a w hI (fun j hj => hall _ j (Nat.le_refl _) hj) hno))
        by_cases hji : j = i
        · subst hji; simp
        · simp only [hji, if_false]
          rcases Nat.lt_or_ge j i with h1 | h1
          · rw [hall _ j (Nat.le_refl _) h1]; simp; omega
          · rw [hno j h1]; simp; omega
    · have him : i = m := by
        have h1 : ¬ i < m := fun h => by rw [hL i] at hLi; simp [h] at hLi
        rcases Nat.lt_or_ge m i with h | h
        · have := waits_done (L := L) (hchain (i - 1) (by omega) (by omega)) (by rw [show i - 1 + 1 = i by omega]; exact ho) hdep
          rw [hL (i - 1)] at this
          simp at this; omega
        · omega
      subst him
      refine wpOp_mono (fun a' w' h => Or.inr ⟨i + 1, by omega, by omega, fun j => ?_, h⟩) (wpList_to_op ho hwp)
      by_cases hji : j = i
      · subst hji; simp
      · simp only [hji, if_false]
        rw [hL j]
        rcases Nat.lt_or_ge j i with h1 | h1
        · simp [h1]; omega
        · simp; omega
  · intro L a w hall hI
    rcases hI with ⟨hI, hno, hcl⟩ | ⟨m, hm1, hm2, hL, hwp⟩
    · have hk : k = ops.size := by
        rcases Nat.lt_or_ge k ops.size with h | h
        · have := hall k h; rw [hno k (Nat.le_refl _)] at this; cases this
        · omega
      have := hfin L a w hI (fun j hj => hall j (by omega)) hno
      rw [hk, ← Array.length_toList, List.drop_length] at this
      exact this
    · have hk : m = ops.size := by
        rcases Nat.lt_or_ge m ops.size with h | h
        · have := hall m h; rw [hL m] at this; simp at this
        · omega
      rw [hk, ← Array.length_toList, List.drop_length] at hwp
      exact hwp
end

end Go.Proofs.Yteeianandjokaaa.wk
/- Join, In. -/
namespace Go.Proofs.Yteeianandjokaaa.pk

open Go.ChangeShapes Go.WideShapes Go.ChangeAt Go.RowKit

open Go.Proofs.Yteeianandjokaaa.pq Go.Proofs.Yteeianandjokaaa.cq Go.Proofs.Yteeianandjokaaa.vk Go.Proofs.Yteeianandjokaaa.bk Go.Proofs.Yteeianandjokaaa.wk Go.Proofs.Yteeianandjokaaa.uk

set_option linter.unusedVariables false
theorem cells2 {w : World} {b p : Nat} {u0 u1 : Value} (h0 : w.cell? ⟨b, p, none⟩ = some u0) (h1 : w.cell? ⟨b, p + 1, none⟩ = some u1) : ∀ j v, [u0, u1][j]? = some v → w.cell? ((⟨b, p, none⟩ : Addr).add j) = some v := fun j v hv => by
  rw [wk.add_at]
  match j with
  | 0 => simp only [List.getElem?_cons_zero, Option.some.injEq] at hv; subst hv; exact h0
  | 1 => simp only [List.getElem?_cons_succ, List.getElem?_cons_zero, Option.some.injEq] at hv; subst hv; exact h1
  | j + 2 => simp at hv
def jok (a b : List Sh) : Bool := decide (a.length = b.length) && (svalid a && svalid b)
theorem joins_len {a b : List Sh} (h : a.length = b.length) : (joins a b).length = a.length := by unfold joins; rw [List.length_zipWith]; omega
theorem joins_at {a b : List Sh} {k : Nat} {x y : Sh} (h : a[k]? = some x) (h' : b[k]? = some y) : (joins a b)[k]? = some (join1 x y) := by
  unfold joins; rw [List.getElem?_zipWith, h, h']
theorem svalid_len {a : List Sh} (h : svalid a = true) : a.length ≤ 8 := by
  simp only [svalid, Bool.and_eq_true, decide_eq_true_eq] at h
  exact h.1
theorem svalid_at {a : List Sh} (h : svalid a = true) {s : Sh} (hs : s ∈ a) : 0 ≤ s.1 ∧ s.1 ≤ s.2 ∧ s.2 ≤ 134217728 := by
  simp only [svalid, Bool.and_eq_true, decide_eq_true_eq, List.all_eq_true] at h
  have := h.2 s hs
  simpa [sok] using this
theorem ones2' {a b : Int} : ∀ u ∈ [Value.int .i64 a, Value.int .i64 b], u.oneCell' = true := ones2
def IsSo (w : World) (A : Option Addr) (n c : Nat) (l : List Sh) : Prop := IsS w A n c l
theorem isS_nil (w : World) : IsS w none 0 0 [] := ⟨rfl, Nat.le_refl _, by omega, fun h => absurd h (by simp [fl]), by simp⟩
theorem joins_wd {a b : List Sh} (ha : svalid a = true) (hb : svalid b = true) : ∀ r ∈ joins a b, Wd r := fun r hr => by
  obtain ⟨k, hk, rfl⟩ := List.mem_iff_getElem.1 hr
  have hk2 : k < a.length ∧ k < b.length := by unfold joins at hk; rw [List.length_zipWith] at hk; omega
  have h1 := svalid_at ha (List.getElem_mem hk2.1)
  have h2 := svalid_at hb (List.getElem_mem hk2.2)
  have h3 := joins_at (List.getElem?_eq_getElem hk2.1) (List.getElem?_eq_getElem hk2.2)
  rw [List.getElem?_eq_getElem hk] at h3
  injection h3 with h3
  rw [h3]
  unfold join1 Wd
  dsimp only
  omega
set_option maxRecDepth 100000 in
set_option maxHeartbeats 4000000 in
theorem join_calls {a b' : List Sh} {n c n' c' : Nat} {A A' : Option Addr} (w : World) (h : IsS w A n c a) (h' : IsS w A' n' c' b') :
    Calls Try.prog 22 #[.slice A n c, .slice A' n' c'] w fun e w' => ∃ A2 n2 c2, e = .returned (.tuple #[.slice A2 n2 c2, okE (jok a b')]) ∧ IsS w' A2 n2 c2 (if jok a b' then joins a b' else []) ∧ Below w.heap.size w w' := by
  have hm := h.2.2.1
  have hnc := h.2.1
  have hm' := h'.2.2.1
  have hnc' := h'.2.1
  have HV := Lib.hid (svalid_calls w h)
  have HV' := Lib.hid (fun w' (hb : Below w.heap.size w w') => svalid_calls w' (isS_below h' hb))
  unfold okE
  by_cases hnn : n = n'
  · subst hnn
    have hj : jok a b' = (svalid a && svalid b') := by unfold jok; rw [h.1, h'.1]; simp
    rw [hj]
    cases hva : svalid a
    · rw [hva] at HV
      rw [Bool.false_and]
      clear h h' hj
      go_enter Try.func22, Try.ntmps22
      go_wp2_with fail
      refine HV.out.mono ?_
      rintro e w1 ⟨rfl, hb1⟩
      have HB1 := Lib.hid hb1
      clear hb1
      go_wp2_with fail
      go_ret2
      exact ⟨_, _, _, rfl, isS_nil _, HB1.out⟩
    · rw [hva] at HV
      rw [Bool.true_and]
      cases hvb : svalid b'
      · rw [hvb] at HV'
        clear h h' hj
        go_enter Try.func22, Try.ntmps22
        go_wp2_with fail
        refine HV.out.mono ?_
        rintro e w1 ⟨rfl, hb1⟩
        have HB1 := Lib.hid hb1
        clear hb1
        go_wp2_with fail
        refine (HV'.out _ HB1.out).mono ?_
        rintro e w2 ⟨rfl, hb2⟩
        have HB2 := Lib.hid (Below.andThen HB1.out hb2)
        clear hb2
        go_wp2_with fail
        go_ret2
        exact ⟨_, _, _, rfl, isS_nil _, HB2.out⟩
      · rw [hvb] at HV'
        have HAL : Hid ((joins a b').length = n) := by show _ = _; rw [joins_len (by rw [h.1, h'.1]), h.1]
        have HWD := Lib.hid (joins_wd hva hvb)
        have hn8 : n ≤ 8 := by rw [← h.1]; exact svalid_len hva
        have H := Lib.hid h
        have H' := Lib.hid h'
        obtain ⟨i0, hi, hz0, hz1, hz2⟩ := info_parts infoSh
        have hnI : (i0.bytes : Nat) * n ≤ 281474976710656 := by rw [hz2]; omega
        clear h h' hj
        go_enter Try.func22, Try.ntmps22
        go_wp2_with fail
        refine HV.out.mono ?_
        rintro e w1 ⟨rfl, hb1⟩
        have HB1 := Lib.hid hb1
        clear hb1
        go_wp2_with fail
        refine (HV'.out _ HB1.out).mono ?_
        rintro e w2 ⟨rfl, hb2⟩
        have HB2 := Lib.hid (Below.andThen HB1.out hb2)
        have H2 := Lib.hid (isS_below H.out HB2.out)
        have H2' := Lib.hid (isS_below H'.out HB2.out)
        clear hb2
        obtain ⟨w3, hmk, hown, hgr⟩ := run_make_own (P := Try.prog) w2 w2.heap.size 48 65 i0 (.agg #[.int .i64 0, .int .i64 0]) 2 Try.underlying48 hi hz0 hz1 .i64 .i64 n hnI (by unfold maxLen; omega) (Nat.le_refl _)
        have HB3 : Hid (Below w2.heap.size w2 w3) := (Below.refl _ _).grown hgr (Nat.le_refl _) (fun k hk => by cases hk)
        have HOWN3 := Lib.hid hown
        clear hown hgr
        go_wp2_with fail
        go_loopg [6, 28] n (fun gk v x wr => ∃ (k : Nat) (v0 : Value), k + gk = n ∧ v0 = v ∧ x = .int .i64 (k : Int) ∧ wr.ownsRow w2.heap.size 65 2 v0 k (fl ((joins a b').take k)) ∧ Below w2.heap.size w2 wr)
        case atStart => exact ⟨0, _, by omega, rfl, rfl, by simpa [fl] using HOWN3.out, HB3.out⟩
        case round =>
          obtain ⟨k, v0, hk, hv0, rfl, hown, hbel⟩ := hrel
          subst hv0
          have HK := Lib.hid hk
          have HOWN2 := Lib.hid hown
          have HBEL := Lib.hid hbel
          have HBW : Hid (w2.heap.size ≤ wr.heap.size) := hbel.size
          have hkn : k ≤ n := by omega
          by_cases hlt : k < n
          · obtain ⟨b, o, ⟨x1, x2⟩, rfl, hx1, hx2, hb1, hX, hwx⟩ := isS_get (isS_below H2.out hbel) hlt
            obtain ⟨b2, o2, ⟨y1, y2⟩, rfl, hy1, hy2, hb2, hY, hwy⟩ := isS_get (isS_below H2'.out hbel) hlt
            dsimp only at hx1 hx2 hy1 hy2
            have hlt0 : (k : Int) < (n : Int) := by omega
            have HS : Hid ((joins a b').take (k + 1) = (joins a b').take k ++ [(min x1 y1, max x2 y2)]) := by
              show _ = _
              rw [List.take_add_one, joins_at hX hY]; rfl
            obtain ⟨mn, hmn⟩ : ∃ z, min x1 y1 = z := ⟨_, rfl⟩
            obtain ⟨mx, hmx⟩ : ∃ z, max x2 y2 = z := ⟨_, rfl⟩
            rw [hmn, hmx] at HS
            have HMN := Lib.hid hmn
            have HMX := Lib.hid hmx
            clear hmn hmx hX hY hwx hwy hown hbel hmk HOWN3 hk
            go_wp2_with fail
            refine wk.region_tailK 11 [.is (v0), .is (.slice (some ⟨b, o, none⟩) n c), .is (.int .i64 (k : Int)), .is (.pointer (some ⟨b, o + k * 2, none⟩)), .is (.agg #[.int .i64 x1, .int .i64 x2]), .is (.slice (some ⟨b2, o2, none⟩) n c'), .is (.int .i64 (k : Int)), .is (.pointer (some ⟨b2, o2 + k * 2, none⟩)), .is (.agg #[.int .i64 y1, .int .i64 y2]), .is (.agg #[.int .i64 mn, .int .i64 mx]), .st (fun u x => ∃ g, x = .slice (some ⟨g, 0, none⟩) 1 1 ∧ RowS u g mn mx) (fun u u2 x h hb => by obtain ⟨g, h1, h2⟩ := h; exact ⟨g, h1, h2.below hb⟩)] [some 31, some 32, some 33, some 34, some 35, some 36, some 37, some 38, some 39, some 40, some 41] (by kernel_rfl) (by kernel_rfl) (by kernel_rfl) (by kernel_rfl) [] (by kernel_rfl) (by intro p hp; cases hp) (by kernel_rfl) (by kernel_rfl) ?hstep ?hdone
            case hstep =>
              intro i o ho hi hns E w4 hb4 D hold
              have hi2 : i = 0 ∨ i = 1 ∨ i = 2 ∨ i = 3 ∨ i = 4 ∨ i = 5 ∨ i = 6 ∨ i = 7 ∨ i = 8 ∨ i = 9 ∨ i = 10 := by omega
              clear hi
              rcases hi2 with rfl | rfl | rfl | rfl | rfl | rfl | rfl | rfl | rfl | rfl | rfl
              ·
                have ho2 := (Array.getElem?_eq_some_iff.1 ho).2
                simp only [List.getElem_toArray, List.getElem_cons_zero] at ho2
                subst ho2
                clear ho
                have e6 := hold 6 (by kernel_rfl)
                exact wk.does_move rfl (by rw [e6]; rfl)
              ·
                have ho2 := (Array.getElem?_eq_some_iff.1 ho).2
                simp only [List.getElem_toArray, List.getElem_cons_succ, List.getElem_cons_zero] at ho2
                subst ho2
                clear ho
                have e0 := D.old 0 (by kernel_rfl)
                exact wk.does_move rfl (by rw [e0]; rfl)
              ·
                have ho2 := (Array.getElem?_eq_some_iff.1 ho).2
                simp only [List.getElem_toArray, List.getElem_cons_succ, List.getElem_cons_zero] at ho2
                subst ho2
                clear ho
                have e7 := D.old 7 (by kernel_rfl)
                exact wk.does_move rfl (by rw [e7]; rfl)
              ·
                have ho2 := (Array.getElem?_eq_some_iff.1 ho).2
                simp only [List.getElem_toArray, List.getElem_cons_succ, List.getElem_cons_zero] at ho2
                subst ho2
                clear ho
                have e32 := D.is { on := 1, ground := .data } (by simp) rfl rfl 32 rfl
                have e33 := D.is { on := 2, ground := .data } (by simp) rfl rfl 33 rfl
                exact wk.does_run (by simp only [execOp]; rw [show E (.tmp 32) = _ from e32, show E (.tmp 33) = _ from e33]; go_simp) rfl
              ·
                have ho2 := (Array.getElem?_eq_some_iff.1 ho).2
                simp only [List.getElem_toArray, List.getElem_cons_succ, List.getElem_cons_zero] at ho2
                subst ho2
                clear ho
                have e34 := D.is { on := 3, ground := .data } (by simp) rfl rfl 34 rfl
                exact wk.does_load_agg rfl e34 (cs := [.int .i64 x1, .int .i64 x2]) (cells2 ((((Below.refl _ _).drew.trans hb4).cell (p := ⟨b, o + k * 2, none⟩) hb1).trans hx1) ((((Below.refl _ _).drew.trans hb4).cell (p := ⟨b, o + k * 2 + 1, none⟩) hb1).trans hx2)) Try.underlying65 rfl (by kernel_rfl) rfl
              ·
                have ho2 := (Array.getElem?_eq_some_iff.1 ho).2
                simp only [List.getElem_toArray, List.getElem_cons_succ, List.getElem_cons_zero] at ho2
                subst ho2
                clear ho
                have e1 := D.old 1 (by kernel_rfl)
                exact wk.does_move rfl (by rw [e1]; rfl)
              ·
                have ho2 := (Array.getElem?_eq_some_iff.1 ho).2
                simp only [List.getElem_toArray, List.getElem_cons_succ, List.getElem_cons_zero] at ho2
                subst ho2
                clear ho
                have e7 := D.old 7 (by kernel_rfl)
                exact wk.does_move rfl (by rw [e7]; rfl)
              ·
                have ho2 := (Array.getElem?_eq_some_iff.1 ho).2
                simp only [List.getElem_toArray, List.getElem_cons_succ, List.getElem_cons_zero] at ho2
                subst ho2
                clear ho
                have e36 := D.is { on := 5, ground := .data } (by simp) rfl rfl 36 rfl
                have e37 := D.is { on := 6, ground := .data } (by simp) rfl rfl 37 rfl
                exact wk.does_run (by simp only [execOp]; rw [show E (.tmp 36) = _ from e36, show E (.tmp 37) = _ from e37]; go_simp) rfl
              ·
                have ho2 := (Array.getElem?_eq_some_iff.1 ho).2
                simp only [List.getElem_toArray, List.getElem_cons_succ, List.getElem_cons_zero] at ho2
                subst ho2
                clear ho
                have e38 := D.is { on := 7, ground := .data } (by simp) rfl rfl 38 rfl
                exact wk.does_load_agg rfl e38 (cs := [.int .i64 y1, .int .i64 y2]) (cells2 ((((Below.refl _ _).drew.trans hb4).cell (p := ⟨b2, o2 + k * 2, none⟩) hb2).trans hy1) ((((Below.refl _ _).drew.trans hb4).cell (p := ⟨b2, o2 + k * 2 + 1, none⟩) hb2).trans hy2)) Try.underlying65 rfl (by kernel_rfl) rfl
              ·
                have ho2 := (Array.getElem?_eq_some_iff.1 ho).2
                simp only [List.getElem_toArray, List.getElem_cons_succ, List.getElem_cons_zero] at ho2
                subst ho2
                clear ho
                have e35 := D.is { on := 4, ground := .data } (by simp) rfl rfl 35 rfl
                have e39 := D.is { on := 8, ground := .data } (by simp) rfl rfl 39 rfl
                refine wk.does_fn (f := 56) (vs := #[.agg #[.int .i64 x1, .int .i64 x2], .agg #[.int .i64 y1, .int .i64 y2]]) rfl (D.fn _) (by simp [e35, e39]) (by go_simp) ?_
                refine (pjoin_calls x1 x2 y1 y2 w4).mono ?_
                rintro e w7 ⟨rfl, hb7⟩
                exact ⟨_, rfl, hb7, by rw [HMN.out, HMX.out]; rfl⟩
              ·
                have ho2 := (Array.getElem?_eq_some_iff.1 ho).2
                simp only [List.getElem_toArray, List.getElem_cons_succ, List.getElem_cons_zero] at ho2
                subst ho2
                clear ho
                have e40 := D.is { on := 9, ground := .data } (by simp) rfl rfl 40 rfl
                refine wk.does_new (v := .slice (some ⟨w4.heap.size, 0, none⟩) 1 1) (w' := w4.alloc (.cells #[.int .i64 mn, .int .i64 mx] 65)) (by simp only [execOp, List.map_toArray, List.map_cons, List.map_nil]; rw [show E (.tmp 40) = _ from e40]; go_simp) (below_new _ _) ⟨_, rfl, RowS.new _ _ _⟩
            case hdone =>
              intro vals w4 hb4 hv
              have h0 := hv 0 (by omega)
              have h10 := hv 10 (by omega)
              clear hv
              replace h0 : vals 0 = (v0) := h0
              simp only [List.drop_succ_cons, List.drop_zero, wk.setL, List.setIfInBounds_toArray, List.set_cons_zero, List.set_cons_succ, Nat.zero_add, Nat.reduceAdd, h0]
              generalize vals 1 = x1
              generalize vals 2 = x2
              generalize vals 3 = x3
              generalize vals 4 = x4
              generalize vals 5 = x5
              generalize vals 6 = x6
              generalize vals 7 = x7
              generalize vals 8 = x8
              generalize vals 9 = x9
              generalize vals 10 = x10 at *
              obtain ⟨g, rfl, hg⟩ := h10
              have hb5 : Below wr.heap.size wr w4 := (Below.refl _ _).drew.trans hb4
              have HOW := Lib.hid (keptB HOWN2.out hb5)
              have HCG := Lib.hid hg.cells
              have HBELx := Lib.hid (HBEL.out.trans (hb5.mono HBW.out))
              have HBWx : Hid (w2.heap.size ≤ w4.heap.size) := HBELx.out.size
              clear hb4 hg hb5
              go_wp2_with (at_builtin; refine wpList_append_own _ rfl _ _ 48 rfl w2.heap.size 65 i0 (.agg #[.int .i64 0, .int .i64 0]) 2 16 Try.underlying48 hi hz0 hz1 hz2 rfl (by decide) _ _ _ rfl HOW.out ⟨g, 0, none⟩ 1 1 [.int .i64 mn, .int .i64 mx] rfl rfl HCG.out ?c2 ?c3 ?c4 ?c5 ?_)
              case c2 => exact ones2
              case c3 => unfold maxLen; omega
              case c4 => omega
              case c5 => exact HBWx.out
              intro v' w5 hown2 hgrow _
              have hbe : Below w2.heap.size w2 w5 := HBELx.out.grown hgrow (by have := HBWx.out; omega) (fun q hq => (HOW.out.lt q hq).1)
              have HB5 := Lib.hid hbe
              have HO5 := Lib.hid hown2
              clear hown2 hgrow hbe
              go_wp2_with fail
              go_roundg (gk - 1)
              case measure => have := HK.out; omega
              case rel =>
                refine ⟨k + 1, _, by have := HK.out; omega, rfl, by go_num, ?_, HB5.out⟩
                have h := HO5.out
                rw [HS.out, fl_append]
                exact h
          · obtain rfl : k = n := by omega
            have ho := HOWN2.out
            rw [List.take_of_length_le (by have := HAL.out; omega)] at ho
            obtain ⟨A9, c9, rfl, hI9⟩ := isS_of_own ho HWD.out
            have HI9 := Lib.hid hI9
            have HBZ := Lib.hid (Below.andThen HB2.out HBEL.out)
            clear ho hI9 hown hbel hk
            go_wp2_with fail
            go_ret2
            exact ⟨_, _, _, rfl, HI9.out, HBZ.out⟩
  · have hj : jok a b' = false := by unfold jok; rw [h.1, h'.1]; simp [hnn]
    rw [hj]
    have hne : ((n : Int) != (n' : Int)) = true := by simp; omega
    clear h h' hj
    go_enter Try.func22, Try.ntmps22
    go_wp2_with fail
    go_ret2
    exact ⟨_, _, _, rfl, isS_nil _, Below.refl _ _⟩
end Go.Proofs.Yteeianandjokaaa.pk
/- In, Low, High. -/
namespace Go.Proofs.Yteeianandjokaaa.pk

open Go.ChangeShapes Go.WideShapes Go.ChangeAt Go.RowKit

open Go.Proofs.Yteeianandjokaaa.pq Go.Proofs.Yteeianandjokaaa.cq Go.Proofs.Yteeianandjokaaa.vk Go.Proofs.Yteeianandjokaaa.bk Go.Proofs.Yteeianandjokaaa.wk Go.Proofs.Yteeianandjokaaa.uk

set_option linter.unusedVariables false
theorem take_all {α : Type} {l : List α} {k : Nat} {x : α} {p : α → Bool} (h : l[k]? = some x) : (l.take (k + 1)).all p = ((l.take k).all p && p x) := by
  rw [List.take_add_one, h, List.all_append]; simp
theorem all_no {α : Type} {l : List α} {x : α} {p : α → Bool} (h : x ∈ l) (hp : p x = false) : l.all p = false := by
  rw [List.all_eq_false]; exact ⟨x, h, by simp [hp]⟩
set_option maxRecDepth 100000 in
set_option maxHeartbeats 4000000 in
theorem in_calls {S : List Sh} {ks : List Int} {A A' : Option Addr} {n c n' c' : Nat} (w : World) (h : IsS w A n c S) (h' : wo.IsI w A' n' c' ks) :
    Calls Try.prog 32 #[.slice A n c, .slice A' n' c'] w fun e w' => e = .returned (.bool (inn S ks)) ∧ Below w.heap.size w w' := by
  have hm := h.2.2.1
  have hnc := h.2.1
  have hm' := h'.2.2.1
  have hnc' := h'.2.1
  have HV := Lib.hid (svalid_calls w h)
  by_cases hnn : n = n'
  · subst hnn
    have hj : inn S ks = (svalid S && (S.zip ks).all in1) := by unfold inn; rw [h.1, h'.1]; simp
    rw [hj]
    cases hva : svalid S
    · rw [hva] at HV
      rw [Bool.false_and]
      clear h h' hj
      go_enter Try.func32, Try.ntmps32
      go_wp2_with fail
      refine HV.out.mono ?_
      rintro e w1 ⟨rfl, hb1⟩
      have HB1 := Lib.hid hb1
      clear hb1
      go_wp2_with fail
      go_ret
      exact ⟨rfl, HB1.out⟩
    · rw [hva] at HV
      rw [Bool.true_and]
      have H := Lib.hid h
      have H' := Lib.hid h'
      have HZL : Hid ((S.zip ks).length = n) := by show _ = _; rw [List.length_zip, h.1, h'.1]; omega
      clear h h' hj
      go_enter Try.func32, Try.ntmps32
      go_wp2_with fail
      refine HV.out.mono ?_
      rintro e w1 ⟨rfl, hb1⟩
      have HB1 := Lib.hid hb1
      clear hb1
      go_wp2_with fail
      go_loopg [19] n (fun gk x wr => ∃ k : Nat, k + gk = n ∧ x = .int .i64 (k : Int) ∧ ((S.zip ks).take k).all in1 = true ∧ Below w.heap.size w wr)
      case atStart => exact ⟨0, by omega, rfl, by simp, HB1.out⟩
      case round =>
        obtain ⟨k, hk, rfl, hall, hbel⟩ := hrel
        have HK := Lib.hid hk
        have HALL := Lib.hid hall
        have HBEL := Lib.hid hbel
        have hkn : k ≤ n := by omega
        clear hk hall
        by_cases hlt : k < n
        · obtain ⟨b, o, ⟨x1, x2⟩, rfl, hx1, hx2, hb1, hX, -⟩ := isS_get (isS_below H.out hbel) hlt
          obtain ⟨b2, o2, y, rfl, hy, hY, -, -⟩ := isI_at (isI_below H'.out hbel) hlt
          dsimp only at hx1 hx2
          have hlt0 : (k : Int) < (n : Int) := by omega
          have hz := zipAt hX hY
          obtain ⟨vb, hvb⟩ : ∃ z, in1 ((x1, x2), y) = z := ⟨_, rfl⟩
          have HTA := Lib.hid (take_all (p := in1) hz)
          have HMEM := Lib.hid (List.mem_of_getElem? hz)
          have HVB := Lib.hid hvb
          have HHAS := Lib.hid (fun w' => has_calls x1 x2 y w')
          rw [hvb] at HHAS
          have HRS := Lib.hid (RowS.new wr x1 x2)
          have HBS := Lib.hid (below_new wr (.cells #[.int .i64 x1, .int .i64 x2] 65))
          have hb2 := block_lt_of_cell hy
          have HY2 := Lib.hid ((HBS.out.cell (p := ⟨b2, o2 + k, none⟩) hb2).trans hy)
          clear hX hY hz hvb hbel
          go_wp2_with fail
          generalize hG : wr.heap.size = G at *
          generalize hwS : wr.alloc (.cells #[.int .i64 x1, .int .i64 x2] 65) = wS at *
          refine wk.region_tailS 7 [.is (.agg #[.int .i64 x1, .int .i64 x2]), .is (.slice (some ⟨b2, o2, none⟩) n c'), .is (.int .i64 (k : Int)), .is (.pointer (some ⟨b2, o2 + k, none⟩)), .is (.int .i64 y), .is (.bool vb), .is (.bool (!vb))] [some 24, some 25, some 26, some 27, some 28, some 29, some 30] (by kernel_rfl) (by kernel_rfl) (by kernel_rfl) (by kernel_rfl) [] (by kernel_rfl) (by intro p hp; cases hp) (by kernel_rfl) (by kernel_rfl) ?hstep ?hdone
          case hstep =>
            intro i o ho hi hns E w4 hb4 D
            have hi2 : i = 0 ∨ i = 1 ∨ i = 2 ∨ i = 3 ∨ i = 4 ∨ i = 5 ∨ i = 6 := by omega
            clear hi
            rcases hi2 with rfl | rfl | rfl | rfl | rfl | rfl | rfl
            ·
              have ho2 := (Array.getElem?_eq_some_iff.1 ho).2
              simp only [List.getElem_toArray, List.getElem_cons_zero] at ho2
              subst ho2
              clear ho
              have e6 := D.old 6 (by kernel_rfl)
              exact wk.does_load_agg rfl (show E (.tmp 6) = .pointer (some ⟨G, 0, none⟩) by rw [e6]; rfl) (cs := [.int .i64 x1, .int .i64 x2]) ((HRS.out.below ((Below.refl _ _).drew.trans hb4)).cells) Try.underlying65 rfl (by kernel_rfl) rfl
            ·
              have ho2 := (Array.getElem?_eq_some_iff.1 ho).2
              simp only [List.getElem_toArray, List.getElem_cons_succ, List.getElem_cons_zero] at ho2
              subst ho2
              clear ho
              have e1 := D.old 1 (by kernel_rfl)
              exact wk.does_move rfl (by rw [e1]; rfl)
            ·
              have ho2 := (Array.getElem?_eq_some_iff.1 ho).2
              simp only [List.getElem_toArray, List.getElem_cons_succ, List.getElem_cons_zero] at ho2
              subst ho2
              clear ho
              have e5 := D.old 5 (by kernel_rfl)
              exact wk.does_move rfl (by rw [e5]; rfl)
            ·
              have ho2 := (Array.getElem?_eq_some_iff.1 ho).2
              simp only [List.getElem_toArray, List.getElem_cons_succ, List.getElem_cons_zero] at ho2
              subst ho2
              clear ho
              have e25 := D.is { on := 1, ground := .data } (by simp) rfl rfl 25 rfl
              have e26 := D.is { on := 2, ground := .data } (by simp) rfl rfl 26 rfl
              exact wk.does_run (by simp only [execOp]; rw [show E (.tmp 25) = _ from e25, show E (.tmp 26) = _ from e26]; go_simp) rfl
            ·
              have ho2 := (Array.getElem?_eq_some_iff.1 ho).2
              simp only [List.getElem_toArray, List.getElem_cons_succ, List.getElem_cons_zero] at ho2
              subst ho2
              clear ho
              have e27 := D.is { on := 3, ground := .data } (by simp) rfl rfl 27 rfl
              exact wk.does_load1 rfl e27 ((((Below.refl _ _).drew.trans hb4).cell (p := ⟨b2, o2 + k, none⟩) (Nat.lt_of_lt_of_le hb2 (by rw [← hG]; exact HBS.out.size))).trans HY2.out) Try.underlying3 rfl rfl
            ·
              have ho2 := (Array.getElem?_eq_some_iff.1 ho).2
              simp only [List.getElem_toArray, List.getElem_cons_succ, List.getElem_cons_zero] at ho2
              subst ho2
              clear ho
              have e24 := D.is { on := 0, ground := .data } (by simp) rfl rfl 24 rfl
              have e28 := D.is { on := 4, ground := .data } (by simp) rfl rfl 28 rfl
              refine wk.does_fn (f := 68) (vs := #[.agg #[.int .i64 x1, .int .i64 x2], .int .i64 y]) rfl (D.fn _) (by simp [e24, e28]) (by go_simp) ?_
              refine (HHAS.out w4).mono ?_
              rintro e w7 ⟨rfl, hb7⟩
              exact ⟨_, rfl, hb7, rfl⟩
            ·
              have ho2 := (Array.getElem?_eq_some_iff.1 ho).2
              simp only [List.getElem_toArray, List.getElem_cons_succ, List.getElem_cons_zero] at ho2
              subst ho2
              clear ho
              have e29 := D.is { on := 5, ground := .data } (by simp) rfl rfl 29 rfl
              exact wk.does_un rfl (by rw [show E (.tmp 29) = _ from e29]; go_simp) rfl
          case hdone =>
            intro vals w4 hb4 hv
            have h6 := hv 6 (by omega)
            clear hv
            replace h6 : vals 6 = (.bool (!vb)) := h6
            simp only [List.drop_succ_cons, List.drop_zero, wpList, wk.setL, List.setIfInBounds_toArray, List.set_cons_zero, List.set_cons_succ, Nat.zero_add, Nat.reduceAdd, h6]
            generalize vals 0 = x0
            generalize vals 1 = x1
            generalize vals 2 = x2
            generalize vals 3 = x3
            generalize vals 4 = x4
            generalize vals 5 = x5
            have hb5 : Below wS.heap.size wS w4 := (Below.refl _ _).drew.trans hb4
            have HB5 := Lib.hid (HBEL.out.trans ((HBS.out.trans (hb5.mono (by rw [← hG]; exact HBS.out.size))).mono (by rw [← hG]; exact HBEL.out.size)))
            clear hb4 hb5
            cases vb
            · rw [Bool.not_false]
              go_wp2_with fail
              go_ret
              exact ⟨by rw [all_no HMEM.out HVB.out]; rfl, HB5.out⟩
            · rw [Bool.not_true]
              go_wp2_with fail
              go_roundg (gk - 1)
              case measure => have := HK.out; omega
              case rel => exact ⟨k + 1, by have := HK.out; omega, by go_num, by rw [HTA.out, HALL.out, HVB.out]; rfl, HB5.out⟩
        · obtain rfl : k = n := by omega
          have ho := HALL.out
          rw [List.take_of_length_le (by have := HZL.out; omega)] at ho
          have HO := Lib.hid ho
          clear ho hbel
          go_wp2_with fail
          go_ret
          exact ⟨by rw [HO.out]; rfl, HBEL.out⟩
  · have hj : inn S ks = false := by unfold inn; rw [h.1, h'.1]; simp [hnn]
    rw [hj]
    have hne : ((n : Int) != (n' : Int)) = true := by simp; omega
    clear h h' hj
    go_enter Try.func32, Try.ntmps32
    go_wp2_with fail
    go_ret
    exact ⟨rfl, Below.refl _ _⟩
def notK (x : Int) : Bool := !kok x
set_option maxRecDepth 100000 in
theorem bounding1_calls {m x : Int} {g : Nat} (w : World) (h1 : isM m = true) (hg : Box w g (.int .i64 m)) :
    Calls Try.prog 83 #[.int .i64 x, .pointer (some ⟨g, 0, none⟩)] w fun e w' => e = .returned (.bool (notK x)) ∧ w' = w := by
  have HV := Lib.hid (me.valid_calls m x w)
  have HE : Hid (me.okk m x = kok x) := by
    show _ = _
    unfold isM at h1
    unfold me.okk kok
    rw [h1, Bool.true_and, ← Bool.decide_and]
  have hc := hg.cell
  rw [HE.out] at HV
  unfold notK
  clear HE hg h1
  generalize kok x = y at *
  go_enter Try.func83, Try.ntmps83
  go_wp2_with fail
  refine HV.out.mono ?_
  rintro e w' ⟨rfl, rfl⟩
  go_wp2_with fail
  go_ret
  exact ⟨rfl, rfl⟩
set_option maxRecDepth 100000 in
set_option maxHeartbeats 1000000 in
theorem idx_keys {m : Int} {g : Nat} {A : Option Addr} {n c : Nat} {l : List Int} (w : World) (h1 : isM m = true) (hg : Box w g (.int .i64 m)) (h : wo.IsI w A n c l) :
    Calls Try.prog 109 #[.slice A n c, .func (.func 83) #[] #[.pointer (some ⟨g, 0, none⟩)]] w fun e w' => (∃ r : Int, e = .returned (.int .i64 r) ∧ decide (0 ≤ r) = l.any notK) ∧ w' = w := by
  have hl := h.1
  have hm := h.2.2.1
  have hnc := h.2.1
  have H := Lib.hid h
  have HL := Lib.hid hl
  have HBC := Lib.hid (fun x => bounding1_calls (x := x) w h1 hg)
  clear h hl hg h1
  go_enter Try.func109, Try.ntmps109
  go_wp2_with fail
  go_loopg [8] n (fun g x wr => ∃ k : Nat, k + g = n ∧ x = .int .i64 (k : Int) ∧ wr = w ∧ (l.take k).any notK = false)
  case atStart => exact ⟨0, by omega, rfl, rfl, by simp⟩
  case round =>
    obtain ⟨k, hk, rfl, rfl, hr⟩ := hrel
    have HK := Lib.hid hk
    have HR := Lib.hid hr
    have hkn : k ≤ n := by omega
    clear hk hr
    by_cases hlt : k < n
    · obtain ⟨b, o, x, rfl, hc, hx0, -, -⟩ := isI_at H.out hlt
      have hlt0 : (k : Int) < (n : Int) := by omega
      have HC := Lib.hid (HBC.out x)
      have HX : Hid ((l.take (k + 1)).any notK = ((l.take k).any notK || notK x)) := by
        show _ = _
        rw [List.take_add_one, hx0, List.any_append]; simp
      have HM := Lib.hid (List.mem_of_getElem? hx0)
      clear hx0
      cases hx : notK x
      · rw [hx] at HC HX
        go_wp2_with fail
        refine HC.out.mono ?_
        rintro e w' ⟨rfl, rfl⟩
        go_wp2_with fail
        go_roundg (gk - 1)
        case measure => have := HK.out; omega
        case rel => exact ⟨k + 1, by have := HK.out; omega, by go_num, rfl, by rw [HX.out, HR.out]; rfl⟩
      · rw [hx] at HC
        go_wp2_with fail
        refine HC.out.mono ?_
        rintro e w' ⟨rfl, rfl⟩
        go_wp2_with fail
        go_ret
        refine ⟨⟨k, rfl, ?_⟩, rfl⟩
        have h1 : l.any notK = true := by
          rw [List.any_eq_true]
          exact ⟨x, HM.out, hx⟩
        rw [h1]; simp
    · obtain rfl : k = n := by omega
      have hall : l.any notK = false := by
        have := HR.out
        rw [List.take_of_length_le (by have := HL.out; omega)] at this
        exact this
      have HALL := Lib.hid hall
      clear hall
      go_wp2_with fail
      go_ret
      exact ⟨⟨-1, rfl, by rw [HALL.out]; rfl⟩, rfl⟩
set_option maxRecDepth 100000 in
theorem con_keys {m : Int} {g : Nat} {A : Option Addr} {n c : Nat} {l : List Int} (w : World) (h1 : isM m = true) (hg : Box w g (.int .i64 m)) (h : wo.IsI w A n c l) :
    Calls Try.prog 82 #[.slice A n c, .func (.func 83) #[] #[.pointer (some ⟨g, 0, none⟩)]] w fun e w' => e = .returned (.bool (l.any notK)) ∧ w' = w := by
  have HI := Lib.hid (idx_keys w h1 hg h)
  clear h1 hg h
  generalize l.any notK = al at *
  go_enter Try.func82, Try.ntmps82
  go_wp2_with fail
  refine HI.out.mono ?_
  rintro e w' ⟨⟨r, rfl, hr⟩, rfl⟩
  subst hr
  go_wp2_with fail
  go_ret
  exact ⟨rfl, rfl⟩
theorem kok_any (l : List Int) : l.all kok = !l.any notK := by
  induction l with
  | nil => rfl
  | cons x l ih => simp only [List.all_cons, List.any_cons, ih, notK]; cases kok x <;> simp
set_option maxRecDepth 100000 in
set_option maxHeartbeats 2000000 in
theorem bounding_calls {m : Int} {S : List Sh} {ks : List Int} {A A' : Option Addr} {n c n' c' : Nat} (w : World) (h : IsS w A n c S) (h' : wo.IsI w A' n' c' ks) :
    Calls Try.prog 57 #[.int .i64 m, .slice A n c, .slice A' n' c'] w fun e w' => e = .returned (.bool (asked m S ks)) ∧ Below w.heap.size w w' := by
  have hm := h.2.2.1
  have hnc := h.2.1
  have hm' := h'.2.2.1
  have hnc' := h'.2.1
  have hb0 := below_new w (.cells #[.int .i64 m] 3)
  have hx0 := Box.new w (.int .i64 m) 3
  have HM := Lib.hid (fun w' => isMetric_calls m w')
  have HV := Lib.hid (fun w' (hb : Below (w.alloc (.cells #[.int .i64 m] 3)).heap.size (w.alloc (.cells #[.int .i64 m] 3)) w') => svalid_calls w' (isS_below (isS_below h hb0) hb))
  have HC := Lib.hid (fun w' (h1 : isM m = true) (hb : Below (w.alloc (.cells #[.int .i64 m] 3)).heap.size (w.alloc (.cells #[.int .i64 m] 3)) w') => con_keys w' h1 (hx0.below hb) (isI_below (isI_below h' hb0) hb))
  have HB0 := Lib.hid hb0
  have hcb := hx0.cell
  have hl := h.1
  have hl' := h'.1
  unfold asked
  rw [hl, hl', kok_any]
  clear h h' hb0 hx0 hl hl'
  generalize ks.any notK = al at *
  cases h1 : isM m
  · rw [h1] at HM
    rw [Bool.false_and]
    go_enter Try.func57, Try.ntmps57
    go_wp2_with fail
    refine (HM.out _).mono ?_
    rintro e w1 ⟨rfl, hb1⟩
    have HB1 := Lib.hid (Below.andThen HB0.out hb1)
    clear hb1
    go_wp2_with fail
    go_ret
    exact ⟨rfl, HB1.out⟩
  · rw [h1] at HM
    rw [Bool.true_and]
    by_cases hnn : n = n'
    · subst hnn
      rw [decide_eq_true rfl, Bool.true_and]
      cases hva : svalid S
      · rw [hva] at HV
        rw [Bool.false_and]
        go_enter Try.func57, Try.ntmps57
        go_wp2_with fail
        refine (HM.out _).mono ?_
        rintro e w1 ⟨rfl, hb1⟩
        have HB1 := Lib.hid (Below.andThen HB0.out hb1)
        have HV1 := Lib.hid (HV.out w1 hb1)
        clear hb1
        go_wp2_with fail
        refine HV1.out.mono ?_
        rintro e w2 ⟨rfl, hb2⟩
        have HB2 := Lib.hid (Below.andThen HB1.out hb2)
        clear hb2
        go_wp2_with fail
        go_ret
        exact ⟨rfl, HB2.out⟩
      · rw [hva] at HV
        rw [Bool.true_and]
        have HC1 := Lib.hid (fun w' => HC.out w' h1)
        go_enter Try.func57, Try.ntmps57
        go_wp2_with fail
        refine (HM.out _).mono ?_
        rintro e w1 ⟨rfl, hb1⟩
        have HB1 := Lib.hid (Below.andThen HB0.out hb1)
        have HV1 := Lib.hid (HV.out w1 hb1)
        have HBE := Lib.hid hb1
        clear hb1
        go_wp2_with fail
        refine HV1.out.mono ?_
        rintro e w2 ⟨rfl, hb2⟩
        have HB2 := Lib.hid (Below.andThen HB1.out hb2)
        have HC2 := Lib.hid (HC1.out w2 (Below.andThen HBE.out hb2))
        clear hb2
        go_wp2_with fail
        refine HC2.out.mono ?_
        rintro e w3 ⟨rfl, rfl⟩
        go_wp2_with fail
        go_ret
        exact ⟨rfl, HB2.out⟩
    · rw [decide_eq_false hnn, Bool.false_and]
      have hne : ((n : Int) != (n' : Int)) = true := by simp; omega
      go_enter Try.func57, Try.ntmps57
      go_wp2_with fail
      refine (HM.out _).mono ?_
      rintro e w1 ⟨rfl, hb1⟩
      have HB1 := Lib.hid (Below.andThen HB0.out hb1)
      clear hb1
      go_wp2_with fail
      go_ret
      exact ⟨rfl, HB1.out⟩
theorem box3 (w : World) (v1 v2 v3 : Value) (t1 t2 t3 : TypeId) : Box (((w.alloc (.cells #[v1] t1)).alloc (.cells #[v2] t2)).alloc (.cells #[v3] t3)) w.heap.size v1 ∧ Box (((w.alloc (.cells #[v1] t1)).alloc (.cells #[v2] t2)).alloc (.cells #[v3] t3)) (w.heap.size + 1) v2 ∧ Box (((w.alloc (.cells #[v1] t1)).alloc (.cells #[v2] t2)).alloc (.cells #[v3] t3)) (w.heap.size + 1 + 1) v3 ∧ Below w.heap.size w (((w.alloc (.cells #[v1] t1)).alloc (.cells #[v2] t2)).alloc (.cells #[v3] t3)) := by
  obtain ⟨h1, h2, hb⟩ := box2 w v1 v2 t1 t2
  have hb3 := below_new ((w.alloc (.cells #[v1] t1)).alloc (.cells #[v2] t2)) (.cells #[v3] t3)
  refine ⟨h1.below hb3, h2.below hb3, ?_, Below.andThen hb hb3⟩
  have := Box.new ((w.alloc (.cells #[v1] t1)).alloc (.cells #[v2] t2)) v3 t3
  simp only [size_new] at this
  exact this
structure Asked (m : Int) (S : List Sh) (ks : List Int) : Prop where
  m1 : 1 ≤ m
  m3 : m ≤ 3
  len : S.length = ks.length
  n8 : S.length ≤ 8
  ok : ∀ s ∈ S, 0 ≤ s.1 ∧ s.1 ≤ s.2 ∧ s.2 ≤ 134217728
  kok : ∀ x ∈ ks, 0 ≤ x ∧ x ≤ 134217728
theorem asked_of {m : Int} {S : List Sh} {ks : List Int} (h : asked m S ks = true) : Asked m S ks := by
  simp only [asked, isM, svalid, Bool.and_eq_true, decide_eq_true_eq, List.all_eq_true] at h
  obtain ⟨⟨h1, h3⟩, h4, ⟨h5, h6⟩, h7⟩ := h
  exact ⟨h1, h3, h4, h5, fun s hs => by simpa [sok] using h6 s hs, fun x hx => by simpa [pq.kok] using h7 x hx⟩
theorem gapf_at {m : Int} {S : List Sh} {ks : List Int} {k : Nat} {s : Sh} {x : Int} (h : S[k]? = some s) (h' : ks[k]? = some x) : gapf m S ks k = me.gap m s.1 s.2 x := by
  unfold gapf; rw [getD_some h, getD_some h']
theorem reaf_at {m : Int} {S : List Sh} {ks : List Int} {k : Nat} {s : Sh} {x : Int} (h : S[k]? = some s) (h' : ks[k]? = some x) : reaf m S ks k = me.high m x s.2 := by
  unfold reaf; rw [getD_some h, getD_some h']
set_option maxRecDepth 100000 in
set_option maxHeartbeats 2000000 in
theorem low1_calls {m : Int} {S : List Sh} {ks : List Int} {A A' : Option Addr} {n c c' k g0 g1 g2 : Nat} (w : World) (ha : Asked m S ks) (h : IsS w A n c S) (h' : wo.IsI w A' n c' ks) (hk : k < n)
    (hg0 : Box w g0 (.int .i64 m)) (hg1 : Box w g1 (.slice A n c)) (hg2 : Box w g2 (.slice A' n c')) :
    Calls Try.prog 58 #[.int .i64 k, .pointer (some ⟨g0, 0, none⟩), .pointer (some ⟨g1, 0, none⟩), .pointer (some ⟨g2, 0, none⟩)] w fun e w' => e = .returned (.int .i64 (gapf m S ks k)) ∧ Below w.heap.size w w' := by
  obtain ⟨b, o, ⟨x1, x2⟩, rfl, hx1, hx2, hb1, hX, -⟩ := isS_get h hk
  obtain ⟨b2, o2, y, rfl, hy, hY, -, -⟩ := isI_at h' hk
  have hb2 := block_lt_of_cell hy
  have ho := ha.ok _ (List.mem_of_getElem? hX)
  have hq := ha.kok _ (List.mem_of_getElem? hY)
  dsimp only at hx1 hx2 ho
  have HC := Lib.hid (fun w' => me.gap_calls m x1 x2 y w' ha.m1 ha.m3 (by omega) (by omega) (by omega) (by omega) (by omega))
  have hm := h.2.2.1
  have hnc := h.2.1
  have hm' := h'.2.2.1
  have hnc' := h'.2.1
  have hlt0 : (k : Int) < (n : Int) := by omega
  rw [gapf_at hX hY]
  dsimp only
  clear ha h h' hX hY ho hq
  generalize me.gap m x1 x2 y = z at *
  go_enter Try.func58, Try.ntmps58
  go_wp2_with fail
  refine wk.region_tailS 17 [.is (.int .i64 m), .is (.slice (some ⟨b, o, none⟩) n c), .is (.int .i64 (k : Int)), .is (.pointer (some ⟨b, o + k * 2, none⟩)), .is (.pointer (some ⟨b, o + k * 2, none⟩)), .is (.int .i64 x1), .is (.slice (some ⟨b, o, none⟩) n c), .is (.int .i64 (k : Int)), .is (.pointer (some ⟨b, o + k * 2, none⟩)), .is (.pointer (some ⟨b, o + k * 2 + 1, none⟩)), .is (.int .i64 x2), .is (.slice (some ⟨b2, o2, none⟩) n c'), .is (.int .i64 (k : Int)), .is (.pointer (some ⟨b2, o2 + k, none⟩)), .is (.int .i64 y), .is (.int .i64 z), .is (.int .i64 z)] [some 6, some 7, some 8, some 9, some 10, some 11, some 12, some 13, some 14, some 15, some 16, some 17, some 18, some 19, some 20, some 21, some 5] (by kernel_rfl) (by kernel_rfl) (by kernel_rfl) (by kernel_rfl) [] (by kernel_rfl) (by intro p hp; cases hp) (by kernel_rfl) (by kernel_rfl) ?hstep ?hdone
  case hstep =>
    intro i o ho hi hns E w4 hb4 D
    have hi2 : i = 0 ∨ i = 1 ∨ i = 2 ∨ i = 3 ∨ i = 4 ∨ i = 5 ∨ i = 6 ∨ i = 7 ∨ i = 8 ∨ i = 9 ∨ i = 10 ∨ i = 11 ∨ i = 12 ∨ i = 13 ∨ i = 14 ∨ i = 15 ∨ i = 16 := by omega
    clear hi
    rcases hi2 with rfl | rfl | rfl | rfl | rfl | rfl | rfl | rfl | rfl | rfl | rfl | rfl | rfl | rfl | rfl | rfl | rfl
    ·
      have ho2 := (Array.getElem?_eq_some_iff.1 ho).2
      simp only [List.getElem_toArray, List.getElem_cons_zero] at ho2
      subst ho2
      clear ho
      have e1 := D.old 1 (by kernel_rfl)
      exact wk.does_load1 rfl (show E (.tmp 1) = .pointer (some ⟨g0, 0, none⟩) by rw [e1]; rfl) ((hg0.below ((Below.refl _ _).drew.trans hb4)).cell) Try.underlying3 rfl rfl
    ·
      have ho2 := (Array.getElem?_eq_some_iff.1 ho).2
      simp only [List.getElem_toArray, List.getElem_cons_succ, List.getElem_cons_zero] at ho2
      subst ho2
      clear ho
      have e2 := D.old 2 (by kernel_rfl)
      exact wk.does_load1 rfl (show E (.tmp 2) = .pointer (some ⟨g1, 0, none⟩) by rw [e2]; rfl) ((hg1.below ((Below.refl _ _).drew.trans hb4)).cell) Try.underlying48 rfl rfl
    ·
      have ho2 := (Array.getElem?_eq_some_iff.1 ho).2
      simp only [List.getElem_toArray, List.getElem_cons_succ, List.getElem_cons_zero] at ho2
      subst ho2
      clear ho
      have e0 := D.old 0 (by kernel_rfl)
      exact wk.does_move rfl (by rw [e0]; rfl)
    ·
      have ho2 := (Array.getElem?_eq_some_iff.1 ho).2
      simp only [List.getElem_toArray, List.getElem_cons_succ, List.getElem_cons_zero] at ho2
      subst ho2
      clear ho
      have e7 := D.is { on := 1, ground := .data } (by simp) rfl rfl 7 rfl
      have e8 := D.is { on := 2, ground := .data } (by simp) rfl rfl 8 rfl
      exact wk.does_run (by simp only [execOp]; rw [show E (.tmp 7) = _ from e7, show E (.tmp 8) = _ from e8]; go_simp) rfl
    ·
      have ho2 := (Array.getElem?_eq_some_iff.1 ho).2
      simp only [List.getElem_toArray, List.getElem_cons_succ, List.getElem_cons_zero] at ho2
      subst ho2
      clear ho
      have e9 := D.is { on := 3, ground := .data } (by simp) rfl rfl 9 rfl
      exact wk.does_run (by simp only [execOp]; rw [show E (.tmp 9) = _ from e9]; go_simp) rfl
    ·
      have ho2 := (Array.getElem?_eq_some_iff.1 ho).2
      simp only [List.getElem_toArray, List.getElem_cons_succ, List.getElem_cons_zero] at ho2
      subst ho2
      clear ho
      have e10 := D.is { on := 4, ground := .data } (by simp) rfl rfl 10 rfl
      exact wk.does_load1 rfl e10 ((((Below.refl _ _).drew.trans hb4).cell (p := ⟨b, o + k * 2, none⟩) hb1).trans hx1) Try.underlying3 rfl rfl
    ·
      have ho2 := (Array.getElem?_eq_some_iff.1 ho).2
      simp only [List.getElem_toArray, List.getElem_cons_succ, List.getElem_cons_zero] at ho2
      subst ho2
      clear ho
      have e2 := D.old 2 (by kernel_rfl)
      exact wk.does_load1 rfl (show E (.tmp 2) = .pointer (some ⟨g1, 0, none⟩) by rw [e2]; rfl) ((hg1.below ((Below.refl _ _).drew.trans hb4)).cell) Try.underlying48 rfl rfl
    ·
      have ho2 := (Array.getElem?_eq_some_iff.1 ho).2
      simp only [List.getElem_toArray, List.getElem_cons_succ, List.getElem_cons_zero] at ho2
      subst ho2
      clear ho
      have e0 := D.old 0 (by kernel_rfl)
      exact wk.does_move rfl (by rw [e0]; rfl)
    ·
      have ho2 := (Array.getElem?_eq_some_iff.1 ho).2
      simp only [List.getElem_toArray, List.getElem_cons_succ, List.getElem_cons_zero] at ho2
      subst ho2
      clear ho
      have e12 := D.is { on := 6, ground := .data } (by simp) rfl rfl 12 rfl
      have e13 := D.is { on := 7, ground := .data } (by simp) rfl rfl 13 rfl
      exact wk.does_run (by simp only [execOp]; rw [show E (.tmp 12) = _ from e12, show E (.tmp 13) = _ from e13]; go_simp) rfl
    ·
      have ho2 := (Array.getElem?_eq_some_iff.1 ho).2
      simp only [List.getElem_toArray, List.getElem_cons_succ, List.getElem_cons_zero] at ho2
      subst ho2
      clear ho
      have e14 := D.is { on := 8, ground := .data } (by simp) rfl rfl 14 rfl
      exact wk.does_run (by simp only [execOp]; rw [show E (.tmp 14) = _ from e14]; go_simp) rfl
    ·
      have ho2 := (Array.getElem?_eq_some_iff.1 ho).2
      simp only [List.getElem_toArray, List.getElem_cons_succ, List.getElem_cons_zero] at ho2
      subst ho2
      clear ho
      have e15 := D.is { on := 9, ground := .data } (by simp) rfl rfl 15 rfl
      exact wk.does_load1 rfl e15 ((((Below.refl _ _).drew.trans hb4).cell (p := ⟨b, o + k * 2 + 1, none⟩) hb1).trans hx2) Try.underlying3 rfl rfl
    ·
      have ho2 := (Array.getElem?_eq_some_iff.1 ho).2
      simp only [List.getElem_toArray, List.getElem_cons_succ, List.getElem_cons_zero] at ho2
      subst ho2
      clear ho
      have e3 := D.old 3 (by kernel_rfl)
      exact wk.does_load1 rfl (show E (.tmp 3) = .pointer (some ⟨g2, 0, none⟩) by rw [e3]; rfl) ((hg2.below ((Below.refl _ _).drew.trans hb4)).cell) Try.underlying23 rfl rfl
    ·
      have ho2 := (Array.getElem?_eq_some_iff.1 ho).2
      simp only [List.getElem_toArray, List.getElem_cons_succ, List.getElem_cons_zero] at ho2
      subst ho2
      clear ho
      have e0 := D.old 0 (by kernel_rfl)
      exact wk.does_move rfl (by rw [e0]; rfl)
    ·
      have ho2 := (Array.getElem?_eq_some_iff.1 ho).2
      simp only [List.getElem_toArray, List.getElem_cons_succ, List.getElem_cons_zero] at ho2
      subst ho2
      clear ho
      have e17 := D.is { on := 11, ground := .data } (by simp) rfl rfl 17 rfl
      have e18 := D.is { on := 12, ground := .data } (by simp) rfl rfl 18 rfl
      exact wk.does_run (by simp only [execOp]; rw [show E (.tmp 17) = _ from e17, show E (.tmp 18) = _ from e18]; go_simp) rfl
    ·
      have ho2 := (Array.getElem?_eq_some_iff.1 ho).2
      simp only [List.getElem_toArray, List.getElem_cons_succ, List.getElem_cons_zero] at ho2
      subst ho2
      clear ho
      have e19 := D.is { on := 13, ground := .data } (by simp) rfl rfl 19 rfl
      exact wk.does_load1 rfl e19 ((((Below.refl _ _).drew.trans hb4).cell (p := ⟨b2, o2 + k, none⟩) hb2).trans hy) Try.underlying3 rfl rfl
    ·
      have ho2 := (Array.getElem?_eq_some_iff.1 ho).2
      simp only [List.getElem_toArray, List.getElem_cons_succ, List.getElem_cons_zero] at ho2
      subst ho2
      clear ho
      have e6 := D.is { on := 0, ground := .data } (by simp) rfl rfl 6 rfl
      have e11 := D.is { on := 5, ground := .data } (by simp) rfl rfl 11 rfl
      have e16 := D.is { on := 10, ground := .data } (by simp) rfl rfl 16 rfl
      have e20 := D.is { on := 14, ground := .data } (by simp) rfl rfl 20 rfl
      refine wk.does_fn (f := 59) (vs := #[.int .i64 m, .int .i64 x1, .int .i64 x2, .int .i64 y]) rfl (D.fn _) (by simp [e6, e11, e16, e20]) (by go_simp) ?_
      refine (HC.out w4).mono ?_
      rintro e w7 ⟨rfl, hb7⟩
      exact ⟨_, rfl, hb7, rfl⟩
    ·
      have ho2 := (Array.getElem?_eq_some_iff.1 ho).2
      simp only [List.getElem_toArray, List.getElem_cons_succ, List.getElem_cons_zero] at ho2
      subst ho2
      clear ho
      have e21 := D.is { on := 15, ground := .data } (by simp) rfl rfl 21 rfl
      exact wk.does_assign rfl e21
  case hdone =>
    intro vals w4 hb4 hv
    have h16 := hv 16 (by omega)
    clear hv
    replace h16 : vals 16 = (.int .i64 z) := h16
    simp only [List.drop_succ_cons, List.drop_zero, wpList, wk.setL, List.setIfInBounds_toArray, List.set_cons_zero, List.set_cons_succ, Nat.zero_add, Nat.reduceAdd, h16]
    generalize vals 0 = x0
    generalize vals 1 = x1
    generalize vals 2 = x2
    generalize vals 3 = x3
    generalize vals 4 = x4
    generalize vals 5 = x5
    generalize vals 6 = x6
    generalize vals 7 = x7
    generalize vals 8 = x8
    generalize vals 9 = x9
    generalize vals 10 = x10
    generalize vals 11 = x11
    generalize vals 12 = x12
    generalize vals 13 = x13
    generalize vals 14 = x14
    generalize vals 15 = x15
    have hb : Below w.heap.size w w4 := (Below.refl _ _).drew.trans hb4
    clear hb4
    go_wp2_with fail
    go_ret
    exact ⟨rfl, hb⟩
set_option maxRecDepth 100000 in
set_option maxHeartbeats 2000000 in
theorem high1_calls {m : Int} {S : List Sh} {ks : List Int} {A A' : Option Addr} {n c c' k g0 g1 g2 : Nat} (w : World) (ha : Asked m S ks) (h : IsS w A n c S) (h' : wo.IsI w A' n c' ks) (hk : k < n)
    (hg0 : Box w g0 (.int .i64 m)) (hg1 : Box w g1 (.slice A n c)) (hg2 : Box w g2 (.slice A' n c')) :
    Calls Try.prog 61 #[.int .i64 k, .pointer (some ⟨g0, 0, none⟩), .pointer (some ⟨g1, 0, none⟩), .pointer (some ⟨g2, 0, none⟩)] w fun e w' => e = .returned (.int .i64 (reaf m S ks k)) ∧ Below w.heap.size w w' := by
  obtain ⟨b, o, ⟨x1, x2⟩, rfl, hx1, hx2, hb1, hX, -⟩ := isS_get h hk
  obtain ⟨b2, o2, y, rfl, hy, hY, -, -⟩ := isI_at h' hk
  have hb2 := block_lt_of_cell hy
  have ho := ha.ok _ (List.mem_of_getElem? hX)
  have hq := ha.kok _ (List.mem_of_getElem? hY)
  dsimp only at hx1 hx2 ho
  have HC := Lib.hid (fun w' => me.reach_calls m x1 x2 y w' ha.m1 ha.m3 (by omega) (by omega) (by omega) (by omega))
  have hm := h.2.2.1
  have hnc := h.2.1
  have hm' := h'.2.2.1
  have hnc' := h'.2.1
  have hlt0 : (k : Int) < (n : Int) := by omega
  rw [reaf_at hX hY]
  dsimp only
  clear ha h h' hX hY ho hq
  generalize me.high m y x2 = z at *
  go_enter Try.func61, Try.ntmps61
  go_wp2_with fail
  refine wk.region_tailS 17 [.is (.int .i64 m), .is (.slice (some ⟨b, o, none⟩) n c), .is (.int .i64 (k : Int)), .is (.pointer (some ⟨b, o + k * 2, none⟩)), .is (.pointer (some ⟨b, o + k * 2, none⟩)), .is (.int .i64 x1), .is (.slice (some ⟨b, o, none⟩) n c), .is (.int .i64 (k : Int)), .is (.pointer (some ⟨b, o + k * 2, none⟩)), .is (.pointer (some ⟨b, o + k * 2 + 1, none⟩)), .is (.int .i64 x2), .is (.slice (some ⟨b2, o2, none⟩) n c'), .is (.int .i64 (k : Int)), .is (.pointer (some ⟨b2, o2 + k, none⟩)), .is (.int .i64 y), .is (.int .i64 z), .is (.int .i64 z)] [some 6, some 7, some 8, some 9, some 10, some 11, some 12, some 13, some 14, some 15, some 16, some 17, some 18, some 19, some 20, some 21, some 5] (by kernel_rfl) (by kernel_rfl) (by kernel_rfl) (by kernel_rfl) [] (by kernel_rfl) (by intro p hp; cases hp) (by kernel_rfl) (by kernel_rfl) ?hstep ?hdone
  case hstep =>
    intro i o ho hi hns E w4 hb4 D
    have hi2 : i = 0 ∨ i = 1 ∨ i = 2 ∨ i = 3 ∨ i = 4 ∨ i = 5 ∨ i = 6 ∨ i = 7 ∨ i = 8 ∨ i = 9 ∨ i = 10 ∨ i = 11 ∨ i = 12 ∨ i = 13 ∨ i = 14 ∨ i = 15 ∨ i = 16 := by omega
    clear hi
    rcases hi2 with rfl | rfl | rfl | rfl | rfl | rfl | rfl | rfl | rfl | rfl | rfl | rfl | rfl | rfl | rfl | rfl | rfl
    ·
      have ho2 := (Array.getElem?_eq_some_iff.1 ho).2
      simp only [List.getElem_toArray, List.getElem_cons_zero] at ho2
      subst ho2
      clear ho
      have e1 := D.old 1 (by kernel_rfl)
      exact wk.does_load1 rfl (show E (.tmp 1) = .pointer (some ⟨g0, 0, none⟩) by rw [e1]; rfl) ((hg0.below ((Below.refl _ _).drew.trans hb4)).cell) Try.underlying3 rfl rfl
    ·
      have ho2 := (Array.getElem?_eq_some_iff.1 ho).2
      simp only [List.getElem_toArray, List.getElem_cons_succ, List.getElem_cons_zero] at ho2
      subst ho2
      clear ho
      have e2 := D.old 2 (by kernel_rfl)
      exact wk.does_load1 rfl (show E (.tmp 2) = .pointer (some ⟨g1, 0, none⟩) by rw [e2]; rfl) ((hg1.below ((Below.refl _ _).drew.trans hb4)).cell) Try.underlying48 rfl rfl
    ·
      have ho2 := (Array.getElem?_eq_some_iff.1 ho).2
      simp only [List.getElem_toArray, List.getElem_cons_succ, List.getElem_cons_zero] at ho2
      subst ho2
      clear ho
      have e0 := D.old 0 (by kernel_rfl)
      exact wk.does_move rfl (by rw [e0]; rfl)
    ·
      have ho2 := (Array.getElem?_eq_some_iff.1 ho).2
      simp only [List.getElem_toArray, List.getElem_cons_succ, List.getElem_cons_zero] at ho2
      subst ho2
      clear ho
      have e7 := D.is { on := 1, ground := .data } (by simp) rfl rfl 7 rfl
      have e8 := D.is { on := 2, ground := .data } (by simp) rfl rfl 8 rfl
      exact wk.does_run (by simp only [execOp]; rw [show E (.tmp 7) = _ from e7, show E (.tmp 8) = _ from e8]; go_simp) rfl
    ·
      have ho2 := (Array.getElem?_eq_some_iff.1 ho).2
      simp only [List.getElem_toArray, List.getElem_cons_succ, List.getElem_cons_zero] at ho2
      subst ho2
      clear ho
      have e9 := D.is { on := 3, ground := .data } (by simp) rfl rfl 9 rfl
      exact wk.does_run (by simp only [execOp]; rw [show E (.tmp 9) = _ from e9]; go_simp) rfl
    ·
      have ho2 := (Array.getElem?_eq_some_iff.1 ho).2
      simp only [List.getElem_toArray, List.getElem_cons_succ, List.getElem_cons_zero] at ho2
      subst ho2
      clear ho
      have e10 := D.is { on := 4, ground := .data } (by simp) rfl rfl 10 rfl
      exact wk.does_load1 rfl e10 ((((Below.refl _ _).drew.trans hb4).cell (p := ⟨b, o + k * 2, none⟩) hb1).trans hx1) Try.underlying3 rfl rfl
    ·
      have ho2 := (Array.getElem?_eq_some_iff.1 ho).2
      simp only [List.getElem_toArray, List.getElem_cons_succ, List.getElem_cons_zero] at ho2
      subst ho2
      clear ho
      have e2 := D.old 2 (by kernel_rfl)
      exact wk.does_load1 rfl (show E (.tmp 2) = .pointer (some ⟨g1, 0, none⟩) by rw [e2]; rfl) ((hg1.below ((Below.refl _ _).drew.trans hb4)).cell) Try.underlying48 rfl rfl
    ·
      have ho2 := (Array.getElem?_eq_some_iff.1 ho).2
      simp only [List.getElem_toArray, List.getElem_cons_succ, List.getElem_cons_zero] at ho2
      subst ho2
      clear ho
      have e0 := D.old 0 (by kernel_rfl)
      exact wk.does_move rfl (by rw [e0]; rfl)
    ·
      have ho2 := (Array.getElem?_eq_some_iff.1 ho).2
      simp only [List.getElem_toArray, List.getElem_cons_succ, List.getElem_cons_zero] at ho2
      subst ho2
      clear ho
      have e12 := D.is { on := 6, ground := .data } (by simp) rfl rfl 12 rfl
      have e13 := D.is { on := 7, ground := .data } (by simp) rfl rfl 13 rfl
      exact wk.does_run (by simp only [execOp]; rw [show E (.tmp 12) = _ from e12, show E (.tmp 13) = _ from e13]; go_simp) rfl
    ·
      have ho2 := (Array.getElem?_eq_some_iff.1 ho).2
      simp only [List.getElem_toArray, List.getElem_cons_succ, List.getElem_cons_zero] at ho2
      subst ho2
      clear ho
      have e14 := D.is { on := 8, ground := .data } (by simp) rfl rfl 14 rfl
      exact wk.does_run (by simp only [execOp]; rw [show E (.tmp 14) = _ from e14]; go_simp) rfl
    ·
      have ho2 := (Array.getElem?_eq_some_iff.1 ho).2
      simp only [List.getElem_toArray, List.getElem_cons_succ, List.getElem_cons_zero] at ho2
      subst ho2
      clear ho
      have e15 := D.is { on := 9, ground := .data } (by simp) rfl rfl 15 rfl
      exact wk.does_load1 rfl e15 ((((Below.refl _ _).drew.trans hb4).cell (p := ⟨b, o + k * 2 + 1, none⟩) hb1).trans hx2) Try.underlying3 rfl rfl
    ·
      have ho2 := (Array.getElem?_eq_some_iff.1 ho).2
      simp only [List.getElem_toArray, List.getElem_cons_succ, List.getElem_cons_zero] at ho2
      subst ho2
      clear ho
      have e3 := D.old 3 (by kernel_rfl)
      exact wk.does_load1 rfl (show E (.tmp 3) = .pointer (some ⟨g2, 0, none⟩) by rw [e3]; rfl) ((hg2.below ((Below.refl _ _).drew.trans hb4)).cell) Try.underlying23 rfl rfl
    ·
      have ho2 := (Array.getElem?_eq_some_iff.1 ho).2
      simp only [List.getElem_toArray, List.getElem_cons_succ, List.getElem_cons_zero] at ho2
      subst ho2
      clear ho
      have e0 := D.old 0 (by kernel_rfl)
      exact wk.does_move rfl (by rw [e0]; rfl)
    ·
      have ho2 := (Array.getElem?_eq_some_iff.1 ho).2
      simp only [List.getElem_toArray, List.getElem_cons_succ, List.getElem_cons_zero] at ho2
      subst ho2
      clear ho
      have e17 := D.is { on := 11, ground := .data } (by simp) rfl rfl 17 rfl
      have e18 := D.is { on := 12, ground := .data } (by simp) rfl rfl 18 rfl
      exact wk.does_run (by simp only [execOp]; rw [show E (.tmp 17) = _ from e17, show E (.tmp 18) = _ from e18]; go_simp) rfl
    ·
      have ho2 := (Array.getElem?_eq_some_iff.1 ho).2
      simp only [List.getElem_toArray, List.getElem_cons_succ, List.getElem_cons_zero] at ho2
      subst ho2
      clear ho
      have e19 := D.is { on := 13, ground := .data } (by simp) rfl rfl 19 rfl
      exact wk.does_load1 rfl e19 ((((Below.refl _ _).drew.trans hb4).cell (p := ⟨b2, o2 + k, none⟩) hb2).trans hy) Try.underlying3 rfl rfl
    ·
      have ho2 := (Array.getElem?_eq_some_iff.1 ho).2
      simp only [List.getElem_toArray, List.getElem_cons_succ, List.getElem_cons_zero] at ho2
      subst ho2
      clear ho
      have e6 := D.is { on := 0, ground := .data } (by simp) rfl rfl 6 rfl
      have e11 := D.is { on := 5, ground := .data } (by simp) rfl rfl 11 rfl
      have e16 := D.is { on := 10, ground := .data } (by simp) rfl rfl 16 rfl
      have e20 := D.is { on := 14, ground := .data } (by simp) rfl rfl 20 rfl
      refine wk.does_fn (f := 62) (vs := #[.int .i64 m, .int .i64 x1, .int .i64 x2, .int .i64 y]) rfl (D.fn _) (by simp [e6, e11, e16, e20]) (by go_simp) ?_
      refine (HC.out w4).mono ?_
      rintro e w7 ⟨rfl, hb7⟩
      exact ⟨_, rfl, hb7, rfl⟩
    ·
      have ho2 := (Array.getElem?_eq_some_iff.1 ho).2
      simp only [List.getElem_toArray, List.getElem_cons_succ, List.getElem_cons_zero] at ho2
      subst ho2
      clear ho
      have e21 := D.is { on := 15, ground := .data } (by simp) rfl rfl 21 rfl
      exact wk.does_assign rfl e21
  case hdone =>
    intro vals w4 hb4 hv
    have h16 := hv 16 (by omega)
    clear hv
    replace h16 : vals 16 = (.int .i64 z) := h16
    simp only [List.drop_succ_cons, List.drop_zero, wpList, wk.setL, List.setIfInBounds_toArray, List.set_cons_zero, List.set_cons_succ, Nat.zero_add, Nat.reduceAdd, h16]
    generalize vals 0 = x0
    generalize vals 1 = x1
    generalize vals 2 = x2
    generalize vals 3 = x3
    generalize vals 4 = x4
    generalize vals 5 = x5
    generalize vals 6 = x6
    generalize vals 7 = x7
    generalize vals 8 = x8
    generalize vals 9 = x9
    generalize vals 10 = x10
    generalize vals 11 = x11
    generalize vals 12 = x12
    generalize vals 13 = x13
    generalize vals 14 = x14
    generalize vals 15 = x15
    have hb : Below w.heap.size w w4 := (Below.refl _ _).drew.trans hb4
    clear hb4
    go_wp2_with fail
    go_ret
    exact ⟨rfl, hb⟩
end Go.Proofs.Yteeianandjokaaa.pk
/- Low, High, Shells. -/
namespace Go.Proofs.Yteeianandjokaaa.pk

open Go.ChangeShapes Go.WideShapes Go.ChangeAt Go.RowKit

open Go.Proofs.Yteeianandjokaaa.pq Go.Proofs.Yteeianandjokaaa.cq Go.Proofs.Yteeianandjokaaa.vk Go.Proofs.Yteeianandjokaaa.bk Go.Proofs.Yteeianandjokaaa.wk Go.Proofs.Yteeianandjokaaa.uk

set_option linter.unusedVariables false
set_option maxRecDepth 100000 in
set_option maxHeartbeats 1000000 in
theorem low_calls {m : Int} {S : List Sh} {ks : List Int} {A A' : Option Addr} {n c n' c' : Nat} (w : World) (h : IsS w A n c S) (h' : wo.IsI w A' n' c' ks) :
    Calls Try.prog 23 #[.int .i64 m, .slice A n c, .slice A' n' c'] w fun e w' => e = .returned (.tuple #[.int .i64 (if asked m S ks then lowS m S ks else 0), okE (asked m S ks)]) ∧ Below w.heap.size w w' := by
  obtain ⟨hx0, hx1, hx2, hb0⟩ := box3 w (.int .i64 m) (.slice A n c) (.slice A' n' c') 3 48 23
  have HBD := Lib.hid (bounding_calls (m := m) _ (isS_below h hb0) (isI_below h' hb0))
  have HB0 := Lib.hid hb0
  have hm := h.2.2.1
  have hnc := h.2.1
  have hcb0 := hx0.cell
  have hcb1 := hx1.cell
  have hcb2 := hx2.cell
  unfold okE
  cases hk : asked m S ks
  · rw [hk] at HBD
    clear h h' hb0
    go_enter Try.func23, Try.ntmps23
    go_wp2_with fail
    refine HBD.out.mono ?_
    rintro e w1 ⟨rfl, hb1⟩
    have HB1 := Lib.hid (Below.andThen HB0.out hb1)
    clear hb1
    go_wp2_with fail
    go_ret2
    exact ⟨rfl, HB1.out⟩
  · have ha := asked_of hk
    rw [hk] at HBD
    have hn8 : n ≤ 8 := by rw [← h.1]; exact ha.n8
    have hkl : ks.length = n := by rw [← ha.len]; exact h.1
    have hnn : n' = n := by rw [← hkl]; exact h'.1.symm
    subst hnn
    have HX0 := Lib.hid hx0
    have HX1 := Lib.hid hx1
    have HX2 := Lib.hid hx2
    have HG := Lib.hid (fun w' (hb : Below w.heap.size w w') (hg0 : Box w' w.heap.size (.int .i64 m)) (hg1 : Box w' (w.heap.size + 1) (.slice A n' c)) (hg2 : Box w' (w.heap.size + 1 + 1) (.slice A' n' c')) =>
      greatest_calls 58 #[.pointer (some ⟨w.heap.size, 0, none⟩), .pointer (some ⟨w.heap.size + 1, 0, none⟩), .pointer (some ⟨w.heap.size + 1 + 1, 0, none⟩)] (fun _ _ => by kernel_rfl) n' (by omega) (gapf m S ks) (fun k w2 => Below w'.heap.size w' w2) w'
        (fun k w2 hk2 hb2 => by
          refine (low1_calls w2 ha (isS_below (isS_below h hb) hb2) (isI_below (isI_below h' hb) hb2) hk2 (hg0.below hb2) (hg1.below hb2) (hg2.below hb2)).mono ?_
          rintro e w3 ⟨rfl, hb3⟩
          exact ⟨rfl, Below.andThen hb2 hb3⟩) (Below.refl _ _))
    have HE : Hid (lowS m S ks = (gr (gapf m S ks) n').2) := by show _ = _; unfold lowS; rw [h.1]
    rw [if_pos rfl, HE.out]
    generalize (gr (gapf m S ks) n') = p at *
    obtain ⟨p1, p2⟩ := p
    dsimp only at HG ⊢
    clear h h' hb0 hx0 hx1 hx2 ha HE hkl
    go_enter Try.func23, Try.ntmps23
    go_wp2_with fail
    refine HBD.out.mono ?_
    rintro e w1 ⟨rfl, hb1⟩
    have HB1 := Lib.hid (Below.andThen HB0.out hb1)
    have hy1 := HX1.out.below hb1
    have hcb1' := hy1.cell
    have HG1 := Lib.hid (HG.out w1 HB1.out (HX0.out.below hb1) hy1 (HX2.out.below hb1))
    clear hb1 hcb0 hcb1 hcb2 hy1
    go_wp2_with fail
    refine HG1.out.mono ?_
    rintro e w2 ⟨rfl, hb2⟩
    have HB2 := Lib.hid (Below.andThen HB1.out hb2)
    clear hb2
    go_wp2_with fail
    go_ret2
    exact ⟨rfl, HB2.out⟩
set_option maxRecDepth 100000 in
set_option maxHeartbeats 1000000 in
theorem high_calls {m : Int} {S : List Sh} {ks : List Int} {A A' : Option Addr} {n c n' c' : Nat} (w : World) (h : IsS w A n c S) (h' : wo.IsI w A' n' c' ks) :
    Calls Try.prog 24 #[.int .i64 m, .slice A n c, .slice A' n' c'] w fun e w' => e = .returned (.tuple #[.int .i64 (if asked m S ks then highS m S ks else 0), okE (asked m S ks)]) ∧ Below w.heap.size w w' := by
  obtain ⟨hx0, hx1, hx2, hb0⟩ := box3 w (.int .i64 m) (.slice A n c) (.slice A' n' c') 3 48 23
  have HBD := Lib.hid (bounding_calls (m := m) _ (isS_below h hb0) (isI_below h' hb0))
  have HB0 := Lib.hid hb0
  have hm := h.2.2.1
  have hnc := h.2.1
  have hcb0 := hx0.cell
  have hcb1 := hx1.cell
  have hcb2 := hx2.cell
  unfold okE
  cases hk : asked m S ks
  · rw [hk] at HBD
    clear h h' hb0
    go_enter Try.func24, Try.ntmps24
    go_wp2_with fail
    refine HBD.out.mono ?_
    rintro e w1 ⟨rfl, hb1⟩
    have HB1 := Lib.hid (Below.andThen HB0.out hb1)
    clear hb1
    go_wp2_with fail
    go_ret2
    exact ⟨rfl, HB1.out⟩
  · have ha := asked_of hk
    rw [hk] at HBD
    have hn8 : n ≤ 8 := by rw [← h.1]; exact ha.n8
    have hkl : ks.length = n := by rw [← ha.len]; exact h.1
    have hnn : n' = n := by rw [← hkl]; exact h'.1.symm
    subst hnn
    have HX0 := Lib.hid hx0
    have HX1 := Lib.hid hx1
    have HX2 := Lib.hid hx2
    have HG := Lib.hid (fun w' (hb : Below w.heap.size w w') (hg0 : Box w' w.heap.size (.int .i64 m)) (hg1 : Box w' (w.heap.size + 1) (.slice A n' c)) (hg2 : Box w' (w.heap.size + 1 + 1) (.slice A' n' c')) =>
      least_calls 61 #[.pointer (some ⟨w.heap.size, 0, none⟩), .pointer (some ⟨w.heap.size + 1, 0, none⟩), .pointer (some ⟨w.heap.size + 1 + 1, 0, none⟩)] (fun _ _ => by kernel_rfl) n' (by omega) (reaf m S ks) w'
        (fun k hk2 => by
          have e1 : S[k]? = some (S[k]'(by rw [h.1]; exact hk2)) := List.getElem?_eq_getElem _
          have e2 : ks[k]? = some (ks[k]'(by rw [hkl]; exact hk2)) := List.getElem?_eq_getElem _
          have f1 := ha.ok _ (List.mem_of_getElem? e1)
          have f2 := ha.kok _ (List.mem_of_getElem? e2)
          rw [reaf_at e1 e2]
          exact ⟨me.high_nonneg (by omega) (by omega), me.high_le _ _ _⟩)
        (fun k w2 hk2 hb2 => high1_calls w2 ha (isS_below (isS_below h hb) hb2) (isI_below (isI_below h' hb) hb2) hk2 (hg0.below hb2) (hg1.below hb2) (hg2.below hb2)))
    have HE : Hid (highS m S ks = (le (reaf m S ks) n').2) := by show _ = _; unfold highS; rw [h.1]
    rw [if_pos rfl, HE.out]
    generalize (le (reaf m S ks) n') = p at *
    obtain ⟨p1, p2⟩ := p
    dsimp only at HG ⊢
    clear h h' hb0 hx0 hx1 hx2 ha HE hkl
    go_enter Try.func24, Try.ntmps24
    go_wp2_with fail
    refine HBD.out.mono ?_
    rintro e w1 ⟨rfl, hb1⟩
    have HB1 := Lib.hid (Below.andThen HB0.out hb1)
    have hy1 := HX1.out.below hb1
    have hcb1' := hy1.cell
    have HG1 := Lib.hid (HG.out w1 HB1.out (HX0.out.below hb1) hy1 (HX2.out.below hb1))
    clear hb1 hcb0 hcb1 hcb2 hy1
    go_wp2_with fail
    refine HG1.out.mono ?_
    rintro e w2 ⟨rfl, hb2⟩
    have HB2 := Lib.hid (Below.andThen HB1.out hb2)
    clear hb2
    go_wp2_with fail
    go_ret2
    exact ⟨rfl, HB2.out⟩
end Go.Proofs.Yteeianandjokaaa.pk
/- Shells. -/
namespace Go.Proofs.Yteeianandjokaaa.pk

open Go.ChangeShapes Go.WideShapes Go.ChangeAt Go.RowKit

open Go.Proofs.Yteeianandjokaaa.pq Go.Proofs.Yteeianandjokaaa.cq Go.Proofs.Yteeianandjokaaa.vk Go.Proofs.Yteeianandjokaaa.bk Go.Proofs.Yteeianandjokaaa.wk Go.Proofs.Yteeianandjokaaa.uk

set_option linter.unusedVariables false
theorem below_two {n g : Nat} {w0 w : World} (h : Below n w0 w) (hg : n ≤ g) (x y : Value) : Below n w0 ((w.setCell ⟨g, 0, none⟩ x).setCell ⟨g, 1, none⟩ y) :=
  (h.setCell (p := ⟨g, 0, none⟩) hg _).setCell (p := ⟨g, 1, none⟩) hg _
theorem RowP.set {w : World} {g : Nat} {a b : Int} (h : RowP w g a b) (x y : Int) : RowP ((w.setCell ⟨g, 0, none⟩ (.int .i64 x)).setCell ⟨g, 1, none⟩ (.int .i64 y)) g x y := by
  have h1 := heap_setCell_same w g 0 #[.int .i64 a, .int .i64 b] 87 (.int .i64 x) h
  have h2 := heap_setCell_same (w.setCell ⟨g, 0, none⟩ (.int .i64 x)) g 1 _ 87 (.int .i64 y) h1
  exact h2
theorem RowP.f {w : World} {g : Nat} {a b : Int} (h : RowP w g a b) (j : Nat) : w.frozen? ⟨g, j, none⟩ = false := frozen_of_row _ _ _ _ _ h
theorem isVV_tail {w : World} {A : Option Addr} {n c : Nat} {L : VV} (h : IsVV w A n c L) (h1 : 1 ≤ n) : IsVV w (if c = 1 then A else A.map (·.add 1)) (n - 1) (c - 1) (L.drop 1) := by
  refine ⟨by rw [List.length_drop, h.1], by have := h.2.1; omega, by have := h.2.2.1; omega, fun k l hk => ?_⟩
  rw [List.getElem?_drop] at hk
  have hkn : 1 + k < n := by have := (List.getElem?_eq_some_iff.1 hk).1; have := h.1; omega
  obtain ⟨b, o, A', n', c', rfl, hb, hc, hI⟩ := h.2.2.2 _ l hk
  have hc1 : c ≠ 1 := by have := h.2.1; omega
  rw [if_neg hc1]
  exact ⟨b, o + 1, A', n', c', by simp [wk.add_at], hb, by rw [Nat.add_assoc]; exact hc, hI⟩
def shk (m : Int) (p : List Int) (L : VV) (k : Nat) : Sh := ((L.drop 1).take k).foldl (fun s v => grow1 s (vq.key m p v)) (vq.key m p (L.headD []), vq.key m p (L.headD []))
theorem shk_zero (m : Int) (p : List Int) (L : VV) : shk m p L 0 = (vq.key m p (L.headD []), vq.key m p (L.headD [])) := rfl
theorem shk_succ {m : Int} {p : List Int} {L : VV} {k : Nat} {v : List Int} (h : (L.drop 1)[k]? = some v) : shk m p L (k + 1) = (min (shk m p L k).1 (vq.key m p v), max (shk m p L k).2 (vq.key m p v)) := by
  unfold shk
  rw [List.take_add_one, h, List.foldl_append]; rfl
theorem shk_end {m : Int} {p : List Int} {L : VV} {n : Nat} (h : L.length = n) : shk m p L (n - 1) = shl m p L := by
  unfold shk shl
  rw [List.take_of_length_le (by rw [List.length_drop]; omega)]
theorem foldl_sh {m : Int} {p : List Int} : ∀ (T : VV) (s : Sh), (∀ v ∈ T, -134217728 ≤ vq.key m p v ∧ vq.key m p v ≤ 134217728) → -134217728 ≤ s.1 ∧ s.1 ≤ 134217728 → -134217728 ≤ s.2 ∧ s.2 ≤ 134217728 →
    (-134217728 ≤ (T.foldl (fun s v => grow1 s (vq.key m p v)) s).1 ∧ (T.foldl (fun s v => grow1 s (vq.key m p v)) s).1 ≤ 134217728) ∧ -134217728 ≤ (T.foldl (fun s v => grow1 s (vq.key m p v)) s).2 ∧ (T.foldl (fun s v => grow1 s (vq.key m p v)) s).2 ≤ 134217728
  | [], s, _, h1, h2 => ⟨h1, h2⟩
  | v :: T, s, h, h1, h2 => by
    have hv := h v (List.mem_cons_self ..)
    rw [List.foldl_cons]
    refine foldl_sh T _ (fun x hx => h x (List.mem_cons_of_mem _ hx)) ?_ ?_
    · unfold grow1; dsimp only; omega
    · unfold grow1; dsimp only; omega
theorem shells_wd {m : Int} {d : Nat} {P L : VV} (h : Have m d P L) : ∀ r ∈ shells m P L, Wd r := fun r hr => by
  unfold shells at hr
  obtain ⟨p, hp, rfl⟩ := List.mem_map.1 hr
  have hp' := h.p.ok p hp
  have hd := key_bd (m := m) hp' h.l.head
  have := foldl_sh (m := m) (p := p) (L.drop 1) (vq.key m p (L.headD []), vq.key m p (L.headD [])) (fun v hv => by
    have := key_bd (m := m) hp' (h.l.ok v (List.mem_of_mem_drop hv)); omega) (by dsimp only; omega) (by dsimp only; omega)
  unfold shl Wd
  omega
theorem head_at {L : VV} (h : 1 ≤ L.length) : L[0]? = some (L.headD []) := by
  cases L with
  | nil => simp at h
  | cons x l => rfl
set_option maxRecDepth 100000 in
set_option maxHeartbeats 4000000 in
theorem shells_calls {m : Int} {A A' : Option Addr} {n c n' c' : Nat} {P L : VV} (w : World) (h : IsVV w A n c P) (h' : IsVV w A' n' c' L) :
    Calls Try.prog 21 #[.int .i64 m, .slice A n c, .slice A' n' c'] w fun e w' => ∃ A2 n2 c2, e = .returned (.tuple #[.slice A2 n2 c2, okE (haveK m P L)]) ∧ IsS w' A2 n2 c2 (if haveK m P L then shells m P L else []) ∧ Below w.heap.size w w' := by
  have HH := Lib.hid (have_calls (m := m) w h h')
  have hm := h'.2.2.1
  have hnc := h'.2.1
  have hmp := h.2.2.1
  have hncp := h.2.1
  unfold okE
  cases hk : haveK m P L
  · rw [hk] at HH
    clear h h'
    go_enter Try.func21, Try.ntmps21
    go_wp2_with fail
    refine HH.out.mono ?_
    rintro e w1 ⟨rfl, hb1⟩
    have HB1 := Lib.hid hb1
    clear hb1
    go_wp2_with fail
    go_ret2
    exact ⟨_, _, _, rfl, isS_nil _, HB1.out⟩
  · obtain ⟨i0, hi, hz0, hz1, hz2⟩ := info_parts infoSh
    have hv := have_of hk
    rw [hk] at HH
    have HKT := Lib.hid (fun w0 w' (hb : Below w.heap.size w w0) (hb' : Below w0.heap.size w0 w') => keysTo_own (m := m) w0 w' (isVV_below h hb) hb' (by have := hv.p.n2; have := h.1; omega))
    have hn8 : n ≤ 8 := by rw [← h.1]; exact hv.p.n2
    have hn4 : n' ≤ 4096 := by rw [← h'.1]; exact hv.l.n2
    have hn1 : 1 ≤ n' := by rw [← h'.1]; exact hv.l.n1
    have HWD := Lib.hid (shells_wd hv)
    have HV := Lib.hid hv
    have H' := Lib.hid h'
    have HPL : Hid (P.length = n) := h.1
    have hh0 := head_at (L := L) (by rw [h'.1]; exact hn1)
    obtain ⟨bL, oL, _, _, _, rfl, -, -, -⟩ := h'.2.2.2 0 _ hh0
    clear h h' hv
    have hnI : (i0.bytes : Nat) * n ≤ 281474976710656 := by rw [hz2]; omega
    go_enter Try.func21, Try.ntmps21
    go_wp2_with fail
    refine HH.out.mono ?_
    rintro e w1 ⟨rfl, hb1⟩
    have HB1 := Lib.hid hb1
    clear hb1
    obtain ⟨w2, hmk2, hown2, hgr2⟩ := run_make_own (P := Try.prog) w1 w1.heap.size 48 65 i0 (.agg #[.int .i64 0, .int .i64 0]) 2 Try.underlying48 hi hz0 hz1 .i64 .i64 n hnI (by unfold maxLen; omega) (Nat.le_refl _)
    have HB2 : Hid (Below w1.heap.size w1 w2) := (Below.refl _ _).grown hgr2 (Nat.le_refl _) (fun k hk => by cases hk)
    have HOWN2 := Lib.hid hown2
    clear hown2 hgr2
    go_wp2_with fail
    refine (HKT.out w1 w2 HB1.out HB2.out).mono ?_
    rintro e w3 ⟨A1, c1, vals, rfl, hK, hkv, hb3⟩
    have HB3 : Hid (Below w1.heap.size w1 w3) := Below.andThen HB2.out hb3
    have HOWN3 := Lib.hid (keptB HOWN2.out hb3)
    have HK3 := Lib.hid hK
    have HKVw : Hid (∀ wr, wr.ownsRow w2.heap.size 76 1 (.slice A1 n c1) n vals → Below w1.heap.size w1 wr → IsK wr A1 n c1 m P) := fun wr ho hb => by
      exact isK_own (w0 := w1) ho hkv hb HPL.out
    have HLw := Lib.hid (isVV_below H'.out HB1.out)
    have HTL : Hid ((shells m P L).length = n) := by show _ = _; unfold shells; rw [List.length_map, HPL.out]
    have hnmk : n ≤ c1 ∧ c1 ≤ 9223372036854775807 := by have h := HKVw.out w3 HK3.out HB3.out; exact ⟨h.2.1, h.2.2.1⟩
    have hmk := hnmk.2
    have hnck := hnmk.1
    clear hb3 hK hkv HOWN2 hmk2 hnmk
    go_wp2_with fail
    go_loopg [8, 26] n (fun gk u x wr => ∃ (k : Nat) (v0 : Value), k + gk = n ∧ v0 = u ∧ x = .int .i64 (k : Int) ∧ wr.ownsRow w1.heap.size 65 2 v0 k (fl ((shells m P L).take k)) ∧ Below w1.heap.size w1 wr ∧ wr.ownsRow w2.heap.size 76 1 (.slice A1 n c1) n vals)
    case atStart => exact ⟨0, _, by omega, rfl, rfl, by simpa [fl] using HOWN3.out, HB3.out, HK3.out⟩
    case round =>
      obtain ⟨k, v0, hk, hv0, rfl, hown, hbel, hKo⟩ := hrel
      have hKr := HKVw.out _ hKo hbel
      have hLr := isVV_below HLw.out hbel
      subst hv0
      have HK := Lib.hid hk
      have HOWN := Lib.hid hown
      have HBEL := Lib.hid hbel
      have HBW : Hid (w1.heap.size ≤ wr.heap.size) := hbel.size
      have hkn : k ≤ n := by omega
      by_cases hlt : k < n
      · obtain ⟨b7, o7, A7, n7, c7, p, rfl, hb7, hc7, hI7, hp7⟩ := hKr.get hlt
        obtain ⟨b8, o8, A8, n8, c8, e8, hb8, hc8, hI8⟩ := hLr.2.2.2 0 _ hh0
        cases e8
        rw [Nat.add_zero] at hc8
        have hlt0 : (k : Int) < (n : Int) := by omega
        have hlt1 : (0 : Int) < (n' : Int) := by omega
        have HFP := Lib.hid (HV.out.p.at hp7)
        have HCK := Lib.hid (ckey_calls wr HV.out.m1 HV.out.m3 hI7 hI8 HFP.out HV.out.l.head)
        have HTK : Hid ((shells m P L)[k]? = some (shl m p L)) := by show _ = _; unfold shells; rw [List.getElem?_map, hp7]; rfl
        have HZ : Hid (shk m p L 0 = (vq.key m p (L.headD []), vq.key m p (L.headD []))) := shk_zero m p L
        have HI7 := Lib.hid hI7
        obtain ⟨AT, hAT⟩ : ∃ AT, AT = (if c' = 1 then some ⟨bL, oL, none⟩ else Option.map (·.add 1) (some (⟨bL, oL, none⟩ : Addr))) := ⟨_, rfl⟩
        have HLT : Hid (IsVV wr AT (n' - 1) (c' - 1) (L.drop 1)) := by rw [hAT]; exact isVV_tail hLr hn1
        have htl : ∀ w', (Instr.slice 22 (.slice (some ⟨bL, oL, none⟩) n' c') (some (.int .i64 1)) none none).run Try.prog w' = .ok (.slice AT (n' - 1) (c' - 1)) w' := fun w' => by rw [hAT]; exact run_tail w' (some ⟨bL, oL, none⟩) n' c' hn1 hnc
        have HKO := Lib.hid hKo
        have hci' := hc7
        unfold kfun at hci'
        generalize vq.key m p (L.headD []) = x0 at *
        clear hown hbel hKr hLr hKo hI7 hI8 hp7 hc7 HOWN3 hk
        go_wp2_with fail
        refine HCK.out.mono ?_
        rintro e w4 ⟨rfl, hb4⟩
        have HB4 := Lib.hid hb4
        clear hb4
        go_wp2_with fail
        refine (only_calls x0 w4).mono ?_
        rintro e w5 ⟨rfl, hb5⟩
        have HB5 := Lib.hid (Below.andThen HB4.out hb5)
        have HRP := Lib.hid (RowP.new w5 x0 x0)
        have HB6 := Lib.hid (Below.andThen HB5.out (below_new w5 (.cells #[.int .i64 x0, .int .i64 x0] 87)))
        have HG5 : Hid (wr.heap.size ≤ w5.heap.size) := HB5.out.size
        clear hb5 hci' hc8
        generalize hG : w5.heap.size = G at *
        obtain ⟨w0, hw0⟩ : ∃ u, u = wr := ⟨_, rfl⟩
        clear hAT
        go_wp2_with fail
        try simp only [hG]
        go_loopg [39] (n' - 1) (fun gk x wr => ∃ j : Nat, j + gk = n' - 1 ∧ x = .int .i64 (j : Int) ∧ RowP wr G (shk m p L j).1 (shk m p L j).2 ∧ Below w0.heap.size w0 wr)
        case atStart => exact ⟨0, by omega, rfl, by rw [HZ.out, ← hG]; exact RowP.new w5 x0 x0, by rw [hw0]; exact HB6.out⟩
        case round =>
          obtain ⟨j, hj, rfl, hrp, hbi⟩ := hrel
          subst hw0
          have HJ := Lib.hid hj
          have HRPJ := Lib.hid hrp
          have HBI := Lib.hid hbi
          have hjn : j ≤ n' - 1 := by omega
          have hGw : w0.heap.size ≤ G := by have := HG5.out; omega
          have hGlt := hrp.lt
          clear hj
          by_cases hltj : j < n' - 1
          · obtain ⟨b9, o9, A9, n9, c9, v, rfl, hb9, hc9, hI9, hv9⟩ := isVV_get (isVV_below HLT.out hbi) hltj
            have hlt2 : (j : Int) < ((n' - 1 : Nat) : Int) := by omega
            have hvm : v ∈ L := List.mem_of_mem_drop (List.mem_of_getElem? hv9)
            have hFV := HV.out.l.ok v hvm
            have HCV := Lib.hid (fun w' (hb : Below wr.heap.size wr w') => ckey_calls w' HV.out.m1 HV.out.m3 (isI_below (isI_below HI7.out hbi) hb) (isI_below hI9 hb) HFP.out hFV)
            have HSK := Lib.hid (shk_succ (m := m) (p := p) hv9)
            generalize shk m p L j = s at *
            obtain ⟨s1, s2⟩ := s
            dsimp only at HSK hrp HRPJ
            generalize vq.key m p v = y at *
            obtain ⟨mn, hmn⟩ : ∃ z, min s1 y = z := ⟨_, rfl⟩
            obtain ⟨mx, hmx⟩ : ∃ z, max s2 y = z := ⟨_, rfl⟩
            rw [hmn, hmx] at HSK
            have HMN := Lib.hid hmn
            have HMX := Lib.hid hmx
            clear hmn hmx hv9 hvm hFV hI9 hrp
            go_wp2_with fail
            refine wk.region_tailS 6 [.is (.agg #[.int .i64 s1, .int .i64 s2]), .is (kfun m A7 n7 c7), .is (.slice A9 n9 c9), .is (.int .i64 y), .is (.agg #[.int .i64 y, .int .i64 y]), .is (.agg #[.int .i64 mn, .int .i64 mx])] [some 43, some 44, some 45, some 46, some 47, some 48] (by kernel_rfl) (by kernel_rfl) (by kernel_rfl) (by kernel_rfl) [] (by kernel_rfl) (by intro p hp; cases hp) (by kernel_rfl) (by kernel_rfl) ?hstep ?hdone
            case hstep =>
              intro i o ho hi hns E w6 hb4 D
              have hi2 : i = 0 ∨ i = 1 ∨ i = 2 ∨ i = 3 ∨ i = 4 ∨ i = 5 := by omega
              clear hi
              rcases hi2 with rfl | rfl | rfl | rfl | rfl | rfl
              ·
                have ho2 := (Array.getElem?_eq_some_iff.1 ho).2
                simp only [List.getElem_toArray, List.getElem_cons_zero] at ho2
                subst ho2
                clear ho
                have e11 := D.old 11 (by kernel_rfl)
                exact wk.does_load_agg rfl (show E (.tmp 11) = .pointer (some ⟨G, 0, none⟩) by rw [e11]; rfl) (cs := [.int .i64 s1, .int .i64 s2]) ((HRPJ.out.below ((Below.refl _ _).drew.trans hb4)).cells) Try.underlying87 rfl (by kernel_rfl) rfl
              ·
                have ho2 := (Array.getElem?_eq_some_iff.1 ho).2
                simp only [List.getElem_toArray, List.getElem_cons_succ, List.getElem_cons_zero] at ho2
                subst ho2
                clear ho
                have e10 := D.old 10 (by kernel_rfl)
                exact wk.does_move rfl (by rw [e10]; rfl)
              ·
                have ho2 := (Array.getElem?_eq_some_iff.1 ho).2
                simp only [List.getElem_toArray, List.getElem_cons_succ, List.getElem_cons_zero] at ho2
                subst ho2
                clear ho
                have e13 := D.old 13 (by kernel_rfl)
                exact wk.does_move rfl (by rw [e13]; rfl)
              ·
                have ho2 := (Array.getElem?_eq_some_iff.1 ho).2
                simp only [List.getElem_toArray, List.getElem_cons_succ, List.getElem_cons_zero] at ho2
                subst ho2
                clear ho
                have e44 := D.is { on := 1, ground := .data } (by simp) rfl rfl 44 rfl
                have e45 := D.is { on := 2, ground := .data } (by simp) rfl rfl 45 rfl
                refine wk.does_fnb (f := 44) (bs := #[.agg #[.int .i64 m, .slice A7 n7 c7]]) (vs := #[.agg #[.int .i64 m, .slice A7 n7 c7], .slice A9 n9 c9]) rfl (show E (.tmp 44) = _ from e44) (by simp [e45]) (by go_simp) ?_
                refine (HCV.out w6 ((Below.refl _ _).drew.trans hb4)).mono ?_
                rintro e w7 ⟨rfl, hb7⟩
                exact ⟨_, rfl, hb7, rfl⟩
              ·
                have ho2 := (Array.getElem?_eq_some_iff.1 ho).2
                simp only [List.getElem_toArray, List.getElem_cons_succ, List.getElem_cons_zero] at ho2
                subst ho2
                clear ho
                have e46 := D.is { on := 3, ground := .data } (by simp) rfl rfl 46 rfl
                refine wk.does_fn (f := 55) (vs := #[.int .i64 y]) rfl (D.fn _) (by simp [e46]) (by go_simp) ?_
                refine (only_calls y w6).mono ?_
                rintro e w7 ⟨rfl, hb7⟩
                exact ⟨_, rfl, hb7, rfl⟩
              ·
                have ho2 := (Array.getElem?_eq_some_iff.1 ho).2
                simp only [List.getElem_toArray, List.getElem_cons_succ, List.getElem_cons_zero] at ho2
                subst ho2
                clear ho
                have e43 := D.is { on := 0, ground := .data } (by simp) rfl rfl 43 rfl
                have e47 := D.is { on := 4, ground := .data } (by simp) rfl rfl 47 rfl
                refine wk.does_fn (f := 56) (vs := #[.agg #[.int .i64 s1, .int .i64 s2], .agg #[.int .i64 y, .int .i64 y]]) rfl (D.fn _) (by simp [e43, e47]) (by go_simp) ?_
                refine (pjoin_calls s1 s2 y y w6).mono ?_
                rintro e w7 ⟨rfl, hb7⟩
                exact ⟨_, rfl, hb7, by rw [HMN.out, HMX.out]; rfl⟩
            case hdone =>
              intro vals w6 hb4 hv
              have h5 := hv 5 (by omega)
              clear hv
              replace h5 : vals 5 = (.agg #[.int .i64 mn, .int .i64 mx]) := h5
              simp only [List.drop_succ_cons, List.drop_zero, wk.setL, List.setIfInBounds_toArray, List.set_cons_zero, List.set_cons_succ, Nat.zero_add, Nat.reduceAdd, h5]
              generalize vals 0 = x0
              generalize vals 1 = x1
              generalize vals 2 = x2
              generalize vals 3 = x3
              generalize vals 4 = x4
              have hb5 : Below wr.heap.size wr w6 := (Below.refl _ _).drew.trans hb4
              have hr6 := HRPJ.out.below hb5
              have hc0 := hr6.c0
              have hc1 := hr6.c1
              have hf0 := hr6.f 0
              have hf1 := hr6.f 1
              have HB7 := Lib.hid (below_two (HBI.out.trans (hb5.mono HBI.out.size)) hGw (.int .i64 mn) (.int .i64 mx))
              have HR7 := Lib.hid (hr6.set mn mx)
              clear hb4 hb5 hr6
              go_wp2_with fail
              go_roundg (gk - 1)
              case measure => have := HJ.out; omega
              case rel => exact ⟨j + 1, by have := HJ.out; omega, by go_num, by rw [HSK.out]; exact HR7.out, HB7.out⟩
          · obtain rfl : j = n' - 1 := by omega
            have hsl : shk m p L (n' - 1) = shl m p L := shk_end H'.out.1
            rw [hsl] at hrp HRPJ
            have hc0 := hrp.c0
            have hc1 := hrp.c1
            have HO := Lib.hid (keptB HOWN.out hbi)
            have HBZ := Lib.hid (HBEL.out.trans (hbi.mono HBW.out))
            have HBW2 : Hid (w1.heap.size ≤ wr.heap.size) := HBZ.out.size
            have HKO2 := Lib.hid (keptB (keptB HKO.out hbi) (below_new wr (.cells #[.int .i64 (shl m p L).1, .int .i64 (shl m p L).2] 65)))
            generalize shl m p L = s at *
            obtain ⟨s1, s2⟩ := s
            dsimp only at hc0 hc1
            clear hrp hbi hsl
            go_wp2_with (at_builtin; refine wpList_append_own _ rfl _ _ 48 rfl w1.heap.size 65 i0 (.agg #[.int .i64 0, .int .i64 0]) 2 16 Try.underlying48 hi hz0 hz1 hz2 rfl (by decide) _ _ _ rfl (HO.out.alloc _) ⟨wr.heap.size, 0, none⟩ 1 1 [.int .i64 s1, .int .i64 s2] rfl rfl (RowS.new wr s1 s2).cells ?c2 ?c3 ?c4 ?c5 ?_)
            case c2 => simp [Value.oneCell']
            case c3 => unfold maxLen; omega
            case c4 => omega
            case c5 => have := HBW2.out; omega
            intro v' w7 hown7 hgrow7 _
            have hk7 := World.ownsRow.kept HKO2.out hgrow7 (own_apart (keptB HO.out (below_new _ _)) HKO2.out (by decide))
            have HK7 := Lib.hid hk7
            have hB7 : Below w1.heap.size w1 w7 := (HBZ.out.alloc HBW2.out _).grown hgrow7 (by have := HBW2.out; simp only [size_new]; omega) (fun q hq => (HO.out.lt q hq).1)
            have HB7 := Lib.hid hB7
            have HO7 := Lib.hid hown7
            clear hown7 hgrow7 hk7 hB7 hc0 hc1
            go_wp2_with fail
            go_roundg (n - (k + 1))
            case measure => have := HK.out; omega
            case rel =>
              refine ⟨k + 1, _, by have := HK.out; omega, rfl, by go_num, ?_, HB7.out, HK7.out⟩
              have hO := HO7.out
              rw [List.take_add_one, HTK.out, Option.toList_some, fl_append]
              exact hO
      · obtain rfl : k = n := by omega
        have ho := hown
        rw [List.take_of_length_le (by have := HTL.out; omega)] at ho
        obtain ⟨A9, c9, rfl, hI9⟩ := isS_of_own ho HWD.out
        have HI9 := Lib.hid hI9
        have HBZ := Lib.hid (Below.andThen HB1.out hbel)
        clear ho hI9 hown hbel hKr hLr hKo
        go_wp2_with fail
        go_ret2
        exact ⟨_, _, _, rfl, HI9.out, HBZ.out⟩
end Go.Proofs.Yteeianandjokaaa.pk
/- As Val3, for a region whose tail writes a slot that its first operations read. No program here. -/
namespace Go.Proofs.Yteeianandjokaaa.wk

open Go.RowKit

set_option linter.unusedVariables false

section

variable {P : Program} {ops : Array Oper} {Q : Exit → Act → World → Prop} {md : Region.Mode}
theorem linv_step2K {a0 : Act} {k : Nat} (R : (Nat → Bool) → Nat → World → Value → Prop) (hap : apart ops a0.tmps.size = true) (hg : noGuard ops k = true) {L : Nat → Bool} {a : Act} {w : World} {i : Nat} {o : Oper} (hik : i < k) (hI : LInv ops R a0 L a w) (ho : ops[i]? = some o) (hdep : ∀ e ∈ o.after, Region.binds .any e = true → L e.on = true) (hno : ∀ j, k ≤ j → L j = false)
    {S : World → Prop} (hstep : ∀ E, DueG ops (R L) a0 o E w → (∀ s, unwK ops k s = true → E (.tmp s) = a0.eval (.tmp s)) → DoesT P Q o E w fun w' v => R (fun j => if j = i then true else L j) i w' v ∧ (∀ j u, L j = true → (∀ d, dstOf ops j = some d → E (.tmp d) = u) → R L j w u → R (fun j => if j = i then true else L j) j w' u) ∧ S w') :
    wpOp P ops Q i (fun a' w' => LInv ops R a0 (fun j => if j = i then true else L j) a' w' ∧ S w') a w := by
  have hio : i < ops.size := (Array.getElem?_eq_some_iff.1 ho).1
  have hdv : ∀ e ∈ o.after, Region.binds .any e = true → ∃ v, R L e.on w v ∧ ∀ d, dstOf ops e.on = some d → a.tmps[d]? = some v := fun e he hb => hI.vals e.on (hdep e he hb)
  have hgn : o.guard = none := by
    have h1 := List.all_eq_true.1 hg i (List.mem_range.2 hik)
    simp only [ho, Option.isNone_iff_eq_none] at h1
    exact h1
  refine wpOp_step ho fun K' hK => ?_
  rw [if_pos (by simp [Region.wanted, hgn])]
  refine hstep a.eval ⟨fun _ => rfl, fun _ => rfl, fun k hk => ?_, fun e he hb => ?_⟩ (fun s hs2 => ?_) a K' rfl fun v w' hRT => ?_
  · show a.tmps.getD k undef = a0.tmps.getD k undef
    rw [Array.getD_eq_getD_getElem?, Array.getD_eq_getD_getElem?, hI.rest k fun j hj h => ?_]
    have := List.all_eq_true.1 hk j (List.mem_range.2 (dst_lt h))
    rw [h] at this
    simp at this
  · obtain ⟨v, hv, hd⟩ := hdv e he hb
    exact ⟨v, hv, fun d hdd => getD_of (hd d hdd)⟩
  · show a.tmps.getD s undef = a0.tmps.getD s undef
    rw [Array.getD_eq_getD_getElem?, Array.getD_eq_getD_getElem?, hI.rest s fun j hj h => ?_]
    have hjk : j < k := by
      rcases Nat.lt_or_ge j k with h1 | h1
      · exact h1
      · rw [hno j h1] at hj; cases hj
    have := List.all_eq_true.1 hs2 j (List.mem_range.2 hjk)
    rw [h] at this
    simp at this
  · obtain ⟨hv, hT, hS⟩ := hRT
    have hdo : dstOf ops i = o.dst := by unfold dstOf; rw [ho]; rfl
    refine hK _ _ ⟨⟨?_, ?_, fun j hj => ?_, fun k hk => ?_⟩, hS⟩
    · cases hd : o.dst <;> exact hI.defers
    · cases hd : o.dst <;> simp only [Act.put, Array.size_setIfInBounds] <;> exact hI.size
    · by_cases hji : j = i
      · subst hji
        refine ⟨v, hv, fun d hd => ?_⟩
        rw [hdo] at hd
        have hlt := apart_lt hap hio (by rw [hdo]; exact hd)
        rw [hd]
        show (a.tmps.setIfInBounds d _)[d]? = some _
        rw [Array.getElem?_setIfInBounds, if_pos rfl, if_pos (by rw [hI.size]; exact hlt)]
      · rw [if_neg hji] at hj
        obtain ⟨u, hu, hud⟩ := hI.vals j hj
        refine ⟨u, hT j u hj (fun d hd => getD_of (hud d hd)) hu, fun d hd => ?_⟩
        cases hod : o.dst with
        | none => exact hud d hd
        | some d' =>
          have hne : d' ≠ d := fun e => hji (apart_ne hap (dst_lt hd) hio hd (by rw [hdo, hod, e]))
          show (a.tmps.setIfInBounds d' _)[d]? = _
          rw [Array.getElem?_setIfInBounds, if_neg hne]
          exact hud d hd
    · have hk' : ∀ j, L j = true → dstOf ops j ≠ some k := fun j hj => hk j (by by_cases h : j = i <;> simp [h, hj])
      have hki : o.dst ≠ some k := by rw [← hdo]; exact hk i (by simp)
      cases hod : o.dst with
      | none => exact hI.rest k hk'
      | some d' =>
        have hne : d' ≠ k := fun e => hki (by rw [hod, e])
        show (a.tmps.setIfInBounds d' _)[k]? = _
        rw [Array.getElem?_setIfInBounds, if_neg hne]
        exact hI.rest k hk'
/-- .. where what is said of the values rests on what has been done -/
theorem region_lev2K {id : Nat} {a0 : Act} {w0 : World} (k : Nat) (R : (Nat → Bool) → Nat → World → Value → Prop) (ds : List (Option Tmp)) (S : (Nat → Bool) → World → Prop) (h0 : S (fun _ => false) w0.drew) (hm : P.follows .mixedOrders = true) (hord : orderedB .any ops = true) (hap : apart ops a0.tmps.size = true) (hg : noGuard ops k = true) (hds : (List.range k).map (dstOf ops) = ds) (htl : tailed ops k = true)
    (hstep : ∀ i o, ops[i]? = some o → i < k → ∀ E L w, S L w → L i = false → (∀ e ∈ o.after, Region.binds .any e = true → L e.on = true) → DueG ops (R L) a0 o E w → (∀ s, unwK ops k s = true → E (.tmp s) = a0.eval (.tmp s)) → DoesT P Q o E w (fun w' v => R (fun j => if j = i then true else L j) i w' v ∧ (∀ j u, L j = true → (∀ d, dstOf ops j = some d → E (.tmp d) = u) → R L j w u → R (fun j => if j = i then true else L j) j w' u) ∧ S (fun j => if j = i then true else L j) w'))
    (hdone : ∀ (vals : Nat → Value) L w, (∀ j, j < k → L j = true) → S L w → (∀ i, i < k → R L i w (vals i)) → wpList P ops Q (ops.toList.drop k) { a0 with tmps := setL ds vals 0 a0.tmps } w) : (Code.region id ops true).wp P Q a0 w0 := by
  unfold tailed at htl
  simp only [Bool.and_eq_true, decide_eq_true_eq] at htl
  obtain ⟨⟨hkn, hcov⟩, hch⟩ := htl
  have hchain : ∀ i, k ≤ i → i + 1 < ops.size → waitsFor ops (i + 1) i = true := fun i h1 h2 => by
    have := List.all_eq_true.1 hch i (List.mem_range.2 (by omega))
    simp only [Bool.or_eq_true, decide_eq_true_eq] at this
    rcases this with (h | h) | h
    · omega
    · omega
    · exact h
  have hcover : ∀ j, j < k → k < ops.size → ∃ i, j < i ∧ i ≤ k ∧ waitsFor ops i j = true := fun j h1 h2 => by
    have := List.all_eq_true.1 hcov j (List.mem_range.2 h1)
    simp only [Bool.or_eq_true, beq_iff_eq] at this
    rcases this with h | h
    · omega
    · obtain ⟨i, hi, h⟩ := List.any_eq_true.1 h
      simp only [Bool.and_eq_true, decide_eq_true_eq] at h
      exact ⟨i, h.1, by have := List.mem_range.1 hi; omega, h.2⟩
  have hfin : ∀ L a w, LInv ops R a0 L a w → S L w → (∀ j, j < k → L j = true) → (∀ j, k ≤ j → L j = false) → wpList P ops Q (ops.toList.drop k) a w := fun L a w hI hw hall hno => by
    have hv : ∀ i, ∃ v, i < k → R L i w v ∧ ∀ d, dstOf ops i = some d → a.tmps[d]? = some v := fun i => by
      by_cases hi : i < k
      · obtain ⟨v, h⟩ := hI.vals i (hall i hi); exact ⟨v, fun _ => h⟩
      · exact ⟨undef, fun h => absurd h hi⟩
    obtain ⟨vals, hvals⟩ := Classical.axiomOfChoice hv
    have ha : a = { a0 with tmps := setAll ops vals k a0.tmps } := by
      obtain ⟨tm, df⟩ := a
      have h1 : df = a0.defers := hI.defers
      have h2 : tm = setAll ops vals k a0.tmps := by
        refine Array.ext_getElem? fun s => ?_
        have hset := setAll_get vals hap s k a0.tmps hkn rfl
        by_cases hk : ∃ i, i < k ∧ dstOf ops i = some s
        · obtain ⟨i, hik, hi⟩ := hk
          rw [hset.2 i hik hi]
          exact (hvals i hik).2 s hi
        · rw [hset.1 fun i hi h => hk ⟨i, hi, h⟩]
          refine hI.rest s fun i hi h => ?_
          rcases Nat.lt_or_ge i k with hl | hl
          · exact hk ⟨i, hl, h⟩
          · rw [hno i hl] at hi; cases hi
      rw [h1, h2]
    rw [ha, setAll_eq, hds]
    exact hdone vals L w hall hw fun i hi => (hvals i hi).1
  refine region_invB (fun a0' B L a w => (LInv ops R a0 L a w ∧ S L w ∧ (∀ i, k ≤ i → L i = false) ∧ Closed ops L) ∨ ∃ m, k ≤ m ∧ m ≤ ops.size ∧ (∀ i, L i = decide (i < m)) ∧ wpList P ops Q (ops.toList.drop m) a w) hm hord
    (Or.inl ⟨⟨rfl, rfl, fun i h => (Bool.noConfusion h), fun k _ => rfl⟩, h0, fun _ _ => rfl, fun i o _ h => (Bool.noConfusion h)⟩) ?_ ?_
  · intro L a w hI i o ho hLi hdep
    have hio : i < ops.size := (Array.getElem?_eq_some_iff.1 ho).1
    rcases hI with ⟨hI, hSw, hno, hcl⟩ | ⟨m, hm1, hm2, hL, hwp⟩
    · by_cases hik : i < k
      · refine wpOp_mono (fun a' w' h => Or.inl ?_) (linv_step2K R hap hg hik hI ho hdep hno (S := S (fun j => if j = i then true else L j)) fun E hE hO => hstep i o ho hik E L w hSw hLi hdep hE hO)
        refine ⟨h.1, h.2, fun j hj => ?_, fun j o' ho' hj e he hb => ?_⟩
        · have hji : j ≠ i := by omega
          simp only [hji, if_false]
          exact hno j hj
        · by_cases hji : j = i
          · subst hji
            rw [ho] at ho'; cases ho'
            by_cases h2 : e.on = j
            · simp [h2]
            · simp only [h2, if_false]; exact hdep e he hb
          · simp only [hji, if_false] at hj
            by_cases h2 : e.on = i
            · simp [h2]
            · simp only [h2, if_false]; exact hcl j o' ho' hj e he hb
      · have hik' : i = k := by
          rcases Nat.lt_or_ge k i with h | h
          · have := waits_done (L := L) (hchain (i - 1) (by omega) (by omega)) (by rw [show i - 1 + 1 = i by omega]; exact ho) hdep
            rw [hno (i - 1) (by omega)] at this; cases this
          · omega
        subst hik'
        have hall : ∀ d j, i - j ≤ d → j < i → L j = true := by
          intro d
          induction d with
          | zero => intro j h1 h2; omega
          | succ d ih =>
            intro j h1 h2
            obtain ⟨q, hq1, hq2, hq3⟩ := hcover j h2 hio
            by_cases hqi : q = i
            · subst hqi; exact waits_done hq3 ho hdep
            · have hq : L q = true := ih q (by omega) (by omega)
              have hqo : ops[q]? = some ops[q] := Array.getElem?_eq_getElem (by omega)
              exact waits_done hq3 hqo (hcl q _ hqo hq)
        refine wpOp_mono (fun a' w' h => Or.inr ⟨i + 1, by omega, by omega, fun j => ?_, h⟩) (wpList_to_op ho (hfin L a w hI hSw (fun j hj => hall _ j (Nat.le_refl _) hj) hno))
        by_cases hji : j = i
        · subst hji; simp
        · simp only [hji, if_false]
          rcases Nat.lt_or_ge j i with h1 | h1
          · rw [hall _ j (Nat.le_refl _) h1]; simp; omega
          · rw [hno j h1]; simp; omega
    · have him : i = m := by
        have h1 : ¬ i < m := fun h => by rw [hL i] at hLi; simp [h] at hLi
        rcases Nat.lt_or_ge m i with h | h
        · have := waits_done (L := L) (hchain (i - 1) (by omega) (by omega)) (by rw [show i - 1 + 1 = i by omega]; exact ho) hdep
          rw [hL (i - 1)] at this
          simp at this; omega
        · omega
      subst him
      refine wpOp_mono (fun a' w' h => Or.inr ⟨i + 1, by omega, by omega, fun j => ?_, h⟩) (wpList_to_op ho hwp)
      by_cases hji : j = i
      · subst hji; simp
      · simp only [hji, if_false]
        rw [hL j]
        rcases Nat.lt_or_ge j i with h1 | h1
        · simp [h1]; omega
        · simp; omega
  · intro L a w hall hI
    rcases hI with ⟨hI, hSw, hno, hcl⟩ | ⟨m, hm1, hm2, hL, hwp⟩
    · have hk : k = ops.size := by
        rcases Nat.lt_or_ge k ops.size with h | h
        · have := hall k h; rw [hno k (Nat.le_refl _)] at this; cases this
        · omega
      have := hfin L a w hI hSw (fun j hj => hall j (by omega)) hno
      rw [hk, ← Array.length_toList, List.drop_length] at this
      exact this
    · have hk : m = ops.size := by
        rcases Nat.lt_or_ge m ops.size with h | h
        · have := hall m h; rw [hL m] at this; simp at this
        · omega
      rw [hk, ← Array.length_toList, List.drop_length] at hwp
      exact hwp
end

end Go.Proofs.Yteeianandjokaaa.wk
