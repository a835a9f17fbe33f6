/- Joined: Bz Da Db. -/
import Derived.Test.YtmnpmjioahnjoaaG12

import Derived.OpenShut

import Derived.Maps.AppendAt
/- Boxes, plainly: what Of, Join and Meet give. No program here. -/
namespace Go.Proofs.Ytmnpmjioahnjoaa.bq

open Go.Proofs.Ytmnpmjioahnjoaa Go.Proofs.Ytmnpmjioahnjoaa.bk

set_option linter.unusedVariables false
theorem mins_at {a b : List Int} {i : Nat} (h : i < a.length) : at' (mins a b) i = min (at' a i) (at' b i) := map_at _ _ h
theorem maxs_at {a b : List Int} {i : Nat} (h : i < a.length) : at' (maxs a b) i = max (at' a i) (at' b i) := map_at _ _ h
theorem mins_length (a b : List Int) : (mins a b).length = a.length := by simp [mins]
theorem maxs_length (a b : List Int) : (maxs a b).length = a.length := by simp [maxs]
theorem mins_comm {a b : List Int} (h : a.length = b.length) : mins a b = mins b a := map_congr' h fun i _ => Int.min_comm _ _
theorem maxs_comm {a b : List Int} (h : a.length = b.length) : maxs a b = maxs b a := map_congr' h fun i _ => Int.max_comm _ _
theorem box_bd {p : Pair} (h : IsBox p) {i : Nat} (hi : i < p.1.length) : -1000 ≤ at' p.1 i ∧ at' p.1 i ≤ at' p.2 i ∧ at' p.2 i ≤ 1000 := by
  have h1 := vec_at h.lo hi
  have h2 := vec_at h.hi (i := i) (by have := h.len; omega)
  have h3 := h.le i hi
  omega
theorem box_of {a b : List Int} (h1 : 1 ≤ a.length) (h2 : a.length ≤ 32) (hl : a.length = b.length) (h : ∀ i, i < a.length → -1000 ≤ at' a i ∧ at' a i ≤ at' b i ∧ at' b i ≤ 1000) : IsBox (a, b) := by
  have ha : vq.Vec a := vec_of h1 h2 fun i hi => by have := h i hi; omega
  have hb : vq.Vec b := vec_of (by omega) (by omega) fun i hi => by have := h i (by omega); omega
  exact ⟨ha, hb, hl, fun i hi => (h i hi).2.1⟩
section

variable {p q : Pair}
theorem join_box (hp : IsBox p) (hq : IsBox q) (hl : p.1.length = q.1.length) : IsBox (join p q) := by
  have h1 := hp.len
  refine box_of (by rw [mins_length]; exact hp.lo.pos) (by rw [mins_length]; exact hp.lo.le) (by rw [mins_length, maxs_length]; exact h1) fun i hi => ?_
  rw [mins_length] at hi
  rw [mins_at hi, maxs_at (by omega)]
  have := box_bd hp hi
  have := box_bd hq (i := i) (by omega)
  omega
theorem join_comm (hp : IsBox p) (hq : IsBox q) (hl : p.1.length = q.1.length) : join p q = join q p := by
  unfold join
  rw [mins_comm hl, maxs_comm (by have := hp.len; have := hq.len; omega)]
theorem meet_comm (hp : IsBox p) (hq : IsBox q) (hl : p.1.length = q.1.length) : meet p q = meet q p := by
  unfold meet
  rw [maxs_comm hl, mins_comm (by have := hp.len; have := hq.len; omega)]
theorem has_join (hp : IsBox p) (hq : IsBox q) (hl : p.1.length = q.1.length) {v : List Int} (h : has p v = true ∨ has q v = true) : has (join p q) v = true := by
  have h1 := hp.len
  refine (has_iff (join_box hp hq hl)).2 ?_
  show v.length = (mins p.1 q.1).length ∧ _
  rw [mins_length]
  rcases h with h | h
  · obtain ⟨hv, hb⟩ := (has_iff hp).1 h
    refine ⟨hv, fun i hi => ?_⟩
    have hi : i < p.1.length := by rw [← mins_length p.1 q.1]; exact hi
    show at' (mins p.1 q.1) i ≤ _ ∧ _ ≤ at' (maxs p.2 q.2) i
    rw [mins_at hi, maxs_at (by omega)]
    have := hb i hi
    omega
  · obtain ⟨hv, hb⟩ := (has_iff hq).1 h
    refine ⟨by omega, fun i hi => ?_⟩
    have hi : i < p.1.length := by rw [← mins_length p.1 q.1]; exact hi
    show at' (mins p.1 q.1) i ≤ _ ∧ _ ≤ at' (maxs p.2 q.2) i
    rw [mins_at hi, maxs_at (by omega)]
    have := hb i (by omega)
    omega
theorem in_join (hp : IsBox p) (hq : IsBox q) (hl : p.1.length = q.1.length) : inside p (join p q) = true ∧ inside q (join p q) = true := by
  have h1 := hp.len
  have h2 := hq.len
  have hj := join_box hp hq hl
  simp only [inside, Bool.and_eq_true, balike_iff, le_iff]
  refine ⟨⟨⟨⟨(mins_length _ _).symm, hp, hj⟩, fun i hi => ?_⟩, fun i hi => ?_⟩, ⟨⟨⟨?_, hq, hj⟩, fun i hi => ?_⟩, fun i hi => ?_⟩⟩
  · have hi : i < p.1.length := by rw [← mins_length p.1 q.1]; exact hi
    show at' (mins p.1 q.1) i ≤ _
    rw [mins_at hi]; omega
  · show _ ≤ at' (maxs p.2 q.2) i
    rw [maxs_at hi]; omega
  · show _ = (mins p.1 q.1).length
    rw [mins_length]; exact hl.symm
  · have hi : i < p.1.length := by rw [← mins_length p.1 q.1]; exact hi
    show at' (mins p.1 q.1) i ≤ _
    rw [mins_at hi]; omega
  · show _ ≤ at' (maxs p.2 q.2) i
    rw [maxs_at (by omega)]; omega
theorem meet_at (hp : IsBox p) {i : Nat} (hi : i < p.1.length) : at' (meet p q).1 i = max (at' p.1 i) (at' q.1 i) ∧ at' (meet p q).2 i = min (at' p.2 i) (at' q.2 i) :=
  ⟨maxs_at hi, mins_at (by have := hp.len; omega)⟩
theorem meet_length : (meet p q).1.length = p.1.length := maxs_length _ _
theorem in_meet (hp : IsBox p) (hq : IsBox q) (hl : p.1.length = q.1.length) (hm : bvalid (meet p q) = true) : inside (meet p q) p = true ∧ inside (meet p q) q = true := by
  have h1 := hp.len
  have h2 := hq.len
  have hj := bvalid_iff.1 hm
  have hj2 : (meet p q).2.length = p.1.length := by rw [← hj.len]; exact meet_length
  simp only [inside, Bool.and_eq_true, balike_iff, le_iff]
  refine ⟨⟨⟨⟨meet_length, hj, hp⟩, fun i hi => ?_⟩, fun i hi => ?_⟩, ⟨⟨⟨meet_length.trans hl, hj, hq⟩, fun i hi => ?_⟩, fun i hi => ?_⟩⟩
  · rw [(meet_at hp hi).1]; omega
  · rw [(meet_at hp (i := i) (by omega)).2]; omega
  · rw [(meet_at hp (i := i) (by omega)).1]; omega
  · rw [(meet_at hp (i := i) (by omega)).2]; omega
theorem has_meet (hp : IsBox p) (hq : IsBox q) (hl : p.1.length = q.1.length) {v : List Int} (hv : has p v = true) : has q v = (bvalid (meet p q) && has (meet p q) v) := by
  obtain ⟨hl1, hb1⟩ := (has_iff hp).1 hv
  have hlen := hp.len
  cases hm : bvalid (meet p q)
  · rw [Bool.false_and]
    cases hh : has q v
    · rfl
    · exfalso
      obtain ⟨_, hb2⟩ := (has_iff hq).1 hh
      have : IsBox (meet p q) := by
        refine box_of (by rw [maxs_length]; exact hp.lo.pos) (by rw [maxs_length]; exact hp.lo.le) (by rw [maxs_length, mins_length]; exact hlen) fun i hi => ?_
        rw [maxs_length] at hi
        rw [maxs_at hi, mins_at (by omega)]
        have := box_bd hp hi
        have := box_bd hq (i := i) (by omega)
        have := hb1 i hi
        have := hb2 i (by omega)
        omega
      rw [bvalid_iff.2 this] at hm
      cases hm
  · rw [Bool.true_and]
    have hj := bvalid_iff.1 hm
    rw [Bool.eq_iff_iff, has_iff hq, has_iff hj, meet_length]
    constructor
    · rintro ⟨h3, h4⟩
      refine ⟨hl1, fun i hi => ?_⟩
      rw [(meet_at hp hi).1, (meet_at hp hi).2]
      have := hb1 i hi
      have := h4 i (by omega)
      omega
    · rintro ⟨h3, h4⟩
      refine ⟨by omega, fun i hi => ?_⟩
      have h5 := h4 i (by omega)
      rw [(meet_at hp (i := i) (by omega)).1, (meet_at hp (i := i) (by omega)).2] at h5
      omega
end
/-- the box of some vectors -/
structure BoxOf (S : List (List Int)) (p : Pair) : Prop where
  box : IsBox p
  all : ∀ v ∈ S, has p v = true
  lo : ∀ k, k < p.1.length → ∃ v ∈ S, at' v k = at' p.1 k
  hi : ∀ k, k < p.1.length → ∃ v ∈ S, at' v k = at' p.2 k
theorem point_box {v : List Int} (h : vq.Vec v) : IsBox (v, v) := ⟨h, h, rfl, fun i _ => Int.le_refl _⟩
theorem has_point {v : List Int} (h : vq.Vec v) : has (v, v) v = true := (has_iff (point_box h)).2 ⟨rfl, fun i _ => ⟨Int.le_refl _, Int.le_refl _⟩⟩
theorem BoxOf.step {S : List (List Int)} {p q : Pair} {v : List Int} (h : BoxOf S p) (e : ofS (some p) v = some q) : BoxOf (S ++ [v]) q := by
  have hb : balike p (v, v) = true := by
    cases hh : balike p (v, v)
    · simp [ofS, hh] at e
    · rfl
  obtain rfl : join p (v, v) = q := by simpa [ofS, hb] using e
  obtain ⟨hl, hp, hv⟩ := balike_iff.1 hb
  have hlen := hp.len
  have hl' : p.1.length = v.length := hl
  refine ⟨join_box hp hv hl, fun u hu => ?_, fun k hk => ?_, fun k hk => ?_⟩
  · rcases List.mem_append.1 hu with hu | hu
    · exact has_join hp hv hl (.inl (h.all u hu))
    · obtain rfl : u = v := by simpa using hu
      exact has_join hp hv hl (.inr (has_point hv.lo))
  · have hk' : k < p.1.length := by rw [← mins_length p.1 v]; exact hk
    have e1 : at' (join p (v, v)).1 k = min (at' p.1 k) (at' v k) := mins_at hk'
    rw [e1]
    by_cases hc : at' p.1 k ≤ at' v k
    · obtain ⟨u, hu, hu2⟩ := h.lo k hk'
      exact ⟨u, List.mem_append_left _ hu, by omega⟩
    · exact ⟨v, by simp, by omega⟩
  · have hk' : k < p.1.length := by rw [← mins_length p.1 v]; exact hk
    have e1 : at' (join p (v, v)).2 k = max (at' p.2 k) (at' v k) := maxs_at (by omega)
    rw [e1]
    by_cases hc : at' v k ≤ at' p.2 k
    · obtain ⟨u, hu, hu2⟩ := h.hi k hk'
      exact ⟨u, List.mem_append_left _ hu, by omega⟩
    · exact ⟨v, by simp, by omega⟩
theorem boxOf_fold : ∀ (T S : List (List Int)) (p q : Pair), BoxOf S p → T.foldl ofS (some p) = some q → BoxOf (S ++ T) q
  | [], S, p, q, h, e => by
    simp only [List.foldl_nil, Option.some.injEq] at e
    subst e
    simpa using h
  | v :: T, S, p, q, h, e => by
    rw [List.foldl_cons] at e
    cases hs : ofS (some p) v with
    | none => rw [hs, ofS_none] at e; cases e
    | some r =>
      rw [hs] at e
      have := boxOf_fold T (S ++ [v]) r q (h.step hs) e
      simpa using this
theorem boxOf {L : List (List Int)} {p : Pair} (h : ofL L = some p) : BoxOf L p := by
  cases L with
  | nil => cases h
  | cons l T =>
    have h : (l :: T).foldl ofS (some (l, l)) = some p := h
    rw [List.foldl_cons] at h
    cases hs : ofS (some (l, l)) l with
    | none => rw [hs, ofS_none] at h; cases h
    | some r =>
      rw [hs] at h
      have hb : balike (l, l) (l, l) = true := by
        cases hh : balike (l, l) (l, l)
        · simp [ofS, hh] at hs
        · rfl
      obtain ⟨_, hp, _⟩ := balike_iff.1 hb
      have h0 : BoxOf [l] (l, l) := ⟨hp, fun v hv => by rw [show v = l by simpa using hv]; exact has_point hp.lo, fun k _ => ⟨l, by simp, rfl⟩, fun k _ => ⟨l, by simp, rfl⟩⟩
      obtain rfl : join (l, l) (l, l) = r := by simpa [ofS, hb] using hs
      have e1 : join (l, l) (l, l) = (l, l) := by
        unfold join
        have a1 : mins l l = l := ext_at (mins_length _ _) fun i hi => by rw [mins_length] at hi; rw [mins_at hi]; omega
        have a2 : maxs l l = l := ext_at (maxs_length _ _) fun i hi => by rw [maxs_length] at hi; rw [maxs_at hi]; omega
        simp only [a1, a2]
      rw [e1] at h
      simpa using boxOf_fold T [l] (l, l) p h0 h
end Go.Proofs.Ytmnpmjioahnjoaa.bq

namespace Go.Proofs.Ytmnpmjioahnjoaa.bk

open Go.ChangeShapes Go.WideShapes Go.ChangeAt Go.RowKit

open Go.Proofs.Ytmnpmjioahnjoaa.bq Go.Proofs.Ytmnpmjioahnjoaa.vk Go.Proofs.Ytmnpmjioahnjoaa.wk

set_option linter.unusedVariables false
def shortB (L : List (List Int)) : Bool := L.all (fun l => decide (l.length ≤ 40)) && decide (L.length ≤ 20)
set_option maxRecDepth 100000 in
set_option maxHeartbeats 4000000 in
theorem short_calls (A : Option Addr) (n c : Nat) (L : List (List Int)) (w : World) (h : IsVV w A n c L) :
    Calls Try.prog 5 #[.slice A n c] w fun e w' => e = .returned (.bool (shortB L)) ∧ w' = w := by
  have H := Lib.hid h
  have hm := h.2.2.1
  have hnc := h.2.1
  obtain ⟨R, hR⟩ : ∃ R, shortB L = R := ⟨_, rfl⟩
  rw [hR]
  have HR := Lib.hid hR
  clear h hR
  go_enter Try.func5, Try.ntmps5
  go_wp2_with fail
  go_loopg [3] n (fun g x wr => ∃ k : Nat, k + g = n ∧ x = .int .i64 (k : Int) ∧ wr = w ∧ (L.take k).all (fun l => decide (l.length ≤ 40)) = true)
  case atStart => exact ⟨0, by omega, rfl, rfl, by simp⟩
  case round =>
    obtain ⟨k, hk, rfl, rfl, hr⟩ := hrel
    have HK := Lib.hid hk
    have HT := Lib.hid hr
    have hkn : k ≤ n := by omega
    clear hk hr
    by_cases hlt : k < n
    · obtain ⟨b, o, A1, n1, c1, l1, rfl, hb1, hc1, hI1, hL1⟩ := isVV_get H.out hlt
      have hl1 := hI1.1
      have hm1 := hI1.2.2.1
      have hnc1 := hI1.2.1
      have hlt' : (k : Int) < (n : Int) := by omega
      by_cases h40 : 40 < n1
      · have hf : R = false := by
          rw [← HR.out, shortB]
          have : L.all (fun l => decide (l.length ≤ 40)) = false := by
            rw [Bool.eq_false_iff]
            intro hh
            have := List.all_eq_true.1 hh l1 (List.mem_of_getElem? hL1)
            simp at this; omega
          rw [this]; rfl
        subst hf
        clear hL1 hI1 hl1
        have h40' : (40 : Int) < (n1 : Int) := by omega
        go_wp2_with fail
        go_ret
        exact ⟨rfl, rfl⟩
      · have ht : Hid ((L.take (k + 1)).all (fun l => decide (l.length ≤ 40)) = true) := by
          show _ = _
          rw [List.take_add_one, hL1, Option.toList_some, List.all_append, HT.out]
          simp; omega
        clear hL1 hI1 hl1
        have h40' : ¬ (40 : Int) < (n1 : Int) := by omega
        go_wp2_with fail
        go_roundg (gk - 1)
        case measure => have := HK.out; omega
        case rel => exact ⟨k + 1, by have := HK.out; omega, by go_num, rfl, ht.out⟩
    · obtain rfl : k = n := by omega
      have he : R = decide ((k : Int) ≤ 20) := by
        have hall := HT.out
        rw [List.take_of_length_le (Nat.le_of_eq H.out.1)] at hall
        rw [← HR.out, shortB, hall, Bool.true_and, H.out.1]
        simp
        omega
      subst he
      go_wp2_with fail
      go_ret
      exact ⟨rfl, rfl⟩
end Go.Proofs.Ytmnpmjioahnjoaa.bk

namespace Go.Proofs.Ytmnpmjioahnjoaa.vk

open Go Go.ChangeShapes Go.WideShapes Go.ChangeAt Go.RowKit

set_option linter.unusedVariables false

section

variable {H : Type} {enc : TypeId × Value → H} {P : Program} {w : World} {base : Nat} {spare : Nat → Bool} {held : Bool} {t e e0 : TypeId} {a : Option Addr} {n c fuel : Nat} {x : DataW H × List MemPlace}
theorem openVV (ht : P.underlying t = some (.slice e)) (he : P.underlying e = some (.slice e0)) (he0 : P.underlying e0 = some (.int .i64)) (hc : P.cellsOf e = 1) (hc0 : P.cellsOf e0 = 1)
    (h : DataW.trod enc P w base spare held fuel t [.slice a n c] = some x) : ∃ L, IsVV w a n c L := by
  rcases DataW.trod_slice ht h with ⟨hcs, _⟩ | ⟨ad, len, cap, elems, rest, m, _, hcs, _, hb, hl, hm, hlen, hel, _⟩
  · simp only [List.cons.injEq, Value.slice.injEq, and_true] at hcs
    obtain ⟨rfl, rfl, rfl⟩ := hcs
    exact ⟨[], rfl, Nat.le_refl _, by omega, fun k l hk => by simp at hk⟩
  · simp only [List.cons.injEq, Value.slice.injEq, and_true] at hcs
    obtain ⟨rfl, rfl, rfl⟩ := hcs
    rw [hc] at hel
    have hone : ∀ i, i < n → ∃ l : List Int, ∃ A' n' c', w.cell? (ad.add i) = some (.slice A' n' c') ∧ wo.IsI w A' n' c' l := fun i hi => by
      have hi' := hel i hi
      rw [List.getElem?_eq_getElem (by omega), Nat.mul_one] at hi'
      cases hcc : w.cells? base (ad.add i) 1 with
      | none => rw [hcc] at hi'; simp at hi'
      | some cs =>
        rw [hcc] at hi'
        simp only [Option.bind_some] at hi'
        obtain ⟨hlen1, _, hcell⟩ := World.cells?_some hcc
        have h0 := hcell 0 (by omega)
        have hadd : (ad.add i).add 0 = ad.add i := by unfold Addr.add; simp
        rw [hadd] at h0
        rcases DataW.trod_slice he hi' with ⟨hcs, _⟩ | ⟨ad', len', cap', _, _, _, _, hcs, _⟩
        · subst hcs
          obtain ⟨l, hI⟩ := wo.openI he he0 hc0 hi'
          exact ⟨l, _, _, _, by simpa using h0, hI⟩
        · subst hcs
          obtain ⟨l, hI⟩ := wo.openI he he0 hc0 hi'
          exact ⟨l, _, _, _, by simpa using h0, hI⟩
    obtain ⟨L, hLl, hLq⟩ := wo.exists_list n hone
    refine ⟨L, hLl, hl, by unfold maxLen at hm; omega, fun k l hk => ?_⟩
    have hkn : k < n := by
      rcases Nat.lt_or_ge k n with h' | h'
      · exact h'
      · rw [List.getElem?_eq_none (by omega)] at hk; cases hk
    obtain ⟨A', n', c', hcell, hI⟩ := hLq k l hk
    obtain ⟨A0, m0, k0, hc00, _⟩ := (hone 0 (by omega)).choose_spec
    obtain ⟨b, o, rfl⟩ := wo.at_plain hc00
    have hlt := block_lt_of_cell hcell
    rw [wk.add_at] at hcell hlt
    exact ⟨b, o, A', n', c', rfl, hlt, hcell, hI⟩
end

end Go.Proofs.Ytmnpmjioahnjoaa.vk
/- Of of many vectors, column by column: mathematics. No program here. -/
namespace Go.Proofs.Ytmnpmjioahnjoaa.bq

set_option linter.unusedVariables false
def colLo (L : List (List Int)) (k : Nat) : Int := L.foldl (fun s l => min s (at' l k)) (at' (L.headD []) k)
def colHi (L : List (List Int)) (k : Nat) : Int := L.foldl (fun s l => max s (at' l k)) (at' (L.headD []) k)
def okV (n : Nat) (l : List Int) : Bool := vq.valid l && decide (l.length = n)
def okL (L : List (List Int)) : Bool := L.all (okV (L.headD []).length) && decide (1 ≤ L.length)
def boxL (L : List (List Int)) : Pair := ((List.range (L.headD []).length).map (colLo L), (List.range (L.headD []).length).map (colHi L))
theorem foldl_mins_length : ∀ (M : List (List Int)) (a : List Int), (M.foldl mins a).length = a.length
  | [], a => rfl
  | v :: M, a => by rw [List.foldl_cons, foldl_mins_length M, mins_length]
theorem foldl_maxs_length : ∀ (M : List (List Int)) (a : List Int), (M.foldl maxs a).length = a.length
  | [], a => rfl
  | v :: M, a => by rw [List.foldl_cons, foldl_maxs_length M, maxs_length]
theorem foldl_mins_at : ∀ (M : List (List Int)) (a : List Int) (k : Nat), k < a.length → at' (M.foldl mins a) k = M.foldl (fun s l => min s (at' l k)) (at' a k)
  | [], a, k, h => rfl
  | v :: M, a, k, h => by
    rw [List.foldl_cons, List.foldl_cons, foldl_mins_at M _ k (by rw [mins_length]; exact h), mins_at h]
theorem foldl_maxs_at : ∀ (M : List (List Int)) (a : List Int) (k : Nat), k < a.length → at' (M.foldl maxs a) k = M.foldl (fun s l => max s (at' l k)) (at' a k)
  | [], a, k, h => rfl
  | v :: M, a, k, h => by
    rw [List.foldl_cons, List.foldl_cons, foldl_maxs_at M _ k (by rw [maxs_length]; exact h), maxs_at h]
theorem ext_at2 {a : List Int} {f : Nat → Int} (h : ∀ k, k < a.length → at' a k = f k) : a = (List.range a.length).map f := by
  apply List.ext_getElem (by simp)
  intro i h1 h2
  have := h i h1
  simp only [at', List.getD_eq_getElem?_getD, List.getElem?_eq_getElem h1, Option.getD_some] at this
  simp [this]
theorem balike_point {p : Pair} (hp : IsBox p) (v : List Int) : balike p (v, v) = okV p.1.length v := by
  rw [Bool.eq_iff_iff, balike_iff]
  unfold okV
  simp only [Bool.and_eq_true, decide_eq_true_eq]
  constructor
  · rintro ⟨h1, -, h3⟩
    exact ⟨vq.valid_iff.2 h3.lo, h1.symm⟩
  · rintro ⟨h1, h2⟩
    exact ⟨h2.symm, hp, point_box (vq.valid_iff.1 h1)⟩
theorem foldl_ofS : ∀ (M : List (List Int)) (p : Pair), IsBox p → M.foldl ofS (some p) = if M.all (okV p.1.length) then some (M.foldl mins p.1, M.foldl maxs p.2) else none
  | [], p, h => rfl
  | v :: M, p, h => by
    rw [List.foldl_cons, List.foldl_cons, List.foldl_cons, List.all_cons]
    have e : ofS (some p) v = if okV p.1.length v then some (join p (v, v)) else none := by
      show (if balike p (v, v) then some (join p (v, v)) else none) = _
      rw [balike_point h]
    rw [e]
    cases hv : okV p.1.length v
    · simp only [Bool.false_eq_true, if_false, Bool.false_and]
      exact ofS_none M
    · simp only [if_true, Bool.true_and]
      unfold okV at hv
      simp only [Bool.and_eq_true, decide_eq_true_eq] at hv
      have hj := join_box h (point_box (vq.valid_iff.1 hv.1)) (q := (v, v)) hv.2.symm
      rw [foldl_ofS M _ hj]
      have e2 : (join p (v, v)).1.length = p.1.length := mins_length _ _
      rw [e2]
      rfl
theorem ofL_eq (L : List (List Int)) : ofL L = if okL L then some (boxL L) else none := by
  cases L with
  | nil => rfl
  | cons l T =>
    have hh : (l :: T).headD [] = l := rfl
    show (l :: T).foldl ofS (some (l, l)) = _
    cases hv : vq.valid l
    · have e1 : okL (l :: T) = false := by unfold okL okV; rw [List.all_cons, hh, hv]; rfl
      rw [e1, List.foldl_cons]
      have e2 : ofS (some (l, l)) l = none := by
        show (if balike (l, l) (l, l) then some (join (l, l) (l, l)) else none) = none
        have : balike (l, l) (l, l) = false := by
          cases hb : balike (l, l) (l, l)
          · rfl
          · have := (balike_iff.1 hb).2.1.lo
            rw [vq.valid_iff.2 this] at hv; cases hv
        rw [this]; rfl
      rw [e2]; exact ofS_none T
    · have hp : IsBox (l, l) := point_box (vq.valid_iff.1 hv)
      rw [foldl_ofS _ _ hp]
      have e1 : okL (l :: T) = (l :: T).all (okV l.length) := by
        unfold okL
        rw [hh, show decide (1 ≤ (l :: T).length) = true from decide_eq_true (by simp), Bool.and_true]
      rw [e1]
      have e3 : ((l :: T).foldl mins l, (l :: T).foldl maxs l) = boxL (l :: T) := by
        unfold boxL
        rw [hh]
        have a1 := ext_at2 (a := (l :: T).foldl mins l) (f := colLo (l :: T)) (fun k hk => by rw [foldl_mins_length] at hk; exact foldl_mins_at _ _ _ hk)
        have a2 := ext_at2 (a := (l :: T).foldl maxs l) (f := colHi (l :: T)) (fun k hk => by rw [foldl_maxs_length] at hk; exact foldl_maxs_at _ _ _ hk)
        rw [foldl_mins_length] at a1
        rw [foldl_maxs_length] at a2
        rw [a1, a2]
      simp only [e3]
theorem ofL_join {p q : Pair} (h : balike p q = true) : ofL [p.1, p.2, q.1, q.2] = some (join p q) := by
  obtain ⟨hl, hp, hq⟩ := balike_iff.1 h
  have hpl := hp.len
  have hql := hq.len
  rw [ofL_eq]
  have ov : ∀ l : List Int, vq.Vec l → l.length = p.1.length → okV p.1.length l = true := fun l h1 h2 => by
    unfold okV
    rw [vq.valid_iff.2 h1, Bool.true_and, decide_eq_true_eq]
    exact h2
  have e1 : okL [p.1, p.2, q.1, q.2] = true := by
    show ((okV p.1.length p.1 && (okV p.1.length p.2 && (okV p.1.length q.1 && (okV p.1.length q.2 && true)))) && true) = true
    rw [ov _ hp.lo rfl, ov _ hp.hi (by omega), ov _ hq.lo (by omega), ov _ hq.hi (by omega)]
    rfl
  rw [e1, if_pos rfl]
  congr 1
  unfold boxL join
  have b1 : mins p.1 q.1 = (List.range p.1.length).map (colLo [p.1, p.2, q.1, q.2]) := by
    have := ext_at2 (a := mins p.1 q.1) (f := colLo [p.1, p.2, q.1, q.2]) (fun k hk => by
      rw [mins_length] at hk
      rw [mins_at hk]
      have h1 := box_bd hp hk
      have h2 := box_bd hq (i := k) (by omega)
      unfold colLo
      simp only [List.foldl_cons, List.foldl_nil, List.headD_cons]
      omega)
    rw [mins_length] at this; exact this
  have b2 : maxs p.2 q.2 = (List.range p.1.length).map (colHi [p.1, p.2, q.1, q.2]) := by
    have := ext_at2 (a := maxs p.2 q.2) (f := colHi [p.1, p.2, q.1, q.2]) (fun k hk => by
      rw [maxs_length] at hk
      rw [maxs_at hk]
      have h1 := box_bd hp (i := k) (by omega)
      have h2 := box_bd hq (i := k) (by omega)
      unfold colHi
      simp only [List.foldl_cons, List.foldl_nil, List.headD_cons]
      omega)
    rw [maxs_length, ← hpl] at this; exact this
  rw [b1, b2]
  rfl
def ofF (L : List (List Int)) : Pair × Bool × Int := match ofL L with
  | some p => (p, true, 0)
  | none => (([], []), false, 1)
def joinF (p q : Pair) : Pair × Bool × Int := if balike p q then (join p q, true, 0) else (([], []), false, 1)
theorem ofF_ok {L : List (List Int)} (h : okL L = true) : ofF L = (boxL L, true, 0) := by unfold ofF; rw [ofL_eq, if_pos h]
theorem ofF_not {L : List (List Int)} (h : okL L = false) : ofF L = (([], []), false, 1) := by unfold ofF; rw [ofL_eq, if_neg (by simp [h])]
theorem ofF_join {p q : Pair} (h : balike p q = true) : ofF [p.1, p.2, q.1, q.2] = joinF p q := by
  unfold ofF joinF
  rw [ofL_join h, if_pos h]
theorem boxL_box {L : List (List Int)} (h : okL L = true) : IsBox (boxL L) := (boxOf (L := L) (p := boxL L) (by rw [ofL_eq, if_pos h])).box
theorem vec_bd {l : List Int} (h : vq.Vec l) : ∀ x ∈ l, -9223372036854775808 ≤ x ∧ x ≤ 9223372036854775807 := fun x hx => by
  have h1 := h.lo x hx
  have h2 := h.hi x hx
  omega
theorem okL_row {L : List (List Int)} (h : okL L = true) {k : Nat} {l : List Int} (hk : L[k]? = some l) : l.length = (L.headD []).length := by
  unfold okL at h
  simp only [Bool.and_eq_true, List.all_eq_true] at h
  have := h.1 l (List.mem_of_getElem? hk)
  unfold okV at this
  simp only [Bool.and_eq_true, decide_eq_true_eq] at this
  exact this.2
theorem headD_of {L : List (List Int)} {l : List Int} (h : L[0]? = some l) : L.headD [] = l := by
  cases L with
  | nil => cases h
  | cons a T => simpa using h
theorem okL_bad {L : List (List Int)} {k : Nat} {l : List Int} (hk : L[k]? = some l) (h : okV (L.headD []).length l = false) : okL L = false := by
  cases hh : okL L
  · rfl
  · unfold okL at hh
    simp only [Bool.and_eq_true, List.all_eq_true] at hh
    rw [hh.1 l (List.mem_of_getElem? hk)] at h
    cases h
theorem okL_all {L : List (List Int)} {n : Nat} (hn : L.length = n) (h1 : 0 < n) (h : (L.take n).all (okV (L.headD []).length) = true) : okL L = true := by
  unfold okL
  rw [List.take_of_length_le (Nat.le_of_eq hn)] at h
  rw [h, Bool.true_and, decide_eq_true_eq]
  omega
theorem colLo_snoc (L : List (List Int)) (k : Nat) {j : Nat} {l : List Int} (hj : L[j]? = some l) (a : Int) : (L.take (j + 1)).foldl (fun s l => min s (at' l k)) a = min ((L.take j).foldl (fun s l => min s (at' l k)) a) (at' l k) := by
  rw [vq.take_snoc hj, List.foldl_append]; rfl
theorem colHi_snoc (L : List (List Int)) (k : Nat) {j : Nat} {l : List Int} (hj : L[j]? = some l) (a : Int) : (L.take (j + 1)).foldl (fun s l => max s (at' l k)) a = max ((L.take j).foldl (fun s l => max s (at' l k)) a) (at' l k) := by
  rw [vq.take_snoc hj, List.foldl_append]; rfl
end Go.Proofs.Ytmnpmjioahnjoaa.bq
/- A result of four cells; two rows that grow in a box. -/
namespace Go.Proofs.Ytmnpmjioahnjoaa.bk

open Go.ChangeShapes Go.WideShapes Go.ChangeAt Go.RowKit

open Go.Proofs.Ytmnpmjioahnjoaa.bq Go.Proofs.Ytmnpmjioahnjoaa.vk Go.Proofs.Ytmnpmjioahnjoaa.wk

set_option linter.unusedVariables false
def FourX (w : World) (g : Nat) (a b c d : Value) : Prop := w.heap[g]? = some (.cells #[a, b, c, d] 36 (0, 0))
theorem FourX.lt {w : World} {g : Nat} {a b c d : Value} (h : FourX w g a b c d) : g < w.heap.size := (Array.getElem?_eq_some_iff.1 h).1
theorem FourX.belowB {w w' : World} {g B : Nat} {a b c d : Value} (h : FourX w g a b c d) (hb : Below B w w') (hg : g < B) : FourX w' g a b c d := (hb.block g hg).trans h
theorem FourX.below {w w' : World} {g : Nat} {a b c d : Value} (h : FourX w g a b c d) (hb : Below w.heap.size w w') : FourX w' g a b c d := h.belowB hb h.lt
theorem FourX.f0 {w : World} {g : Nat} {a b c d : Value} (h : FourX w g a b c d) (j : Nat) : w.frozen? ⟨g, j, none⟩ = false := frozen_of_row _ _ _ _ _ h
theorem FourX.new (w : World) (a b c d : Value) : FourX (w.alloc (.cells #[a, b, c, d] 36)) w.heap.size a b c d := heap_alloc_new w _
theorem FourX.c0 {w : World} {g : Nat} {a b c d : Value} (h : FourX w g a b c d) : w.cell? ⟨g, 0, none⟩ = some a := by rw [cell_of_row _ _ _ _ _ _ h]; rfl
theorem FourX.c1 {w : World} {g : Nat} {a b c d : Value} (h : FourX w g a b c d) : w.cell? ⟨g, 1, none⟩ = some b := by rw [cell_of_row _ _ _ _ _ _ h]; rfl
theorem FourX.c2 {w : World} {g : Nat} {a b c d : Value} (h : FourX w g a b c d) : w.cell? ⟨g, 2, none⟩ = some c := by rw [cell_of_row _ _ _ _ _ _ h]; rfl
theorem FourX.c3 {w : World} {g : Nat} {a b c d : Value} (h : FourX w g a b c d) : w.cell? ⟨g, 3, none⟩ = some d := by rw [cell_of_row _ _ _ _ _ _ h]; rfl
theorem FourX.set {w : World} {g : Nat} {a b c d : Value} (h : FourX w g a b c d) (x y z u : Value) : FourX ((((w.setCell ⟨g, 0, none⟩ x).setCell ⟨g, 1, none⟩ y).setCell ⟨g, 2, none⟩ z).setCell ⟨g, 3, none⟩ u) g x y z u := by
  have h1 := heap_setCell_same w g 0 #[a, b, c, d] 36 x h
  have h2 := heap_setCell_same (w.setCell ⟨g, 0, none⟩ x) g 1 _ 36 y h1
  have h3 := heap_setCell_same _ g 2 _ 36 z h2
  have h4 := heap_setCell_same _ g 3 _ 36 u h3
  exact h4
theorem below_set4 {n g : Nat} {w0 w : World} (h : Below n w0 w) (hg : n ≤ g) (x y z u : Value) : Below n w0 ((((w.setCell ⟨g, 0, none⟩ x).setCell ⟨g, 1, none⟩ y).setCell ⟨g, 2, none⟩ z).setCell ⟨g, 3, none⟩ u) :=
  (((h.setCell (p := ⟨g, 0, none⟩) hg _).setCell (p := ⟨g, 1, none⟩) hg _).setCell (p := ⟨g, 2, none⟩) hg _).setCell (p := ⟨g, 3, none⟩) hg _
theorem set4_other (w : World) (g : Nat) (x y z u : Value) (k : Nat) (hk : k ≠ g) : ((((w.setCell ⟨g, 0, none⟩ x).setCell ⟨g, 1, none⟩ y).setCell ⟨g, 2, none⟩ z).setCell ⟨g, 3, none⟩ u).heap[k]? = w.heap[k]? :=
  (Below.heap_setCell _ _ _ _ hk).trans ((Below.heap_setCell _ _ _ _ hk).trans ((Below.heap_setCell _ _ _ _ hk).trans (Below.heap_setCell _ _ _ _ hk)))
theorem set4_size (w : World) (g : Nat) (x y z u : Value) : ((((w.setCell ⟨g, 0, none⟩ x).setCell ⟨g, 1, none⟩ y).setCell ⟨g, 2, none⟩ z).setCell ⟨g, 3, none⟩ u).heap.size = w.heap.size := by simp
/-- it lies at or behind a block -/
def Behind (lo : Nat) (A : Option Addr) : Prop := ∀ a, A = some a → lo ≤ a.block
theorem behind_none (lo : Nat) : Behind lo none := fun a h => by cases h
theorem isI_other {w w' : World} {g lo : Nat} {A : Option Addr} {n c : Nat} {l : List Int} (h : wo.IsI w A n c l) (hl : Behind lo A) (hg : g < lo) (hs : w.heap.size ≤ w'.heap.size) (hk : ∀ k, k < w.heap.size → k ≠ g → w'.heap[k]? = w.heap[k]?) : wo.IsI w' A n c l := by
  refine ⟨h.1, h.2.1, h.2.2.1, fun hp => ?_, h.2.2.2.2⟩
  obtain ⟨b, o, rfl, hb, hc⟩ := h.2.2.2.1 hp
  have hbg : b ≠ g := by
    have h2 : lo ≤ b := hl _ rfl
    omega
  exact ⟨b, o, rfl, Nat.lt_of_lt_of_le hb hs, fun j u hu => (World.cell?_of_block (hk b hb hbg)).trans (hc j u hu)⟩
theorem isI_set4 {w : World} {g lo : Nat} {A : Option Addr} {n c : Nat} {l : List Int} (h : wo.IsI w A n c l) (hl : Behind lo A) (hg : g < lo) (x y z u : Value) : wo.IsI ((((w.setCell ⟨g, 0, none⟩ x).setCell ⟨g, 1, none⟩ y).setCell ⟨g, 2, none⟩ z).setCell ⟨g, 3, none⟩ u) A n c l :=
  isI_other h hl hg (by rw [set4_size]; exact Nat.le_refl _) (fun k _ hk => set4_other w g x y z u k hk)
/-- what Of, Join and Meet of the reference give -/
def IsF (lo : Nat) (w : World) (v : Value) (r : Pair × Bool × Int) : Prop := ∃ A n c A' n' c', v = .agg #[.slice A n c, .slice A' n' c', .bool r.2.1, .int .i64 r.2.2] ∧ wo.IsI w A n c r.1.1 ∧ wo.IsI w A' n' c' r.1.2 ∧ Behind lo A ∧ Behind lo A'
theorem isI_nil (w : World) : wo.IsI w none 0 0 [] := ⟨rfl, Nat.le_refl _, by omega, fun h => absurd h (by simp), by simp⟩
theorem isF_nil (lo : Nat) (w : World) (b : Bool) (k : Int) : IsF lo w (.agg #[.slice none 0 0, .slice none 0 0, .bool b, .int .i64 k]) (([], []), b, k) :=
  ⟨_, _, _, _, _, _, rfl, isI_nil w, isI_nil w, behind_none _, behind_none _⟩
theorem IsF.below {lo : Nat} {w w' : World} {v : Value} {r : Pair × Bool × Int} (h : IsF lo w v r) (hb : Below w.heap.size w w') : IsF lo w' v r := by
  obtain ⟨A, n, c, A', n', c', h0, h1, h2, h3, h4⟩ := h
  exact ⟨A, n, c, A', n', c', h0, isI_below h1 hb, isI_below h2 hb, h3, h4⟩
theorem IsF.mono {lo lo' : Nat} {w : World} {v : Value} {r : Pair × Bool × Int} (h : IsF lo w v r) (hl : lo' ≤ lo) : IsF lo' w v r := by
  obtain ⟨A, n, c, A', n', c', h0, h1, h2, h3, h4⟩ := h
  exact ⟨A, n, c, A', n', c', h0, h1, h2, fun a ha => Nat.le_trans hl (h3 a ha), fun a ha => Nat.le_trans hl (h4 a ha)⟩
theorem IsF.set4 {lo g : Nat} {w : World} {v : Value} {r : Pair × Bool × Int} (h : IsF lo w v r) (hg : g < lo) (x y z u : Value) : IsF lo ((((w.setCell ⟨g, 0, none⟩ x).setCell ⟨g, 1, none⟩ y).setCell ⟨g, 2, none⟩ z).setCell ⟨g, 3, none⟩ u) v r := by
  obtain ⟨A, n, c, A', n', c', h0, h1, h2, h3, h4⟩ := h
  exact ⟨A, n, c, A', n', c', h0, isI_set4 h1 h3 hg _ _ _ _, isI_set4 h2 h4 hg _ _ _ _, h3, h4⟩
theorem isVV_four {w : World} {A A' B B' : Option Addr} {n c n' c' m d m' d' : Nat} {a a' b b' : List Int} (h1 : wo.IsI w A n c a) (h2 : wo.IsI w A' n' c' a') (h3 : wo.IsI w B m d b) (h4 : wo.IsI w B' m' d' b') :
    IsVV (w.alloc (.cells #[.slice A n c, .slice A' n' c', .slice B m d, .slice B' m' d'] 23)) (some ⟨w.heap.size, 0, none⟩) 4 4 [a, a', b, b'] := by
  have hr := heap_alloc_new w (.cells #[.slice A n c, .slice A' n' c', .slice B m d, .slice B' m' d'] 23)
  have hb := below_new w (.cells #[.slice A n c, .slice A' n' c', .slice B m d, .slice B' m' d'] 23)
  refine ⟨rfl, Nat.le_refl _, by omega, fun k l hk => ?_⟩
  match k, hk with
  | 0, hk =>
    simp at hk; subst hk
    exact ⟨_, _, _, _, _, rfl, by rw [size_new]; omega, by rw [cell_of_row _ _ _ _ _ _ hr]; rfl, isI_below h1 hb⟩
  | 1, hk =>
    simp at hk; subst hk
    exact ⟨_, _, _, _, _, rfl, by rw [size_new]; omega, by rw [cell_of_row _ _ _ _ _ _ hr]; rfl, isI_below h2 hb⟩
  | 2, hk =>
    simp at hk; subst hk
    exact ⟨_, _, _, _, _, rfl, by rw [size_new]; omega, by rw [cell_of_row _ _ _ _ _ _ hr]; rfl, isI_below h3 hb⟩
  | 3, hk =>
    simp at hk; subst hk
    exact ⟨_, _, _, _, _, rfl, by rw [size_new]; omega, by rw [cell_of_row _ _ _ _ _ _ hr]; rfl, isI_below h4 hb⟩
  | k + 4, hk => simp at hk
theorem res_f {fn : Func} {p : Tmp} (h : fn.results = #[.cell p 36]) (tmps : Array Value) (w : World) (g : Nat) (a b c d : Value) (hp : tmps.getD p undef = .pointer (some ⟨g, 0, none⟩)) (hg : FourX w g a b c d) :
    (results fn tmps).run Try.prog w = .ok (.agg #[a, b, c, d]) w := by
  have hp' : tmps[p]?.getD undef = .pointer (some ⟨g, 0, none⟩) := by simpa using hp
  simp [results, h, hp', asAddr, run_loadVar_row w g _ _ #[a, b, c, d] (0, 0) _ hg Try.underlying36 rfl (by kernel_rfl)]
/-- two rows, each at home in its own block, their slices in one box -/
structure Rows (w : World) (S : Nat) (va vb : Value) (n m : Nat) (xs ys : List Value) : Prop where
  two : TwoX w S va vb
  a : w.ownsRow (S + 1) 3 1 va n xs
  b : w.ownsRow (S + 1) 3 1 vb m ys
  ne : vb.ownBlock = none ∨ vb.ownBlock ≠ va.ownBlock
theorem Rows.below {w w' : World} {S : Nat} {va vb : Value} {n m : Nat} {xs ys : List Value} (h : Rows w S va vb n m xs ys) (hb : Below w.heap.size w w') : Rows w' S va vb n m xs ys :=
  ⟨h.two.below hb, World.ownsRow.kept h.a (grown_of hb) (by cases va.ownBlock; left; rfl; right; simp), World.ownsRow.kept h.b (grown_of hb) (by cases vb.ownBlock; left; rfl; right; simp), h.ne⟩
theorem Rows.new (w : World) : Rows (w.alloc (.cells #[.slice none 0 0, .slice none 0 0] 25)) w.heap.size (.slice none 0 0) (.slice none 0 0) 0 0 [] [] :=
  ⟨TwoX.new _ _ _, World.ownsRow_nil _ _ _ _, World.ownsRow_nil _ _ _ _, .inl rfl⟩
theorem grown_set (w : World) (a : Addr) (x : Value) : w.grownBy (w.setCell a x) (some a.block) :=
  ⟨rfl, rfl, rfl, by simp [World.setCell], fun k hk hn => Below.heap_setCell _ _ _ _ (fun e => hn (by rw [e]))⟩
theorem set1_size (w : World) (a : Addr) (x : Value) : (w.setCell a x).heap.size = w.heap.size := by simp [World.setCell]
theorem own_slice {w : World} {S n : Nat} {v : Value} {xs : List Value} (h : w.ownsRow S 3 1 v n xs) : ∃ A n c, v = .slice A n c := by
  rcases h.2 with ⟨rfl, _⟩ | ⟨g, cap, cur, rfl, _⟩
  · exact ⟨_, _, _, rfl⟩
  · exact ⟨_, _, _, rfl⟩
theorem own_ne {w : World} {S n : Nat} {v : Value} {xs : List Value} (h : w.ownsRow (S + 1) 3 1 v n xs) : v.ownBlock = none ∨ v.ownBlock ≠ some S := by
  cases hv : v.ownBlock with
  | none => exact .inl rfl
  | some b =>
    refine .inr fun e => ?_
    have h1 := (h.lt b hv).1
    injection e with e
    omega
/-- the first row grew, its slice not stored yet -/
theorem Rows.grow0 {w w2 : World} {S n m n' : Nat} {va vb v' : Value} {xs ys zs : List Value} (h : Rows w S va vb n m xs ys) (o : Obj) (h2 : w2.ownsRow (S + 1) 3 1 v' n' zs) (hg : (w.alloc o).grownBy w2 va.ownBlock)
    (hat : v'.ownBlock = va.ownBlock ∨ v'.ownBlock = some (w.heap.size + 1)) : TwoX w2 S va vb ∧ Rows (w2.setCell ⟨S, 0, none⟩ v') S v' vb n' m zs ys ∧ Below S w (w2.setCell ⟨S, 0, none⟩ v') := by
  have h1 := h.below (below_new w o)
  have hS := h.two.two
  have hlt : S < (w.alloc o).heap.size := (Array.getElem?_eq_some_iff.1 h1.two).1
  have hlt0 : S < w.heap.size := (Array.getElem?_eq_some_iff.1 h.two).1
  have hT : TwoX w2 S va vb := (hg.block S hlt (fun e => by have := (h1.a.lt S e.symm).1; omega)).trans h1.two
  have hb : w2.ownsRow (S + 1) 3 1 vb m ys := World.ownsRow.kept h1.b hg h.ne
  have hs := grown_set w2 ⟨S, 0, none⟩ v'
  refine ⟨hT, ⟨heap_setCell_same w2 S 0 #[va, vb] 25 v' hT, World.ownsRow.kept h2 hs (own_ne h2), World.ownsRow.kept hb hs (own_ne hb), ?_⟩, ?_⟩
  · cases hv : vb.ownBlock with
    | none => exact .inl rfl
    | some b =>
      right
      rcases hat with e | e
      · rw [e, ← hv]
        rcases h.ne with h0 | h0
        · rw [h0] at hv; cases hv
        · exact h0
      · rw [e]
        intro e2
        injection e2 with e2
        have := (h1.b.lt b hv).2
        rw [size_new] at this
        omega
  · exact (((Below.refl S w).alloc (by omega) o).grown hg (by omega) (fun k hk => by have := (h1.a.lt k hk).1; omega)).setCell (p := ⟨S, 0, none⟩) (Nat.le_refl S) v'
theorem Rows.grow1 {w w2 : World} {S n m n' : Nat} {va vb v' : Value} {xs ys zs : List Value} (h : Rows w S va vb n m xs ys) (o : Obj) (h2 : w2.ownsRow (S + 1) 3 1 v' n' zs) (hg : (w.alloc o).grownBy w2 vb.ownBlock)
    (hat : v'.ownBlock = vb.ownBlock ∨ v'.ownBlock = some (w.heap.size + 1)) : TwoX w2 S va vb ∧ Rows (w2.setCell ⟨S, 1, none⟩ v') S va v' n n' xs zs ∧ Below S w (w2.setCell ⟨S, 1, none⟩ v') := by
  have h1 := h.below (below_new w o)
  have hlt : S < (w.alloc o).heap.size := (Array.getElem?_eq_some_iff.1 h1.two).1
  have hlt0 : S < w.heap.size := (Array.getElem?_eq_some_iff.1 h.two).1
  have hT : TwoX w2 S va vb := (hg.block S hlt (fun e => by have := (h1.b.lt S e.symm).1; omega)).trans h1.two
  have hne : va.ownBlock = none ∨ va.ownBlock ≠ vb.ownBlock := by
    rcases h.ne with h0 | h0
    · rw [h0]; cases va.ownBlock <;> simp
    · exact .inr fun e => h0 e.symm
  have ha : w2.ownsRow (S + 1) 3 1 va n xs := World.ownsRow.kept h1.a hg hne
  have hs := grown_set w2 ⟨S, 1, none⟩ v'
  refine ⟨hT, ⟨heap_setCell_same w2 S 1 #[va, vb] 25 v' hT, World.ownsRow.kept ha hs (own_ne ha), World.ownsRow.kept h2 hs (own_ne h2), ?_⟩, ?_⟩
  · rcases hat with e | e
    · rw [e]; exact h.ne
    · right
      rw [e]
      intro e2
      have := (h1.a.lt _ e2.symm).2
      rw [size_new] at this
      omega
  · exact (((Below.refl S w).alloc (by omega) o).grown hg (by omega) (fun k hk => by have := (h1.b.lt k hk).1; omega)).setCell (p := ⟨S, 1, none⟩) (Nat.le_refl S) v'
theorem Rows.set4 {w : World} {S n m g : Nat} {va vb : Value} {xs ys : List Value} (h : Rows w S va vb n m xs ys) (hg : g < S) (x y z u : Value) : Rows ((((w.setCell ⟨g, 0, none⟩ x).setCell ⟨g, 1, none⟩ y).setCell ⟨g, 2, none⟩ z).setCell ⟨g, 3, none⟩ u) S va vb n m xs ys := by
  have hgr : w.grownBy ((((w.setCell ⟨g, 0, none⟩ x).setCell ⟨g, 1, none⟩ y).setCell ⟨g, 2, none⟩ z).setCell ⟨g, 3, none⟩ u) (some g) :=
    ⟨rfl, rfl, rfl, by rw [set4_size]; exact Nat.le_refl _, fun k hk hn => set4_other _ _ _ _ _ _ _ (fun e => hn (by rw [e]))⟩
  have hne : ∀ {v : Value} {n : Nat} {xs : List Value}, w.ownsRow (S + 1) 3 1 v n xs → v.ownBlock = none ∨ v.ownBlock ≠ some g := fun {v n xs} h => by
    cases hv : v.ownBlock with
    | none => exact .inl rfl
    | some b =>
      refine .inr fun e => ?_
      have h1 := (h.lt b hv).1
      injection e with e
      omega
  exact ⟨(set4_other w g _ _ _ _ S (by omega)).trans h.two, World.ownsRow.kept h.a hgr (hne h.a), World.ownsRow.kept h.b hgr (hne h.b), h.ne⟩
theorem behind_own {w : World} {S n n' c : Nat} {A : Option Addr} {xs : List Value} (h : w.ownsRow (S + 1) 3 1 (.slice A n' c) n xs) {lo : Nat} (hl : lo ≤ S) : Behind lo A := fun a ha => by
  subst ha
  have := (h.lt a.block rfl).1
  omega
theorem Rows.isF {w : World} {S n lo g : Nat} {va vb : Value} {p : Pair} (h : Rows w S va vb n n (iv p.1) (iv p.2)) (h1 : ∀ x ∈ p.1, -9223372036854775808 ≤ x ∧ x ≤ 9223372036854775807) (h2 : ∀ x ∈ p.2, -9223372036854775808 ≤ x ∧ x ≤ 9223372036854775807) (hl : lo ≤ S) (hg : g < S) :
    ∃ A c A' c', va = .slice A n c ∧ vb = .slice A' n c' ∧ ∀ x y z u, IsF lo ((((w.setCell ⟨g, 0, none⟩ x).setCell ⟨g, 1, none⟩ y).setCell ⟨g, 2, none⟩ z).setCell ⟨g, 3, none⟩ u) (.agg #[.slice A n c, .slice A' n c', .bool true, .int .i64 0]) (p, true, 0) := by
  obtain ⟨A, c, rfl, ha⟩ := isI_of_own h.a h1
  obtain ⟨A', c', rfl, hb⟩ := isI_of_own h.b h2
  exact ⟨A, c, A', c', rfl, rfl, fun x y z u => ⟨_, _, _, _, _, _, rfl, isI_set4 ha (behind_own h.a (Nat.le_refl S)) hg _ _ _ _, isI_set4 hb (behind_own h.b (Nat.le_refl S)) hg _ _ _ _, behind_own h.a hl, behind_own h.b hl⟩⟩
end Go.Proofs.Ytmnpmjioahnjoaa.bk
