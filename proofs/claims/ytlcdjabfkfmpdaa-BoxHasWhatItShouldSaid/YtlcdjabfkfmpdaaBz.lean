/- Boxes, plainly: what Of, Join and Meet give. No program here. -/
import Derived.Test.YtlcdjabfkfmpdaaBv

import Derived.Test.YtlcdjabfkfmpdaaBo

import Derived.Test.YtlcdjabfkfmpdaaOpen

import Derived.OpenShut

namespace Go.Proofs.Ytlcdjabfkfmpdaa.bq

open Go.Proofs.Ytlcdjabfkfmpdaa Go.Proofs.Ytlcdjabfkfmpdaa.bk

set_option linter.unusedVariables false
theorem mins_at {a b : List Int} {i : Nat} (h : i < a.length) : at' (mins a b) i = min (at' a i) (at' b i) := map_at _ _ h
theorem maxs_at {a b : List Int} {i : Nat} (h : i < a.length) : at' (maxs a b) i = max (at' a i) (at' b i) := map_at _ _ h
theorem mins_length (a b : List Int) : (mins a b).length = a.length := by simp [mins]
theorem maxs_length (a b : List Int) : (maxs a b).length = a.length := by simp [maxs]
theorem mins_comm {a b : List Int} (h : a.length = b.length) : mins a b = mins b a := map_congr' h fun i _ => Int.min_comm _ _
theorem maxs_comm {a b : List Int} (h : a.length = b.length) : maxs a b = maxs b a := map_congr' h fun i _ => Int.max_comm _ _
theorem box_bd {p : Pair} (h : IsBox p) {i : Nat} (hi : i < p.1.length) : -1000 ≤ at' p.1 i ∧ at' p.1 i ≤ at' p.2 i ∧ at' p.2 i ≤ 1000 := by
  have h1 := vec_at h.lo hi
  have h2 := vec_at h.hi (i := i) (by have := h.len; omega)
  have h3 := h.le i hi
  omega
theorem box_of {a b : List Int} (h1 : 1 ≤ a.length) (h2 : a.length ≤ 32) (hl : a.length = b.length) (h : ∀ i, i < a.length → -1000 ≤ at' a i ∧ at' a i ≤ at' b i ∧ at' b i ≤ 1000) : IsBox (a, b) := by
  have ha : vq.Vec a := vec_of h1 h2 fun i hi => by have := h i hi; omega
  have hb : vq.Vec b := vec_of (by omega) (by omega) fun i hi => by have := h i (by omega); omega
  exact ⟨ha, hb, hl, fun i hi => (h i hi).2.1⟩
section

variable {p q : Pair}
theorem join_box (hp : IsBox p) (hq : IsBox q) (hl : p.1.length = q.1.length) : IsBox (join p q) := by
  have h1 := hp.len
  refine box_of (by rw [mins_length]; exact hp.lo.pos) (by rw [mins_length]; exact hp.lo.le) (by rw [mins_length, maxs_length]; exact h1) fun i hi => ?_
  rw [mins_length] at hi
  rw [mins_at hi, maxs_at (by omega)]
  have := box_bd hp hi
  have := box_bd hq (i := i) (by omega)
  omega
theorem join_comm (hp : IsBox p) (hq : IsBox q) (hl : p.1.length = q.1.length) : join p q = join q p := by
  unfold join
  rw [mins_comm hl, maxs_comm (by have := hp.len; have := hq.len; omega)]
theorem meet_comm (hp : IsBox p) (hq : IsBox q) (hl : p.1.length = q.1.length) : meet p q = meet q p := by
  unfold meet
  rw [maxs_comm hl, mins_comm (by have := hp.len; have := hq.len; omega)]
theorem has_join (hp : IsBox p) (hq : IsBox q) (hl : p.1.length = q.1.length) {v : List Int} (h : has p v = true ∨ has q v = true) : has (join p q) v = true := by
  have h1 := hp.len
  refine (has_iff (join_box hp hq hl)).2 ?_
  show v.length = (mins p.1 q.1).length ∧ _
  rw [mins_length]
  rcases h with h | h
  · obtain ⟨hv, hb⟩ := (has_iff hp).1 h
    refine ⟨hv, fun i hi => ?_⟩
    have hi : i < p.1.length := by rw [← mins_length p.1 q.1]; exact hi
    show at' (mins p.1 q.1) i ≤ _ ∧ _ ≤ at' (maxs p.2 q.2) i
    rw [mins_at hi, maxs_at (by omega)]
    have := hb i hi
    omega
  · obtain ⟨hv, hb⟩ := (has_iff hq).1 h
    refine ⟨by omega, fun i hi => ?_⟩
    have hi : i < p.1.length := by rw [← mins_length p.1 q.1]; exact hi
    show at' (mins p.1 q.1) i ≤ _ ∧ _ ≤ at' (maxs p.2 q.2) i
    rw [mins_at hi, maxs_at (by omega)]
    have := hb i (by omega)
    omega
theorem in_join (hp : IsBox p) (hq : IsBox q) (hl : p.1.length = q.1.length) : inside p (join p q) = true ∧ inside q (join p q) = true := by
  have h1 := hp.len
  have h2 := hq.len
  have hj := join_box hp hq hl
  simp only [inside, Bool.and_eq_true, balike_iff, le_iff]
  refine ⟨⟨⟨⟨(mins_length _ _).symm, hp, hj⟩, fun i hi => ?_⟩, fun i hi => ?_⟩, ⟨⟨⟨?_, hq, hj⟩, fun i hi => ?_⟩, fun i hi => ?_⟩⟩
  · have hi : i < p.1.length := by rw [← mins_length p.1 q.1]; exact hi
    show at' (mins p.1 q.1) i ≤ _
    rw [mins_at hi]; omega
  · show _ ≤ at' (maxs p.2 q.2) i
    rw [maxs_at hi]; omega
  · show _ = (mins p.1 q.1).length
    rw [mins_length]; exact hl.symm
  · have hi : i < p.1.length := by rw [← mins_length p.1 q.1]; exact hi
    show at' (mins p.1 q.1) i ≤ _
    rw [mins_at hi]; omega
  · show _ ≤ at' (maxs p.2 q.2) i
    rw [maxs_at (by omega)]; omega
theorem meet_at (hp : IsBox p) {i : Nat} (hi : i < p.1.length) : at' (meet p q).1 i = max (at' p.1 i) (at' q.1 i) ∧ at' (meet p q).2 i = min (at' p.2 i) (at' q.2 i) :=
  ⟨maxs_at hi, mins_at (by have := hp.len; omega)⟩
theorem meet_length : (meet p q).1.length = p.1.length := maxs_length _ _
theorem in_meet (hp : IsBox p) (hq : IsBox q) (hl : p.1.length = q.1.length) (hm : bvalid (meet p q) = true) : inside (meet p q) p = true ∧ inside (meet p q) q = true := by
  have h1 := hp.len
  have h2 := hq.len
  have hj := bvalid_iff.1 hm
  have hj2 : (meet p q).2.length = p.1.length := by rw [← hj.len]; exact meet_length
  simp only [inside, Bool.and_eq_true, balike_iff, le_iff]
  refine ⟨⟨⟨⟨meet_length, hj, hp⟩, fun i hi => ?_⟩, fun i hi => ?_⟩, ⟨⟨⟨meet_length.trans hl, hj, hq⟩, fun i hi => ?_⟩, fun i hi => ?_⟩⟩
  · rw [(meet_at hp hi).1]; omega
  · rw [(meet_at hp (i := i) (by omega)).2]; omega
  · rw [(meet_at hp (i := i) (by omega)).1]; omega
  · rw [(meet_at hp (i := i) (by omega)).2]; omega
theorem has_meet (hp : IsBox p) (hq : IsBox q) (hl : p.1.length = q.1.length) {v : List Int} (hv : has p v = true) : has q v = (bvalid (meet p q) && has (meet p q) v) := by
  obtain ⟨hl1, hb1⟩ := (has_iff hp).1 hv
  have hlen := hp.len
  cases hm : bvalid (meet p q)
  · rw [Bool.false_and]
    cases hh : has q v
    · rfl
    · exfalso
      obtain ⟨_, hb2⟩ := (has_iff hq).1 hh
      have : IsBox (meet p q) := by
        refine box_of (by rw [maxs_length]; exact hp.lo.pos) (by rw [maxs_length]; exact hp.lo.le) (by rw [maxs_length, mins_length]; exact hlen) fun i hi => ?_
        rw [maxs_length] at hi
        rw [maxs_at hi, mins_at (by omega)]
        have := box_bd hp hi
        have := box_bd hq (i := i) (by omega)
        have := hb1 i hi
        have := hb2 i (by omega)
        omega
      rw [bvalid_iff.2 this] at hm
      cases hm
  · rw [Bool.true_and]
    have hj := bvalid_iff.1 hm
    rw [Bool.eq_iff_iff, has_iff hq, has_iff hj, meet_length]
    constructor
    · rintro ⟨h3, h4⟩
      refine ⟨hl1, fun i hi => ?_⟩
      rw [(meet_at hp hi).1, (meet_at hp hi).2]
      have := hb1 i hi
      have := h4 i (by omega)
      omega
    · rintro ⟨h3, h4⟩
      refine ⟨by omega, fun i hi => ?_⟩
      have h5 := h4 i (by omega)
      rw [(meet_at hp (i := i) (by omega)).1, (meet_at hp (i := i) (by omega)).2] at h5
      omega
end
/-- the box of some vectors -/
structure BoxOf (S : List (List Int)) (p : Pair) : Prop where
  box : IsBox p
  all : ∀ v ∈ S, has p v = true
  lo : ∀ k, k < p.1.length → ∃ v ∈ S, at' v k = at' p.1 k
  hi : ∀ k, k < p.1.length → ∃ v ∈ S, at' v k = at' p.2 k
theorem point_box {v : List Int} (h : vq.Vec v) : IsBox (v, v) := ⟨h, h, rfl, fun i _ => Int.le_refl _⟩
theorem has_point {v : List Int} (h : vq.Vec v) : has (v, v) v = true := (has_iff (point_box h)).2 ⟨rfl, fun i _ => ⟨Int.le_refl _, Int.le_refl _⟩⟩
theorem BoxOf.step {S : List (List Int)} {p q : Pair} {v : List Int} (h : BoxOf S p) (e : ofS (some p) v = some q) : BoxOf (S ++ [v]) q := by
  have hb : balike p (v, v) = true := by
    cases hh : balike p (v, v)
    · simp [ofS, hh] at e
    · rfl
  obtain rfl : join p (v, v) = q := by simpa [ofS, hb] using e
  obtain ⟨hl, hp, hv⟩ := balike_iff.1 hb
  have hlen := hp.len
  have hl' : p.1.length = v.length := hl
  refine ⟨join_box hp hv hl, fun u hu => ?_, fun k hk => ?_, fun k hk => ?_⟩
  · rcases List.mem_append.1 hu with hu | hu
    · exact has_join hp hv hl (.inl (h.all u hu))
    · obtain rfl : u = v := by simpa using hu
      exact has_join hp hv hl (.inr (has_point hv.lo))
  · have hk' : k < p.1.length := by rw [← mins_length p.1 v]; exact hk
    have e1 : at' (join p (v, v)).1 k = min (at' p.1 k) (at' v k) := mins_at hk'
    rw [e1]
    by_cases hc : at' p.1 k ≤ at' v k
    · obtain ⟨u, hu, hu2⟩ := h.lo k hk'
      exact ⟨u, List.mem_append_left _ hu, by omega⟩
    · exact ⟨v, by simp, by omega⟩
  · have hk' : k < p.1.length := by rw [← mins_length p.1 v]; exact hk
    have e1 : at' (join p (v, v)).2 k = max (at' p.2 k) (at' v k) := maxs_at (by omega)
    rw [e1]
    by_cases hc : at' v k ≤ at' p.2 k
    · obtain ⟨u, hu, hu2⟩ := h.hi k hk'
      exact ⟨u, List.mem_append_left _ hu, by omega⟩
    · exact ⟨v, by simp, by omega⟩
theorem boxOf_fold : ∀ (T S : List (List Int)) (p q : Pair), BoxOf S p → T.foldl ofS (some p) = some q → BoxOf (S ++ T) q
  | [], S, p, q, h, e => by
    simp only [List.foldl_nil, Option.some.injEq] at e
    subst e
    simpa using h
  | v :: T, S, p, q, h, e => by
    rw [List.foldl_cons] at e
    cases hs : ofS (some p) v with
    | none => rw [hs, ofS_none] at e; cases e
    | some r =>
      rw [hs] at e
      have := boxOf_fold T (S ++ [v]) r q (h.step hs) e
      simpa using this
theorem boxOf {L : List (List Int)} {p : Pair} (h : ofL L = some p) : BoxOf L p := by
  cases L with
  | nil => cases h
  | cons l T =>
    have h : (l :: T).foldl ofS (some (l, l)) = some p := h
    rw [List.foldl_cons] at h
    cases hs : ofS (some (l, l)) l with
    | none => rw [hs, ofS_none] at h; cases h
    | some r =>
      rw [hs] at h
      have hb : balike (l, l) (l, l) = true := by
        cases hh : balike (l, l) (l, l)
        · simp [ofS, hh] at hs
        · rfl
      obtain ⟨_, hp, _⟩ := balike_iff.1 hb
      have h0 : BoxOf [l] (l, l) := ⟨hp, fun v hv => by rw [show v = l by simpa using hv]; exact has_point hp.lo, fun k _ => ⟨l, by simp, rfl⟩, fun k _ => ⟨l, by simp, rfl⟩⟩
      obtain rfl : join (l, l) (l, l) = r := by simpa [ofS, hb] using hs
      have e1 : join (l, l) (l, l) = (l, l) := by
        unfold join
        have a1 : mins l l = l := ext_at (mins_length _ _) fun i hi => by rw [mins_length] at hi; rw [mins_at hi]; omega
        have a2 : maxs l l = l := ext_at (maxs_length _ _) fun i hi => by rw [maxs_length] at hi; rw [maxs_at hi]; omega
        simp only [a1, a2]
      rw [e1] at h
      simpa using boxOf_fold T [l] (l, l) p h0 h
end Go.Proofs.Ytlcdjabfkfmpdaa.bq

namespace Go.Proofs.Ytlcdjabfkfmpdaa.bk

open Go.ChangeShapes Go.WideShapes Go.ChangeAt Go.RowKit

open Go.Proofs.Ytlcdjabfkfmpdaa.bq Go.Proofs.Ytlcdjabfkfmpdaa.vk Go.Proofs.Ytlcdjabfkfmpdaa.wk

set_option linter.unusedVariables false
def shortB (L : List (List Int)) : Bool := L.all (fun l => decide (l.length ≤ 40)) && decide (L.length ≤ 20)
set_option maxRecDepth 100000 in
set_option maxHeartbeats 4000000 in
theorem short_calls (A : Option Addr) (n c : Nat) (L : List (List Int)) (w : World) (h : IsVV w A n c L) :
    Calls Try.prog 9 #[.slice A n c] w fun e w' => e = .returned (.bool (shortB L)) ∧ w' = w := by
  have H := Lib.hid h
  have hm := h.2.2.1
  have hnc := h.2.1
  obtain ⟨R, hR⟩ : ∃ R, shortB L = R := ⟨_, rfl⟩
  rw [hR]
  have HR := Lib.hid hR
  clear h hR
  go_enter Try.func9, Try.ntmps9
  go_wp2_with fail
  go_loopg [3] n (fun g x wr => ∃ k : Nat, k + g = n ∧ x = .int .i64 (k : Int) ∧ wr = w ∧ (L.take k).all (fun l => decide (l.length ≤ 40)) = true)
  case atStart => exact ⟨0, by omega, rfl, rfl, by simp⟩
  case round =>
    obtain ⟨k, hk, rfl, rfl, hr⟩ := hrel
    have HK := Lib.hid hk
    have HT := Lib.hid hr
    have hkn : k ≤ n := by omega
    clear hk hr
    by_cases hlt : k < n
    · obtain ⟨b, o, A1, n1, c1, l1, rfl, hb1, hc1, hI1, hL1⟩ := isVV_get H.out hlt
      have hl1 := hI1.1
      have hm1 := hI1.2.2.1
      have hnc1 := hI1.2.1
      have hlt' : (k : Int) < (n : Int) := by omega
      by_cases h40 : 40 < n1
      · have hf : R = false := by
          rw [← HR.out, shortB]
          have : L.all (fun l => decide (l.length ≤ 40)) = false := by
            rw [Bool.eq_false_iff]
            intro hh
            have := List.all_eq_true.1 hh l1 (List.mem_of_getElem? hL1)
            simp at this; omega
          rw [this]; rfl
        subst hf
        clear hL1 hI1 hl1
        have h40' : (40 : Int) < (n1 : Int) := by omega
        go_wp2_with fail
        go_ret
        exact ⟨rfl, rfl⟩
      · have ht : Hid ((L.take (k + 1)).all (fun l => decide (l.length ≤ 40)) = true) := by
          show _ = _
          rw [List.take_add_one, hL1, Option.toList_some, List.all_append, HT.out]
          simp; omega
        clear hL1 hI1 hl1
        have h40' : ¬ (40 : Int) < (n1 : Int) := by omega
        go_wp2_with fail
        go_roundg (gk - 1)
        case measure => have := HK.out; omega
        case rel => exact ⟨k + 1, by have := HK.out; omega, by go_num, rfl, ht.out⟩
    · obtain rfl : k = n := by omega
      have he : R = decide ((k : Int) ≤ 20) := by
        have hall := HT.out
        rw [List.take_of_length_le (Nat.le_of_eq H.out.1)] at hall
        rw [← HR.out, shortB, hall, Bool.true_and, H.out.1]
        simp
        omega
      subst he
      go_wp2_with fail
      go_ret
      exact ⟨rfl, rfl⟩
end Go.Proofs.Ytlcdjabfkfmpdaa.bk

namespace Go.Proofs.Ytlcdjabfkfmpdaa.vk

open Go Go.ChangeShapes Go.WideShapes Go.ChangeAt Go.RowKit

set_option linter.unusedVariables false

section

variable {H : Type} {enc : TypeId × Value → H} {P : Program} {w : World} {base : Nat} {spare : Nat → Bool} {held : Bool} {t e e0 : TypeId} {a : Option Addr} {n c fuel : Nat} {x : DataW H × List MemPlace}
theorem openVV (ht : P.underlying t = some (.slice e)) (he : P.underlying e = some (.slice e0)) (he0 : P.underlying e0 = some (.int .i64)) (hc : P.cellsOf e = 1) (hc0 : P.cellsOf e0 = 1)
    (h : DataW.trod enc P w base spare held fuel t [.slice a n c] = some x) : ∃ L, IsVV w a n c L := by
  rcases DataW.trod_slice ht h with ⟨hcs, _⟩ | ⟨ad, len, cap, elems, rest, m, _, hcs, _, hb, hl, hm, hlen, hel, _⟩
  · simp only [List.cons.injEq, Value.slice.injEq, and_true] at hcs
    obtain ⟨rfl, rfl, rfl⟩ := hcs
    exact ⟨[], rfl, Nat.le_refl _, by omega, fun k l hk => by simp at hk⟩
  · simp only [List.cons.injEq, Value.slice.injEq, and_true] at hcs
    obtain ⟨rfl, rfl, rfl⟩ := hcs
    rw [hc] at hel
    have hone : ∀ i, i < n → ∃ l : List Int, ∃ A' n' c', w.cell? (ad.add i) = some (.slice A' n' c') ∧ wo.IsI w A' n' c' l := fun i hi => by
      have hi' := hel i hi
      rw [List.getElem?_eq_getElem (by omega), Nat.mul_one] at hi'
      cases hcc : w.cells? base (ad.add i) 1 with
      | none => rw [hcc] at hi'; simp at hi'
      | some cs =>
        rw [hcc] at hi'
        simp only [Option.bind_some] at hi'
        obtain ⟨hlen1, _, hcell⟩ := World.cells?_some hcc
        have h0 := hcell 0 (by omega)
        have hadd : (ad.add i).add 0 = ad.add i := by unfold Addr.add; simp
        rw [hadd] at h0
        rcases DataW.trod_slice he hi' with ⟨hcs, _⟩ | ⟨ad', len', cap', _, _, _, _, hcs, _⟩
        · subst hcs
          obtain ⟨l, hI⟩ := wo.openI he he0 hc0 hi'
          exact ⟨l, _, _, _, by simpa using h0, hI⟩
        · subst hcs
          obtain ⟨l, hI⟩ := wo.openI he he0 hc0 hi'
          exact ⟨l, _, _, _, by simpa using h0, hI⟩
    obtain ⟨L, hLl, hLq⟩ := wo.exists_list n hone
    refine ⟨L, hLl, hl, by unfold maxLen at hm; omega, fun k l hk => ?_⟩
    have hkn : k < n := by
      rcases Nat.lt_or_ge k n with h' | h'
      · exact h'
      · rw [List.getElem?_eq_none (by omega)] at hk; cases hk
    obtain ⟨A', n', c', hcell, hI⟩ := hLq k l hk
    obtain ⟨A0, m0, k0, hc00, _⟩ := (hone 0 (by omega)).choose_spec
    obtain ⟨b, o, rfl⟩ := wo.at_plain hc00
    have hlt := block_lt_of_cell hcell
    rw [wk.add_at] at hcell hlt
    exact ⟨b, o, A', n', c', rfl, hlt, hcell, hI⟩
end

end Go.Proofs.Ytlcdjabfkfmpdaa.vk
