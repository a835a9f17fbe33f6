/- Joined: Hb Hc Hd He Hf Hg Hh. -/
import Derived.Test.YtckipafciomklaaG8

import Derived.Lib.MinMax

import Derived.Deep.Strs

import Derived.Sort.Grow

import Derived.Laws.EntriesVeiled

import Derived.Maps.OwnSet

import Derived.Lib.SlKeysI

import Derived.Sort.MapsRangeIn

import Derived.OwnWalkIn
/- Slices of hits in memory. -/
namespace Go.Proofs.Ytckipafciomklaa.bk

open Go.ChangeShapes Go.WideShapes Go.ChangeAt Go.RowKit

open Go.Proofs.Ytckipafciomklaa.bq Go.Proofs.Ytckipafciomklaa.vk

set_option linter.unusedVariables false
theorem grownOf {w w' : World} (h : Below w.heap.size w w') : w.grownBy w' none := ⟨h.os, h.tape, h.output, h.size, fun k hk _ => h.block k hk⟩
theorem own_apart {w : World} {b1 b2 s1 s2 n1 n2 : Nat} {e1 e2 : TypeId} {v1 v2 : Value} {xs1 xs2 : List Value} (h1 : w.ownsRow b1 e1 s1 v1 n1 xs1) (h2 : w.ownsRow b2 e2 s2 v2 n2 xs2) (hne : e1 ≠ e2) : v2.ownBlock = none ∨ v2.ownBlock ≠ v1.ownBlock := by
  rcases h2.2 with ⟨rfl, _⟩ | ⟨g2, cap2, cur2, rfl, _, hh2, _⟩
  · exact .inl rfl
  · refine .inr fun he => ?_
    rcases h1.2 with ⟨rfl, _⟩ | ⟨g1, cap1, cur1, rfl, _, hh1, _⟩
    · cases he
    · have hg : g2 = g1 := by injection he
      subst hg
      rw [hh1] at hh2
      injection hh2 with hh
      injection hh with _ h3 _
      exact hne h3
theorem keptB {w w' : World} {B n size : Nat} {e : TypeId} {v : Value} {xs : List Value} (h : w.ownsRow B e size v n xs) (hb : Below w.heap.size w w') : w'.ownsRow B e size v n xs :=
  World.ownsRow.kept h (grownOf hb) (by cases v.ownBlock; left; rfl; right; simp)
def rv (r : H) : List Value := [.int .i64 r.1, .int .i64 r.2.1, .int .i64 r.2.2]
def agg (r : H) : Value := .agg #[.int .i64 r.1, .int .i64 r.2.1, .int .i64 r.2.2]
def fl (l : List H) : List Value := l.flatMap rv
def I64 (x : Int) : Prop := -9223372036854775808 ≤ x ∧ x ≤ 9223372036854775807
def Wd (r : H) : Prop := I64 r.1 ∧ I64 r.2.1 ∧ I64 r.2.2
def IsH (w : World) (A : Option Addr) (n c : Nat) (l : List H) : Prop := l.length = n ∧ n ≤ c ∧ c ≤ 9223372036854775807 ∧ wp.RC w A (fl l) ∧ (∀ r ∈ l, Wd r) ∧ (A = none → c = 0)
theorem isH_below {w w' : World} {A : Option Addr} {n c : Nat} {l : List H} (h : IsH w A n c l) (hb : Below w.heap.size w w') : IsH w' A n c l := ⟨h.1, h.2.1, h.2.2.1, h.2.2.2.1.below hb, h.2.2.2.2⟩
theorem IsH.below {w w' : World} {A : Option Addr} {n c : Nat} {l : List H} (h : IsH w A n c l) (hb : Below w.heap.size w w') : IsH w' A n c l := isH_below h hb
theorem isH_drewN {w : World} {A : Option Addr} {n c : Nat} {l : List H} (h : IsH w A n c l) (q : Nat) : IsH (w.drewN q) A n c l := h
theorem isH_nil (w : World) : IsH w none 0 0 [] := ⟨rfl, by omega, by omega, fun h => absurd h (by simp [fl]), by simp, fun _ => rfl⟩
theorem fl_length (l : List H) : (fl l).length = l.length * 3 := by
  induction l with
  | nil => rfl
  | cons a l ih => simp only [fl, rv, List.flatMap_cons, List.length_append, List.length_cons, List.length_nil] at ih ⊢; omega
theorem fl_append (a b : List H) : fl (a ++ b) = fl a ++ fl b := by simp [fl]
theorem fl_at : ∀ {l : List H} {k : Nat} {r : H}, l[k]? = some r → (fl l)[k * 3]? = some (.int .i64 r.1) ∧ (fl l)[k * 3 + 1]? = some (.int .i64 r.2.1) ∧ (fl l)[k * 3 + 2]? = some (.int .i64 r.2.2)
  | [], k, r, h => by simp at h
  | a :: l, 0, r, h => by
    simp only [List.getElem?_cons_zero, Option.some.injEq] at h
    subst h
    exact ⟨rfl, rfl, rfl⟩
  | a :: l, k + 1, r, h => by
    rw [List.getElem?_cons_succ] at h
    have ih := fl_at h
    have e : fl (a :: l) = .int .i64 a.1 :: .int .i64 a.2.1 :: .int .i64 a.2.2 :: fl l := rfl
    rw [e, show (k + 1) * 3 = k * 3 + 1 + 1 + 1 by omega]
    simpa using ih
theorem fl_take (l : List H) (k : Nat) : (fl l).take (k * 3) = fl (l.take k) := by
  induction l generalizing k with
  | nil => simp [fl]
  | cons a l ih =>
    cases k with
    | zero => simp [fl]
    | succ k =>
      have e : ∀ t : List H, fl (a :: t) = .int .i64 a.1 :: .int .i64 a.2.1 :: .int .i64 a.2.2 :: fl t := fun _ => rfl
      rw [List.take_succ_cons, e, e, show (k + 1) * 3 = k * 3 + 1 + 1 + 1 by omega, List.take_succ_cons, List.take_succ_cons, List.take_succ_cons, ih]
theorem fl_drop (l : List H) (k : Nat) : (fl l).drop (k * 3) = fl (l.drop k) := by
  induction l generalizing k with
  | nil => simp [fl]
  | cons a l ih =>
    cases k with
    | zero => simp
    | succ k =>
      have e : ∀ t : List H, fl (a :: t) = .int .i64 a.1 :: .int .i64 a.2.1 :: .int .i64 a.2.2 :: fl t := fun _ => rfl
      rw [List.drop_succ_cons, e, show (k + 1) * 3 = k * 3 + 1 + 1 + 1 by omega, List.drop_succ_cons, List.drop_succ_cons, List.drop_succ_cons, ih]
theorem isH_get {w : World} {A : Option Addr} {n c k : Nat} {l : List H} (h : IsH w A n c l) (hk : k < n) : ∃ b o r, A = some ⟨b, o, none⟩ ∧ w.cell? ⟨b, o + k * 3, none⟩ = some (.int .i64 r.1) ∧ w.cell? ⟨b, o + k * 3 + 1, none⟩ = some (.int .i64 r.2.1) ∧ w.cell? ⟨b, o + k * 3 + 2, none⟩ = some (.int .i64 r.2.2) ∧ b < w.heap.size ∧ l[k]? = some r ∧ Wd r := by
  have hkl : k < l.length := by rw [h.1]; exact hk
  obtain ⟨b, o, rfl, hb, hc⟩ := h.2.2.2.1 (by rw [fl_length]; omega)
  have hx := fl_at (List.getElem?_eq_getElem hkl)
  exact ⟨b, o, l[k], rfl, hc _ _ hx.1, hc _ _ hx.2.1, hc _ _ hx.2.2, hb, List.getElem?_eq_getElem hkl, h.2.2.2.2.1 _ (List.getElem_mem hkl)⟩
theorem isH_of_own {w : World} {B n : Nat} {v : Value} {l : List H} (h : w.ownsRow B 27 3 v n (fl l)) (hb : ∀ r ∈ l, Wd r) : ∃ A c, v = .slice A n c ∧ IsH w A n c l := by
  have hl : l.length = n := by have := h.1; rw [fl_length] at this; omega
  rcases h.2 with ⟨hv, hn⟩ | ⟨g, cap, cur, hv, hb2, hh, h3, h4, h5, h6⟩
  · subst hv
    exact ⟨none, 0, by rw [hn], hl, by omega, by omega, fun hlt => by rw [fl_length] at hlt; omega, hb, fun _ => rfl⟩
  · subst hv
    refine ⟨_, _, rfl, hl, h3, by unfold maxLen at h4; omega, ?_, hb, fun h => by cases h⟩
    refine wo.rc_of fun i u hu => ?_
    exact h.cells rfl i u hu
theorem isH_take {w : World} {A : Option Addr} {n c k : Nat} {l : List H} (h : IsH w A n c l) (hk : k ≤ n) : IsH w A k c (l.take k) := by
  refine ⟨by rw [List.length_take, h.1]; omega, by have := h.2.1; omega, h.2.2.1, ?_, fun r hr => h.2.2.2.2.1 r (List.mem_of_mem_take hr), h.2.2.2.2.2⟩
  rw [← fl_take]
  intro hlt
  obtain ⟨b, o, rfl, hb, hc⟩ := h.2.2.2.1 (by rw [List.length_take] at hlt; omega)
  exact ⟨b, o, rfl, hb, fun j u hu => hc j u (by
    rw [List.getElem?_take] at hu
    split at hu
    · exact hu
    · cases hu)⟩
theorem infoHt : (Try.prog.info? 27).map (fun i => (i.zero, i.size, i.bytes)) = some (some (.agg #[.int .i64 0, .int .i64 0, .int .i64 0]), 3, 24) := by kernel_rfl
theorem ones3 {a b c : Int} : ∀ u ∈ [Value.int .i64 a, Value.int .i64 b, Value.int .i64 c], u.oneCell' = true := by
  intro u hu
  simp only [List.mem_cons, List.not_mem_nil, or_false] at hu
  rcases hu with rfl | rfl | rfl <;> rfl
def RowH (w : World) (g : Nat) (r : H) : Prop := w.heap[g]? = some (.cells #[.int .i64 r.1, .int .i64 r.2.1, .int .i64 r.2.2] 27 (0, 0))
theorem RowH.lt {w : World} {g : Nat} {r : H} (h : RowH w g r) : g < w.heap.size := (Array.getElem?_eq_some_iff.1 h).1
theorem RowH.below {w w' : World} {g : Nat} {r : H} (h : RowH w g r) (hb : Below w.heap.size w w') : RowH w' g r := (hb.block g h.lt).trans h
theorem RowH.new (w : World) (r : H) : RowH (w.alloc (.cells #[.int .i64 r.1, .int .i64 r.2.1, .int .i64 r.2.2] 27)) w.heap.size r := heap_alloc_new w _
theorem RowH.c0 {w : World} {g : Nat} {r : H} (h : RowH w g r) : w.cell? ⟨g, 0, none⟩ = some (.int .i64 r.1) := by rw [cell_of_row _ _ _ _ _ _ h]; rfl
theorem RowH.c1 {w : World} {g : Nat} {r : H} (h : RowH w g r) : w.cell? ⟨g, 1, none⟩ = some (.int .i64 r.2.1) := by rw [cell_of_row _ _ _ _ _ _ h]; rfl
theorem RowH.c2 {w : World} {g : Nat} {r : H} (h : RowH w g r) : w.cell? ⟨g, 2, none⟩ = some (.int .i64 r.2.2) := by rw [cell_of_row _ _ _ _ _ _ h]; rfl
theorem RowH.f {w : World} {g : Nat} {r : H} (h : RowH w g r) (j : Nat) : w.frozen? ⟨g, j, none⟩ = false := frozen_of_row _ _ _ _ _ h
theorem RowH.cells {w : World} {g : Nat} {r : H} (h : RowH w g r) : ∀ j u, (rv r)[j]? = some u → w.cell? ((⟨g, 0, none⟩ : Addr).add j) = some u := fun j u hu => by
  rw [wk.add_at, Nat.zero_add, cell_of_row _ _ _ _ _ _ h]
  unfold rv at hu
  simpa using hu
theorem isH_one {w : World} {g c : Nat} {r : H} (h : RowH w g r) (hr : Wd r) (hc : 1 ≤ c) (hm : c ≤ 9223372036854775807) : IsH w (some ⟨g, 0, none⟩) 1 c [r] := by
  refine ⟨rfl, hc, hm, fun _ => ⟨g, 0, rfl, h.lt, fun j u hu => ?_⟩, fun x hx => by rw [List.mem_singleton.1 hx]; exact hr, fun h => by cases h⟩
  have : fl [r] = rv r := by simp [fl]
  rw [this] at hu
  have := h.cells j u hu
  rw [wk.add_at] at this
  exact this
section

variable {H0 : Type} {enc : TypeId × Value → H0} {w : World} {base : Nat} {spare : Nat → Bool} {held : Bool} {t e : TypeId} {a : Option Addr} {n c fuel : Nat} {x : DataW H0 × List MemPlace}
set_option maxRecDepth 100000 in
theorem openH (h : DataW.trod enc Try.prog w base spare held fuel 22 [.slice a n c] = some x) : ∃ L, IsH w a n c L := by
  have hc : Try.prog.cellsOf 27 = 3 := by kernel_rfl
  rcases DataW.trod_slice Try.underlying22 h with ⟨hcs, _⟩ | ⟨ad, len, cap, elems, rest, m, _, hcs, _, hb, hl, hm, hlen, hel, _⟩
  · simp only [List.cons.injEq, Value.slice.injEq, and_true] at hcs
    obtain ⟨rfl, rfl, rfl⟩ := hcs
    exact ⟨[], rfl, Nat.le_refl _, by omega, fun h => absurd h (by simp [fl]), by simp, fun _ => rfl⟩
  · simp only [List.cons.injEq, Value.slice.injEq, and_true] at hcs
    obtain ⟨rfl, rfl, rfl⟩ := hcs
    rw [hc] at hel
    have hone : ∀ i, i < n → ∃ r : H, Wd r ∧ w.cell? ((ad.add (i * 3)).add 0) = some (.int .i64 r.1) ∧ w.cell? ((ad.add (i * 3)).add 1) = some (.int .i64 r.2.1) ∧ w.cell? ((ad.add (i * 3)).add 2) = some (.int .i64 r.2.2) := fun i hi => by
      have hi' := hel i hi
      rw [List.getElem?_eq_getElem (by omega)] at hi'
      cases hcc : w.cells? base (ad.add (i * 3)) 3 with
      | none => rw [hcc] at hi'; simp at hi'
      | some cs =>
        rw [hcc] at hi'
        simp only [Option.bind_some] at hi'
        obtain ⟨hlen1, _, hcell⟩ := World.cells?_some hcc
        match cs, hlen1 with
        | [c0, c1, c2], _ =>
          obtain ⟨y0, y1, y2, m, _, _, h0, h1, h2⟩ := Deep.trod_struct3 Try.underlying27 hi'
          have hc1 : Try.prog.cellsOf 3 = 1 := by kernel_rfl
          rw [hc1] at h0 h1 h2
          obtain ⟨z, hz, _, hwf⟩ := DataW.trod_int Try.underlying3 h0
          obtain ⟨z', hz', _, hwf'⟩ := DataW.trod_int Try.underlying3 h1
          obtain ⟨z2, hz2, _, hwf2⟩ := DataW.trod_int Try.underlying3 h2
          simp at hz hz' hz2
          subst hz
          subst hz'
          subst hz2
          refine ⟨(z, z', z2), ⟨?_, ?_, ?_⟩, hcell 0 (by simp), hcell 1 (by simp), hcell 2 (by simp)⟩
          · simpa [I64, Lit.wf, IntKind.min, IntKind.max, IntKind.signed, IntKind.bits] using hwf
          · simpa [I64, Lit.wf, IntKind.min, IntKind.max, IntKind.signed, IntKind.bits] using hwf'
          · simpa [I64, Lit.wf, IntKind.min, IntKind.max, IntKind.signed, IntKind.bits] using hwf2
    obtain ⟨L, hLl, hLq⟩ := wo.exists_list n hone
    refine ⟨L, hLl, hl, by unfold maxLen at hm; omega, ?_, fun r hr => ?_, fun h => by cases h⟩
    · refine wo.rc_of fun j u hu => ?_
      have hj : j < n * 3 := by
        rcases Nat.lt_or_ge j (n * 3) with h' | h'
        · exact h'
        · rw [List.getElem?_eq_none (by rw [fl_length]; omega)] at hu; cases hu
      have hk : L[j / 3]? = some (L[j / 3]'(by omega)) := List.getElem?_eq_getElem _
      obtain ⟨_, q1, q2, q3⟩ := hLq _ _ hk
      have f := fl_at hk
      obtain ⟨_, q0, _⟩ := hLq 0 _ (List.getElem?_eq_getElem (show 0 < L.length by omega))
      obtain ⟨b, o, rfl⟩ := wo.at_plain (ad := ad) (by simpa [Addr.add] using q0)
      have h3 : j % 3 = 0 ∨ j % 3 = 1 ∨ j % 3 = 2 := by omega
      rcases h3 with h2 | h2 | h2
      · have e : j / 3 * 3 = j := by omega
        rw [e] at f q1
        rw [f.1] at hu
        rw [← hu, ← q1, wk.add_at, wk.add_at, Nat.add_zero]
      · have e : j / 3 * 3 + 1 = j := by omega
        have e' : ((⟨b, o, none⟩ : Addr).add (j / 3 * 3)).add 1 = (⟨b, o, none⟩ : Addr).add j := by rw [wk.add_at, wk.add_at, wk.add_at, Nat.add_assoc, e]
        rw [e'] at q2
        rw [e] at f
        rw [f.2.1] at hu
        rw [← hu, ← q2]
      · have e : j / 3 * 3 + 2 = j := by omega
        have e' : ((⟨b, o, none⟩ : Addr).add (j / 3 * 3)).add 2 = (⟨b, o, none⟩ : Addr).add j := by rw [wk.add_at, wk.add_at, wk.add_at, Nat.add_assoc, e]
        rw [e'] at q3
        rw [e] at f
        rw [f.2.2] at hu
        rw [← hu, ← q3]
    · obtain ⟨i, hi, rfl⟩ := List.mem_iff_getElem.1 hr
      exact (hLq i _ (List.getElem?_eq_getElem hi)).1
set_option maxRecDepth 100000 in
theorem openHit {b0 : Nat} {sp : Nat → Bool} {r : Reach} {v : Value} {d : DataW H0} {ps : List MemPlace} {enc' : TypeId × Value → H0}
    (hval : Value.okWide Try.prog w r b0 27 v) (hd : DataW.Trod enc' Try.prog w base sp held 27 v d ps) : ∃ p, v = agg p ∧ Wd p := by
  obtain ⟨⟨cs⟩, rfl, hcs⟩ := okWide_struct Try.underlying27 hval
  have hcs : cs.length = 3 := hcs.trans (by kernel_rfl)
  obtain ⟨fuel, hf⟩ := hd
  match cs, hcs with
  | [c0, c1, c2], _ =>
    obtain ⟨y0, y1, y2, m, _, _, h0, h1, h2⟩ := Deep.trod_struct3 Try.underlying27 (show DataW.trod enc' Try.prog w base sp held fuel 27 [c0, c1, c2] = some (d, ps) from hf)
    have hc1 : Try.prog.cellsOf 3 = 1 := by kernel_rfl
    rw [hc1] at h0 h1 h2
    obtain ⟨z, hz, _, hwf⟩ := DataW.trod_int Try.underlying3 h0
    obtain ⟨z', hz', _, hwf'⟩ := DataW.trod_int Try.underlying3 h1
    obtain ⟨z2, hz2, _, hwf2⟩ := DataW.trod_int Try.underlying3 h2
    simp at hz hz' hz2
    subst hz
    subst hz'
    subst hz2
    refine ⟨(z, z', z2), rfl, ?_, ?_, ?_⟩
    · simpa [I64, Lit.wf, IntKind.min, IntKind.max, IntKind.signed, IntKind.bits] using hwf
    · simpa [I64, Lit.wf, IntKind.min, IntKind.max, IntKind.signed, IntKind.bits] using hwf'
    · simpa [I64, Lit.wf, IntKind.min, IntKind.max, IntKind.signed, IntKind.bits] using hwf2
end

end Go.Proofs.Ytckipafciomklaa.bk
/- Comparing hits, and what is right. -/
namespace Go.Proofs.Ytckipafciomklaa.bk

open Go.ChangeShapes Go.WideShapes Go.ChangeAt Go.RowKit

open Go.Proofs.Ytckipafciomklaa.bq Go.Proofs.Ytckipafciomklaa.vk Go.Proofs.Ytckipafciomklaa.wk

set_option linter.unusedVariables false
set_option maxRecDepth 100000 in
set_option maxHeartbeats 4000000 in
theorem within_calls (x lo hi : Int) (w : World) : Calls Try.prog 36 #[.int .i64 x, .int .i64 lo, .int .i64 hi] w fun e w' => e = .returned (.bool (decide (lo ≤ x ∧ x ≤ hi))) ∧ w' = w := by
  go_enter Try.func36, Try.ntmps36
  by_cases c7 : lo ≤ x
  · by_cases c8 : x ≤ hi
    · go_wp2_with fail
      go_ret
      exact ⟨by simp [*] <;> omega, rfl⟩
    · go_wp2_with fail
      go_ret
      exact ⟨by simp [*] <;> omega, rfl⟩
  · go_wp2_with fail
    go_ret
    exact ⟨by simp [*] <;> omega, rfl⟩
set_option maxRecDepth 100000 in
set_option maxHeartbeats 4000000 in
theorem rk_calls (x : Int) (w : World) : Calls Try.prog 16 #[.int .i64 x] w fun e w' => e = .returned (.bool (okK x)) ∧ w' = w := by
  unfold okK
  go_enter Try.func16, Try.ntmps16
  by_cases c7 : 1 ≤ x
  · by_cases c8 : x ≤ 64
    · go_wp2_with fail
      go_ret
      exact ⟨by simp [*] <;> omega, rfl⟩
    · go_wp2_with fail
      go_ret
      exact ⟨by simp [*] <;> omega, rfl⟩
  · go_wp2_with fail
    go_ret
    exact ⟨by simp [*] <;> omega, rfl⟩
set_option maxRecDepth 100000 in
set_option maxHeartbeats 4000000 in
theorem rright_calls (r : H) (w : World) : Calls Try.prog 20 #[.agg #[.int .i64 r.1, .int .i64 r.2.1, .int .i64 r.2.2]] w fun e w' => e = .returned (.bool (right r)) ∧ Below w.heap.size w w' := by
  obtain ⟨a, b, c⟩ := r
  dsimp only
  have hR := RowH.new w (a, b, c)
  have h0 := hR.c0
  have h1 := hR.c1
  have h2 := hR.c2
  dsimp only at h0 h1 h2
  have HB := Lib.hid (below_new w (.cells #[.int .i64 a, .int .i64 b, .int .i64 c] 27))
  unfold right
  clear hR
  go_enter Try.func20, Try.ntmps20
  by_cases c3 : 1 ≤ a
  · by_cases c4 : a ≤ 1073741824
    · by_cases c5 : 1 ≤ b
      · by_cases c6 : b ≤ 1073741824
        · by_cases c7 : 0 ≤ c
          · by_cases c8 : c ≤ 134217728
            · go_wp2_with fail
              go_ret
              exact ⟨by simp [*] <;> omega, HB.out⟩
            · go_wp2_with fail
              go_ret
              exact ⟨by simp [*] <;> omega, HB.out⟩
          · go_wp2_with fail
            go_ret
            exact ⟨by simp [*] <;> omega, HB.out⟩
        · go_wp2_with fail
          go_ret
          exact ⟨by simp [*] <;> omega, HB.out⟩
      · go_wp2_with fail
        go_ret
        exact ⟨by simp [*] <;> omega, HB.out⟩
    · go_wp2_with fail
      go_ret
      exact ⟨by simp [*] <;> omega, HB.out⟩
  · go_wp2_with fail
    go_ret
    exact ⟨by simp [*] <;> omega, HB.out⟩
set_option maxRecDepth 100000 in
set_option maxHeartbeats 4000000 in
theorem wrong_calls (r : H) (w : World) : Calls Try.prog 38 #[.agg #[.int .i64 r.1, .int .i64 r.2.1, .int .i64 r.2.2]] w fun e w' => e = .returned (.bool (!right r)) ∧ Below w.heap.size w w' := by
  obtain ⟨a, b, c⟩ := r
  dsimp only
  have hR := RowH.new w (a, b, c)
  have h0 := hR.c0
  have h1 := hR.c1
  have h2 := hR.c2
  dsimp only at h0 h1 h2
  have HB := Lib.hid (below_new w (.cells #[.int .i64 a, .int .i64 b, .int .i64 c] 27))
  have HA := Lib.hid (fun w' => within_calls a 1 1073741824 w')
  have HV := Lib.hid (fun w' => within_calls b 1 1073741824 w')
  have HK := Lib.hid (fun w' => within_calls c 0 134217728 w')
  unfold right
  clear hR
  dsimp only
  generalize decide (1 ≤ a ∧ a ≤ 1073741824) = d1 at *
  generalize decide (1 ≤ b ∧ b ≤ 1073741824) = d2 at *
  generalize decide (0 ≤ c ∧ c ≤ 134217728) = d3 at *
  go_enter Try.func38, Try.ntmps38
  cases d1
  · go_wp2_with fail
    refine (HA.out _).mono ?_
    rintro e w' ⟨rfl, rfl⟩
    go_wp2_with fail
    go_ret
    exact ⟨rfl, HB.out⟩
  · cases d2
    · go_wp2_with fail
      refine (HA.out _).mono ?_
      rintro e w' ⟨rfl, rfl⟩
      go_wp2_with fail
      refine (HV.out _).mono ?_
      rintro e w' ⟨rfl, rfl⟩
      go_wp2_with fail
      go_ret
      exact ⟨rfl, HB.out⟩
    · go_wp2_with fail
      refine (HA.out _).mono ?_
      rintro e w' ⟨rfl, rfl⟩
      go_wp2_with fail
      refine (HV.out _).mono ?_
      rintro e w' ⟨rfl, rfl⟩
      go_wp2_with fail
      refine (HK.out _).mono ?_
      rintro e w' ⟨rfl, rfl⟩
      go_wp2_with fail
      go_ret
      exact ⟨by simp, HB.out⟩
set_option maxRecDepth 100000 in
set_option maxHeartbeats 4000000 in
theorem rless_calls (x y : H) (w : World) : Calls Try.prog 14 #[.agg #[.int .i64 x.1, .int .i64 x.2.1, .int .i64 x.2.2], .agg #[.int .i64 y.1, .int .i64 y.2.1, .int .i64 y.2.2]] w fun e w' => e = .returned (.bool (lt x y)) ∧ Below w.heap.size w w' := by
  have HL := Lib.hid (@lt_iff x y)
  obtain ⟨a, b, c⟩ := x
  obtain ⟨a', b', c'⟩ := y
  dsimp only
  dsimp only at HL
  have hb2 := below_new (w.alloc (.cells #[.int .i64 a, .int .i64 b, .int .i64 c] 27)) (.cells #[.int .i64 a', .int .i64 b', .int .i64 c'] 27)
  have hR := (RowH.new w (a, b, c)).below hb2
  have h0 := hR.c0
  have h1 := hR.c1
  have h2 := hR.c2
  have hR' := RowH.new (w.alloc (.cells #[.int .i64 a, .int .i64 b, .int .i64 c] 27)) (a', b', c')
  have h0' := hR'.c0
  have h1' := hR'.c1
  have h2' := hR'.c2
  rw [size_new] at h0' h1' h2'
  dsimp only at h0 h1 h2 h0' h1' h2'
  have HB := Lib.hid (Below.andThen (below_new w (.cells #[.int .i64 a, .int .i64 b, .int .i64 c] 27)) hb2)
  clear hR hR' hb2
  go_enter Try.func14, Try.ntmps14
  by_cases c1 : c = c'
  · subst c1
    by_cases c2 : a = a'
    · subst c2
      go_wp2_with fail
      go_ret
      exact ⟨congrArg (fun b => Ending.returned (Value.bool b)) (show decide (b < b') = lt _ _ by rw [Bool.eq_iff_iff, HL.out]; simp), HB.out⟩
    · go_wp2_with fail
      go_ret
      exact ⟨congrArg (fun b => Ending.returned (Value.bool b)) (show decide (a < a') = lt _ _ by rw [Bool.eq_iff_iff, HL.out]; simp [c2]), HB.out⟩
  · go_wp2_with fail
    go_ret
    exact ⟨congrArg (fun b => Ending.returned (Value.bool b)) (show decide (c < c') = lt _ _ by rw [Bool.eq_iff_iff, HL.out]; simp [c1]), HB.out⟩
set_option maxRecDepth 100000 in
set_option maxHeartbeats 4000000 in
theorem rhas_calls {l : List H} {n c : Nat} {A : Option Addr} (id : Int) (w : World) (h : IsH w A n c l) :
    Calls Try.prog 40 #[.slice A n c, .int .i64 id] w fun e w' => e = .returned (.bool (l.any fun r => r.1 == id)) ∧ w' = w := by
  have hm := h.2.2.1
  have hnc := h.2.1
  have H := Lib.hid h
  clear h
  go_enter Try.func40, Try.ntmps40
  go_wp2_with fail
  go_loopg [5] n (fun g x wr => ∃ k : Nat, k + g = n ∧ x = .int .i64 (k : Int) ∧ wr = w ∧ (l.any fun r => r.1 == id) = ((l.drop k).any fun r => r.1 == id))
  case atStart => exact ⟨0, by omega, rfl, rfl, rfl⟩
  case round =>
    obtain ⟨k, hk, rfl, rfl, hr⟩ := hrel
    have HK := Lib.hid hk
    have HR := Lib.hid hr
    have hkn : k ≤ n := by omega
    clear hk hr
    by_cases hlt : k < n
    · obtain ⟨b, o, x, rfl, hx1, hx2, hx3, hb1, hX, hwx⟩ := isH_get H.out hlt
      have HS : Hid (l.drop k = x :: l.drop (k + 1)) := by
        obtain ⟨hk, rfl⟩ := List.getElem?_eq_some_iff.1 hX
        exact List.drop_eq_getElem_cons hk
      have hlt0 : (k : Int) < (n : Int) := by omega
      clear hX hwx hb1 hx2 hx3
      by_cases hxy : x.1 = id
      · go_wp2_with fail
        go_ret
        exact ⟨by rw [HR.out, HS.out]; simp [hxy], rfl⟩
      · go_wp2_with fail
        go_roundg (gk - 1)
        case measure => have := HK.out; omega
        case rel => exact ⟨k + 1, by have := HK.out; omega, by go_num, rfl, by rw [HR.out, HS.out]; simp [hxy]⟩
    · have h1 := HR.out
      rw [List.drop_of_length_le (by have := H.out.1; omega)] at h1
      have H1 := Lib.hid h1
      clear h1
      go_wp2_with fail
      go_ret
      exact ⟨by rw [H1.out]; rfl, rfl⟩
set_option maxRecDepth 100000 in
set_option maxHeartbeats 4000000 in
theorem rall_calls {l : List H} {n c : Nat} {A : Option Addr} (w : World) (h : IsH w A n c l) :
    Calls Try.prog 15 #[.slice A n c] w fun e w' => e = .returned (.bool (l.all right)) ∧ Below w.heap.size w w' := by
  have hm := h.2.2.1
  have hnc := h.2.1
  have H := Lib.hid h
  clear h
  have HRR := Lib.hid (fun r w' => rright_calls r w')
  go_enter Try.func15, Try.ntmps15
  go_wp2_with fail
  go_loopg [3] n (fun g x wr => ∃ k : Nat, k + g = n ∧ x = .int .i64 (k : Int) ∧ Below w.heap.size w wr ∧ l.all right = (l.drop k).all right)
  case atStart => exact ⟨0, by omega, rfl, Below.refl _ _, rfl⟩
  case round =>
    obtain ⟨k, hk, rfl, hbel, hr⟩ := hrel
    have HK := Lib.hid hk
    have HR := Lib.hid hr
    have HBEL := Lib.hid hbel
    have hkn : k ≤ n := by omega
    have h4 := isH_below H.out hbel
    clear hk hr hbel
    by_cases hlt : k < n
    · obtain ⟨b, o, x, rfl, hx1, hx2, hx3, hb1, hX, hwx⟩ := isH_get h4 hlt
      have HS : Hid (l.drop k = x :: l.drop (k + 1)) := by
        obtain ⟨hk, rfl⟩ := List.getElem?_eq_some_iff.1 hX
        exact List.drop_eq_getElem_cons hk
      have hlt0 : (k : Int) < (n : Int) := by omega
      have HC := Lib.hid (HRR.out x wr)
      clear hX hwx hb1 h4
      cases hxy : right x
      · rw [hxy] at HC
        go_wp2_with fail
        refine HC.out.mono ?_
        rintro e w' ⟨rfl, hb'⟩
        have HB' := Lib.hid (HBEL.out.trans (hb'.mono HBEL.out.size))
        clear hb'
        go_wp2_with fail
        go_ret
        exact ⟨by rw [HR.out, HS.out]; simp [hxy], HB'.out⟩
      · rw [hxy] at HC
        go_wp2_with fail
        refine HC.out.mono ?_
        rintro e w' ⟨rfl, hb'⟩
        have HB' := Lib.hid (HBEL.out.trans (hb'.mono HBEL.out.size))
        clear hb'
        go_wp2_with fail
        go_roundg (gk - 1)
        case measure => have := HK.out; omega
        case rel => exact ⟨k + 1, by have := HK.out; omega, by go_num, HB'.out, by rw [HR.out, HS.out]; simp [hxy]⟩
    · have h1 := HR.out
      rw [List.drop_of_length_le (by have := H.out.1; omega)] at h1
      have H1 := Lib.hid h1
      clear h1
      go_wp2_with fail
      go_ret
      exact ⟨by rw [H1.out]; rfl, HBEL.out⟩
theorem g1 : Try.prog.eqGuardType Try.prog.depth 27 = false := by kernel_rfl
theorem g3 : Try.prog.stoodInHeld 27 = false := by kernel_rfl
theorem g2 : Try.prog.underlying 27 = some (.struct (Try.prog.fieldsOf 27)) := by kernel_rfl
theorem eq_hit (w : World) (x y : H) : (Op.equalIn 10000 27 (.agg #[.int .i64 x.1, .int .i64 x.2.1, .int .i64 x.2.2]) (.agg #[.int .i64 y.1, .int .i64 y.2.1, .int .i64 y.2.2])).run Try.prog w = .ok (decide (x = y)) w := by
  obtain ⟨x1, x2, x3⟩ := x
  obtain ⟨y1, y2, y3⟩ := y
  dsimp only
  rw [show (10000 : Nat) = 9999 + 1 from rfl, run_equalIn_agg w 9999 _ _ _ g2 g3]
  simp only [Program.fieldsOf, Try.underlying27]
  go_simp
  by_cases h1 : x1 = y1 <;> by_cases h2 : x2 = y2 <;> by_cases h3 : x3 = y3 <;> simp [h1, h2, h3]
theorem drop_eq_iff {a b : List H} {k : Nat} {x y : H} (h : a[k]? = some x) (h' : b[k]? = some y) : (a.drop k == b.drop k) = (x == y && (a.drop (k + 1) == b.drop (k + 1))) := by
  have e : ∀ {l : List H} {z : H}, l[k]? = some z → l.drop k = z :: l.drop (k + 1) := fun {l z} hz => by
    obtain ⟨hk, rfl⟩ := List.getElem?_eq_some_iff.1 hz
    exact List.drop_eq_getElem_cons hk
  rw [e h, e h']; rfl
set_option maxRecDepth 100000 in
set_option maxHeartbeats 4000000 in
theorem rsame_calls {r s : List H} {n c n' c' : Nat} {A A' : Option Addr} (w : World) (h : IsH w A n c r) (h' : IsH w A' n' c' s) :
    Calls Try.prog 17 #[.slice A n c, .slice A' n' c'] w fun e w' => e = .returned (.bool (r == s)) ∧ ∃ q, w' = w.drewN q := by
  have hm := h.2.2.1
  have hnc := h.2.1
  have hm' := h'.2.2.1
  have hnc' := h'.2.1
  by_cases hnn : n = n'
  · subst hnn
    have H := Lib.hid h
    have H' := Lib.hid h'
    clear h h'
    go_enter Try.func17, Try.ntmps17
    go_wp2_with fail
    go_loopg [5] n (fun g x wr => ∃ k q : Nat, k + g = n ∧ x = .int .i64 (k : Int) ∧ wr = w.drewN q ∧ (r == s) = (r.drop k == s.drop k))
    case atStart => exact ⟨0, 0, by omega, rfl, rfl, rfl⟩
    case round =>
      obtain ⟨k, q, hk, rfl, rfl, hr⟩ := hrel
      have HK := Lib.hid hk
      have HR := Lib.hid hr
      have hkn : k ≤ n := by omega
      clear hk hr
      by_cases hlt : k < n
      · obtain ⟨b, o, x, rfl, hx1, hx2, hx3, hb1, hX, hwx⟩ := isH_get H.out hlt
        obtain ⟨b2, o2, y, rfl, hy1, hy2, hy3, hb2, hY, hwy⟩ := isH_get H'.out hlt
        have HS := Lib.hid (drop_eq_iff hX hY)
        have hlt0 : (k : Int) < (n : Int) := by omega
        have hg1 := g1
        have hee := fun w' => eq_hit w' x y
        clear hX hY hwx hwy hb1 hb2
        by_cases hxy : x = y
        · have HBE : Hid ((x == y) = true) := by show _ = _; rw [hxy]; simp
          have hd : decide (x = y) = true := decide_eq_true hxy
          rw [hd] at hee
          clear hd hxy
          go_wp2_with fail
          go_quiet (fail)
          go_wp2_with fail
          go_roundg (gk - 1)
          case measure => have := HK.out; omega
          case rel => exact ⟨k + 1, _, by have := HK.out; omega, by go_num, by first | rfl | exact drewN_add _ _ _, by rw [HR.out, HS.out, HBE.out]; rfl⟩
        · have HBE : Hid ((x == y) = false) := by show _ = _; rw [beq_eq_false_iff_ne]; exact hxy
          have hd : decide (x = y) = false := decide_eq_false hxy
          rw [hd] at hee
          clear hd hxy
          go_wp2_with fail
          go_quiet (fail)
          go_wp2_with fail
          go_ret
          exact ⟨by rw [HR.out, HS.out, HBE.out]; rfl, _, by first | rfl | exact drewN_add _ _ _⟩
      · have h1 := HR.out
        rw [List.drop_of_length_le (by have := H.out.1; omega), List.drop_of_length_le (by have := H'.out.1; omega)] at h1
        have H1 := Lib.hid h1
        clear h1
        go_wp2_with fail
        go_ret
        exact ⟨by rw [H1.out]; rfl, q, rfl⟩
  · have hE : (r == s) = false := by
      rw [beq_eq_false_iff_ne]
      intro h2; subst h2; exact hnn (h.1.symm.trans h'.1)
    rw [hE]
    have hne : ((n : Int) == (n' : Int)) = false := by simp; omega
    clear h h' hE
    go_enter Try.func17, Try.ntmps17
    go_wp2_with fail
    go_ret
    exact ⟨rfl, 0, rfl⟩
set_option maxRecDepth 100000 in
set_option maxHeartbeats 4000000 in
theorem equal_calls {r s : List H} {n c n' c' : Nat} {A A' : Option Addr} (w : World) (h : IsH w A n c r) (h' : IsH w A' n' c' s) :
    Calls Try.prog 39 #[.slice A n c, .slice A' n' c'] w fun e w' => e = .returned (.bool (r == s)) ∧ ∃ q, w' = w.drewN q := by
  have hm := h.2.2.1
  have hnc := h.2.1
  have hm' := h'.2.2.1
  have hnc' := h'.2.1
  by_cases hnn : n = n'
  · subst hnn
    have H := Lib.hid h
    have H' := Lib.hid h'
    clear h h'
    go_enter Try.func39, Try.ntmps39
    go_wp2_with fail
    go_loopg [13] n (fun g x wr => ∃ k q : Nat, k + g = n ∧ x = .int .i64 (k : Int) ∧ wr = w.drewN q ∧ (r == s) = (r.drop k == s.drop k))
    case atStart => exact ⟨0, 0, by omega, rfl, rfl, rfl⟩
    case round =>
      obtain ⟨k, q, hk, rfl, rfl, hr⟩ := hrel
      have HK := Lib.hid hk
      have HR := Lib.hid hr
      have hkn : k ≤ n := by omega
      clear hk hr
      by_cases hlt : k < n
      · obtain ⟨b, o, x, rfl, hx1, hx2, hx3, hb1, hX, hwx⟩ := isH_get H.out hlt
        obtain ⟨b2, o2, y, rfl, hy1, hy2, hy3, hb2, hY, hwy⟩ := isH_get H'.out hlt
        have HS := Lib.hid (drop_eq_iff hX hY)
        have hlt0 : (k : Int) < (n : Int) := by omega
        have hg1 := g1
        have hee := fun w' => eq_hit w' x y
        clear hX hY hwx hwy hb1 hb2
        by_cases hxy : x = y
        · have HBE : Hid ((x == y) = true) := by show _ = _; rw [hxy]; simp
          have hd : decide (x = y) = true := decide_eq_true hxy
          rw [hd] at hee
          clear hd hxy
          go_wp2_with fail
          go_quiet (fail)
          go_wp2_with fail
          go_roundg (gk - 1)
          case measure => have := HK.out; omega
          case rel => exact ⟨k + 1, _, by have := HK.out; omega, by go_num, by first | rfl | exact drewN_add _ _ _, by rw [HR.out, HS.out, HBE.out]; rfl⟩
        · have HBE : Hid ((x == y) = false) := by show _ = _; rw [beq_eq_false_iff_ne]; exact hxy
          have hd : decide (x = y) = false := decide_eq_false hxy
          rw [hd] at hee
          clear hd hxy
          go_wp2_with fail
          go_quiet (fail)
          go_wp2_with fail
          go_ret
          exact ⟨by rw [HR.out, HS.out, HBE.out]; rfl, _, by first | rfl | exact drewN_add _ _ _⟩
      · have h1 := HR.out
        rw [List.drop_of_length_le (by have := H.out.1; omega), List.drop_of_length_le (by have := H'.out.1; omega)] at h1
        have H1 := Lib.hid h1
        clear h1
        go_wp2_with fail
        go_ret
        exact ⟨by rw [H1.out]; rfl, q, rfl⟩
  · have hE : (r == s) = false := by
      rw [beq_eq_false_iff_ne]
      intro h2; subst h2; exact hnn (h.1.symm.trans h'.1)
    rw [hE]
    have hne : ((n : Int) == (n' : Int)) = false := by simp; omega
    clear h h' hE
    go_enter Try.func39, Try.ntmps39
    go_wp2_with fail
    go_ret
    exact ⟨rfl, 0, rfl⟩
end Go.Proofs.Ytckipafciomklaa.bk
/- The order, and predicates over hits. -/
namespace Go.Proofs.Ytckipafciomklaa.bk

open Go.ChangeShapes Go.WideShapes Go.ChangeAt Go.RowKit

open Go.Proofs.Ytckipafciomklaa.bq Go.Proofs.Ytckipafciomklaa.vk Go.Proofs.Ytckipafciomklaa.wk

set_option linter.unusedVariables false
def Gr (w w' : World) : Prop := ∃ q os, w' = Go.Sort.grow (w.drewN q) os
theorem Gr.below {w w' : World} (h : Gr w w') : Below w.heap.size w w' := by
  obtain ⟨q, os, rfl⟩ := h
  refine ⟨rfl, rfl, rfl, by simp [Go.Sort.grow, World.drewN], fun k hk => ?_⟩
  exact Go.Sort.heap_grow_old (w.drewN q) os hk
theorem orI3 (x y : H) : orI [vq.cmpI x.2.2 y.2.2, vq.cmpI x.1 y.1, vq.cmpI x.2.1 y.2.1] = cmpH x y := by
  unfold cmpH orI orI orI orI
  by_cases h1 : vq.cmpI x.2.2 y.2.2 = 0
  · rw [if_pos h1, if_pos h1]
    by_cases h2 : vq.cmpI x.1 y.1 = 0
    · rw [if_pos h2, if_pos h2]
      by_cases h3 : vq.cmpI x.2.1 y.2.1 = 0
      · rw [if_pos h3, h3]
      · rw [if_neg h3]
    · rw [if_neg h2, if_neg h2]
  · rw [if_neg h1, if_neg h1]
set_option maxRecDepth 100000 in
set_option maxHeartbeats 4000000 in
theorem cmpH_calls (x y : H) (w : World) : Calls Try.prog 56 #[.agg #[.int .i64 x.1, .int .i64 x.2.1, .int .i64 x.2.2], .agg #[.int .i64 y.1, .int .i64 y.2.1, .int .i64 y.2.2]] w fun e w' => e = .returned (.int .i64 (cmpH x y)) ∧ Gr w w' := by
  have HE := Lib.hid (orI3 x y)
  obtain ⟨a, b, c⟩ := x
  obtain ⟨a', b', c'⟩ := y
  dsimp only
  dsimp only at HE
  have hb2 := below_new (w.alloc (.cells #[.int .i64 a, .int .i64 b, .int .i64 c] 27)) (.cells #[.int .i64 a', .int .i64 b', .int .i64 c'] 27)
  have HX := Lib.hid ((RowH.new w (a, b, c)).below hb2)
  have HY := Lib.hid (RowH.new (w.alloc (.cells #[.int .i64 a, .int .i64 b, .int .i64 c] 27)) (a', b', c'))
  rw [size_new] at HY
  have HO : Hid (∀ u, u = ((w.alloc (.cells #[.int .i64 a, .int .i64 b, .int .i64 c] 27)).alloc (.cells #[.int .i64 a', .int .i64 b', .int .i64 c'] 27)).drew.alloc (.cells #[.int .i64 (vq.cmpI c c'), .int .i64 (vq.cmpI a a'), .int .i64 (vq.cmpI b b')] 3) → Calls Try.prog 57 #[.slice (some ⟨w.heap.size + 2, 0, none⟩) 3 3] u fun e w' => e = .returned (.int .i64 (cmpH (a, b, c) (a', b', c'))) ∧ w' = u) := fun u hu => by
    subst hu
    rw [← HE.out]
    refine or_calls _ 3 3 _ _ (isI_new (w := ((w.alloc (.cells #[.int .i64 a, .int .i64 b, .int .i64 c] 27)).alloc (.cells #[.int .i64 a', .int .i64 b', .int .i64 c'] 27)).drew) (by simp [World.drew]) [vq.cmpI c c', vq.cmpI a a', vq.cmpI b b'] rfl 3 rfl (by omega) (by intro x hx; have := cmpI_bd c c'; have := cmpI_bd a a'; have := cmpI_bd b b'; simp at hx; omega) 3) (by omega)
  clear hb2 HE
  go_enter Try.func56, Try.ntmps56
  go_wp2_with fail
  refine wk.region_many 18 [.pointer (some ⟨w.heap.size, 2, none⟩), .int .i64 c, .pointer (some ⟨w.heap.size + 1, 2, none⟩), .int .i64 c', .int .i64 (vq.cmpI c c'), .pointer (some ⟨w.heap.size, 0, none⟩), .int .i64 a, .pointer (some ⟨w.heap.size + 1, 0, none⟩), .int .i64 a', .int .i64 (vq.cmpI a a'), .pointer (some ⟨w.heap.size, 1, none⟩), .int .i64 b, .pointer (some ⟨w.heap.size + 1, 1, none⟩), .int .i64 b', .int .i64 (vq.cmpI b b'), .slice (some ⟨w.heap.size + 2, 0, none⟩) 3 3, .int .i64 (cmpH (a, b, c) (a', b', c')), .int .i64 (cmpH (a, b, c) (a', b', c'))] [some 5, some 6, some 7, some 8, some 9, some 10, some 11, some 12, some 13, some 14, some 15, some 16, some 17, some 18, some 19, some 20, some 21, some 4] (fun L u => u = (if L 15 then ((w.alloc (.cells #[.int .i64 a, .int .i64 b, .int .i64 c] 27)).alloc (.cells #[.int .i64 a', .int .i64 b', .int .i64 c'] 27)).drew.alloc (.cells #[.int .i64 (vq.cmpI c c'), .int .i64 (vq.cmpI a a'), .int .i64 (vq.cmpI b b')] 3) else ((w.alloc (.cells #[.int .i64 a, .int .i64 b, .int .i64 c] 27)).alloc (.cells #[.int .i64 a', .int .i64 b', .int .i64 c'] 27)).drew) ∧ Below ((w.alloc (.cells #[.int .i64 a, .int .i64 b, .int .i64 c] 27)).alloc (.cells #[.int .i64 a', .int .i64 b', .int .i64 c'] 27)).heap.size ((w.alloc (.cells #[.int .i64 a, .int .i64 b, .int .i64 c] 27)).alloc (.cells #[.int .i64 a', .int .i64 b', .int .i64 c'] 27)) u) (⟨by simp, (Below.refl _ _).drew⟩) rfl (by kernel_rfl) (by kernel_rfl) (by kernel_rfl) (by kernel_rfl) (by kernel_rfl) (by kernel_rfl) ?hstep ?hdone
  case hstep =>
    intro i o ho hi E L w4 hS4 hL hdeps D
    have hi2 : i = 0 ∨ i = 1 ∨ i = 2 ∨ i = 3 ∨ i = 4 ∨ i = 5 ∨ i = 6 ∨ i = 7 ∨ i = 8 ∨ i = 9 ∨ i = 10 ∨ i = 11 ∨ i = 12 ∨ i = 13 ∨ i = 14 ∨ i = 15 ∨ i = 16 ∨ i = 17 := by omega
    clear hi
    rcases hi2 with rfl | rfl | rfl | rfl | rfl | rfl | rfl | rfl | rfl | rfl | rfl | rfl | rfl | rfl | rfl | rfl | rfl | rfl
    ·
      have ho2 := (Array.getElem?_eq_some_iff.1 ho).2
      simp only [List.getElem_toArray, List.getElem_cons_zero] at ho2
      subst ho2
      clear ho
      have e2 := D.old 2 (by kernel_rfl)
      have HS := Lib.hid hS4
      clear hS4
      refine wk.does_new_t (w' := w4) (v := .pointer (some ⟨w.heap.size, 2, none⟩)) (by simp only [execOp]; rw [show E (.tmp 2) = .pointer (some ⟨w.heap.size, 0, none⟩) by rw [e2]; rfl]; go_simp) ⟨rfl, by simpa using HS.out.1, HS.out.2⟩
    ·
      have ho2 := (Array.getElem?_eq_some_iff.1 ho).2
      simp only [List.getElem_toArray, List.getElem_cons_succ, List.getElem_cons_zero] at ho2
      subst ho2
      clear ho
      have e5 := D.is { on := 0, ground := .data } (by simp) rfl rfl 5 rfl
      have HS := Lib.hid hS4
      clear hS4
      have hc9 := (HX.out.below HS.out.2).c2
      dsimp only at hc9
      refine wk.does_new_t (w' := w4) (v := .int .i64 c) (by simp only [execOp]; rw [e5]; go_simp) ⟨rfl, by simpa using HS.out.1, HS.out.2⟩
    ·
      have ho2 := (Array.getElem?_eq_some_iff.1 ho).2
      simp only [List.getElem_toArray, List.getElem_cons_succ, List.getElem_cons_zero] at ho2
      subst ho2
      clear ho
      have e3 := D.old 3 (by kernel_rfl)
      have HS := Lib.hid hS4
      clear hS4
      refine wk.does_new_t (w' := w4) (v := .pointer (some ⟨w.heap.size + 1, 2, none⟩)) (by simp only [execOp]; rw [show E (.tmp 3) = .pointer (some ⟨w.heap.size + 1, 0, none⟩) by rw [e3]; rfl]; go_simp) ⟨rfl, by simpa using HS.out.1, HS.out.2⟩
    ·
      have ho2 := (Array.getElem?_eq_some_iff.1 ho).2
      simp only [List.getElem_toArray, List.getElem_cons_succ, List.getElem_cons_zero] at ho2
      subst ho2
      clear ho
      have e7 := D.is { on := 2, ground := .data } (by simp) rfl rfl 7 rfl
      have HS := Lib.hid hS4
      clear hS4
      have hc9 := (HY.out.below HS.out.2).c2
      dsimp only at hc9
      refine wk.does_new_t (w' := w4) (v := .int .i64 c') (by simp only [execOp]; rw [e7]; go_simp) ⟨rfl, by simpa using HS.out.1, HS.out.2⟩
    ·
      have ho2 := (Array.getElem?_eq_some_iff.1 ho).2
      simp only [List.getElem_toArray, List.getElem_cons_succ, List.getElem_cons_zero] at ho2
      subst ho2
      clear ho
      have e6 := D.is { on := 1, ground := .data } (by simp) rfl rfl 6 rfl
      have e8 := D.is { on := 3, ground := .data } (by simp) rfl rfl 8 rfl
      have HS := Lib.hid hS4
      clear hS4
      refine wk.does_fn_t (f := 58) (vs := #[.int .i64 c, .int .i64 c']) rfl (D.fn _) (by simp [e6, e8]) (by go_simp) ?_
      refine (cmpI_calls _ _ _).mono ?_
      rintro e w7 ⟨rfl, rfl⟩
      exact ⟨_, rfl, ⟨rfl, by simpa using HS.out.1, HS.out.2⟩⟩
    ·
      have ho2 := (Array.getElem?_eq_some_iff.1 ho).2
      simp only [List.getElem_toArray, List.getElem_cons_succ, List.getElem_cons_zero] at ho2
      subst ho2
      clear ho
      have e2 := D.old 2 (by kernel_rfl)
      have HS := Lib.hid hS4
      clear hS4
      refine wk.does_new_t (w' := w4) (v := .pointer (some ⟨w.heap.size, 0, none⟩)) (by simp only [execOp]; rw [show E (.tmp 2) = .pointer (some ⟨w.heap.size, 0, none⟩) by rw [e2]; rfl]; go_simp) ⟨rfl, by simpa using HS.out.1, HS.out.2⟩
    ·
      have ho2 := (Array.getElem?_eq_some_iff.1 ho).2
      simp only [List.getElem_toArray, List.getElem_cons_succ, List.getElem_cons_zero] at ho2
      subst ho2
      clear ho
      have e10 := D.is { on := 5, ground := .data } (by simp) rfl rfl 10 rfl
      have HS := Lib.hid hS4
      clear hS4
      have hc9 := (HX.out.below HS.out.2).c0
      dsimp only at hc9
      refine wk.does_new_t (w' := w4) (v := .int .i64 a) (by simp only [execOp]; rw [e10]; go_simp) ⟨rfl, by simpa using HS.out.1, HS.out.2⟩
    ·
      have ho2 := (Array.getElem?_eq_some_iff.1 ho).2
      simp only [List.getElem_toArray, List.getElem_cons_succ, List.getElem_cons_zero] at ho2
      subst ho2
      clear ho
      have e3 := D.old 3 (by kernel_rfl)
      have HS := Lib.hid hS4
      clear hS4
      refine wk.does_new_t (w' := w4) (v := .pointer (some ⟨w.heap.size + 1, 0, none⟩)) (by simp only [execOp]; rw [show E (.tmp 3) = .pointer (some ⟨w.heap.size + 1, 0, none⟩) by rw [e3]; rfl]; go_simp) ⟨rfl, by simpa using HS.out.1, HS.out.2⟩
    ·
      have ho2 := (Array.getElem?_eq_some_iff.1 ho).2
      simp only [List.getElem_toArray, List.getElem_cons_succ, List.getElem_cons_zero] at ho2
      subst ho2
      clear ho
      have e12 := D.is { on := 7, ground := .data } (by simp) rfl rfl 12 rfl
      have HS := Lib.hid hS4
      clear hS4
      have hc9 := (HY.out.below HS.out.2).c0
      dsimp only at hc9
      refine wk.does_new_t (w' := w4) (v := .int .i64 a') (by simp only [execOp]; rw [e12]; go_simp) ⟨rfl, by simpa using HS.out.1, HS.out.2⟩
    ·
      have ho2 := (Array.getElem?_eq_some_iff.1 ho).2
      simp only [List.getElem_toArray, List.getElem_cons_succ, List.getElem_cons_zero] at ho2
      subst ho2
      clear ho
      have e11 := D.is { on := 6, ground := .data } (by simp) rfl rfl 11 rfl
      have e13 := D.is { on := 8, ground := .data } (by simp) rfl rfl 13 rfl
      have HS := Lib.hid hS4
      clear hS4
      refine wk.does_fn_t (f := 58) (vs := #[.int .i64 a, .int .i64 a']) rfl (D.fn _) (by simp [e11, e13]) (by go_simp) ?_
      refine (cmpI_calls _ _ _).mono ?_
      rintro e w7 ⟨rfl, rfl⟩
      exact ⟨_, rfl, ⟨rfl, by simpa using HS.out.1, HS.out.2⟩⟩
    ·
      have ho2 := (Array.getElem?_eq_some_iff.1 ho).2
      simp only [List.getElem_toArray, List.getElem_cons_succ, List.getElem_cons_zero] at ho2
      subst ho2
      clear ho
      have e2 := D.old 2 (by kernel_rfl)
      have HS := Lib.hid hS4
      clear hS4
      refine wk.does_new_t (w' := w4) (v := .pointer (some ⟨w.heap.size, 1, none⟩)) (by simp only [execOp]; rw [show E (.tmp 2) = .pointer (some ⟨w.heap.size, 0, none⟩) by rw [e2]; rfl]; go_simp) ⟨rfl, by simpa using HS.out.1, HS.out.2⟩
    ·
      have ho2 := (Array.getElem?_eq_some_iff.1 ho).2
      simp only [List.getElem_toArray, List.getElem_cons_succ, List.getElem_cons_zero] at ho2
      subst ho2
      clear ho
      have e15 := D.is { on := 10, ground := .data } (by simp) rfl rfl 15 rfl
      have HS := Lib.hid hS4
      clear hS4
      have hc9 := (HX.out.below HS.out.2).c1
      dsimp only at hc9
      refine wk.does_new_t (w' := w4) (v := .int .i64 b) (by simp only [execOp]; rw [e15]; go_simp) ⟨rfl, by simpa using HS.out.1, HS.out.2⟩
    ·
      have ho2 := (Array.getElem?_eq_some_iff.1 ho).2
      simp only [List.getElem_toArray, List.getElem_cons_succ, List.getElem_cons_zero] at ho2
      subst ho2
      clear ho
      have e3 := D.old 3 (by kernel_rfl)
      have HS := Lib.hid hS4
      clear hS4
      refine wk.does_new_t (w' := w4) (v := .pointer (some ⟨w.heap.size + 1, 1, none⟩)) (by simp only [execOp]; rw [show E (.tmp 3) = .pointer (some ⟨w.heap.size + 1, 0, none⟩) by rw [e3]; rfl]; go_simp) ⟨rfl, by simpa using HS.out.1, HS.out.2⟩
    ·
      have ho2 := (Array.getElem?_eq_some_iff.1 ho).2
      simp only [List.getElem_toArray, List.getElem_cons_succ, List.getElem_cons_zero] at ho2
      subst ho2
      clear ho
      have e17 := D.is { on := 12, ground := .data } (by simp) rfl rfl 17 rfl
      have HS := Lib.hid hS4
      clear hS4
      have hc9 := (HY.out.below HS.out.2).c1
      dsimp only at hc9
      refine wk.does_new_t (w' := w4) (v := .int .i64 b') (by simp only [execOp]; rw [e17]; go_simp) ⟨rfl, by simpa using HS.out.1, HS.out.2⟩
    ·
      have ho2 := (Array.getElem?_eq_some_iff.1 ho).2
      simp only [List.getElem_toArray, List.getElem_cons_succ, List.getElem_cons_zero] at ho2
      subst ho2
      clear ho
      have e16 := D.is { on := 11, ground := .data } (by simp) rfl rfl 16 rfl
      have e18 := D.is { on := 13, ground := .data } (by simp) rfl rfl 18 rfl
      have HS := Lib.hid hS4
      clear hS4
      refine wk.does_fn_t (f := 58) (vs := #[.int .i64 b, .int .i64 b']) rfl (D.fn _) (by simp [e16, e18]) (by go_simp) ?_
      refine (cmpI_calls _ _ _).mono ?_
      rintro e w7 ⟨rfl, rfl⟩
      exact ⟨_, rfl, ⟨rfl, by simpa using HS.out.1, HS.out.2⟩⟩
    ·
      have ho2 := (Array.getElem?_eq_some_iff.1 ho).2
      simp only [List.getElem_toArray, List.getElem_cons_succ, List.getElem_cons_zero] at ho2
      subst ho2
      clear ho
      have e9 := D.is { on := 4, ground := .data } (by simp) rfl rfl 9 rfl
      have e14 := D.is { on := 9, ground := .data } (by simp) rfl rfl 14 rfl
      have e19 := D.is { on := 14, ground := .data } (by simp) rfl rfl 19 rfl
      have HS := Lib.hid hS4
      clear hS4
      have h16 : w4 = ((w.alloc (.cells #[.int .i64 a, .int .i64 b, .int .i64 c] 27)).alloc (.cells #[.int .i64 a', .int .i64 b', .int .i64 c'] 27)).drew := by have := HS.out.1; rw [hL] at this; exact this
      subst h16
      refine wk.does_new_t (w' := ((w.alloc (.cells #[.int .i64 a, .int .i64 b, .int .i64 c] 27)).alloc (.cells #[.int .i64 a', .int .i64 b', .int .i64 c'] 27)).drew.alloc (.cells #[.int .i64 (vq.cmpI c c'), .int .i64 (vq.cmpI a a'), .int .i64 (vq.cmpI b b')] 3)) (v := .slice (some ⟨w.heap.size + 2, 0, none⟩) 3 3) (by simp only [execOp, List.map_toArray, List.map_cons, List.map_nil]; rw [e9, e14, e19]; go_simp) ⟨rfl, by simp, HS.out.2.alloc (Nat.le_refl _) _⟩
    ·
      have ho2 := (Array.getElem?_eq_some_iff.1 ho).2
      simp only [List.getElem_toArray, List.getElem_cons_succ, List.getElem_cons_zero] at ho2
      subst ho2
      clear ho
      have e20 := D.is { on := 15, ground := .data } (by simp) rfl rfl 20 rfl
      have HS := Lib.hid hS4
      clear hS4
      have h15 := hdeps { on := 15, ground := .data } (by simp) rfl
      have h16 : w4 = ((w.alloc (.cells #[.int .i64 a, .int .i64 b, .int .i64 c] 27)).alloc (.cells #[.int .i64 a', .int .i64 b', .int .i64 c'] 27)).drew.alloc (.cells #[.int .i64 (vq.cmpI c c'), .int .i64 (vq.cmpI a a'), .int .i64 (vq.cmpI b b')] 3) := by have := HS.out.1; rw [h15] at this; exact this
      refine wk.does_fn_t (f := 57) (vs := #[.slice (some ⟨w.heap.size + 2, 0, none⟩) 3 3]) rfl (D.fn _) (by simp [e20]) (by go_simp) ?_
      refine (HO.out w4 h16).mono ?_
      rintro e w7 ⟨rfl, rfl⟩
      exact ⟨_, rfl, rfl, by simpa using HS.out.1, HS.out.2⟩
    ·
      have ho2 := (Array.getElem?_eq_some_iff.1 ho).2
      simp only [List.getElem_toArray, List.getElem_cons_succ, List.getElem_cons_zero] at ho2
      subst ho2
      clear ho
      have e21 := D.is { on := 16, ground := .data } (by simp) rfl rfl 21 rfl
      have HS := Lib.hid hS4
      clear hS4
      refine wk.does_new_t (w' := w4) (v := .int .i64 (cmpH (a, b, c) (a', b', c'))) (by simp only [execOp]; rw [e21]; go_simp) ⟨rfl, by simpa using HS.out.1, HS.out.2⟩
  case hdone =>
    intro L w4 hall hS4
    simp only [List.drop_succ_cons, List.drop_zero, wpList, wk.setL, List.setIfInBounds_toArray, List.set_cons_zero, List.set_cons_succ, Nat.zero_add, Nat.reduceAdd, List.getD_cons_zero, List.getD_cons_succ]
    have h15 : w4 = ((w.alloc (.cells #[.int .i64 a, .int .i64 b, .int .i64 c] 27)).alloc (.cells #[.int .i64 a', .int .i64 b', .int .i64 c'] 27)).drew.alloc (.cells #[.int .i64 (vq.cmpI c c'), .int .i64 (vq.cmpI a a'), .int .i64 (vq.cmpI b b')] 3) := by have := hS4.1; rw [hall 15 (by omega)] at this; exact this
    subst h15
    clear hS4 hall
    go_wp2_with fail
    go_ret
    refine ⟨rfl, 1, #[.cells #[.int .i64 a, .int .i64 b, .int .i64 c] 27, .cells #[.int .i64 a', .int .i64 b', .int .i64 c'] 27, (.cells #[.int .i64 (vq.cmpI c c'), .int .i64 (vq.cmpI a a'), .int .i64 (vq.cmpI b b')] 3)], ?_⟩
    simp only [Go.Sort.alloc_eq_grow, Go.Sort.drew_grow, Go.Sort.grow_grow]
    rfl
def ordV : Value := .agg #[.func (.func 56) #[] #[]]
def OrdX (w : World) (g : Nat) : Prop := w.heap[g]? = some (.cells #[.func (.func 56) #[] #[]] 55 (0, 0))
theorem OrdX.lt {w : World} {g : Nat} (h : OrdX w g) : g < w.heap.size := (Array.getElem?_eq_some_iff.1 h).1
theorem OrdX.below {w w' : World} {g : Nat} (h : OrdX w g) (hb : Below w.heap.size w w') : OrdX w' g := (hb.block g h.lt).trans h
theorem OrdX.at {w w' : World} {g : Nat} (h : OrdX w g) (e : w'.heap[g]? = w.heap[g]?) : OrdX w' g := e.trans h
theorem OrdX.new (w : World) : OrdX (w.alloc (.cells #[.func (.func 56) #[] #[]] 55)) w.heap.size := heap_alloc_new w _
theorem OrdX.c0 {w : World} {g : Nat} (h : OrdX w g) : w.cell? ⟨g, 0, none⟩ = some (.func (.func 56) #[] #[]) := by rw [cell_of_row _ _ _ _ _ _ h]; rfl
theorem OrdX.cells {w : World} {g : Nat} (h : OrdX w g) : ∀ j u, [Value.func (.func 56) #[] #[]][j]? = some u → w.cell? ((⟨g, 0, none⟩ : Addr).add j) = some u := fun j u hu => by
  rw [wk.add_at, Nat.zero_add, cell_of_row _ _ _ _ _ _ h]
  simpa using hu
theorem res_o {fn : Func} {p : Tmp} (h : fn.results = #[.cell p 55]) (tmps : Array Value) (w : World) (g : Nat) (hp : tmps.getD p undef = .pointer (some ⟨g, 0, none⟩)) (hg : OrdX w g) :
    (results fn tmps).run Try.prog w = .ok ordV w := by
  have hp' : tmps[p]?.getD undef = .pointer (some ⟨g, 0, none⟩) := by simpa using hp
  simp [results, h, hp', asAddr, run_loadVar_row w g _ _ #[.func (.func 56) #[] #[]] (0, 0) _ hg Try.underlying55 rfl (by kernel_rfl), ordV]
theorem ofield_run (w : World) : (Instr.field 55 (.agg #[.func (.func 56) #[] #[]]) 0).run Try.prog w = .ok (.func (.func 56) #[] #[]) w := by
  have h1 := Try.underlying55
  have h2 := Try.underlying53
  simp [Instr.field, run_underlying h1, run_underlying h2, part, isAgg, asAgg]
set_option maxRecDepth 100000 in
set_option maxHeartbeats 4000000 in
theorem nearer_calls (w : World) : Calls Try.prog 41 #[] w fun e w' => e = .returned (.agg #[.func (.func 56) #[] #[]]) ∧ Below w.heap.size w w' := by
  have HX := Lib.hid (OrdX.new w)
  have HB := Lib.hid (below_new w (.cells #[.func (.func 56) #[] #[]] 55))
  go_enter Try.func41, Try.ntmps41
  go_wp2_with fail
  exact bodyPost_ret (v := ordV) (res_o (fn := Try.f41) rfl _ _ w.heap.size rfl HX.out) rfl ⟨rfl, HB.out⟩
set_option maxRecDepth 100000 in
set_option maxHeartbeats 4000000 in
theorem less_calls (x y : H) (w : World) : Calls Try.prog 13 #[.agg #[.int .i64 x.1, .int .i64 x.2.1, .int .i64 x.2.2], .agg #[.int .i64 y.1, .int .i64 y.2.1, .int .i64 y.2.2]] w fun e w' => e = .returned (.bool (lt x y)) ∧ Below w.heap.size w w' := by
  have hb2 := below_new (w.alloc (.cells #[.int .i64 x.1, .int .i64 x.2.1, .int .i64 x.2.2] 27)) (.cells #[.int .i64 y.1, .int .i64 y.2.1, .int .i64 y.2.2] 27)
  have HX := Lib.hid ((RowH.new w x).below hb2)
  have HY := Lib.hid (RowH.new (w.alloc (.cells #[.int .i64 x.1, .int .i64 x.2.1, .int .i64 x.2.2] 27)) y)
  rw [size_new] at HY
  have HB := Lib.hid (Below.andThen (below_new w (.cells #[.int .i64 x.1, .int .i64 x.2.1, .int .i64 x.2.2] 27)) hb2)
  clear hb2
  go_enter Try.func13, Try.ntmps13
  go_wp2_with fail
  refine wk.region_tailS 7 [.is (.agg #[.func (.func 56) #[] #[]]), .is (.func (.func 56) #[] #[]), .is (.agg #[.int .i64 x.1, .int .i64 x.2.1, .int .i64 x.2.2]), .is (.agg #[.int .i64 y.1, .int .i64 y.2.1, .int .i64 y.2.2]), .is (.int .i64 (cmpH x y)), .is (.bool (decide (cmpH x y < 0))), .is (.bool (decide (cmpH x y < 0)))] [some 5, some 6, some 7, some 8, some 9, some 10, some 4] (by kernel_rfl) (by kernel_rfl) (by kernel_rfl) (by kernel_rfl) [] (by kernel_rfl) (by intro p hp; cases hp) (by kernel_rfl) (by kernel_rfl) ?hstep ?hdone
  case hstep =>
    intro i o ho hi hns E w4 hb4 D
    have hi2 : i = 0 ∨ i = 1 ∨ i = 2 ∨ i = 3 ∨ i = 4 ∨ i = 5 ∨ i = 6 := by omega
    clear hi
    rcases hi2 with rfl | rfl | rfl | rfl | rfl | rfl | rfl
    ·
      have ho2 := (Array.getElem?_eq_some_iff.1 ho).2
      simp only [List.getElem_toArray, List.getElem_cons_zero] at ho2
      subst ho2
      clear ho
      refine wk.does_fn (f := 41) (vs := #[]) rfl (D.fn _) (by simp []) (by go_simp) ?_
      refine (nearer_calls _).mono ?_
      rintro e w7 ⟨rfl, hb7⟩
      exact ⟨_, rfl, hb7, rfl⟩
    ·
      have ho2 := (Array.getElem?_eq_some_iff.1 ho).2
      simp only [List.getElem_toArray, List.getElem_cons_succ, List.getElem_cons_zero] at ho2
      subst ho2
      clear ho
      have e5 := D.is { on := 0, ground := .data } (by simp) rfl rfl 5 rfl
      have h9 := ofield_run w4
      exact wk.does_run (by simp only [execOp]; rw [e5]; go_simp) rfl
    ·
      have ho2 := (Array.getElem?_eq_some_iff.1 ho).2
      simp only [List.getElem_toArray, List.getElem_cons_succ, List.getElem_cons_zero] at ho2
      subst ho2
      clear ho
      have e2 := D.old 2 (by kernel_rfl)
      exact wk.does_load_agg rfl (show E (.tmp 2) = .pointer (some ⟨w.heap.size, 0, none⟩) by rw [e2]; rfl) (cs := rv x) ((HX.out.below ((Below.refl _ _).drew.trans hb4)).cells) Try.underlying27 rfl (by kernel_rfl) rfl
    ·
      have ho2 := (Array.getElem?_eq_some_iff.1 ho).2
      simp only [List.getElem_toArray, List.getElem_cons_succ, List.getElem_cons_zero] at ho2
      subst ho2
      clear ho
      have e3 := D.old 3 (by kernel_rfl)
      exact wk.does_load_agg rfl (show E (.tmp 3) = .pointer (some ⟨w.heap.size + 1, 0, none⟩) by rw [e3]; rfl) (cs := rv y) ((HY.out.below ((Below.refl _ _).drew.trans hb4)).cells) Try.underlying27 rfl (by kernel_rfl) rfl
    ·
      have ho2 := (Array.getElem?_eq_some_iff.1 ho).2
      simp only [List.getElem_toArray, List.getElem_cons_succ, List.getElem_cons_zero] at ho2
      subst ho2
      clear ho
      have e6 := D.is { on := 1, ground := .data } (by simp) rfl rfl 6 rfl
      have e7 := D.is { on := 2, ground := .data } (by simp) rfl rfl 7 rfl
      have e8 := D.is { on := 3, ground := .data } (by simp) rfl rfl 8 rfl
      refine wk.does_fn (f := 56) (vs := #[.agg #[.int .i64 x.1, .int .i64 x.2.1, .int .i64 x.2.2], .agg #[.int .i64 y.1, .int .i64 y.2.1, .int .i64 y.2.2]]) rfl e6 (by simp [e7, e8]) (by go_simp) ?_
      refine (cmpH_calls _ _ _).mono ?_
      rintro e w7 ⟨rfl, hg⟩
      exact ⟨_, rfl, hg.below, rfl⟩
    ·
      have ho2 := (Array.getElem?_eq_some_iff.1 ho).2
      simp only [List.getElem_toArray, List.getElem_cons_succ, List.getElem_cons_zero] at ho2
      subst ho2
      clear ho
      have e9 := D.is { on := 4, ground := .data } (by simp) rfl rfl 9 rfl
      exact wk.does_run (by simp only [execOp]; rw [show E (.tmp 9) = _ from e9, show E (.const (.int .i64 0)) = .int .i64 0 from D.con _]; go_simp) rfl
    ·
      have ho2 := (Array.getElem?_eq_some_iff.1 ho).2
      simp only [List.getElem_toArray, List.getElem_cons_succ, List.getElem_cons_zero] at ho2
      subst ho2
      clear ho
      have e10 := D.is { on := 5, ground := .data } (by simp) rfl rfl 10 rfl
      exact wk.does_assign rfl e10
  case hdone =>
    intro vals w4 hb4 hv
    have h6 := hv 6 (by omega)
    clear hv
    replace h6 : vals 6 = (.bool (decide (cmpH x y < 0))) := h6
    simp only [List.drop_succ_cons, List.drop_zero, wpList, wk.setL, List.setIfInBounds_toArray, List.set_cons_zero, List.set_cons_succ, Nat.zero_add, Nat.reduceAdd, h6]
    generalize vals 0 = x0
    generalize vals 1 = x1
    generalize vals 2 = x2
    generalize vals 3 = x3
    generalize vals 4 = x4
    generalize vals 5 = x5
    have HF := Lib.hid (HB.out.trans (((Below.refl _ _).drew.trans hb4).mono HB.out.size))
    clear hb4
    go_wp2_with fail
    go_ret
    exact ⟨rfl, HF.out⟩
def IxF (p : H → Bool) (l : List H) (z : Int) : Prop := (z = -1 ∧ l.all (fun x => !p x) = true) ∨ ∃ i : Nat, z = i ∧ i < l.length ∧ (l.take i).all (fun x => !p x) = true ∧ ∃ x, l[i]? = some x ∧ p x = true
theorem IxF.any {p : H → Bool} {l : List H} {z : Int} (h : IxF p l z) : decide (0 ≤ z) = l.any p := by
  rcases h with ⟨rfl, h⟩ | ⟨i, rfl, hi, -, x, hx, hp⟩
  · have : l.any p = false := by
      rw [List.any_eq_false]
      intro x hx
      have := List.all_eq_true.1 h x hx
      simpa using this
    rw [this]; rfl
  · have : l.any p = true := List.any_eq_true.2 ⟨x, List.mem_of_getElem? hx, hp⟩
    rw [this]; simp
def PredH (g : FuncId) (cap : Array Value) (p : H → Bool) (l : List H) (w : World) : Prop :=
  ∀ w', Below w.heap.size w w' → ∀ x ∈ l, Calls Try.prog g (#[.agg #[.int .i64 x.1, .int .i64 x.2.1, .int .i64 x.2.2]] ++ cap) w' fun e w2 => e = .returned (.bool (p x)) ∧ Below w'.heap.size w' w2
set_option maxRecDepth 100000 in
set_option maxHeartbeats 4000000 in
theorem index_calls {l : List H} {n c : Nat} {A : Option Addr} {g : FuncId} {cap : Array Value} {p : H → Bool} (w : World) (h : IsH w A n c l) (hf : ∀ vs w', (callFunc g vs).run Try.prog w' = .ok (.enter g vs) w') (hp : PredH g cap p l w) :
    Calls Try.prog 55 #[.slice A n c, .func (.func g) #[] cap] w fun e w' => ∃ z, e = .returned (.int .i64 z) ∧ IxF p l z ∧ Below w.heap.size w w' := by
  have hm := h.2.2.1
  have hnc := h.2.1
  have H := Lib.hid h
  have HP := Lib.hid hp
  clear h hp
  go_enter Try.func55, Try.ntmps55
  go_wp2_with fail
  go_loopg [8] n (fun g x wr => ∃ k : Nat, k + g = n ∧ x = .int .i64 (k : Int) ∧ Below w.heap.size w wr ∧ (l.take k).all (fun x => !p x) = true)
  case atStart => exact ⟨0, by omega, rfl, Below.refl _ _, by simp⟩
  case round =>
    obtain ⟨k, hk, rfl, hbel, hr⟩ := hrel
    have HK := Lib.hid hk
    have HR := Lib.hid hr
    have HBEL := Lib.hid hbel
    have hkn : k ≤ n := by omega
    have h4 := isH_below H.out hbel
    clear hk hr
    by_cases hlt : k < n
    · obtain ⟨b, o, x, rfl, hx1, hx2, hx3, hb1, hX, hwx⟩ := isH_get h4 hlt
      have HX := Lib.hid hX
      have hlt0 : (k : Int) < (n : Int) := by omega
      have HC := Lib.hid (HP.out wr hbel x (List.mem_of_getElem? hX))
      have HT : Hid ((l.take (k + 1)).all (fun x => !p x) = ((l.take k).all (fun x => !p x) && !p x)) := by
        show _ = _
        rw [List.take_add_one, hX, List.all_append]; simp
      clear hX hwx hb1 h4 hbel
      cases hxy : p x
      · rw [hxy] at HC
        go_wp2_with fail
        refine HC.out.mono ?_
        rintro e w' ⟨rfl, hb'⟩
        have HB' := Lib.hid (HBEL.out.trans (hb'.mono HBEL.out.size))
        clear hb'
        go_wp2_with fail
        go_roundg (gk - 1)
        case measure => have := HK.out; omega
        case rel => exact ⟨k + 1, by have := HK.out; omega, by go_num, HB'.out, by rw [HT.out, HR.out, hxy]; rfl⟩
      · rw [hxy] at HC
        go_wp2_with fail
        refine HC.out.mono ?_
        rintro e w' ⟨rfl, hb'⟩
        have HB' := Lib.hid (HBEL.out.trans (hb'.mono HBEL.out.size))
        clear hb'
        go_wp2_with fail
        go_ret
        exact ⟨_, rfl, .inr ⟨k, rfl, by rw [H.out.1]; exact hlt, HR.out, x, HX.out, hxy⟩, HB'.out⟩
    · have h1 := HR.out
      rw [List.take_of_length_le (by have := H.out.1; omega)] at h1
      have H1 := Lib.hid h1
      clear h1 hbel h4
      go_wp2_with fail
      go_ret
      exact ⟨_, rfl, .inl ⟨rfl, H1.out⟩, HBEL.out⟩
set_option maxRecDepth 100000 in
set_option maxHeartbeats 4000000 in
theorem contains_calls {l : List H} {n c : Nat} {A : Option Addr} {g : FuncId} {cap : Array Value} {p : H → Bool} (w : World) (h : IsH w A n c l) (hf : ∀ vs w', (callFunc g vs).run Try.prog w' = .ok (.enter g vs) w') (hp : PredH g cap p l w) :
    Calls Try.prog 37 #[.slice A n c, .func (.func g) #[] cap] w fun e w' => e = .returned (.bool (l.any p)) ∧ Below w.heap.size w w' := by
  have HI := Lib.hid (index_calls w h hf hp)
  clear h hp
  go_enter Try.func37, Try.ntmps37
  go_wp2_with fail
  refine HI.out.mono ?_
  rintro e w' ⟨z, rfl, hz, hb⟩
  have HZ := Lib.hid hz.any
  have HB := Lib.hid hb
  clear hz hb
  go_wp2_with fail
  go_ret
  exact ⟨by rw [← HZ.out]; rfl, HB.out⟩
theorem enters38 (vs : Array Value) (w : World) : (callFunc 38 vs).run Try.prog w = .ok (.enter 38 vs) w := by kernel_rfl
theorem wrong_pred (l : List H) (w : World) : PredH 38 #[] (fun x => !right x) l w := fun w' _ x _ => by
  have := wrong_calls x w'
  simpa using this
end Go.Proofs.Ytckipafciomklaa.bk
/- Maps of hits. -/
namespace Go.Proofs.Ytckipafciomklaa.bq

set_option linter.unusedVariables false
theorem bst_add {l : List H} {h x : H} (hn : ∀ g ∈ bst l, g.1 = h.1 → lt h g = true) : x ∈ bst (l ++ [h]) ↔ x = h ∨ (x ∈ bst l ∧ x.1 ≠ h.1) := by
  rw [mem_bst, mem_bst]
  constructor
  · rintro ⟨h1, h2⟩
    rcases List.mem_append.1 h1 with h1 | h1
    · by_cases e : x = h
      · exact .inl e
      · have hb : x ∈ bst l := mem_bst.2 ⟨h1, fun g hg e => h2 g (List.mem_append.2 (.inl hg)) e⟩
        refine .inr ⟨mem_bst.1 hb, fun e => ?_⟩
        have := hn x hb e
        rw [h2 h (by simp) e.symm] at this
        cases this
    · exact .inl (by simpa using h1)
  · rintro (rfl | ⟨⟨h1, h2⟩, h3⟩)
    · refine ⟨by simp, fun g hg e => ?_⟩
      rcases List.mem_append.1 hg with hg | hg
      · obtain ⟨g', hg', e', hl⟩ := rep hg
        have h4 := hn g' hg' (e'.trans e)
        refine lt_asymm ?_
        rcases hl with rfl | hl
        · exact h4
        · exact lt_trans h4 hl
      · rw [List.mem_singleton.1 hg]; exact lt_irrefl _
    · refine ⟨List.mem_append.2 (.inl h1), fun g hg e => ?_⟩
      rcases List.mem_append.1 hg with hg | hg
      · exact h2 g hg e
      · rw [List.mem_singleton.1 hg] at e; exact absurd e.symm h3
theorem bst_skip {l : List H} {h g x : H} (hg : g ∈ bst l) (e : g.1 = h.1) (hl : lt h g = false) : x ∈ bst (l ++ [h]) ↔ x ∈ bst l := by
  rw [mem_bst, mem_bst]
  constructor
  · rintro ⟨h1, h2⟩
    rcases List.mem_append.1 h1 with h1 | h1
    · exact ⟨h1, fun y hy e => h2 y (List.mem_append.2 (.inl hy)) e⟩
    · obtain rfl : x = h := by simpa using h1
      have h3 := h2 g (List.mem_append.2 (.inl (mem_bst.1 hg).1)) e
      have h4 : g = x := lt_tri h3 hl
      subst h4
      exact mem_bst.1 hg
  · rintro ⟨h1, h2⟩
    refine ⟨List.mem_append.2 (.inl h1), fun y hy e' => ?_⟩
    rcases List.mem_append.1 hy with hy | hy
    · exact h2 y hy e'
    · rw [List.mem_singleton.1 hy] at e' ⊢
      have : x = g := id_bst (mem_bst.2 ⟨h1, h2⟩) hg (e'.symm.trans e.symm)
      rw [this]; exact hl
theorem bst_nil : bst [] = [] := rfl
end Go.Proofs.Ytckipafciomklaa.bq

namespace Go.Proofs.Ytckipafciomklaa.bk

open Go.ChangeShapes Go.WideShapes Go.ChangeAt Go.RowKit

open Go.Proofs.Ytckipafciomklaa.bq Go.Proofs.Ytckipafciomklaa.vk Go.Proofs.Ytckipafciomklaa.wk

set_option linter.unusedVariables false
def dH (h : H) : DataW Unit := .agg [.lit (.int .i64 h.1), .lit (.int .i64 h.2.1), .lit (.int .i64 h.2.2)]
def hitR (v : Value) : Option (DataW Unit × List MemPlace) :=
  match v with
  | .agg ⟨[.int .i64 a, .int .i64 b, .int .i64 c]⟩ => some (dH (a, b, c), [])
  | _ => none
theorem hitR_mk (h : H) : hitR (.agg #[.int .i64 h.1, .int .i64 h.2.1, .int .i64 h.2.2]) = some (dH h, []) := rfl
theorem hitR_inv {v : Value} {z : DataW Unit × List MemPlace} (h : hitR v = some z) : ∃ g : H, v = .agg #[.int .i64 g.1, .int .i64 g.2.1, .int .i64 g.2.2] ∧ z = (dH g, []) := by
  unfold hitR at h
  split at h
  · cases h; exact ⟨(_, _, _), rfl, rfl⟩
  · cases h
theorem dH_inj {a b : H} (h : dH a = dH b) : a = b := by
  unfold dH at h
  obtain ⟨a1, a2, a3⟩ := a
  obtain ⟨b1, b2, b3⟩ := b
  simp at h
  obtain ⟨rfl, rfl, rfl⟩ := h
  rfl
theorem keyed : Maps.Keyed Try.prog 3 := Maps.int_keyed Try.underlying3
theorem wf64 {x : Int} (h : I64 x) : (Lit.int .i64 x).wf = true := by
  unfold I64 at h
  simp [Lit.wf, IntKind.min, IntKind.max, IntKind.signed, IntKind.bits]
  omega
theorem key_of {x : Int} (h : I64 x) : keyOf Try.prog 3 (.int .i64 x) = some (.int .i64 x) := Maps.keyOf_int_mk Try.underlying3 (wf64 h)
def HasM (D : DataW Unit) (l : List H) : Prop := (∀ i, Maps.has D (.int .i64 i) = (bst l).any fun g => g.1 == i) ∧ ∀ g ∈ bst l, ∀ zd, D.atKey (.int .i64 g.1) zd = dH g
theorem HasM.nil : HasM (.map []) [] := ⟨fun i => rfl, fun g hg => by rw [bst_nil] at hg; simp at hg⟩
theorem isKeyLit (i : Int) : WideAt.IsKeyLit (.int .i64 i) := by
  first | trivial | exact .int | simp [WideAt.IsKeyLit]
theorem HasM.add {D : DataW Unit} {l : List H} {h : H} (hd : HasM D l) (hm : Maps.IsMap D) (hn : ∀ g ∈ bst l, g.1 = h.1 → lt h g = true) : HasM (D.put (.int .i64 h.1) (dH h)) (l ++ [h]) := by
  refine ⟨fun i => ?_, fun g hg zd => ?_⟩
  · by_cases e : i = h.1
    · subst e
      rw [Maps.has_put_same hm (isKeyLit _)]
      exact (List.any_eq_true.2 ⟨h, (bst_add hn).2 (.inl rfl), by simp⟩).symm
    · rw [Maps.has_put_other (by intro e'; injection e' with _ e'; exact e e'), hd.1 i, Bool.eq_iff_iff, List.any_eq_true, List.any_eq_true]
      constructor
      · rintro ⟨g, hg, hi⟩
        exact ⟨g, (bst_add hn).2 (.inr ⟨hg, fun e' => e (by rw [← e']; exact (by simpa using hi : g.1 = i).symm)⟩), hi⟩
      · rintro ⟨g, hg, hi⟩
        rcases (bst_add hn).1 hg with rfl | ⟨h1, _⟩
        · exact absurd (by simpa using hi : g.1 = i).symm e
        · exact ⟨g, h1, hi⟩
  · rcases (bst_add hn).1 hg with rfl | ⟨h1, h2⟩
    · exact Maps.atKey_put_same hm (isKeyLit _) _ _
    · rw [Maps.atKey_put_other (by intro e'; injection e' with _ e'; exact h2 e')]
      exact hd.2 g h1 zd
theorem HasM.skip {D : DataW Unit} {l : List H} {h g : H} (hd : HasM D l) (hg : g ∈ bst l) (e : g.1 = h.1) (hl : lt h g = false) : HasM D (l ++ [h]) := by
  refine ⟨fun i => ?_, fun x hx zd => hd.2 x ((bst_skip hg e hl).1 hx) zd⟩
  rw [hd.1 i, Bool.eq_iff_iff, List.any_eq_true, List.any_eq_true]
  constructor
  · rintro ⟨x, hx, hi⟩; exact ⟨x, (bst_skip hg e hl).2 hx, hi⟩
  · rintro ⟨x, hx, hi⟩; exact ⟨x, (bst_skip hg e hl).1 hx, hi⟩
def MapH (w : World) (b n : Nat) (l : List H) : Prop := ∃ D, w.ownsMap Try.prog 3 hitR b n D ∧ HasM D l
theorem MapH.lt {w : World} {b n : Nat} {l : List H} (h : MapH w b n l) : b < w.heap.size := by obtain ⟨D, h, _⟩ := h; exact h.lt
theorem MapH.below {w w' : World} {b n : Nat} {l : List H} (h : MapH w b n l) (hb : Below w.heap.size w w') : MapH w' b n l := by
  obtain ⟨D, h1, h2⟩ := h
  exact ⟨D, h1.kept (grownOf hb) (by simp), h2⟩
theorem MapH.made (w : World) : MapH (w.alloc (.map #[] 0)) w.heap.size 0 [] := ⟨_, World.ownsMap_made w _ _ _, HasM.nil⟩
/-- what a look-up gives -/
theorem MapH.look {w : World} {b n : Nat} {l : List H} {i : Int} (h : MapH w b n l) (hi : I64 i) :
    (∃ g ∈ bst l, g.1 = i ∧ (Instr.lookup 61 (.map (some b)) (.int .i64 i) true).run Try.prog w = .ok (.tuple #[.agg #[.int .i64 g.1, .int .i64 g.2.1, .int .i64 g.2.2], .bool true]) w) ∨
    ((∀ g ∈ bst l, g.1 ≠ i) ∧ (Instr.lookup 61 (.map (some b)) (.int .i64 i) true).run Try.prog w = .ok (.tuple #[.agg #[.int .i64 0, .int .i64 0, .int .i64 0], .bool false]) w) := by
  obtain ⟨D, hown, hd⟩ := h
  obtain ⟨v, ps, hrun, hv⟩ := hown.look_ok keyed Try.underlying61 (Try.zeroValue27 w) (hitR_mk (0, 0, 0)) (key_of hi)
  rw [hd.1 i] at hrun
  obtain ⟨g, rfl, hz⟩ := hitR_inv hv
  cases ha : (bst l).any fun g => g.1 == i
  · rw [ha] at hrun
    right
    have hno : ∀ g ∈ bst l, g.1 ≠ i := fun g hg e => by
      have := List.any_eq_false.1 ha g hg
      simp [e] at this
    refine ⟨hno, ?_⟩
    rw [Maps.atKey_of_not_has (by rw [hd.1 i]; exact ha)] at hz
    have hz' : dH (0, 0, 0) = dH g := congrArg Prod.fst hz
    rw [← dH_inj hz'] at hrun
    exact hrun
  · left
    rw [ha] at hrun
    obtain ⟨g', hg', e⟩ := List.any_eq_true.1 ha
    have e : g'.1 = i := by simpa using e
    refine ⟨g', hg', e, ?_⟩
    rw [← e, hd.2 g' hg'] at hz
    have hz' : dH g' = dH g := congrArg Prod.fst hz
    rw [dH_inj hz']
    exact hrun
/-- a store -/
theorem MapH.store {w : World} {b n : Nat} {l : List H} {h : H} (hm : MapH w b n l) (hh : I64 h.1) (hn : n < maxLen) (hl : ∀ g ∈ bst l, g.1 = h.1 → bq.lt h g = true) :
    ∃ w', (Instr.mapUpdate 61 (.map (some b)) (.int .i64 h.1) (.agg #[.int .i64 h.1, .int .i64 h.2.1, .int .i64 h.2.2])).run Try.prog w = .ok () w' ∧ MapH w' b (n + 1) (l ++ [h]) ∧ w.grownBy w' (some b) := by
  obtain ⟨D, hown, hd⟩ := hm
  obtain ⟨w', h1, h2, h3⟩ := hown.update keyed Try.underlying61 hn (key_of hh) (hitR_mk h)
  exact ⟨w', h1, ⟨_, h2, hd.add hown.isMap hl⟩, h3⟩
theorem MapH.skip {w : World} {b n : Nat} {l : List H} {h g : H} (hm : MapH w b n l) (hg : g ∈ bst l) (e : g.1 = h.1) (hl : bq.lt h g = false) : MapH w b (n + 1) (l ++ [h]) := by
  obtain ⟨D, hown, hd⟩ := hm
  exact ⟨D, hown.mono (by omega), hd.skip hg e hl⟩
theorem run_makeMapN (w : World) (n : Int) : (Instr.makeMap 61 (some (.int .i64 n))).run Try.prog w = .ok (.map (some w.heap.size)) (w.alloc (.map #[] 0)) := by
  simp [Instr.makeMap, run_underlying Try.underlying61, asInt, asIntOf, Result.andThen]
end Go.Proofs.Ytckipafciomklaa.bk
/- The least hit of each ID. -/
namespace Go.Proofs.Ytckipafciomklaa.bk

open Go.ChangeShapes Go.WideShapes Go.ChangeAt Go.RowKit

open Go.Proofs.Ytckipafciomklaa.bq Go.Proofs.Ytckipafciomklaa.vk Go.Proofs.Ytckipafciomklaa.wk

set_option linter.unusedVariables false
theorem below_map {w0 w w' : World} {b : Nat} (h : Below w0.heap.size w0 w) (hg : w.grownBy w' (some b)) (hb : w0.heap.size ≤ b) : Below w0.heap.size w0 w' := h.grown hg h.size (fun k e => by cases e; exact hb)
set_option maxRecDepth 100000 in
set_option maxHeartbeats 4000000 in
theorem least_calls {l : List H} {n c : Nat} {A : Option Addr} (w : World) (h : IsH w A n c l) (hn : n ≤ 1000000) :
    Calls Try.prog 45 #[.agg #[.func (.func 56) #[] #[]], .slice A n c] w fun e w' => ∃ b, e = .returned (.map (some b)) ∧ w.heap.size ≤ b ∧ MapH w' b n l ∧ Below w.heap.size w w' := by
  have hm := h.2.2.1
  have hnc := h.2.1
  have H := Lib.hid h
  clear h
  have HO0 := Lib.hid (OrdX.new w)
  have HB0 := Lib.hid (below_new w (.cells #[.func (.func 56) #[] #[]] 55))
  have HM0 := Lib.hid (MapH.made (w.alloc (.cells #[.func (.func 56) #[] #[]] 55)))
  have HB1 := Lib.hid (below_new (w.alloc (.cells #[.func (.func 56) #[] #[]] 55)) (.map #[] 0))
  rw [size_new] at HM0
  have hmk := fun w' => run_makeMapN w' n
  go_enter Try.func45, Try.ntmps45
  go_wp2_with fail
  clear hmk
  go_loopg [15] n (fun g x wr => ∃ k : Nat, k + g = n ∧ x = .int .i64 (k : Int) ∧ MapH wr (w.heap.size + 1) k (l.take k) ∧ OrdX wr w.heap.size ∧ Below w.heap.size w wr)
  case atStart => exact ⟨0, by omega, rfl, by simpa using HM0.out, HO0.out.below HB1.out, Below.andThen HB0.out HB1.out⟩
  case round =>
    obtain ⟨k, hk, rfl, hmap, hord, hbel⟩ := hrel
    have HK := Lib.hid hk
    have HMAP := Lib.hid hmap
    have HORD := Lib.hid hord
    have HBEL := Lib.hid hbel
    have hkn : k ≤ n := by omega
    have h4 := isH_below H.out hbel
    clear hk hmap hord hbel
    by_cases hlt : k < n
    · obtain ⟨b, o, x, rfl, hx1, hx2, hx3, hb1, hX, hwx⟩ := isH_get h4 hlt
      have hlt0 : (k : Int) < (n : Int) := by omega
      have HT : Hid (l.take (k + 1) = l.take k ++ [x]) := by show _ = _; rw [List.take_add_one, hX]; rfl
      have HBX := Lib.hid (below_new wr (.cells #[.int .i64 x.1, .int .i64 x.2.1, .int .i64 x.2.2] 27))
      have HRX := Lib.hid (RowH.new wr x)
      have hr0 := HRX.out.c0
      have hr1 := HRX.out.c1
      have hr2 := HRX.out.c2
      have HM1 := Lib.hid (HMAP.out.below HBX.out)
      have HWX := Lib.hid hwx
      clear hX hwx hb1 h4
      rcases HM1.out.look HWX.out.1 with ⟨g, hg, he, hlk⟩ | ⟨hno, hlk⟩
      · have HG := Lib.hid hg
        have HE := Lib.hid he
        have HBG := Lib.hid (below_new (wr.alloc (.cells #[.int .i64 x.1, .int .i64 x.2.1, .int .i64 x.2.2] 27)) (.cells #[.int .i64 g.1, .int .i64 g.2.1, .int .i64 g.2.2] 27))
        have HRG := Lib.hid (RowH.new (wr.alloc (.cells #[.int .i64 x.1, .int .i64 x.2.1, .int .i64 x.2.2] 27)) g)
        rw [size_new] at HRG
        have HRX2 := Lib.hid (HRX.out.below HBG.out)
        have hg0 := HRG.out.c0
        have hg1 := HRG.out.c1
        have hg2 := HRG.out.c2
        have hq0 := HRX2.out.c0
        have hq1 := HRX2.out.c1
        have hq2 := HRX2.out.c2
        have HORD2 := Lib.hid ((HORD.out.below HBX.out).below HBG.out)
        have hoc := HORD2.out.c0
        have HM2 := Lib.hid (HM1.out.below HBG.out)
        have HBEL2 := Lib.hid ((HBEL.out.trans (HBX.out.mono HBEL.out.size)).trans (HBG.out.mono (by have h1 := HBEL.out.size; have h2 := HBX.out.size; exact Nat.le_trans h1 h2)))
        have HC := Lib.hid (cmpH_calls x g ((wr.alloc (.cells #[.int .i64 x.1, .int .i64 x.2.1, .int .i64 x.2.2] 27)).alloc (.cells #[.int .i64 g.1, .int .i64 g.2.1, .int .i64 g.2.2] 27)))
        clear hg he
        cases hl : bq.lt x g
        · have hl' : ¬ cmpH x g < 0 := by unfold bq.lt at hl; simpa using hl
          have HL := Lib.hid hl
          clear hl
          go_wp2_with fail
          refine HC.out.mono ?_
          rintro e w5 ⟨rfl, hgr⟩
          have HB5 := Lib.hid hgr.below
          clear hgr
          go_wp2_with fail
          go_roundg (gk - 1)
          case measure => have := HK.out; omega
          case rel => exact ⟨k + 1, by have := HK.out; omega, by go_num, by rw [HT.out]; exact (HM2.out.below HB5.out).skip HG.out HE.out HL.out, HORD2.out.below HB5.out, HBEL2.out.trans (HB5.out.mono HBEL2.out.size)⟩
        · have hl' : cmpH x g < 0 := by unfold bq.lt at hl; simpa using hl
          have HL := Lib.hid hl
          clear hl
          go_wp2_with fail
          refine HC.out.mono ?_
          rintro e w5 ⟨rfl, hgr⟩
          have HB5 := Lib.hid hgr.below
          have hu0 := (HRX2.out.below HB5.out).c0
          have hu1 := (HRX2.out.below HB5.out).c1
          have hu2 := (HRX2.out.below HB5.out).c2
          obtain ⟨w6, hup, hm6, hg6⟩ := (HM2.out.below HB5.out).store (h := x) HWX.out.1 (by unfold maxLen; omega) (fun y hy e => by
            rw [id_bst hy HG.out (e.trans HE.out.symm)]; exact HL.out)
          have HM6 := Lib.hid hm6
          have HB6 : Hid (Below w.heap.size w w6) := below_map (HBEL2.out.trans (HB5.out.mono HBEL2.out.size)) hg6 (by omega)
          have HO6 : Hid (OrdX w6 w.heap.size) := (HORD2.out.below HB5.out).at (hg6.block _ (HORD2.out.below HB5.out).lt (by simp))
          clear hgr hm6 hg6
          go_wp2_with fail
          go_roundg (gk - 1)
          case measure => have := HK.out; omega
          case rel => exact ⟨k + 1, by have := HK.out; omega, by go_num, by rw [HT.out]; exact HM6.out, HO6.out, HB6.out⟩
      · have HNO := Lib.hid hno
        have HBG := Lib.hid (below_new (wr.alloc (.cells #[.int .i64 x.1, .int .i64 x.2.1, .int .i64 x.2.2] 27)) (.cells #[.int .i64 0, .int .i64 0, .int .i64 0] 27))
        have HRX2 := Lib.hid (HRX.out.below HBG.out)
        have hq0 := HRX2.out.c0
        have hq1 := HRX2.out.c1
        have hq2 := HRX2.out.c2
        have HORD2 := Lib.hid ((HORD.out.below HBX.out).below HBG.out)
        have HBEL2 := Lib.hid ((HBEL.out.trans (HBX.out.mono HBEL.out.size)).trans (HBG.out.mono (by have h1 := HBEL.out.size; have h2 := HBX.out.size; exact Nat.le_trans h1 h2)))
        obtain ⟨w6, hup, hm6, hg6⟩ := (HM1.out.below HBG.out).store (h := x) HWX.out.1 (by unfold maxLen; omega) (fun y hy e => absurd e (HNO.out y hy))
        have HM6 := Lib.hid hm6
        have HB6 : Hid (Below w.heap.size w w6) := below_map HBEL2.out hg6 (by omega)
        have HO6 : Hid (OrdX w6 w.heap.size) := HORD2.out.at (hg6.block _ HORD2.out.lt (by simp))
        clear hno hm6 hg6
        go_wp2_with fail
        go_roundg (gk - 1)
        case measure => have := HK.out; omega
        case rel => exact ⟨k + 1, by have := HK.out; omega, by go_num, by rw [HT.out]; exact HM6.out, HO6.out, HB6.out⟩
    · obtain rfl : k = n := by omega
      have HM7 : Hid (MapH wr (w.heap.size + 1) k l) := by have := HMAP.out; rw [List.take_of_length_le (by have := H.out.1; omega)] at this; exact this
      clear h4
      go_wp2_with fail
      go_ret
      exact ⟨_, rfl, by omega, HM7.out, HBEL.out⟩
end Go.Proofs.Ytckipafciomklaa.bk
/- The iterator over a map's hits. -/
namespace Go.Proofs.Ytckipafciomklaa.bk

open Go.ChangeShapes Go.WideShapes Go.ChangeAt Go.RowKit Go.Maps

open Go.Proofs.Ytckipafciomklaa.bq Go.Proofs.Ytckipafciomklaa.vk Go.Proofs.Ytckipafciomklaa.wk

set_option linter.unusedVariables false
attribute [local go_sem] Oper.semAt_some
def VS (L ys : List H) : Prop := (ys.map fun h : H => h.1).Nodup ∧ ∀ h, h ∈ ys ↔ h ∈ bst L
def aggs (x : H) : Array Value := #[.agg #[.int .i64 x.1, .int .i64 x.2.1, .int .i64 x.2.2]]
set_option maxRecDepth 100000 in
set_option maxHeartbeats 4000000 in
theorem values1_in (m : Nat) (l Bm b nn : Nat) (L : List H) (J Jx : List H → World → Prop) (W : World)
    (hJ : AbidesFrom W.heap.size J)
    (hY : ∀ pre x W, J pre W → pre.length < nn → x ∈ L → YieldAt Fence.wide (m - 1) Try.prog l (aggs x) W fun e W' =>
      (e = .returned (.bool true) ∧ J (pre ++ [x]) W' ∧ KeepsWalks W W') ∨ (e = .returned (.bool false) ∧ Jx (pre ++ [x]) W'))
    (hm : W.cell? ⟨Bm, 0, none⟩ = some (.map (some b))) (hmap : MapH W b nn L) (h0 : J [] W) :
    CallsIn Fence.wide m Try.prog 61 #[.func (.yield l) #[] #[], .pointer (some ⟨Bm, 0, none⟩)] W fun e W' => (∃ v, e = .returned v) ∧
      ((∃ ys, VS L ys ∧ J ys W') ∨ (∃ pre, Jx pre W')) := by
  obtain ⟨D, hown, hd⟩ := hmap
  have HD := Lib.hid hd
  have hsz : Maps.size D ≤ nn := hown.size_le
  have HSZ := Lib.hid hsz
  clear hsz hd
  refine callsIn_of_wp Try.func61 rfl trivial ?_ rfl
  simp only [Try.ntmps61, List.size_toArray, List.length_cons, List.length_nil, Nat.reduceAdd, Nat.reduceSub, Array.replicate_succ, Array.replicate_zero, List.push_toArray, List.append_toArray, List.nil_append, List.cons_append]
  gi_wp2_with (first
    | (gi_at_range; refine wpListIn_range_own _ rfl _ 61 rfl 3 27 keyed Try.underlying61 _ b nn _ rfl hown ?_; intro w0 hrg0 hg0 hs0)
    | gi_in)
  go_frame
  gi_loopw [4] (fun _ wr => ∃ (left : Lit → Bool) (cnt : Nat) (ps : List H), wr.ranges Try.prog 3 hitR b W.heap.size nn D left cnt ∧ ps.length + cnt ≤ Maps.size D ∧ CollectedI D left (ps.map fun h : H => h.1) ∧ (∀ h ∈ ps, h ∈ bst L) ∧ J ps wr)
    (fun _ wr => wr.rangeLeft b W.heap.size)
  case atStart =>
    exact ⟨_, _, [], hrg0, by simp, CollectedI.start D, by simp, hJ [] W w0 none h0 hg0 (fun r e => by cases e)⟩
  case round =>
    obtain ⟨left, cnt, ps, hrg, hcs, hC, hP, hJs⟩ := hrel
    gi_wp2_with (first
      | (gi_at_next; refine wpListIn_next_ranges _ rfl _ rfl 3 keyed hitR (Value.int .i64) (fun h : H => Value.agg #[.int .i64 h.1, .int .i64 h.2.1, .int .i64 h.2.2]) (fun key kl hk => by obtain ⟨x, hx, _⟩ := Maps.keyOf_i64 Try.underlying3 hk; exact ⟨x, hx⟩) (fun v y hv => by obtain ⟨g, hg, _⟩ := hitR_inv hv; exact ⟨g, hg⟩) b W.heap.size nn _ _ _ rfl hrg ?_ ?_)
      | gi_in)
    · intro hc0 hl0
      gi_wp2
      go_end0
      refine ⟨⟨_, rfl⟩, .inl ⟨ps, ⟨hC.1, fun h => ⟨hP h, fun hb => ?_⟩⟩, hJs⟩⟩
      have h1 : has D (.int .i64 h.1) = true := by rw [HD.out.1]; exact List.any_eq_true.2 ⟨h, hb, by simp⟩
      have h2 := (hC.2 h.1).2 ⟨h1, hl0 _⟩
      obtain ⟨g, hg, e⟩ := List.mem_map.1 h2
      rw [← id_bst (hP g hg) hb e]; exact hg
    · intro x c1 c2 c3 kl yd yp w2 cnt2 hkey hlk hv hat hrg2 hlt hg2 hs2 hen
      obtain ⟨c, rfl, rfl, rfl⟩ : ∃ c : H, c1 = c.1 ∧ c2 = c.2.1 ∧ c3 = c.2.2 := ⟨(c1, c2, c3), rfl, rfl, rfl⟩
      have hyd : dH c = yd := congrArg Prod.fst (Option.some.inj ((hitR_mk c).symm.trans hv))
      obtain ⟨x', ex, rfl, hwf⟩ := Maps.keyOf_i64 Try.underlying3 hkey
      obtain rfl : x = x' := by injection ex
      have hcb : c ∈ bst L ∧ c.1 = x := by
        have h1 : has D (.int .i64 x) = true := Maps.has_true_of_atKey hat
        rw [HD.out.1] at h1
        obtain ⟨g, hg, e⟩ := List.any_eq_true.1 h1
        have e : g.1 = x := by simpa using e
        have h2 := HD.out.2 g hg (dH g)
        rw [e, hat (dH g)] at h2
        have e4 : c = g := dH_inj (hyd.trans h2)
        rw [e4]; exact ⟨hg, e⟩
      obtain ⟨hcb, rfl⟩ := hcb
      have hJ2 : J ps w2 := hJ ps wr w2 (some W.heap.size) hJs hg2 (fun r e => by cases e; exact ⟨Nat.le_refl _, hrg.iter_walk⟩)
      have hJ3 : J ps (w2.alloc (.cells #[.int .i64 c.1, .int .i64 c.2.1, .int .i64 c.2.2] 27)) := hJ ps w2 _ none hJ2 (World.grownBy_alloc w2 _ none) (fun r e => by cases e)
      have hrg3 := hrg2.of_walks (KeepsWalks.alloc w2 (.cells #[.int .i64 c.1, .int .i64 c.2.1, .int .i64 c.2.2] 27))
      obtain ⟨fn, tmps, assign, body, hy, hR⟩ := hY ps c _ hJ3 (by have := HSZ.out; omega) (mem_bst.1 hcb).1
      unfold aggs at hy
      have HHAT := Lib.hid hat
      have HP := Lib.hid hP
      have HC := Lib.hid hC
      have hrow := RowH.new w2 c
      have hc0 := hrow.c0
      have hc1 := hrow.c1
      have hc2 := hrow.c2
      clear hs2 hat hP hC hrow
      gi_wp2
      refine ⟨(fun hh => by cases hh), hR.mono ?_⟩
      rintro e W3 (⟨rfl, hJ4, hk3⟩ | ⟨rfl, hJx3⟩)
      · gi_wp2
        have hrg4 := hrg3.of_walks hk3
        go_roundw
        case rel =>
          refine ⟨_, cnt2, ps ++ [c], hrg4, by simp; omega, ?_, ?_, hJ4⟩
          · rw [List.map_append]; exact HC.out.step hlk HHAT.out
          · intro h hh
            rcases List.mem_append.1 hh with h1 | h1
            · exact HP.out h h1
            · rw [List.mem_singleton.1 h1]; exact hcb
        case measure => rw [hrg4.left_eq, hrg.left_eq]; exact hlt
      · gi_wp2
        refine bodyPost_ret (results_none rfl _ _ _) rfl ?_
        exact ⟨⟨_, rfl⟩, .inr ⟨_, hJx3⟩⟩
end Go.Proofs.Ytckipafciomklaa.bk
/- A range over an iterator of one value; what a map's iterator gives, collected. -/
namespace Go.Proofs.Ytckipafciomklaa.bk

open Go.ChangeShapes Go.WideShapes Go.ChangeAt Go.RowKit

open Go.Proofs.Ytckipafciomklaa.bq Go.Proofs.Ytckipafciomklaa.vk Go.Proofs.Ytckipafciomklaa.wk

set_option linter.unusedVariables false
attribute [local go_sem] Oper.semAt_some
theorem range_seq1 {α : Type} {g : Operand} {p : Nat} {assign body : Code} {Q : Exit → Act → World → Prop} {T : Array Value} {w : World} {gfn : Nat} {lb : Array Value} (enc1 : α → Value) (N : Nat) (S : List α → Prop)
    (hg : Act.eval { tmps := T, defers := [] } g = .func (.func gfn) #[] lb) (eg : ∀ args w', (callFunc gfn args).run Try.prog w' = .ok (.enter gfn args) w')
    (hseq : SeqStopsK Fence.wide 3 Try.prog gfn lb (fun x => #[enc1 x]) KeepsWalks S (fun _ => True) N w)
    (I : List α → World → Prop) (hI : OwnFrom w.heap.size I) (h0 : I [] w) (F : α → Nat → Act) (X : α → Nat → World → Prop) (hX : ∀ x Bx, OwnFrom w.heap.size (fun (_ : Unit) W => X x Bx W))
    (hassign : ∀ (l m : Nat) (pre : List α) (x : α) (W : World) (K : Act → World → Prop), I pre W → (∀ Bx W', KeepsFrom w.heap.size W W' → KeepsWalks W W' → I pre W' → X x Bx W' → K (F x Bx) W') →
      assign.wpIn (Fence.wide.inRound l) m Try.prog (Exit.then K (fun _ _ _ => False)) { tmps := T.setIfInBounds p (enc1 x), defers := [] } W)
    (hbody : ∀ (l m : Nat) (pre : List α) (x : α) (Bx : Nat) (W : World), I pre W → X x Bx W → pre.length < N →
      body.wpIn (Fence.wide.inRound l) m Try.prog (ownPostG w.heap.size KeepsWalks I (fun _ _ _ => False) (pre ++ [x]) W) (F x Bx) W)
    (hdone : ∀ (D : Nat) (ys : List α) (W : World), w.heap.size ≤ D → S ys → I ys W → W.heap[D]? = some (.deferred (some [])) → Q .normal { tmps := T, defers := [{ target := .collected D, args := #[] }] } W) :
    (Code.rangeFunc g #[p] assign body).wp Try.prog Q { tmps := T, defers := [] } w := by
  refine wpIn_wide.1 (wpIn_rangeFunc_ownH (F := Fence.wide) (n := 4) (w := w) (w0 := w) rfl (by omega) hg trivial eg
    (encs := fun x => #[enc1 x]) (Kp := KeepsWalks) (S := S) (Sp := fun _ => True) (N := N) hseq
    (fun h k => h.trans k) (fun W l o o' _ ho _ hw => KeepsWalks.putObj o' ho hw) (Below.refl _ _) (fun x => by simp)
    I (fun _ _ _ => False) hI (fun c s W W' row hs _ _ => hs) h0
    (fun x a' W => ∃ Bx, X x Bx W ∧ a' = F x Bx) ?hAx ?hassign ?hbody ?hdone ?hstop)
  case hAx =>
    rintro x a' u W W' row ⟨Bx, h1, h3⟩ hg' hr
    exact ⟨Bx, hX x Bx u W W' row h1 hg' hr, h3⟩
  case hassign =>
    rintro l pre x W K hi hK
    have e : (#[p].zip #[enc1 x]).foldl (fun t (q : Nat × Value) => t.setIfInBounds q.1 q.2) T = T.setIfInBounds p (enc1 x) := by simp
    have := hassign l (4 - 1 - 1) pre x W K hi (fun Bx W' h1 h2 h3 h4 => hK _ _ h1 h2 h3 ⟨Bx, h4, rfl⟩)
    rw [← e] at this
    exact this
  case hbody =>
    rintro l pre x a' W hl hr hi ⟨Bx, h1, rfl⟩ hlen'
    exact hbody l _ pre x Bx W hi h1 hlen'
  case hdone => rintro D ys W hD hy hi hK; exact hdone D ys W hD hy hi hK
  case hstop => rintro D c pre W hD _ hf hK; exact hf.elim
theorem own_from {w w' : World} {B n size : Nat} {e : TypeId} {v : Value} {xs : List Value} {row : Option Nat} (h : w.ownsRow B e size v n xs) (hg : w.grownBy w' row) (hr : ∀ r, row = some r → ∃ o : Obj, w.heap[r]? = some o ∧ o.isCells = false) : w'.ownsRow B e size v n xs := by
  refine World.ownsRow.kept h hg ?_
  rcases h.2 with ⟨rfl, _⟩ | ⟨g, cap, cur, rfl, _, hh, _⟩
  · exact .inl rfl
  · refine .inr fun he => ?_
    obtain ⟨o, ho, hnc⟩ := hr g he.symm
    rw [hh] at ho
    cases ho
    cases hnc
def One1 (w : World) (g : Nat) (v : Value) : Prop := w.heap[g]? = some (.cells #[v] 22 (0, 0))
theorem One1.lt {w : World} {g : Nat} {v : Value} (h : One1 w g v) : g < w.heap.size := (Array.getElem?_eq_some_iff.1 h).1
theorem One1.at {w w' : World} {g : Nat} {v : Value} (h : One1 w g v) (e : w'.heap[g]? = w.heap[g]?) : One1 w' g v := e.trans h
theorem One1.below {w w' : World} {g : Nat} {v : Value} (h : One1 w g v) (hb : Below w.heap.size w w') : One1 w' g v := h.at (hb.block g h.lt)
theorem One1.new (w : World) (v : Value) : One1 (w.alloc (.cells #[v] 22)) w.heap.size v := heap_alloc_new w _
theorem One1.c0 {w : World} {g : Nat} {v : Value} (h : One1 w g v) : w.cell? ⟨g, 0, none⟩ = some v := by rw [cell_of_row _ _ _ _ _ _ h]; rfl
theorem One1.f0 {w : World} {g : Nat} {v : Value} (h : One1 w g v) : w.frozen? ⟨g, 0, none⟩ = false := frozen_of_row _ _ _ _ _ h
theorem One1.set {w : World} {g : Nat} {v : Value} (h : One1 w g v) (u : Value) : One1 (w.setCell ⟨g, 0, none⟩ u) g u := heap_setCell_same w g 0 #[v] 22 u h
theorem grown_set1 (w : World) (g : Nat) (x : Value) : w.grownBy (w.setCell ⟨g, 0, none⟩ x) (some g) :=
  ⟨rfl, rfl, rfl, by simp [World.setCell], fun k _ hk => Below.heap_setCell _ _ _ _ (by simpa using fun e => hk (by rw [e]))⟩
/-- a row in its own block, and the box that holds its slice -/
structure BoxRow (B S : Nat) (w : World) (v : Value) (l : List H) : Prop where
  box : One1 w S v
  row : w.ownsRow B 27 3 v l.length (fl l)
theorem BoxRow.below {B S : Nat} {w w' : World} {v : Value} {l : List H} (h : BoxRow B S w v l) (hb : Below w.heap.size w w') : BoxRow B S w' v l := ⟨h.box.below hb, keptB h.row hb⟩
theorem BoxRow.from {B S : Nat} {w w' : World} {v : Value} {l : List H} {row : Option Nat} (h : BoxRow B S w v l) (hg : w.grownBy w' row) (hr : ∀ r, row = some r → ∃ o : Obj, w.heap[r]? = some o ∧ o.isCells = false) : BoxRow B S w' v l :=
  ⟨h.box.at (hg.block S h.box.lt fun e => by
    obtain ⟨o, ho, hnc⟩ := hr S e.symm
    have := h.box
    unfold One1 at this
    rw [this] at ho
    cases ho
    cases hnc), own_from h.row hg hr⟩
theorem BoxRow.own_ne {B S : Nat} {w : World} {v : Value} {l : List H} (h : BoxRow B S w v l) : some S ≠ v.ownBlock := by
  rcases h.row.2 with ⟨hv, _⟩ | ⟨g, cap, cur, hv, _, hh, _⟩
  · rw [hv]; simp [Value.ownBlock]
  · rw [hv]
    intro e
    have e : S = g := by simpa [Value.ownBlock] using e
    subst e
    have := h.box
    unfold One1 at this
    rw [hh] at this
    injection this with this
    injection this with _ h2 _
    exact absurd h2 (by decide)
def apI (w0 : World) (S : Nat) (pre : List H) (W : World) : Prop := Below w0.heap.size w0 W ∧ ∃ v, BoxRow w0.heap.size S W v pre
theorem apI_own {w0 : World} {S n : Nat} (hn : w0.heap.size ≤ n) : OwnFrom n (apI w0 S) := fun s W W' row hs hg hr => by
  obtain ⟨h1, v, h2⟩ := hs
  exact ⟨h1.grown hg h1.size (fun k e => by have := (hr k e).1; omega), v, h2.from hg (fun r e => (hr r e).2)⟩
set_option maxRecDepth 100000 in
set_option maxHeartbeats 4000000 in
theorem appendSeq_calls {L : List H} {Bm b nn : Nat} (w : World) (hBm : w.heap[Bm]? = some (.cells #[.map (some b)] 61 (0, 0))) (hmap : MapH w b nn L) (hn : nn ≤ 1000000) :
    Calls Try.prog 76 #[.slice none 0 0, .func (.func 61) #[] #[.pointer (some ⟨Bm, 0, none⟩)]] w fun e w' => ∃ v ys, e = .returned v ∧ VS L ys ∧ w'.ownsRow w.heap.size 27 3 v ys.length (fl ys) ∧ Below w.heap.size w w' := by
  obtain ⟨i0, hi, hz0, hz1, hz2⟩ := info_parts infoHt
  have hlt : Bm < w.heap.size := (Array.getElem?_eq_some_iff.1 hBm).1
  have HBM := Lib.hid ((Below.heap_alloc w (.cells #[.slice none 0 0] 22) Bm hlt).trans hBm)
  have HMAP := Lib.hid (hmap.below (below_new w (.cells #[.slice none 0 0] 22)))
  have HB0 := Lib.hid (below_new w (.cells #[.slice none 0 0] 22))
  have HS0 : Hid (BoxRow w.heap.size w.heap.size (w.alloc (.cells #[.slice none 0 0] 22)) (.slice none 0 0) []) := ⟨One1.new w _, World.ownsRow_nil _ _ _ _⟩
  clear hBm hmap hlt
  refine enter_marks Try.func76 rfl ?_
  simp only [Try.ntmps76, List.size_toArray, List.length_cons, List.length_nil, Nat.reduceAdd, Nat.reduceSub, Array.replicate_succ, Array.replicate_zero, List.push_toArray, List.append_toArray, List.nil_append, List.cons_append]
  go_wp2_with fail
  generalize hw1 : w.alloc (.cells #[.slice none 0 0] 22) = w1 at *
  have hs1 : w1.heap.size = w.heap.size + 1 := by rw [← hw1]; exact size_new _ _
  clear hw1
  refine range_seq1 (fun x : H => .agg #[.int .i64 x.1, .int .i64 x.2.1, .int .i64 x.2.2]) nn (VS L) rfl (fun args w' => by kernel_rfl) ?hseq (apI w w.heap.size) (apI_own (by omega)) ?h0
    (fun x Bx => { tmps := #[.slice none 0 0, .func (.func 61) #[] #[.pointer (some ⟨Bm, 0, none⟩)], .pointer (some ⟨w.heap.size, 0, none⟩), undef, .slice none 0 0, .pointer (some ⟨Bx, 0, none⟩), .func (.func 61) #[] #[.pointer (some ⟨Bm, 0, none⟩)], .agg #[.int .i64 x.1, .int .i64 x.2.1, .int .i64 x.2.2], undef, undef, undef, undef, undef], defers := [] })
    (fun x Bx W => RowH W Bx x) ?hX ?hassign ?hbody ?hdone
  case hseq =>
    intro l J Jx W hW hJ hJx hY hJ0
    have hbl := HBM.out
    refine (values1_in 3 l Bm b nn L J Jx W hJ (fun pre x W1 h1 h2 _ => hY pre x W1 h1 h2) ?_ (HMAP.out.below hW) hJ0).mono ?_
    · rw [cell_of_row _ _ _ _ _ _ ((hW.block Bm (Array.getElem?_eq_some_iff.1 hbl).1).trans hbl)]; rfl
    · rintro e W' ⟨he, ⟨ys, hy, hj⟩ | ⟨pre, hj⟩⟩
      · exact ⟨he, .inl ⟨ys, hy, hj⟩⟩
      · exact ⟨he, .inr ⟨pre, trivial, hj⟩⟩
  case h0 => exact ⟨HB0.out, _, HS0.out⟩
  case hX =>
    rintro x Bx u W W' row h1 hg hr
    refine (hg.block Bx h1.lt fun e => ?_).trans h1
    obtain ⟨_, o, ho, hnc⟩ := hr Bx e.symm
    unfold RowH at h1
    rw [h1] at ho
    cases ho
    cases hnc
  case hassign =>
    intro l m pre x W K hi hK
    simp only [List.setIfInBounds_toArray, List.set_cons_succ, List.set_cons_zero] at hK ⊢
    gi_wp2
    have hb := below_new W (.cells #[.int .i64 x.1, .int .i64 x.2.1, .int .i64 x.2.2] 27)
    refine hK W.heap.size _ (keeps_below hb) (KeepsWalks.alloc _ _) ?_ (RowH.new W x)
    obtain ⟨h1, v, h2⟩ := hi
    exact ⟨h1.trans (hb.mono h1.size), v, h2.below hb⟩
  case hbody =>
    rintro l m pre x Bx W ⟨hbel, v, hR⟩ hx hlen
    have hc0 := hR.box.c0
    have hf0 := hR.box.f0
    have hx0 := hx.c0
    have hx1 := hx.c1
    have hx2 := hx.c2
    have HR := Lib.hid hR
    have HBEL := Lib.hid hbel
    have HBW : Hid (w.heap.size ≤ W.heap.size) := hbel.size
    have HRN := Lib.hid (RowH.new W x)
    clear hR hbel hx
    gi_wp2_with (first | (gi_at_builtin; refine wpListIn_append_own _ rfl _ _ 22 rfl w.heap.size 27 i0 (.agg #[.int .i64 0, .int .i64 0, .int .i64 0]) 3 24 Try.underlying22 hi hz0 hz1 hz2 rfl (by decide) _ _ _ rfl (keptB HR.out.row (below_new W (.cells #[.int .i64 x.1, .int .i64 x.2.1, .int .i64 x.2.2] 27))) ⟨W.heap.size, 0, none⟩ 1 1 (rv x) rfl rfl HRN.out.cells ones3 ?c3 ?c4 ?c5 ?_) | gi_in)
    case c3 => unfold maxLen; omega
    case c4 => omega
    case c5 => have := HBW.out; simp only [size_new]; omega
    intro v3 w3 hown3 hg3 hnil3
    have hbn := below_new W (.cells #[.int .i64 x.1, .int .i64 x.2.1, .int .i64 x.2.2] 27)
    have hR1 := HR.out.below hbn
    have hO3 := hR1.box.at (hg3.block _ hR1.box.lt hR1.own_ne)
    obtain ⟨A3, n3, c3, rfl⟩ : ∃ A3 n3 c3, v3 = .slice A3 n3 c3 := by
      rcases hown3.2 with ⟨h, _⟩ | ⟨g', cap', cur', h, _⟩
      · exact ⟨_, _, _, h⟩
      · exact ⟨_, _, _, h⟩
    have HF : Hid (KeepsFrom w1.heap.size W (w3.setCell ⟨w.heap.size, 0, none⟩ (.slice A3 n3 c3)) ∧ KeepsWalks W (w3.setCell ⟨w.heap.size, 0, none⟩ (.slice A3 n3 c3)) ∧ apI w w.heap.size (pre ++ [x]) (w3.setCell ⟨w.heap.size, 0, none⟩ (.slice A3 n3 c3))) := by
      have ho3 : ∀ (j : Nat) (o : Obj), (W.alloc (.cells #[.int .i64 x.1, .int .i64 x.2.1, .int .i64 x.2.2] 27)).heap[j]? = some o → o.isCells = false → w3.heap[j]? = some o := fun j o hj ho =>
        (hg3.block j (Array.getElem?_eq_some_iff.1 hj).1 (fun e => by
          rcases hR1.row.2 with ⟨hv, _⟩ | ⟨g, cap, cur, hv, _, hh, _⟩
          · rw [hv] at e; simp [Value.ownBlock] at e
          · rw [hv] at e
            have e : j = g := by simpa [Value.ownBlock] using e
            subst e
            rw [hh] at hj
            cases hj
            cases ho)).trans hj
      have hset : ∀ (j : Nat) (o : Obj), w3.heap[j]? = some o → o.isCells = false → (w3.setCell ⟨w.heap.size, 0, none⟩ (.slice A3 n3 c3)).heap[j]? = some o := fun j o hj ho =>
        (Below.heap_setCell _ _ _ _ (fun e => by
          have e : j = w.heap.size := e
          subst e
          have := hO3
          unfold One1 at this
          rw [this] at hj
          cases hj
          cases ho)).trans hj
      have hsz : W.heap.size ≤ (w3.setCell ⟨w.heap.size, 0, none⟩ (.slice A3 n3 c3)).heap.size := by
        have h1 := hbn.size
        have h2 := hg3.size
        simp only [World.setCell, Array.size_modify]
        omega
      refine ⟨⟨hsz, fun k o _ hk ho => hset k o (ho3 k o ((hbn.block k (Array.getElem?_eq_some_iff.1 hk).1).trans hk) ho) ho⟩, ⟨hsz, fun k o hk ho => hset k o (ho3 k o ((hbn.block k (Array.getElem?_eq_some_iff.1 hk).1).trans hk) (Obj.not_cells_of_walk ho)) (Obj.not_cells_of_walk ho)⟩, ?_, _, hO3.set _, ?_⟩
      · refine Below.setCell ((HBEL.out.trans (hbn.mono HBW.out)).grown hg3 (by have := HBW.out; simp only [size_new]; omega) (fun q hq => (hR1.row.lt q hq).1)) (p := ⟨w.heap.size, 0, none⟩) (Nat.le_refl _) _
      · have h1 := hown3
        have e : fl pre ++ rv x = fl (pre ++ [x]) := by rw [fl_append]; simp [fl]
        rw [e] at h1
        have h2 := World.ownsRow.kept h1 (grown_set1 w3 w.heap.size (.slice A3 n3 c3)) (by
          rcases h1.2 with ⟨hv, _⟩ | ⟨g, cap, cur, hv, _, hh, _⟩
          · exact .inl (by rw [hv]; rfl)
          · refine .inr fun e => ?_
            rw [hv] at e
            have e : g = w.heap.size := by simpa [Value.ownBlock] using e
            subst e
            have := hO3
            unfold One1 at this
            rw [hh] at this
            injection this with this
            injection this with _ h2 _
            exact absurd h2 (by decide))
        simpa using h2
    have hc3 := hO3.c0
    have hf3 := hO3.f0
    clear hown3 hg3 hnil3 hbn hR1 hO3
    gi_wp2
    exact HF.out
  case hdone =>
    rintro D ys W hD hys ⟨hbel, v, hR⟩ hK
    have hc0 := hR.box.c0
    have HR := Lib.hid (own_from hR.row (grownBy_putObj' W D (.deferred none)) (fun r hr => by cases hr; exact ⟨_, hK, rfl⟩))
    have HB := Lib.hid hbel
    have HK := Lib.hid hK
    have HYS := Lib.hid hys
    clear hR hbel hK hys
    go_wp2_with fail
    exact leave_mark HK.out (results_tmp rfl _ _ _) ⟨v, ys, rfl, HYS.out, HR.out, below_mark HB.out (by omega)⟩
end Go.Proofs.Ytckipafciomklaa.bk
