/- Joined: Pc Vlen Vb Vc Vd Ve Vf. -/
import Derived.Test.YteeianandjokaaaG6

import Derived.Lib.BitFns

import Derived.Lib.Walk

import Derived.Lib.Strings

import Derived.Lib.Slices

import Derived.Lib.Small

import Derived.Lib.MinMax

import Derived.Deep.QuietTactic

import Derived.BigQuiet

import Derived.Laws.EntriesVeiled
/- Keys to pivots; the first of the greatest, and of the least. -/
namespace Go.Proofs.Yteeianandjokaaa.pk

open Go.ChangeShapes Go.WideShapes Go.ChangeAt Go.RowKit

open Go.Proofs.Yteeianandjokaaa.pq Go.Proofs.Yteeianandjokaaa.vk

set_option linter.unusedVariables false

end Go.Proofs.Yteeianandjokaaa.pk

namespace Go.Proofs.Yteeianandjokaaa.wk

open Go.ChangeShapes Go.WideShapes Go.ChangeAt Go.RowKit

section

variable {P : Program} {Q : Exit → Act → World → Prop} {o : Oper} {E : Operand → Value} {w : World} {R : World → Value → Prop}
/-- a call of a value that has its first arguments -/
theorem does_fnb {x : Operand} {args : Array Operand} {ts : Array TypeId} {f : FuncId} {bs cap vs : Array Value} (ho : o.op = .call { callee := .value x, args := args, argTypes := ts }) (hx : E x = .func (.func f) bs cap)
    (ha : bs ++ args.map E ++ cap = vs) (hf : (callFunc f vs).run P w = .ok (.enter f vs) w) (hc : Calls P f vs w fun e w' => ∃ v, e = .returned v ∧ Below w.heap.size w w' ∧ R w' v) : Does P Q o E w R := by
  refine does_call (f := f) (vs := vs) ?_ hc
  unfold execOp
  simp only [ho, resolve, hx, Deferred.ofValue, Sem.run_bind, Sem.run_pure, Result.andThen_ok, invoke, ha, hf]
end

end Go.Proofs.Yteeianandjokaaa.wk

namespace Go.Proofs.Yteeianandjokaaa.pk

open Go.ChangeShapes Go.WideShapes Go.ChangeAt Go.RowKit

open Go.Proofs.Yteeianandjokaaa.pq Go.Proofs.Yteeianandjokaaa.vk

set_option linter.unusedVariables false
/-- what finds keys to a pivot -/
def kfun (m : Int) (A : Option Addr) (n c : Nat) : Value := .func (.func 44) #[.agg #[.int .i64 m, .slice A n c]] #[]
set_option maxRecDepth 100000 in
theorem ckey_calls {m : Int} {A A' : Option Addr} {n c n' c' d : Nat} {p v : List Int} (w : World) (h1 : 1 ≤ m) (h3 : m ≤ 3) (h : wo.IsI w A n c p) (h' : wo.IsI w A' n' c' v) (hp : p.length = d ∧ vq.Vec p) (hv : v.length = d ∧ vq.Vec v) :
    Calls Try.prog 44 #[.agg #[.int .i64 m, .slice A n c], .slice A' n' c'] w fun e w' => e = .returned (.int .i64 (vq.key m p v)) ∧ Below w.heap.size w w' := by
  have hb := below_new w (.cells #[.int .i64 m, .slice A n c] 78)
  have hn : n = n' := by have := h.1; have := h'.1; omega
  subst hn
  have HK := Lib.hid (key_calls m A A' n c c' p v (w.alloc (.cells #[.int .i64 m, .slice A n c] 78)) (by omega) (by omega) (isI_below h hb) (isI_below h' hb) (vq.sub_bound hp.2 hv.2) (by have := hp.2.le; have := h.1; omega))
  have HB := Lib.hid hb
  clear hb h h' hp hv
  generalize vq.key m p v = y at *
  go_enter Try.func44, Try.ntmps44
  go_wp2_with fail
  refine HK.out.mono ?_
  rintro e w' ⟨rfl, hb⟩
  have HB2 := Lib.hid (Below.andThen HB.out hb)
  clear hb
  go_wp2_with fail
  go_ret
  exact ⟨rfl, HB2.out⟩
set_option maxRecDepth 100000 in
set_option maxHeartbeats 1000000 in
theorem greatest_calls (c : FuncId) (cap : Array Value) (hcf : ∀ args w', (callFunc c args).run Try.prog w' = .ok (.enter c args) w') (n : Nat) (hn : n ≤ 1099511627776) (f : Nat → Int) (Inv : Nat → World → Prop) (w : World)
    (hs : ∀ k w', k < n → Inv k w' → Calls Try.prog c (#[.int .i64 k] ++ cap) w' fun e w'' => e = .returned (.int .i64 (f k)) ∧ Inv (k + 1) w'') (h0 : Inv 0 w) :
    Calls Try.prog 45 #[.int .i64 n, .func (.func c) #[] cap] w fun e w' => e = .returned (.tuple #[.int .i64 (gr f n).1, .int .i64 (gr f n).2]) ∧ Inv n w' := by
  have HS := Lib.hid hs
  have H0 := Lib.hid h0
  clear hs h0
  go_enter Try.func45, Try.ntmps45
  go_wp2_with fail
  go_loopg [6, 7, 11] n (fun g x y z wr => ∃ k : Nat, k + g = n ∧ x = .int .i64 ((gr f k).1 : Int) ∧ y = .int .i64 (gr f k).2 ∧ z = .int .i64 (k : Int) ∧ Inv k wr)
  case atStart => exact ⟨0, by omega, rfl, rfl, rfl, H0.out⟩
  case round =>
    obtain ⟨k, hk, rfl, rfl, rfl, hI⟩ := hrel
    have HK := Lib.hid hk
    have HI := Lib.hid hI
    have hkn : k ≤ n := by omega
    clear hk hI
    by_cases hlt : k < n
    · have HC := Lib.hid (HS.out k _ hlt HI.out)
      have HG : Hid (gr f (k + 1) = if (gr f k).2 < f k then (k, f k) else gr f k) := by show _ = _; rfl
      generalize hgk : gr f k = p at *
      obtain ⟨p1, p2⟩ := p
      dsimp only at HG ⊢
      clear hgk
      by_cases hc : p2 < f k
      · have HG2 : Hid (gr f (k + 1) = (k, f k)) := by show _ = _; rw [HG.out, if_pos hc]
        clear HG
        generalize f k = y at *
        go_wp2_with fail
        refine HC.out.mono ?_
        rintro e w' ⟨rfl, hI'⟩
        have HI' := Lib.hid hI'
        clear hI'
        go_wp2_with fail
        go_roundg (gk - 1)
        case measure => have := HK.out; omega
        case rel => exact ⟨k + 1, by have := HK.out; omega, by rw [HG2.out], by rw [HG2.out], by go_num, HI'.out⟩
      · have HG2 : Hid (gr f (k + 1) = (p1, p2)) := by show _ = _; rw [HG.out, if_neg hc]
        clear HG
        generalize f k = y at *
        go_wp2_with fail
        refine HC.out.mono ?_
        rintro e w' ⟨rfl, hI'⟩
        have HI' := Lib.hid hI'
        clear hI'
        go_wp2_with fail
        go_roundg (gk - 1)
        case measure => have := HK.out; omega
        case rel => exact ⟨k + 1, by have := HK.out; omega, by rw [HG2.out], by rw [HG2.out], by go_num, HI'.out⟩
    · obtain rfl : k = n := by omega
      go_wp2_with fail
      go_ret2
      exact ⟨rfl, HI.out⟩
set_option maxRecDepth 100000 in
theorem least1_calls (c : FuncId) (cap : Array Value) (hcf : ∀ args w', (callFunc c args).run Try.prog w' = .ok (.enter c args) w') (g k : Nat) (y : Int) (w : World) (hg : Box w g (.func (.func c) #[] cap)) (h0 : 0 ≤ y ∧ y ≤ 134217728)
    (hc : Calls Try.prog c (#[.int .i64 k] ++ cap) w fun e w' => e = .returned (.int .i64 y) ∧ Below w.heap.size w w') :
    Calls Try.prog 86 #[.int .i64 k, .pointer (some ⟨g, 0, none⟩)] w fun e w' => e = .returned (.int .i64 (134217728 - y)) ∧ Below w.heap.size w w' := by
  have hcb := hg.cell
  have HC := Lib.hid hc
  clear hg hc
  go_enter Try.func86, Try.ntmps86
  go_wp2_with fail
  refine HC.out.mono ?_
  rintro e w' ⟨rfl, hb⟩
  have HB := Lib.hid hb
  clear hb
  go_wp2_with fail
  go_ret
  exact ⟨by congr 2; try omega, HB.out⟩
set_option maxRecDepth 100000 in
theorem least_calls (c : FuncId) (cap : Array Value) (hcf : ∀ args w', (callFunc c args).run Try.prog w' = .ok (.enter c args) w') (n : Nat) (hn : n ≤ 1099511627776) (f : Nat → Int) (w : World)
    (hf : ∀ k, k < n → 0 ≤ f k ∧ f k ≤ 134217728)
    (hs : ∀ k w', k < n → Below w.heap.size w w' → Calls Try.prog c (#[.int .i64 k] ++ cap) w' fun e w'' => e = .returned (.int .i64 (f k)) ∧ Below w'.heap.size w' w'') :
    Calls Try.prog 60 #[.int .i64 n, .func (.func c) #[] cap] w fun e w' => e = .returned (.tuple #[.int .i64 (le f n).1, .int .i64 (le f n).2]) ∧ Below w.heap.size w w' := by
  have hb0 := below_new w (.cells #[.func (.func c) #[] cap] 81)
  have hx0 := Box.new w (.func (.func c) #[] cap) 81
  have HG := Lib.hid (greatest_calls 86 #[.pointer (some ⟨w.heap.size, 0, none⟩)] (fun _ _ => by kernel_rfl) n hn (fun i => 134217728 - f i)
    (fun k w' => Box w' w.heap.size (.func (.func c) #[] cap) ∧ Below w.heap.size w w') (w.alloc (.cells #[.func (.func c) #[] cap] 81))
    (fun k w' hk ⟨hx, hb⟩ => by
      refine (least1_calls c cap hcf w.heap.size k (f k) w' hx (hf k hk) (hs k w' hk hb)).mono ?_
      rintro e w'' ⟨rfl, hb2⟩
      exact ⟨rfl, hx.below hb2, Below.andThen hb hb2⟩) ⟨hx0, hb0⟩)
  have hbd : 0 ≤ (le f n).2 ∧ (le f n).2 ≤ 134217728 := by
    rw [le_mn]
    exact ⟨mnk_ge (by omega) _ (fun i hi => (hf i hi).1), mnk_max _ _⟩
  unfold le at hbd ⊢
  dsimp only at hbd ⊢
  generalize gr (fun i => 134217728 - f i) n = p at *
  obtain ⟨p1, p2⟩ := p
  dsimp only at hbd HG ⊢
  clear hf hs hb0 hx0
  go_enter Try.func60, Try.ntmps60
  go_wp2_with fail
  refine HG.out.mono ?_
  rintro e w' ⟨rfl, -, hb⟩
  have HB := Lib.hid hb
  clear hb
  go_wp2_with fail
  go_ret2
  exact ⟨rfl, HB.out⟩
/-- a slice of what finds keys to pivots -/
def IsK (w : World) (A : Option Addr) (n c : Nat) (m : Int) (P : List (List Int)) : Prop :=
  P.length = n ∧ n ≤ c ∧ c ≤ 9223372036854775807 ∧ ∀ k p, P[k]? = some p → ∃ b o A' n' c', A = some ⟨b, o, none⟩ ∧ b < w.heap.size ∧ w.cell? ⟨b, o + k, none⟩ = some (kfun m A' n' c') ∧ wo.IsI w A' n' c' p
theorem IsK.below {w w' : World} {A : Option Addr} {n c : Nat} {m : Int} {P : List (List Int)} (h : IsK w A n c m P) (hb : Below w.heap.size w w') : IsK w' A n c m P :=
  ⟨h.1, h.2.1, h.2.2.1, fun k l hk => by
    obtain ⟨b, o, A', n', c', hA, hlt, hc, hI⟩ := h.2.2.2 k l hk
    exact ⟨b, o, A', n', c', hA, Nat.lt_of_lt_of_le hlt hb.size, (hb.cell (p := ⟨b, o + k, none⟩) hlt).trans hc, isI_below hI hb⟩⟩
theorem IsK.get {w : World} {A : Option Addr} {n c k : Nat} {m : Int} {P : List (List Int)} (h : IsK w A n c m P) (hk : k < n) : ∃ b o A' n' c' p, A = some ⟨b, o, none⟩ ∧ b < w.heap.size ∧ w.cell? ⟨b, o + k, none⟩ = some (kfun m A' n' c') ∧ wo.IsI w A' n' c' p ∧ P[k]? = some p := by
  have hl : k < P.length := by have := h.1; omega
  obtain ⟨b, o, A', n', c', h1, h2, h3, h4⟩ := h.2.2.2 k _ (List.getElem?_eq_getElem hl)
  exact ⟨b, o, A', n', c', _, h1, h2, h3, h4, List.getElem?_eq_getElem hl⟩
theorem getD_some {α : Type} {l : List α} {k : Nat} {x d : α} (h : l[k]? = some x) : l.getD k d = x := by rw [List.getD_eq_getElem?_getD, h]; rfl
set_option maxRecDepth 100000 in
theorem near1_calls {m : Int} {A A' : Option Addr} {n c n' c' d k g g' most : Nat} {P : List (List Int)} {v : List Int} (w : World) (h1 : 1 ≤ m) (h3 : m ≤ 3) (h : IsK w A n c m P) (h' : wo.IsI w A' n' c' v) (hP : Fit most d P) (hv : v.length = d ∧ vq.Vec v) (hk : k < n)
    (hg : Box w g (.slice A n c)) (hg' : Box w g' (.slice A' n' c')) :
    Calls Try.prog 80 #[.int .i64 k, .pointer (some ⟨g, 0, none⟩), .pointer (some ⟨g', 0, none⟩)] w fun e w' => e = .returned (.int .i64 (kf m P v k)) ∧ Below w.heap.size w w' := by
  obtain ⟨b, o, A1, n1, c1, p, rfl, hb, hc, hI, hp⟩ := h.get hk
  have HK := Lib.hid (fun w' (hb : Below w.heap.size w w') => ckey_calls w' h1 h3 (isI_below hI hb) (isI_below h' hb) (hP.at hp) hv)
  have HE : Hid (kf m P v k = vq.key m p v) := by show _ = _; unfold kf; rw [getD_some hp]
  have hm := h.2.2.1
  have hnc := h.2.1
  have hlt0 : (k : Int) < (n : Int) := by omega
  rw [HE.out]
  clear h h' hP hv hI hp HE
  generalize vq.key m p v = y at *
  go_enter Try.func80, Try.ntmps80
  go_wp2_with fail
  refine wk.region_tailS 7 [.is (.slice (some ⟨b, o, none⟩) n c), .is (.int .i64 (k : Int)), .is (.pointer (some ⟨b, o + k, none⟩)), .is (kfun m A1 n1 c1), .is (.slice A' n' c'), .is (.int .i64 y), .is (.int .i64 y)] [some 5, some 6, some 7, some 8, some 9, some 10, some 4] (by kernel_rfl) (by kernel_rfl) (by kernel_rfl) (by kernel_rfl) [] (by kernel_rfl) (by intro p hp; cases hp) (by kernel_rfl) (by kernel_rfl) ?hstep ?hdone
  case hstep =>
    intro i o ho hi hns E w4 hb4 D
    have hi2 : i = 0 ∨ i = 1 ∨ i = 2 ∨ i = 3 ∨ i = 4 ∨ i = 5 ∨ i = 6 := by omega
    clear hi
    rcases hi2 with rfl | rfl | rfl | rfl | rfl | rfl | rfl
    ·
      have ho2 := (Array.getElem?_eq_some_iff.1 ho).2
      simp only [List.getElem_toArray, List.getElem_cons_zero] at ho2
      subst ho2
      clear ho
      have e1 := D.old 1 (by kernel_rfl)
      exact wk.does_load1 rfl (show E (.tmp 1) = .pointer (some ⟨g, 0, none⟩) by rw [e1]; rfl) ((hg.below ((Below.refl _ _).drew.trans hb4)).cell) Try.underlying83 rfl rfl
    ·
      have ho2 := (Array.getElem?_eq_some_iff.1 ho).2
      simp only [List.getElem_toArray, List.getElem_cons_succ, List.getElem_cons_zero] at ho2
      subst ho2
      clear ho
      have e0 := D.old 0 (by kernel_rfl)
      exact wk.does_move rfl (by rw [e0]; rfl)
    ·
      have ho2 := (Array.getElem?_eq_some_iff.1 ho).2
      simp only [List.getElem_toArray, List.getElem_cons_succ, List.getElem_cons_zero] at ho2
      subst ho2
      clear ho
      have e5 := D.is { on := 0, ground := .data } (by simp) rfl rfl 5 rfl
      have e6 := D.is { on := 1, ground := .data } (by simp) rfl rfl 6 rfl
      exact wk.does_run (by simp only [execOp]; rw [show E (.tmp 5) = _ from e5, show E (.tmp 6) = _ from e6]; go_simp) rfl
    ·
      have ho2 := (Array.getElem?_eq_some_iff.1 ho).2
      simp only [List.getElem_toArray, List.getElem_cons_succ, List.getElem_cons_zero] at ho2
      subst ho2
      clear ho
      have e7 := D.is { on := 2, ground := .data } (by simp) rfl rfl 7 rfl
      exact wk.does_load1 rfl e7 ((((Below.refl _ _).drew.trans hb4).cell (p := ⟨b, o + k, none⟩) hb).trans hc) Try.underlying76 rfl rfl
    ·
      have ho2 := (Array.getElem?_eq_some_iff.1 ho).2
      simp only [List.getElem_toArray, List.getElem_cons_succ, List.getElem_cons_zero] at ho2
      subst ho2
      clear ho
      have e2 := D.old 2 (by kernel_rfl)
      exact wk.does_load1 rfl (show E (.tmp 2) = .pointer (some ⟨g', 0, none⟩) by rw [e2]; rfl) ((hg'.below ((Below.refl _ _).drew.trans hb4)).cell) Try.underlying23 rfl rfl
    ·
      have ho2 := (Array.getElem?_eq_some_iff.1 ho).2
      simp only [List.getElem_toArray, List.getElem_cons_succ, List.getElem_cons_zero] at ho2
      subst ho2
      clear ho
      have e8 := D.is { on := 3, ground := .data } (by simp) rfl rfl 8 rfl
      have e9 := D.is { on := 4, ground := .data } (by simp) rfl rfl 9 rfl
      refine wk.does_fnb (f := 44) (bs := #[.agg #[.int .i64 m, .slice A1 n1 c1]]) (vs := #[.agg #[.int .i64 m, .slice A1 n1 c1], .slice A' n' c']) rfl (show E (.tmp 8) = _ from e8) (by simp [e9]) (by go_simp) ?_
      refine (HK.out w4 ((Below.refl _ _).drew.trans hb4)).mono ?_
      rintro e w7 ⟨rfl, hb7⟩
      exact ⟨_, rfl, hb7, rfl⟩
    ·
      have ho2 := (Array.getElem?_eq_some_iff.1 ho).2
      simp only [List.getElem_toArray, List.getElem_cons_succ, List.getElem_cons_zero] at ho2
      subst ho2
      clear ho
      have e10 := D.is { on := 5, ground := .data } (by simp) rfl rfl 10 rfl
      exact wk.does_assign rfl e10
  case hdone =>
    intro vals w4 hb4 hv
    have h6 := hv 6 (by omega)
    clear hv
    replace h6 : vals 6 = (.int .i64 y) := h6
    simp only [List.drop_succ_cons, List.drop_zero, wpList, wk.setL, List.setIfInBounds_toArray, List.set_cons_zero, List.set_cons_succ, Nat.zero_add, Nat.reduceAdd, h6]
    generalize vals 0 = x0
    generalize vals 1 = x1
    generalize vals 2 = x2
    generalize vals 3 = x3
    generalize vals 4 = x4
    generalize vals 5 = x5
    have hb : Below w.heap.size w w4 := (Below.refl _ _).drew.trans hb4
    clear hb4
    go_wp2_with fail
    go_ret
    exact ⟨rfl, hb⟩
end Go.Proofs.Yteeianandjokaaa.pk
/- Lengths in bits. -/
namespace Go.Proofs.Yteeianandjokaaa.mk

open Go.ChangeShapes Go.WideShapes Go.ChangeAt Go.RowKit

set_option linter.unusedVariables false
theorem tab_all : ∀ j : Fin 256, ((Lib.len8tab.data[j.val]?).map UInt8.toNat) = some (Lib.bitLen j.val) := by decide +kernel
theorem tab_at (n : Nat) (h : n < Lib.len8tab.size) (hn : n < 256) : ((Lib.len8tab[n]'h).toNat : Int) = Lib.bitLen n := by
  have h2 := tab_all ⟨n, hn⟩
  rw [Array.getElem?_eq_getElem (show n < Lib.len8tab.data.size from h), Option.map_some, Option.some.injEq] at h2
  exact congrArg _ h2
theorem wrap_small (k b : Nat) (hk : k ≤ 64) (hb : b ≤ 8) : wrap64 (k + wrap64 (b : Int)) = ((k + b : Nat) : Int) := by
  unfold wrap64
  omega
theorem len_fin (k : Nat) (x b v : Int) (hx : x.toNat < 2 ^ 64) (hk : k ≤ 64) (hb : b.toNat = x.toNat / 2 ^ k) (hge : 2 ^ k ≤ x.toNat) (h8 : b.toNat < 256) (hv : v = Lib.bitLen b.toNat) :
    wrap64 (k + wrap64 v) = (Lib.bitLen x.toNat : Int) := by
  rw [hv, Lib.bitLen_shift k x.toNat hge hx, ← hb]
  exact wrap_small k _ hk (Lib.bitLen_le8 ⟨b.toNat, h8⟩)
set_option maxRecDepth 100000 in
set_option maxHeartbeats 4000000 in
theorem len64_calls (x : Int) (w : World) (h0 : 0 ≤ x) (h1 : x ≤ 18446744073709551615) :
    Calls Try.prog 114 #[.int .u64 x] w fun e w' => e = .returned (.int .i64 (Lib.bitLen x.toNat)) ∧ w' = w := by
  go_enter Try.func114, Try.ntmps114
  have hsz : Lib.len8tab.size = 256 := by kernel_rfl
  go_wp2
  all_goals first
    | (exfalso; omega)
    | (go_ret; refine ⟨congrArg Ending.returned (congrArg (Value.int IntKind.i64) ?_), rfl⟩)
  · exact len_fin 56 x _ _ (by omega) (by omega) (by omega) (by omega) (by omega) (tab_at _ _ (by omega))
  · exact len_fin 48 x _ _ (by omega) (by omega) (by omega) (by omega) (by omega) (tab_at _ _ (by omega))
  · exact len_fin 40 x _ _ (by omega) (by omega) (by omega) (by omega) (by omega) (tab_at _ _ (by omega))
  · exact len_fin 32 x _ _ (by omega) (by omega) (by omega) (by omega) (by omega) (tab_at _ _ (by omega))
  · exact len_fin 24 x _ _ (by omega) (by omega) (by omega) (by omega) (by omega) (tab_at _ _ (by omega))
  · exact len_fin 16 x _ _ (by omega) (by omega) (by omega) (by omega) (by omega) (tab_at _ _ (by omega))
  · exact len_fin 8 x _ _ (by omega) (by omega) (by omega) (by omega) (by omega) (tab_at _ _ (by omega))
  · rw [tab_at _ _ (by omega)]
    have l := Lib.bitLen_le8 ⟨x.toNat, by omega⟩
    simp only at l
    unfold wrap64
    omega
theorem bitLen_log {n : Nat} (h : 0 < n) (hn : n < 2 ^ 64) : Lib.bitLen n = n.log2 + 1 := by
  have h1 := Nat.log2_self_le (n := n) (by omega)
  have h2 := Nat.lt_log2_self (n := n)
  have hl : n.log2 < 64 := (Nat.log2_lt (by omega)).2 hn
  have s := Lib.bitLen_shift n.log2 n h1 hn
  have e : n / 2 ^ n.log2 = 1 := by
    have hp := Nat.two_pow_pos n.log2
    refine Nat.div_eq_of_lt_le (by omega) ?_
    rw [Nat.pow_succ] at h2; omega
  rw [s, e]
  rfl
set_option maxRecDepth 100000 in
set_option maxHeartbeats 4000000 in
theorem len_calls (x : Int) (w : World) (h0 : 0 ≤ x) (h1 : x ≤ 18446744073709551615) :
    Calls Try.prog 111 #[.int .u64 x] w fun e w' => e = .returned (.int .i64 (Lib.bitLen x.toNat)) ∧ w' = w := by
  go_enter Try.func111, Try.ntmps111
  go_wp2_with (go_at_call 114; refine (len64_calls _ _ (by omega) (by omega)).mono ?_; rintro e w' ⟨rfl, rfl⟩)
  go_ret
  exact ⟨rfl, rfl⟩
theorem shl_one (k : Nat) (hk : k < 63) (P : Program) (w : World) : (Op.shift BinOp.shl IntKind.i64 1 IntKind.i64 (k : Int)).run P w = .ok (.int .i64 ((2 ^ k : Nat) : Int)) w := by
  have h1 : ¬ (k : Int) < 0 := by omega
  have hm : min (k : Int).toNat (IntKind.i64).bits = k := by show min _ 64 = k; omega
  have hp : (2 : Nat) ^ k ≤ 2 ^ 62 := Nat.pow_le_pow_right (by omega) (by omega)
  have he : IntKind.i64.wrap (1 * 2 ^ k) = ((2 ^ k : Nat) : Int) := by
    rw [IntKind.wrap_i64, Int.one_mul]
    have e : (2 : Int) ^ k = ((2 ^ k : Nat) : Int) := by push_cast; rfl
    rw [e]
    generalize (2 ^ k : Nat) = y at *
    omega
  simp only [Op.shift, if_neg h1, hm, he, Sem.run_pure]
end Go.Proofs.Yteeianandjokaaa.mk
/- The program's roots. -/
namespace Go.Proofs.Yteeianandjokaaa.me

open Go.ChangeShapes Go.WideShapes Go.ChangeAt Go.RowKit

open Go.Proofs.Yteeianandjokaaa.mk

set_option linter.unusedVariables false
theorem first_ge {n : Int} (h0 : 0 < n) (h1 : n ≤ 1152921504606846976) : ∃ h : Nat, h < 63 ∧ (Lib.bitLen n.toNat + 1) / 2 = h ∧ rt n ≤ ((2 ^ h : Nat) : Int) ∧ (2 ^ h : Nat) ≤ 2147483648 ∧ Lib.bitLen n.toNat ≤ 64 := by
  obtain ⟨k, rfl⟩ := Int.eq_ofNat_of_zero_le (show 0 ≤ n by omega)
  simp only [Int.toNat_natCast]
  have hk : 0 < k := by omega
  have hk1 : k ≤ 1152921504606846976 := by omega
  have hb := bitLen_log hk (by omega)
  have h2 := Nat.lt_log2_self (n := k)
  have hl : k.log2 < 61 := (Nat.log2_lt (by omega)).2 (by omega)
  refine ⟨(k.log2 + 2) / 2, by omega, by omega, ?_, ?_, by omega⟩
  · have hr := (rt_sq (x := (k : Int)) (by omega)).1
    have hp : k < 2 ^ ((k.log2 + 2) / 2) * 2 ^ ((k.log2 + 2) / 2) := by
      rw [← Nat.pow_add]
      exact Nat.lt_of_lt_of_le h2 (Nat.pow_le_pow_right (by omega) (by omega))
    generalize 2 ^ ((k.log2 + 2) / 2) = p at *
    have hp' : (k : Int) < (p : Int) * (p : Int) := by exact_mod_cast hp
    have := sq_lt (a := rt k) (b := (p : Int)) (by omega) (by omega)
    omega
  · exact Nat.le_trans (Nat.pow_le_pow_right (by omega) (show (k.log2 + 2) / 2 ≤ 31 by omega)) (by omega)
theorem wrap_two (k : Nat) (hk : k < 63) : wrap64 (2 ^ k) = ((2 ^ k : Nat) : Int) := by
  have hp : (2 : Nat) ^ k ≤ 2 ^ 62 := Nat.pow_le_pow_right (by omega) (by omega)
  have e : (2 : Int) ^ k = ((2 ^ k : Nat) : Int) := by push_cast; rfl
  rw [e]
  generalize (2 ^ k : Nat) = y at *
  unfold wrap64
  omega
set_option maxRecDepth 100000 in
set_option maxHeartbeats 4000000 in
theorem isqrt_small (n : Int) (w : World) (h0 : 0 < n) (h1 : n ≤ 1152921504606846976) (N : Int) (hN : min N 1152921504606846976 = n) (hN0 : 0 < N) :
    Calls Try.prog 99 #[.int .i64 N] w fun e w' => e = .returned (.int .i64 (rt n)) ∧ w' = w := by
  obtain ⟨h, hh, hl, hr, hp, hb⟩ := first_ge h0 h1
  have hpos := Nat.two_pow_pos h
  have hs := wrap_two h hh
  have hq : ((Lib.bitLen n.toNat : Int) + 1) / 2 = (h : Int) := by omega
  have HS := Lib.hid hs
  clear hl hs
  go_enter Try.func99, Try.ntmps99
  go_wp2_with (go_at_call 111; refine (len_calls _ _ (by omega) (by omega)).mono ?_; rintro e w' ⟨rfl, rfl⟩)
  go_loop [3] (fun x => ∃ r : Int, x = .int .i64 r ∧ rt n ≤ r ∧ 0 < r ∧ r ≤ 2147483648) (fun x => (intOf x).toNat)
  case atStart => exact ⟨_, by rw [HS.out], hr, by omega, by omega⟩
  case round =>
    obtain ⟨r, rfl, hr1, hr2, hr3⟩ := hrel
    have hg := newton_ge (n := n) (by omega) hr2
    have hst := newton_stop (n := n) (by omega) hr2
    have hd0 : 0 ≤ n / r := Int.ediv_nonneg (by omega) (by omega)
    have hd1 : n / r ≤ n := Int.ediv_le_self _ (by omega)
    clear hq hr
    have h0' : 1 ≤ rt n := (le_rt (by omega) 1).2 (.inr (by omega))
    by_cases hge : r ≤ (r + n / r) / 2
    · have he : r = rt n := by have := hst hge; omega
      have HE := Lib.hid he
      clear he hst hg
      go_wp2
      go_ret
      exact ⟨by rw [← HE.out]; rfl, rfl⟩
    · clear hst
      go_wp2
      go_round
      case rel => exact ⟨_, rfl, hg, by omega, by omega⟩
      case measure => simp [intOf]; omega
set_option maxRecDepth 100000 in
theorem isqrt_calls (N : Int) (w : World) : Calls Try.prog 99 #[.int .i64 N] w fun e w' => e = .returned (.int .i64 (rt (min N 1152921504606846976))) ∧ w' = w := by
  by_cases h : N ≤ 0
  · have hz : rt (min N 1152921504606846976) = 0 := by
      unfold rt
      rw [show (min N 1152921504606846976).toNat = 0 by omega]
      rfl
    rw [hz]
    clear hz
    go_enter Try.func99, Try.ntmps99
    go_wp2
    go_ret
    exact ⟨rfl, rfl⟩
  · exact isqrt_small _ w (by omega) (by omega) N rfl (by omega)
theorem isqrt_calls' (N : Int) (w : World) (h : N ≤ 1152921504606846976) : Calls Try.prog 99 #[.int .i64 N] w fun e w' => e = .returned (.int .i64 (rt N)) ∧ w' = w := by
  have := isqrt_calls N w
  rw [Int.min_eq_left h] at this
  exact this
/-- the bounds' functions -/
theorem four_le {a b : Int} (ha : 0 ≤ a) (hb : 0 ≤ b) (ha2 : a ≤ 134217728) (hb2 : b ≤ 134217728) : 0 ≤ 4 * a * b ∧ 4 * a * b ≤ 72057594037927936 := by
  refine ⟨four_nonneg ha hb, ?_⟩
  have h1 := Int.mul_le_mul_of_nonneg_left hb2 (show 0 ≤ 4 * a by omega)
  omega
set_option maxRecDepth 100000 in
theorem low1_calls (m a b : Int) (w : World) (hm : m ≠ 2) (ha : 0 ≤ a) (hb : 0 ≤ b) (ha2 : a ≤ 134217728) (hb2 : b ≤ 134217728) :
    Calls Try.prog 96 #[.int .i64 a, .int .i64 b] w fun e w' => e = .returned (.int .i64 (low m a b)) ∧ w' = w := by
  rw [low, if_neg hm]
  obtain ⟨x, hx⟩ : ∃ x, max (a - b) (b - a) = x := ⟨_, rfl⟩
  rw [hx]
  go_enter Try.func96, Try.ntmps96
  go_wp2
  go_ret
  exact ⟨rfl, rfl⟩
set_option maxRecDepth 100000 in
theorem high1_calls (m a b : Int) (w : World) (hm : m ≠ 2) (ha : 0 ≤ a) (hb : 0 ≤ b) (ha2 : a ≤ 134217728) (hb2 : b ≤ 134217728) :
    Calls Try.prog 97 #[.int .i64 a, .int .i64 b] w fun e w' => e = .returned (.int .i64 (high m a b)) ∧ w' = w := by
  rw [high, if_neg hm]
  obtain ⟨x, hx⟩ : ∃ x, min (a + b) 134217728 = x := ⟨_, rfl⟩
  rw [hx]
  go_enter Try.func97, Try.ntmps97
  go_wp2
  go_ret
  exact ⟨rfl, rfl⟩
set_option maxRecDepth 100000 in
theorem low2_calls (a b : Int) (w : World) (ha : 0 ≤ a) (hb : 0 ≤ b) (ha2 : a ≤ 134217728) (hb2 : b ≤ 134217728) :
    Calls Try.prog 98 #[.int .i64 a, .int .i64 b] w fun e w' => e = .returned (.int .i64 (low 2 a b)) ∧ w' = w := by
  rw [low, if_pos rfl]
  obtain ⟨h1, h2⟩ := four_le ha hb ha2 hb2
  have h3 := rt_nonneg (4 * a * b)
  have h4 := rt_le_add ha hb
  have HC := Lib.hid (fun w' => isqrt_calls' (4 * a * b) w' (by omega))
  generalize rt (4 * a * b) = r at *
  go_enter Try.func98, Try.ntmps98
  go_wp2_with fail
  refine (HC.out _).mono ?_
  rintro e w' ⟨rfl, rfl⟩
  go_wp2
  go_ret
  exact ⟨rfl, rfl⟩
set_option maxRecDepth 100000 in
theorem high2_calls (a b : Int) (w : World) (ha : 0 ≤ a) (hb : 0 ≤ b) (ha2 : a ≤ 134217728) (hb2 : b ≤ 134217728) :
    Calls Try.prog 100 #[.int .i64 a, .int .i64 b] w fun e w' => e = .returned (.int .i64 (high 2 a b)) ∧ w' = w := by
  rw [high, if_pos rfl]
  obtain ⟨h1, h2⟩ := four_le ha hb ha2 hb2
  have h3 := rt_nonneg (4 * a * b)
  have h4 := rt_le_add ha hb
  have HC := Lib.hid (fun w' => isqrt_calls' (4 * a * b) w' (by omega))
  generalize rt (4 * a * b) = r at *
  obtain ⟨x, hx⟩ : ∃ x, min (a + b + r) 134217728 = x := ⟨_, rfl⟩
  rw [hx]
  go_enter Try.func100, Try.ntmps100
  go_wp2_with fail
  refine (HC.out _).mono ?_
  rintro e w' ⟨rfl, rfl⟩
  go_wp2
  go_ret
  exact ⟨rfl, rfl⟩
set_option maxRecDepth 100000 in
theorem within_calls (x lo hi : Int) (w : World) : Calls Try.prog 103 #[.int .i64 x, .int .i64 lo, .int .i64 hi] w fun e w' => e = .returned (.bool (decide (lo ≤ x) && decide (x ≤ hi))) ∧ w' = w := by
  by_cases h : lo ≤ x
  · rw [show (decide (lo ≤ x) && decide (x ≤ hi)) = decide (x ≤ hi) by simp [h]]
    go_enter Try.func103, Try.ntmps103
    go_wp2
    go_ret
    exact ⟨rfl, rfl⟩
  · rw [show (decide (lo ≤ x) && decide (x ≤ hi)) = false by simp [h]]
    go_enter Try.func103, Try.ntmps103
    go_wp2
    go_ret
    exact ⟨rfl, rfl⟩
set_option maxRecDepth 100000 in
theorem nearest_calls (x lo hi : Int) (w : World) : Calls Try.prog 85 #[.int .i64 x, .int .i64 lo, .int .i64 hi] w fun e w' => e = .returned (.int .i64 (near x lo hi)) ∧ w' = w := by
  unfold near
  obtain ⟨y, hy⟩ : ∃ y, min x hi = y := ⟨_, rfl⟩
  obtain ⟨z, hz⟩ : ∃ z, max lo y = z := ⟨_, rfl⟩
  rw [hy, hz]
  go_enter Try.func85, Try.ntmps85
  go_wp2
  go_ret
  exact ⟨rfl, rfl⟩
def okk (m k : Int) : Bool := decide (1 ≤ m ∧ m ≤ 3) && (decide (0 ≤ k) && decide (k ≤ 134217728))
set_option maxRecDepth 100000 in
theorem valid_calls (m k : Int) (w : World) : Calls Try.prog 76 #[.int .i64 m, .int .i64 k] w fun e w' => e = .returned (.bool (okk m k)) ∧ w' = w := by
  have HC := Lib.hid (fun w' => within_calls k 0 134217728 w')
  unfold okk
  by_cases h : 1 ≤ m ∧ m ≤ 3
  · rw [decide_eq_true h, Bool.true_and]
    rcases (by omega : m = 1 ∨ m = 2 ∨ m = 3) with rfl | rfl | rfl
    all_goals
      go_enter Try.func76, Try.ntmps76
      go_wp2_with fail
      refine (HC.out _).mono ?_
      rintro e w' ⟨rfl, rfl⟩
      go_wp2
      go_ret
      exact ⟨rfl, rfl⟩
  · rw [decide_eq_false h, Bool.false_and]
    have h1 : (m == 1) = false := by simp; omega
    have h2 : (m == 2) = false := by simp; omega
    have h3 : (m == 3) = false := by simp; omega
    go_enter Try.func76, Try.ntmps76
    go_wp2
    go_ret
    exact ⟨rfl, rfl⟩
end Go.Proofs.Yteeianandjokaaa.me
/- The program's bounds. -/
namespace Go.Proofs.Yteeianandjokaaa.me

open Go.ChangeShapes Go.WideShapes Go.ChangeAt Go.RowKit

open Go.Proofs.Yteeianandjokaaa.vk

set_option linter.unusedVariables false
def lowF (m : Int) : Value := if m = 2 then .func (.func 98) #[] #[] else .func (.func 96) #[] #[]
def highF (m : Int) : Value := if m = 2 then .func (.func 100) #[] #[] else .func (.func 97) #[] #[]
set_option maxRecDepth 100000 in
theorem boundsOf_calls (m : Int) (w : World) (h1 : 1 ≤ m) (h3 : m ≤ 3) :
    Calls Try.prog 75 #[.int .i64 m] w fun e w' => e = .returned (.agg #[lowF m, highF m]) ∧ Below w.heap.size w w' := by
  rcases (by omega : m = 1 ∨ m = 2 ∨ m = 3) with rfl | rfl | rfl
  all_goals
    go_enter Try.func75, Try.ntmps75
    go_wp2
  · exact bodyPost_ret (v := .agg #[lowF 1, highF 1]) (by simp [results, Try.results75, go_sem, lowF, highF]) rfl ⟨rfl, (Below.refl _ _).alloc (Nat.le_refl _) _⟩
  · exact bodyPost_ret (v := .agg #[lowF 2, highF 2]) (by simp [results, Try.results75, go_sem, lowF, highF]) rfl ⟨rfl, (Below.refl _ _).alloc (Nat.le_refl _) _⟩
  · exact bodyPost_ret (v := .agg #[lowF 3, highF 3]) (by simp [results, Try.results75, go_sem, lowF, highF]) rfl ⟨rfl, (Below.refl _ _).alloc (Nat.le_refl _) _⟩
theorem run_field0 (f g : Value) (w : World) : (Instr.field 100 (.agg #[f, g]) 0).run Try.prog w = .ok f w := by kernel_rfl
theorem run_field1 (f g : Value) (w : World) : (Instr.field 100 (.agg #[f, g]) 1).run Try.prog w = .ok g w := by kernel_rfl
set_option maxRecDepth 100000 in
theorem low_calls (m a b : Int) (w : World) (h1 : 1 ≤ m) (h3 : m ≤ 3) (ha : 0 ≤ a) (hb : 0 ≤ b) (ha2 : a ≤ 134217728) (hb2 : b ≤ 134217728) :
    Calls Try.prog 84 #[.int .i64 m, .int .i64 a, .int .i64 b] w fun e w' => e = .returned (.int .i64 (low m a b)) ∧ Below w.heap.size w w' := by
  have HB := Lib.hid (fun w' => boundsOf_calls m w' h1 h3)
  by_cases hm : m = 2
  · subst hm
    simp only [lowF, highF, if_pos] at HB
    have HC := Lib.hid (fun w' => low2_calls a b w' ha hb ha2 hb2)
    have hf := run_field0 (.func (.func 98) #[] #[]) (.func (.func 100) #[] #[])
    go_enter Try.func84, Try.ntmps84
    go_wp2_with fail
    refine (HB.out _).mono ?_
    rintro e w' ⟨rfl, hb⟩
    go_wp2_with fail
    refine (HC.out _).mono ?_
    rintro e w' ⟨rfl, rfl⟩
    go_wp2
    go_ret
    exact ⟨rfl, hb⟩
  · simp only [lowF, highF, if_neg hm] at HB
    have HC := Lib.hid (fun w' => low1_calls m a b w' hm ha hb ha2 hb2)
    have hf := run_field0 (.func (.func 96) #[] #[]) (.func (.func 97) #[] #[])
    go_enter Try.func84, Try.ntmps84
    go_wp2_with fail
    refine (HB.out _).mono ?_
    rintro e w' ⟨rfl, hb⟩
    go_wp2_with fail
    refine (HC.out _).mono ?_
    rintro e w' ⟨rfl, rfl⟩
    go_wp2
    go_ret
    exact ⟨rfl, hb⟩
set_option maxRecDepth 100000 in
theorem high_calls (m a b : Int) (w : World) (h1 : 1 ≤ m) (h3 : m ≤ 3) (ha : 0 ≤ a) (hb : 0 ≤ b) (ha2 : a ≤ 134217728) (hb2 : b ≤ 134217728) :
    Calls Try.prog 40 #[.int .i64 m, .int .i64 a, .int .i64 b] w fun e w' => e = .returned (.int .i64 (high m a b)) ∧ Below w.heap.size w w' := by
  have HB := Lib.hid (fun w' => boundsOf_calls m w' h1 h3)
  by_cases hm : m = 2
  · subst hm
    simp only [lowF, highF, if_pos] at HB
    have HC := Lib.hid (fun w' => high2_calls a b w' ha hb ha2 hb2)
    have hf := run_field1 (.func (.func 98) #[] #[]) (.func (.func 100) #[] #[])
    go_enter Try.func40, Try.ntmps40
    go_wp2_with fail
    refine (HB.out _).mono ?_
    rintro e w' ⟨rfl, hb⟩
    go_wp2_with fail
    refine (HC.out _).mono ?_
    rintro e w' ⟨rfl, rfl⟩
    go_wp2
    go_ret
    exact ⟨rfl, hb⟩
  · simp only [lowF, highF, if_neg hm] at HB
    have HC := Lib.hid (fun w' => high1_calls m a b w' hm ha hb ha2 hb2)
    have hf := run_field1 (.func (.func 96) #[] #[]) (.func (.func 97) #[] #[])
    go_enter Try.func40, Try.ntmps40
    go_wp2_with fail
    refine (HB.out _).mono ?_
    rintro e w' ⟨rfl, hb⟩
    go_wp2_with fail
    refine (HC.out _).mono ?_
    rintro e w' ⟨rfl, rfl⟩
    go_wp2
    go_ret
    exact ⟨rfl, hb⟩
set_option maxRecDepth 100000 in
theorem gap_calls (m lo hi a : Int) (w : World) (h1 : 1 ≤ m) (h3 : m ≤ 3) (ha : 0 ≤ a) (hl : 0 ≤ lo) (ha2 : a ≤ 134217728) (hh : hi ≤ 134217728) (hlh : lo ≤ hi) :
    Calls Try.prog 59 #[.int .i64 m, .int .i64 lo, .int .i64 hi, .int .i64 a] w fun e w' => e = .returned (.int .i64 (gap m lo hi a)) ∧ Below w.heap.size w w' := by
  have hn : 0 ≤ near a lo hi ∧ near a lo hi ≤ 134217728 := by unfold near; omega
  have HC := Lib.hid (fun w' => low_calls m a (near a lo hi) w' h1 h3 ha hn.1 ha2 hn.2)
  have HN := Lib.hid (fun w' => nearest_calls a lo hi w')
  unfold gap
  generalize near a lo hi = x at *
  generalize low m a x = y at *
  go_enter Try.func59, Try.ntmps59
  go_wp2_with fail
  refine (HN.out _).mono ?_
  rintro e w' ⟨rfl, rfl⟩
  go_wp2_with fail
  refine (HC.out _).mono ?_
  rintro e w' ⟨rfl, hb⟩
  go_wp2
  go_ret
  exact ⟨rfl, hb⟩
set_option maxRecDepth 100000 in
theorem reach_calls (m lo hi a : Int) (w : World) (h1 : 1 ≤ m) (h3 : m ≤ 3) (ha : 0 ≤ a) (hh0 : 0 ≤ hi) (ha2 : a ≤ 134217728) (hh : hi ≤ 134217728) :
    Calls Try.prog 62 #[.int .i64 m, .int .i64 lo, .int .i64 hi, .int .i64 a] w fun e w' => e = .returned (.int .i64 (high m a hi)) ∧ Below w.heap.size w w' := by
  have HC := Lib.hid (fun w' => high_calls m a hi w' h1 h3 ha hh0 ha2 hh)
  generalize high m a hi = y at *
  go_enter Try.func62, Try.ntmps62
  go_wp2_with fail
  refine (HC.out _).mono ?_
  rintro e w' ⟨rfl, hb⟩
  go_wp2
  go_ret
  exact ⟨rfl, hb⟩
end Go.Proofs.Yteeianandjokaaa.me
/- The examples that every law computes first. -/
namespace Go.Proofs.Yteeianandjokaaa.me

open Go.ChangeShapes Go.WideShapes Go.ChangeAt Go.RowKit

open Go.Proofs.Yteeianandjokaaa.vk

set_option linter.unusedVariables false
theorem int_wf {a : Int} (h : (Lit.int .i64 a).wf = true) : -9223372036854775808 ≤ a ∧ a ≤ 9223372036854775807 := by simpa [Lit.wf, IntKind.min, IntKind.max, IntKind.signed, IntKind.bits] using h
theorem low_v (m a b v : Int) (h : 1 ≤ m ∧ m ≤ 3 ∧ 0 ≤ a ∧ 0 ≤ b ∧ a ≤ 134217728 ∧ b ≤ 134217728) (hv : low m a b = v) (w : World) :
    Calls Try.prog 84 #[.int .i64 m, .int .i64 a, .int .i64 b] w fun e w' => e = .returned (.int .i64 v) ∧ Below w.heap.size w w' := by
  subst hv; exact low_calls m a b w h.1 h.2.1 h.2.2.1 h.2.2.2.1 h.2.2.2.2.1 h.2.2.2.2.2
theorem high_v (m a b v : Int) (h : 1 ≤ m ∧ m ≤ 3 ∧ 0 ≤ a ∧ 0 ≤ b ∧ a ≤ 134217728 ∧ b ≤ 134217728) (hv : high m a b = v) (w : World) :
    Calls Try.prog 40 #[.int .i64 m, .int .i64 a, .int .i64 b] w fun e w' => e = .returned (.int .i64 v) ∧ Below w.heap.size w w' := by
  subst hv; exact high_calls m a b w h.1 h.2.1 h.2.2.1 h.2.2.2.1 h.2.2.2.2.1 h.2.2.2.2.2
theorem gap_v (m lo hi a v : Int) (h : 1 ≤ m ∧ m ≤ 3 ∧ 0 ≤ a ∧ 0 ≤ lo ∧ a ≤ 134217728 ∧ hi ≤ 134217728 ∧ lo ≤ hi) (hv : gap m lo hi a = v) (w : World) :
    Calls Try.prog 59 #[.int .i64 m, .int .i64 lo, .int .i64 hi, .int .i64 a] w fun e w' => e = .returned (.int .i64 v) ∧ Below w.heap.size w w' := by
  subst hv; exact gap_calls m lo hi a w h.1 h.2.1 h.2.2.1 h.2.2.2.1 h.2.2.2.2.1 h.2.2.2.2.2.1 h.2.2.2.2.2.2
theorem reach_v (m lo hi a v : Int) (h : 1 ≤ m ∧ m ≤ 3 ∧ 0 ≤ a ∧ 0 ≤ hi ∧ a ≤ 134217728 ∧ hi ≤ 134217728) (hv : high m a hi = v) (w : World) :
    Calls Try.prog 62 #[.int .i64 m, .int .i64 lo, .int .i64 hi, .int .i64 a] w fun e w' => e = .returned (.int .i64 v) ∧ Below w.heap.size w w' := by
  subst hv; exact reach_calls m lo hi a w h.1 h.2.1 h.2.2.1 h.2.2.2.1 h.2.2.2.2.1 h.2.2.2.2.2
theorem isqrt_v (n v : Int) (h : n ≤ 1152921504606846976) (hv : rt n = v) (w : World) :
    Calls Try.prog 99 #[.int .i64 n] w fun e w' => e = .returned (.int .i64 v) ∧ w' = w := by
  subst hv; exact isqrt_calls' n w h
def keyk (m d : Int) : Int := if m = 2 then d * d else d
end Go.Proofs.Yteeianandjokaaa.me
/- The reference's roots and bounds. -/
namespace Go.Proofs.Yteeianandjokaaa.me

open Go.ChangeShapes Go.WideShapes Go.ChangeAt Go.RowKit

open Go.Proofs.Yteeianandjokaaa.vk

set_option linter.unusedVariables false
set_option maxRecDepth 100000 in
set_option maxHeartbeats 4000000 in
theorem risqrt_calls (n : Int) (w : World) (h0 : 0 ≤ n) (h1 : n ≤ 1152921504606846976) :
    Calls Try.prog 110 #[.int .i64 n] w fun e w' => e = .returned (.int .i64 (rt n)) ∧ w' = w := by
  go_enter Try.func110, Try.ntmps110
  go_wp2
  go_loopg [3, 4] 31 (fun g x y wr => ∃ r : Int, x = .int .i64 r ∧ y = .int .i64 ((g : Int) - 1) ∧ wr = w ∧ g ≤ 31 ∧ 0 ≤ r ∧ r * r ≤ n ∧ n < (r + ((2 ^ g : Nat) : Int)) * (r + ((2 ^ g : Nat) : Int)))
  case atStart =>
    refine ⟨0, rfl, rfl, rfl, by omega, by omega, by omega, ?_⟩
    rw [show (2 : Nat) ^ 31 = 2147483648 from rfl]
    omega
  case round =>
    obtain ⟨r, rfl, hy, rfl, hg, hr0, hr1, hr2⟩ := hrel
    rcases Nat.eq_zero_or_pos gk with hz | hz
    · subst hz
      obtain rfl := hy
      have hu := rt_unique hr0 hr1 (by simpa using hr2)
      have HU := Lib.hid hu
      clear hu hr1 hr2
      go_wp2
      go_ret
      exact ⟨by rw [HU.out]; rfl, rfl⟩
    · obtain ⟨j, rfl⟩ : ∃ j, gk = j + 1 := ⟨gk - 1, by omega⟩
      rw [show ((j + 1 : Nat) : Int) - 1 = (j : Int) by omega] at hy
      obtain rfl := hy
      have hj : j < 63 := by omega
      have hs := wrap_two j hj
      have hp : (2 : Nat) ^ j ≤ 1073741824 := Nat.le_trans (Nat.pow_le_pow_right (by omega) (show j ≤ 30 by omega)) (by omega)
      rw [Nat.pow_succ] at hr2
      generalize hP : (2 : Nat) ^ j = p at *
      have hr3 : r ≤ 1073741824 := by
        rcases Int.lt_or_le 1073741824 r with q | q
        · have := sq_le (show (0 : Int) ≤ 1073741825 by omega) (show 1073741825 ≤ r by omega); omega
        · exact q
      have hx := sq_le (show 0 ≤ r + (p : Int) by omega) (show r + (p : Int) ≤ 2147483648 by omega)
      have hx0 := sq_nonneg (r + (p : Int))
      have hr4 : n < (r + (p : Int) + (p : Int)) * (r + (p : Int) + (p : Int)) := by
        have e : r + ((p * 2 : Nat) : Int) = r + (p : Int) + (p : Int) := by omega
        rw [e] at hr2; exact hr2
      have HS := Lib.hid hP
      clear hr2 hP
      by_cases hle : (r + (p : Int)) * (r + (p : Int)) ≤ n
      · go_wp2
        go_roundg j
        case measure => omega
        case rel => exact ⟨r + p, rfl, rfl, rfl, by omega, by omega, hle, by rw [HS.out]; exact hr4⟩
      · go_wp2
        go_roundg j
        case measure => omega
        case rel => exact ⟨r, rfl, rfl, rfl, by omega, by omega, hr1, by rw [HS.out]; omega⟩
set_option maxRecDepth 100000 in
theorem rlow_calls (m a b : Int) (w : World) (ha : 0 ≤ a) (hb : 0 ≤ b) (ha2 : a ≤ 134217728) (hb2 : b ≤ 134217728) :
    Calls Try.prog 87 #[.int .i64 m, .int .i64 a, .int .i64 b] w fun e w' => e = .returned (.int .i64 (low m a b)) ∧ w' = w := by
  unfold low
  by_cases hm : m = 2
  · subst hm
    obtain ⟨h1, h2⟩ := four_le ha hb ha2 hb2
    have h3 := rt_nonneg (4 * a * b)
    have h4 := rt_le_add ha hb
    have HC := Lib.hid (fun w' => risqrt_calls (4 * a * b) w' h1 (by omega))
    rw [if_pos rfl]
    generalize rt (4 * a * b) = r at *
    go_enter Try.func87, Try.ntmps87
    go_wp2_with fail
    refine (HC.out _).mono ?_
    rintro e w' ⟨rfl, rfl⟩
    go_wp2
    go_ret
    exact ⟨rfl, rfl⟩
  · rw [if_neg hm]
    have h : (m == 2) = false := by simp; omega
    by_cases hab : a < b
    · rw [Int.max_eq_right (show a - b ≤ b - a by omega)]
      go_enter Try.func87, Try.ntmps87
      go_wp2
      go_ret
      exact ⟨rfl, rfl⟩
    · rw [Int.max_eq_left (show b - a ≤ a - b by omega)]
      go_enter Try.func87, Try.ntmps87
      go_wp2
      go_ret
      exact ⟨rfl, rfl⟩
set_option maxRecDepth 100000 in
theorem rhigh_calls (m a b : Int) (w : World) (ha : 0 ≤ a) (hb : 0 ≤ b) (ha2 : a ≤ 134217728) (hb2 : b ≤ 134217728) :
    Calls Try.prog 88 #[.int .i64 m, .int .i64 a, .int .i64 b] w fun e w' => e = .returned (.int .i64 (high m a b)) ∧ w' = w := by
  unfold high
  by_cases hm : m = 2
  · subst hm
    obtain ⟨h1, h2⟩ := four_le ha hb ha2 hb2
    have h3 := rt_nonneg (4 * a * b)
    have h4 := rt_le_add ha hb
    have HC := Lib.hid (fun w' => risqrt_calls (4 * a * b) w' h1 (by omega))
    rw [if_pos rfl]
    generalize rt (4 * a * b) = r at *
    by_cases hs : 134217728 < a + b + r
    · rw [Int.min_eq_right (by omega)]
      go_enter Try.func88, Try.ntmps88
      go_wp2_with fail
      refine (HC.out _).mono ?_
      rintro e w' ⟨rfl, rfl⟩
      go_wp2
      go_ret
      exact ⟨rfl, rfl⟩
    · rw [Int.min_eq_left (by omega)]
      go_enter Try.func88, Try.ntmps88
      go_wp2_with fail
      refine (HC.out _).mono ?_
      rintro e w' ⟨rfl, rfl⟩
      go_wp2
      go_ret
      exact ⟨rfl, rfl⟩
  · rw [if_neg hm]
    have h : (m == 2) = false := by simp; omega
    by_cases hs : 134217728 < a + b
    · rw [Int.min_eq_right (by omega)]
      go_enter Try.func88, Try.ntmps88
      go_wp2
      go_ret
      exact ⟨rfl, rfl⟩
    · rw [Int.min_eq_left (by omega)]
      go_enter Try.func88, Try.ntmps88
      go_wp2
      go_ret
      exact ⟨rfl, rfl⟩
set_option maxRecDepth 100000 in
theorem rgap_calls (m lo hi a : Int) (w : World) (ha : 0 ≤ a) (hl : 0 ≤ lo) (ha2 : a ≤ 134217728) (hh : hi ≤ 134217728) (hlh : lo ≤ hi) :
    Calls Try.prog 64 #[.int .i64 m, .int .i64 lo, .int .i64 hi, .int .i64 a] w fun e w' => e = .returned (.int .i64 (gap m lo hi a)) ∧ w' = w := by
  rw [gap_eq hlh ha]
  have HL := Lib.hid (fun w' => rlow_calls m a lo w' ha hl ha2 (by omega))
  have HH := Lib.hid (fun w' => rlow_calls m a hi w' ha (by omega) ha2 hh)
  generalize low m a lo = x at *
  generalize low m a hi = y at *
  by_cases h1 : a < lo
  · rw [if_pos h1]
    go_enter Try.func64, Try.ntmps64
    go_wp2_with fail
    refine (HL.out _).mono ?_
    rintro e w' ⟨rfl, rfl⟩
    go_wp2
    go_ret
    exact ⟨rfl, rfl⟩
  · rw [if_neg h1]
    by_cases h2 : hi < a
    · rw [if_pos h2]
      go_enter Try.func64, Try.ntmps64
      go_wp2_with fail
      refine (HH.out _).mono ?_
      rintro e w' ⟨rfl, rfl⟩
      go_wp2
      go_ret
      exact ⟨rfl, rfl⟩
    · rw [if_neg h2]
      go_enter Try.func64, Try.ntmps64
      go_wp2
      go_ret
      exact ⟨rfl, rfl⟩
set_option maxRecDepth 100000 in
theorem rreach_calls (m lo hi a : Int) (w : World) (ha : 0 ≤ a) (hl : 0 ≤ lo) (ha2 : a ≤ 134217728) (hh : hi ≤ 134217728) (hlh : lo ≤ hi) :
    Calls Try.prog 65 #[.int .i64 m, .int .i64 lo, .int .i64 hi, .int .i64 a] w fun e w' => e = .returned (.int .i64 (high m a hi)) ∧ w' = w := by
  have HL := Lib.hid (fun w' => rhigh_calls m a lo w' ha hl ha2 (by omega))
  have HH := Lib.hid (fun w' => rhigh_calls m a hi w' ha (by omega) ha2 hh)
  have hg := high_grow (m := m) ha hl hlh
  generalize high m a lo = x at *
  generalize high m a hi = y at *
  go_enter Try.func65, Try.ntmps65
  go_wp2_with fail
  refine (HL.out _).mono ?_
  rintro e w' ⟨rfl, rfl⟩
  go_wp2_with fail
  refine (HH.out _).mono ?_
  rintro e w' ⟨rfl, rfl⟩
  go_wp2
  go_ret
  exact ⟨rfl, rfl⟩
end Go.Proofs.Yteeianandjokaaa.me
/- The reference's ring: two searches by halves. -/
namespace Go.Proofs.Yteeianandjokaaa.me

open Go.ChangeShapes Go.WideShapes Go.ChangeAt Go.RowKit

open Go.Proofs.Yteeianandjokaaa.vk

set_option linter.unusedVariables false
theorem low_side {m a t b : Int} (ha : 0 ≤ a) (ha2 : a ≤ 134217728) (ht : 0 ≤ t) (hb : 0 ≤ b) (hba : b ≤ a) : low m a b ≤ t ↔ rlo m a t ≤ b := by
  have h := ring_iff (m := m) ha ht hb (by omega)
  have h2 := a_in (m := m) ha ha2 ht
  rw [← h]
  omega
theorem high_side {m a t b : Int} (ha : 0 ≤ a) (ha2 : a ≤ 134217728) (ht : 0 ≤ t) (hab : a ≤ b) (hb2 : b ≤ 134217728) : low m a b ≤ t ↔ b ≤ high m a t := by
  have h := ring_iff (m := m) ha ht (show 0 ≤ b by omega) hb2
  have h2 := a_in (m := m) ha ha2 ht
  rw [← h]
  omega
theorem rlo_nonneg {m a t : Int} (ha : 0 ≤ a) (ht : 0 ≤ t) : 0 ≤ rlo m a t := by
  unfold rlo
  have := low_nonneg (m := m) ha ht
  split <;> omega
theorem row2_set0 {w : World} {g : Nat} {x y v : Value} {t : TypeId} (h : w.heap[g]? = some (.cells #[x, y] t (0, 0))) : (w.setCell ⟨g, 0, none⟩ v).heap[g]? = some (.cells #[v, y] t (0, 0)) := heap_setCell_same _ _ _ _ _ _ h
theorem row2_set1 {w : World} {g : Nat} {x y v : Value} {t : TypeId} (h : w.heap[g]? = some (.cells #[x, y] t (0, 0))) : (w.setCell ⟨g, 1, none⟩ v).heap[g]? = some (.cells #[x, v] t (0, 0)) := heap_setCell_same _ _ _ _ _ _ h
end Go.Proofs.Yteeianandjokaaa.me
