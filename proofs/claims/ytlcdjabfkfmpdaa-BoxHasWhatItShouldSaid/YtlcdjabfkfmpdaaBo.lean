/- Of. -/
import Derived.Test.YtlcdjabfkfmpdaaBf

import Derived.Test.YtlcdjabfkfmpdaaVal3

import Derived.Test.YtlcdjabfkfmpdaaVal5

import Derived.Test.YtlcdjabfkfmpdaaBm

import Derived.Test.YtlcdjabfkfmpdaaQc

namespace Go.Proofs.Ytlcdjabfkfmpdaa.bq
/-- one step of Of: the box so far, or none -/
def ofS (acc : Option Pair) (v : List Int) : Option Pair := acc.bind fun b => if balike b (v, v) then some (join b (v, v)) else none
def ofL (L : List (List Int)) : Option Pair := match L with
  | [] => none
  | l :: _ => L.foldl ofS (some (l, l))
theorem ofS_none (L : List (List Int)) : L.foldl ofS none = none := by induction L with
  | nil => rfl
  | cons v L ih => exact ih
end Go.Proofs.Ytlcdjabfkfmpdaa.bq

namespace Go.Proofs.Ytlcdjabfkfmpdaa.vk

open Go.ChangeShapes Go.WideShapes Go.ChangeAt Go.RowKit
/-- a slice of slices of integers -/
def IsVV (w : World) (A : Option Addr) (n c : Nat) (L : List (List Int)) : Prop :=
  L.length = n ∧ n ≤ c ∧ c ≤ 9223372036854775807 ∧ ∀ k l, L[k]? = some l → ∃ b o A' n' c', A = some ⟨b, o, none⟩ ∧ b < w.heap.size ∧ w.cell? ⟨b, o + k, none⟩ = some (.slice A' n' c') ∧ wo.IsI w A' n' c' l
theorem isVV_below {w w' : World} {A : Option Addr} {n c : Nat} {L : List (List Int)} (h : IsVV w A n c L) (hb : Below w.heap.size w w') : IsVV w' A n c L :=
  ⟨h.1, h.2.1, h.2.2.1, fun k l hk => by
    obtain ⟨b, o, A', n', c', hA, hlt, hc, hI⟩ := h.2.2.2 k l hk
    exact ⟨b, o, A', n', c', hA, Nat.lt_of_lt_of_le hlt hb.size, (hb.cell (p := ⟨b, o + k, none⟩) hlt).trans hc, isI_below hI hb⟩⟩
theorem isVV_get {w : World} {A : Option Addr} {n c k : Nat} {L : List (List Int)} (h : IsVV w A n c L) (hk : k < n) : ∃ b o A' n' c' l, A = some ⟨b, o, none⟩ ∧ b < w.heap.size ∧ w.cell? ⟨b, o + k, none⟩ = some (.slice A' n' c') ∧ wo.IsI w A' n' c' l ∧ L[k]? = some l := by
  have hl : k < L.length := by have := h.1; omega
  obtain ⟨b, o, A', n', c', h1, h2, h3, h4⟩ := h.2.2.2 k L[k] (List.getElem?_eq_getElem hl)
  exact ⟨b, o, A', n', c', L[k], h1, h2, h3, h4, List.getElem?_eq_getElem hl⟩
end Go.Proofs.Ytlcdjabfkfmpdaa.vk

namespace Go.Proofs.Ytlcdjabfkfmpdaa.bk

open Go.ChangeShapes Go.WideShapes Go.ChangeAt Go.RowKit

open Go.Proofs.Ytlcdjabfkfmpdaa.bq Go.Proofs.Ytlcdjabfkfmpdaa.vk Go.Proofs.Ytlcdjabfkfmpdaa.wk

set_option linter.unusedVariables false
def OfR (q : Pair) (ke : Int) (lo : Nat) (la lb v1 : Value) (L : Nat → Bool) (i : Nat) (u : World) (x : Value) : Prop :=
  match i with
  | 0 => x = .agg #[la, lb]
  | 1 => x = v1
  | 2 => x = .agg #[v1, v1]
  | 3 => ∃ y, x = .tuple #[y, .int .i64 ke] ∧ IsX u y q
  | 4 => ∃ y, x = .tuple #[y, .int .i64 ke] ∧ IsX u y q
  | 5 => IsX u x q
  | 6 => x = .int .i64 ke
  | 7 => ∃ g A n c A' n' c', x = .pointer (some ⟨g, 0, none⟩) ∧ lo ≤ g ∧ TwoX u g (.slice A n c) (.slice A' n' c') ∧ (L 8 = true → IsX u (.agg #[.slice A n c, .slice A' n' c']) q)
  | 9 => x = .int .i64 ke
  | _ => True
theorem OfR.next {q : Pair} {ke : Int} {lo : Nat} {la lb v1 : Value} {L L' : Nat → Bool} {i : Nat} {u u' : World} {x : Value} (h8 : L' 8 = L 8) (hb : Below u.heap.size u u') (h : OfR q ke lo la lb v1 L i u x) : OfR q ke lo la lb v1 L' i u' x := by
  unfold OfR at *
  split
  case h_1 => exact h
  case h_2 => exact h
  case h_3 => exact h
  case h_4 => obtain ⟨y, h1, h2⟩ := h; exact ⟨y, h1, h2.below hb⟩
  case h_5 => obtain ⟨y, h1, h2⟩ := h; exact ⟨y, h1, h2.below hb⟩
  case h_6 => exact IsX.below h hb
  case h_7 => exact h
  case h_8 => obtain ⟨g, a1, a2, a3, a4, a5, a6, h1, h2, h3, h4⟩ := h; exact ⟨g, a1, a2, a3, a4, a5, a6, h1, h2, h3.below hb, fun e => (h4 (h8 ▸ e)).below hb⟩
  case h_9 => exact h
  case h_10 => trivial
theorem isX_set2 {w : World} {g : Nat} {v : Value} {p : Pair} {A1 A2 : Option Addr} {n1 c1 n2 c2 : Nat} (h : IsX w v p) (hg : TwoX w g (.slice A1 n1 c1) (.slice A2 n2 c2)) (x y : Value) : IsX ((w.setCell ⟨g, 0, none⟩ x).setCell ⟨g, 1, none⟩ y) v p := by
  obtain ⟨a, b, c, d, e, f, h0, h1, h2⟩ := h
  exact ⟨a, b, c, d, e, f, h0, isI_set2 h1 hg _ _, isI_set2 h2 hg _ _⟩
theorem OfR.store {q : Pair} {ke : Int} {lo : Nat} {la lb v1 : Value} {L : Nat → Bool} {i : Nat} {u : World} {x y : Value} {g : Nat} {a1 a4 b1 b4 : Option Addr} {a2 a3 a5 a6 b2 b3 b5 b6 : Nat} (h8 : L 8 = false) (hT : TwoX u g (.slice a1 a2 a3) (.slice a4 a5 a6)) (hg : y = .pointer (some ⟨g, 0, none⟩)) (hq1 : wo.IsI u b1 b2 b3 q.1) (hq2 : wo.IsI u b4 b5 b6 q.2) (h7 : i = 7 → y = x)
    (h : OfR q ke lo la lb v1 L i u x) : OfR q ke lo la lb v1 (fun j => if j = 8 then true else L j) i ((u.setCell ⟨g, 0, none⟩ (.slice b1 b2 b3)).setCell ⟨g, 1, none⟩ (.slice b4 b5 b6)) x := by
  unfold OfR at *
  split
  case h_1 => exact h
  case h_2 => exact h
  case h_3 => exact h
  case h_4 => obtain ⟨y, h1, h2⟩ := h; exact ⟨y, h1, isX_set2 h2 hT _ _⟩
  case h_5 => obtain ⟨y, h1, h2⟩ := h; exact ⟨y, h1, isX_set2 h2 hT _ _⟩
  case h_6 => exact isX_set2 h hT _ _
  case h_7 => exact h
  case h_8 =>
    obtain ⟨g', _, _, _, _, _, _, h1, h2, _, _⟩ := h
    have he := h7 rfl
    rw [hg, h1] at he
    simp only [Value.pointer.injEq, Option.some.injEq, Addr.mk.injEq, and_true] at he
    subst he
    exact ⟨g, b1, b2, b3, b4, b5, b6, h1, h2, hT.set _ _, fun _ => ⟨_, _, _, _, _, _, rfl, isI_set2 hq1 hT _ _, isI_set2 hq2 hT _ _⟩⟩
  case h_9 => exact h
  case h_10 => trivial
structure OfS (wr : World) (L : Nat → Bool) (u : World) : Prop where
  below : Below wr.heap.size wr u
  c8 : L 8 = true → L 7 = true
theorem OfS.next {wr : World} {L L' : Nat → Bool} {u u' : World} (h : OfS wr L u) (h8 : L' 8 = L 8) (h7 : L' 7 = L 7) (hb : Below u.heap.size u u') : OfS wr L' u' := ⟨h.below.trans (hb.mono h.below.size), by rw [h8, h7]; exact h.c8⟩
theorem OfS.next7 {wr : World} {L : Nat → Bool} {u u' : World} (h : OfS wr L u) (h8 : L 8 = false) (hb : Below u.heap.size u u') : OfS wr (fun j => if j = 7 then true else L j) u' := ⟨h.below.trans (hb.mono h.below.size), fun _ => rfl⟩
theorem OfS.store {wr : World} {L : Nat → Bool} {u : World} (h : OfS wr L u) {g : Nat} (hlo : wr.heap.size ≤ g) (h7 : L 7 = true) {x y : Value} : OfS wr (fun j => if j = 8 then true else L j) ((u.setCell ⟨g, 0, none⟩ x).setCell ⟨g, 1, none⟩ y) := ⟨below_set2 h.below hlo _ _, fun _ => h7⟩
set_option maxRecDepth 100000 in
set_option maxHeartbeats 8000000 in
theorem of_calls (A : Option Addr) (n c : Nat) (L : List (List Int)) (w : World) (h : IsVV w A n c L) :
    Calls Try.prog 12 #[.slice A n c] w fun e w' => ∃ x, e = .returned (.tuple #[x, .int .i64 (if (ofL L).isSome then 0 else 1)]) ∧ IsX w' x ((ofL L).getD ([], [])) ∧ Below w.heap.size w w' := by
  have H := Lib.hid h
  have hm := h.2.2.1
  have hnc := h.2.1
  have hl := h.1
  have HB0 := Lib.hid (below_new w (.cells #[.slice none 0 0, .slice none 0 0] 25))
  have HT2 := Lib.hid (TwoX.new w (.slice none 0 0) (.slice none 0 0))
  have hc0 := HT2.out.two.c0
  have hc1 := HT2.out.two.c1
  have hf0 := HT2.out.f0 0
  have hf1 := HT2.out.f0 1
  clear h
  by_cases hn0 : n = 0
  · subst hn0
    obtain rfl : L = [] := List.eq_nil_of_length_eq_zero hl
    go_enter Try.func12, Try.ntmps12
    go_wp2_with fail
    exact bodyPost_ret (v := .tuple #[.agg #[.slice none 0 0, .slice none 0 0], .int .i64 1]) (res_x1 (fn := Try.f12) rfl _ _ w.heap.size _ _ rfl HT2.out) rfl ⟨_, rfl, isX_nil _, HB0.out⟩
  · obtain ⟨b, o, A0, n0, c0, l0, rfl, hb0, hcl0, hI0, hL0⟩ := isVV_get H.out (k := 0) (by omega)
    rw [Nat.add_zero] at hcl0
    have hn0' : (0 : Int) < (n : Int) := by omega
    have hn0'' : 0 < n := by omega
    have hcl : (w.alloc (.cells #[.slice none 0 0, .slice none 0 0] 25)).cell? ⟨b, o, none⟩ = some (.slice A0 n0 c0) := (HB0.out.cell (p := ⟨b, o, none⟩) hb0).trans hcl0
    have HI0 := Lib.hid hI0
    have HO : Hid (ofL L = L.foldl ofS (some (l0, l0))) := by
      show _ = _
      cases L with
      | nil => cases hL0
      | cons a L => simp at hL0; subst hL0; rfl
    obtain ⟨rv, hrv⟩ : ∃ rv : Int, (if (ofL L).isSome then 0 else 1) = rv := ⟨_, rfl⟩
    obtain ⟨rp, hrp⟩ : ∃ rp : Pair, (ofL L).getD ([], []) = rp := ⟨_, rfl⟩
    rw [hrv, hrp]
    have HRV := Lib.hid hrv
    have HRP := Lib.hid hrp
    clear hrv hrp
    clear hI0 hL0 hcl0 hl
    go_enter Try.func12, Try.ntmps12
    go_wp2_with fail
    refine (point_calls A0 n0 c0 _).mono ?_
    rintro e w1 ⟨rfl, hb⟩
    have HB1 := Lib.hid (HB0.out.trans (hb.mono HB0.out.size))
    have HT2' := Lib.hid (HT2.out.below hb)
    clear hb hc0 hc1 hf0 hf1 hcl
    go_wp2_with fail
    generalize hG : w.heap.size = G at *
    have hG1 : G < w1.heap.size := (Array.getElem?_eq_some_iff.1 HT2'.out).1
    generalize hS : w1.heap.size = S at *
    have hbn := below_new w1 (.cells #[.slice A0 n0 c0, .slice A0 n0 c0] 25)
    have HT3 : Hid (TwoX (w1.alloc (.cells #[.slice A0 n0 c0, .slice A0 n0 c0] 25)) S (.slice A0 n0 c0) (.slice A0 n0 c0)) := by rw [← hS]; exact TwoX.new _ _ _
    have HT4 := Lib.hid (HT2'.out.below hbn)
    have HB2 : Hid (Below G w (w1.alloc (.cells #[.slice A0 n0 c0, .slice A0 n0 c0] 25))) := HB1.out.trans (hbn.mono (by rw [hS]; omega))
    clear hbn
    go_loopg [19] n (fun g x wr => ∃ (k : Nat) (q : Pair) (a b : Value), k + g = n ∧ x = .int .i64 (k : Int) ∧ (L.take k).foldl ofS (some (l0, l0)) = some q ∧ TwoX wr S a b ∧ IsX wr (.agg #[a, b]) q ∧ TwoX wr G (.slice none 0 0) (.slice none 0 0) ∧ Below G w wr)
    case atStart => exact ⟨0, (l0, l0), _, _, by omega, rfl, rfl, HT3.out, ⟨_, _, _, _, _, _, rfl, isI_below HI0.out (by rw [hG]; exact HB2.out), isI_below HI0.out (by rw [hG]; exact HB2.out)⟩, HT4.out, HB2.out⟩
    case round =>
      obtain ⟨k, p, la, lb, hk, rfl, hfold, hTS, hXS, hTG, hbel⟩ := hrel
      have HK := Lib.hid hk
      have HF := Lib.hid hfold
      have HXS := Lib.hid hXS
      have HTG := Lib.hid hTG
      have HTS := Lib.hid hTS
      have HBEL := Lib.hid hbel
      have hkn : k ≤ n := by omega
      by_cases hlt : k < n
      · obtain ⟨b1, o1, A1, n1, c1, l1, e1, hb1, hc1, hI1, hL1⟩ := isVV_get (isVV_below H.out (by rw [hG]; exact hbel)) hlt
        cases e1
        have hk2 : (k : Int) < (n : Int) := by omega
        have hlc0 := hTS.two.c0
        have hlc1 := hTS.two.c1
        have HL1 := Lib.hid hL1
        have HJ := Lib.hid (fun w' (hb : Below wr.heap.size wr w') => join_calls (.agg #[la, lb]) (.agg #[.slice A1 n1 c1, .slice A1 n1 c1]) p (l1, l1) w' (hXS.below hb) ⟨_, _, _, _, _, _, rfl, isI_below hI1 hb, isI_below hI1 hb⟩)
        clear hk hfold hTS hXS hTG hbel hI1 hL1
        go_wp2_with fail
        obtain ⟨q, hq⟩ : ∃ q, (if balike p (l1, l1) then join p (l1, l1) else ([], [])) = q := ⟨_, rfl⟩
        obtain ⟨ke, hke⟩ : ∃ ke : Int, (if balike p (l1, l1) then 0 else 1) = ke := ⟨_, rfl⟩
        rw [hq, hke] at HJ
        have HQ := Lib.hid hq
        have HKE := Lib.hid hke
        clear hq hke
        refine wk.region_lev2 10 (OfR q ke wr.heap.size la lb (.slice A1 n1 c1)) [some 24, some 25, some 26, some 27, some 23, some 28, some 29, some 7, none, some 8] (fun L u => OfS wr L u) (⟨(Below.refl _ _).drew, fun h => (by cases h)⟩) (by kernel_rfl) (by kernel_rfl) (by kernel_rfl) (by kernel_rfl) (by kernel_rfl) (by kernel_rfl) ?hstep ?hdone
        case hstep =>
          intro i o ho hi E L w4 hS4 hL hdeps DG
          have hi2 : i = 0 ∨ i = 1 ∨ i = 2 ∨ i = 3 ∨ i = 4 ∨ i = 5 ∨ i = 6 ∨ i = 7 ∨ i = 8 ∨ i = 9 := by omega
          clear hi
          rcases hi2 with rfl | rfl | rfl | rfl | rfl | rfl | rfl | rfl | rfl | rfl
          ·
            have ho2 := (Array.getElem?_eq_some_iff.1 ho).2
            simp only [List.getElem_toArray, List.getElem_cons_zero] at ho2
            subst ho2
            clear ho
            have e4 := DG.old 4 (by kernel_rfl)
            refine wk.Does.weak (R := fun w' x => x = .agg #[la, lb]) ?_ (fun w' v hb hr => ⟨hr, fun j u _ _ hj => OfR.next rfl hb hj, hS4.next rfl rfl hb⟩)
            exact wk.does_load_row rfl (by rw [e4]; rfl) (HTS.out.below hS4.below) Try.underlying25 rfl (by kernel_rfl) rfl
          ·
            have ho2 := (Array.getElem?_eq_some_iff.1 ho).2
            simp only [List.getElem_toArray, List.getElem_cons_succ, List.getElem_cons_zero] at ho2
            subst ho2
            clear ho
            have e6 := DG.old 6 (by kernel_rfl)
            refine wk.Does.weak (R := fun w' x => x = .slice A1 n1 c1) ?_ (fun w' v hb hr => ⟨hr, fun j u _ _ hj => OfR.next rfl hb hj, hS4.next rfl rfl hb⟩)
            exact wk.does_move rfl (by rw [e6]; rfl)
          ·
            have ho2 := (Array.getElem?_eq_some_iff.1 ho).2
            simp only [List.getElem_toArray, List.getElem_cons_succ, List.getElem_cons_zero] at ho2
            subst ho2
            clear ho
            have e25 := DG.is { on := 1, ground := .data } (by simp) rfl 25 rfl
            replace e25 : E (.tmp 25) = .slice A1 n1 c1 := e25
            refine wk.Does.weak (R := fun w' x => x = .agg #[.slice A1 n1 c1, .slice A1 n1 c1]) ?_ (fun w' v hb hr => ⟨hr, fun j u _ _ hj => OfR.next rfl hb hj, hS4.next rfl rfl hb⟩)
            refine wk.does_fn (f := 41) (vs := #[.slice A1 n1 c1]) rfl (DG.fn _) (by simp [e25]) (by go_simp) ?_
            refine (point_calls A1 n1 c1 w4).mono ?_
            rintro e w7 ⟨rfl, hb7⟩
            exact ⟨_, rfl, hb7, rfl⟩
          ·
            have ho2 := (Array.getElem?_eq_some_iff.1 ho).2
            simp only [List.getElem_toArray, List.getElem_cons_succ, List.getElem_cons_zero] at ho2
            subst ho2
            clear ho
            have e24 := DG.is { on := 0, ground := .data } (by simp) rfl 24 rfl
            replace e24 : E (.tmp 24) = .agg #[la, lb] := e24
            have e26 := DG.is { on := 2, ground := .data } (by simp) rfl 26 rfl
            replace e26 : E (.tmp 26) = .agg #[.slice A1 n1 c1, .slice A1 n1 c1] := e26
            refine wk.Does.weak (R := fun w' x => ∃ y, x = .tuple #[y, .int .i64 ke] ∧ IsX w' y q) ?_ (fun w' v hb hr => ⟨hr, fun j u _ _ hj => OfR.next rfl hb hj, hS4.next rfl rfl hb⟩)
            refine wk.does_fn (f := 13) (vs := #[.agg #[la, lb], .agg #[.slice A1 n1 c1, .slice A1 n1 c1]]) rfl (DG.fn _) (by simp [e24, e26]) (by go_simp) ?_
            refine (HJ.out w4 hS4.below).mono ?_
            rintro e w7 ⟨y, rfl, hI7, hb7⟩
            exact ⟨_, rfl, hb7, y, rfl, hI7⟩
          ·
            have ho2 := (Array.getElem?_eq_some_iff.1 ho).2
            simp only [List.getElem_toArray, List.getElem_cons_succ, List.getElem_cons_zero] at ho2
            subst ho2
            clear ho
            have s27 := DG.is { on := 3, ground := .data } (by simp) rfl 27 rfl
            refine wk.Does.weak (R := fun w' x => ∃ y, x = .tuple #[y, .int .i64 ke] ∧ IsX w' y q) ?_ (fun w' v hb hr => ⟨hr, fun j u _ _ hj => OfR.next rfl hb hj, hS4.next rfl rfl hb⟩)
            exact wk.does_move rfl s27
          ·
            have ho2 := (Array.getElem?_eq_some_iff.1 ho).2
            simp only [List.getElem_toArray, List.getElem_cons_succ, List.getElem_cons_zero] at ho2
            subst ho2
            clear ho
            have s23 := DG.is { on := 4, ground := .data } (by simp) rfl 23 rfl
            refine wk.Does.weak (R := fun w' x => IsX w' x q) ?_ (fun w' v hb hr => ⟨hr, fun j u _ _ hj => OfR.next rfl hb hj, hS4.next rfl rfl hb⟩)
            obtain ⟨y, h1, h2⟩ := s23
            exact wk.does_extract rfl h1 rfl h2
          ·
            have ho2 := (Array.getElem?_eq_some_iff.1 ho).2
            simp only [List.getElem_toArray, List.getElem_cons_succ, List.getElem_cons_zero] at ho2
            subst ho2
            clear ho
            have s23 := DG.is { on := 4, ground := .data } (by simp) rfl 23 rfl
            refine wk.Does.weak (R := fun w' x => x = .int .i64 ke) ?_ (fun w' v hb hr => ⟨hr, fun j u _ _ hj => OfR.next rfl hb hj, hS4.next rfl rfl hb⟩)
            obtain ⟨y, h1, h2⟩ := s23
            exact wk.does_extract rfl h1 rfl rfl
          ·
            have ho2 := (Array.getElem?_eq_some_iff.1 ho).2
            simp only [List.getElem_toArray, List.getElem_cons_succ, List.getElem_cons_zero] at ho2
            subst ho2
            clear ho
            have h8 : L 8 = false := by cases h : L 8; rfl; rw [hS4.c8 h] at hL; cases hL
            refine wk.Does.weak (R := fun w' x => x = .pointer (some ⟨w4.heap.size, 0, none⟩) ∧ TwoX w' w4.heap.size (.slice none 0 0) (.slice none 0 0)) ?_ fun w' v hb hr => ⟨?_, fun j u _ _ hj => OfR.next rfl hb hj, hS4.next7 h8 hb⟩
            · exact wk.does_new (w' := w4.alloc (.cells #[.slice none 0 0, .slice none 0 0] 25)) (by simp only [execOp]; go_simp) (below_new _ _) ⟨rfl, TwoX.new _ _ _⟩
            · exact ⟨_, _, _, _, _, _, _, hr.1, hS4.below.size, hr.2, fun h => by replace h : L 8 = true := h; rw [h8] at h; cases h⟩
          ·
            have ho2 := (Array.getElem?_eq_some_iff.1 ho).2
            simp only [List.getElem_toArray, List.getElem_cons_succ, List.getElem_cons_zero] at ho2
            subst ho2
            clear ho
            have s7 := DG.is { on := 7, ground := .data } (by simp) rfl 7 rfl
            have s28 := DG.is { on := 5, ground := .data } (by simp) rfl 28 rfl
            obtain ⟨g, a1, a2, a3, a4, a5, a6, hg, hlo, hT, _⟩ := s7
            obtain ⟨b1, b2, b3, b4, b5, b6, hq, hq1, hq2⟩ := s28
            have hc0 := hT.two.c0
            have hc1 := hT.two.c1
            have hf0 := hT.f0 0
            have hf1 := hT.f0 1
            refine wk.does_skip_t (w' := (w4.setCell ⟨g, 0, none⟩ (.slice b1 b2 b3)).setCell ⟨g, 1, none⟩ (.slice b4 b5 b6)) ?_ ⟨trivial, fun j u hLj hu hj => OfR.store hL hT hg hq1 hq2 (fun e => by subst e; exact hu 7 rfl) hj, hS4.store hlo (hdeps { on := 7, ground := .data } (by simp) rfl)⟩
            simp only [execOp]
            rw [hg, hq]
            go_simp
          ·
            have ho2 := (Array.getElem?_eq_some_iff.1 ho).2
            simp only [List.getElem_toArray, List.getElem_cons_succ, List.getElem_cons_zero] at ho2
            subst ho2
            clear ho
            have e29 := DG.is { on := 6, ground := .data } (by simp) rfl 29 rfl
            replace e29 : E (.tmp 29) = .int .i64 ke := e29
            refine wk.Does.weak (R := fun w' x => x = .int .i64 ke) ?_ (fun w' v hb hr => ⟨hr, fun j u _ _ hj => OfR.next rfl hb hj, hS4.next rfl rfl hb⟩)
            exact wk.does_assign rfl e29
        case hdone =>
          intro vals LD w4 hall hS4 hv
          obtain ⟨g, a1, a2, a3, a4, a5, a6, hg, hlo, hT, hX⟩ := hv 7 (by omega)
          have hX2 := hX (hall 8 (by omega))
          have h9 : vals 9 = .int .i64 ke := hv 9 (by omega)
          have hb5 := hS4.below
          clear hv hX hall hS4
          simp only [List.drop_succ_cons, List.drop_zero, List.drop_nil, wpList, wk.setL, List.setIfInBounds_toArray, List.set_cons_zero, List.set_cons_succ, Nat.zero_add, Nat.reduceAdd, hg, h9]
          generalize vals 0 = x0
          generalize vals 1 = x1
          generalize vals 2 = x2
          generalize vals 3 = x3
          generalize vals 4 = x4
          generalize vals 5 = x5
          generalize vals 6 = x6
          have hTS5 := HTS.out.below hb5
          obtain ⟨c1, c2, c3, c4, c5, c6, hlab, _, _⟩ := HXS.out
          have hla : la = .slice c1 c2 c3 ∧ lb = .slice c4 c5 c6 := by simpa using hlab
          rw [hla.1, hla.2] at hTS5
          clear hlab hla
          have hTG5 := HTG.out.below hb5
          have hlen4 := hb5.size
          have hSw : S < wr.heap.size := (Array.getElem?_eq_some_iff.1 HTS.out).1
          have hGw : G < wr.heap.size := (Array.getElem?_eq_some_iff.1 HTG.out).1
          have hGS : G ≠ S := by omega
          have hB5 := HBEL.out.trans (hb5.mono (by omega))
          have hc0 := hT.two.c0
          have hc1 := hT.two.c1
          have hc4 := hTS5.two.c0
          have hc5 := hTS5.two.c1
          have hf4 := hTS5.f0 0
          have hf5 := hTS5.f0 1
          have hc6 := hTG5.two.c0
          have hc7 := hTG5.two.c1
          have hf6 := hTG5.f0 0
          have hf7 := hTG5.f0 1
          cases hal : balike p (l1, l1)
          · have hke := HKE.out
            rw [hal] at hke
            simp only [if_false, Bool.false_eq_true] at hke
            subst hke
            have HRN : Hid (ofL L = none) := by
              show _ = _
              rw [HO.out, ← List.take_append_drop (k + 1) L, List.foldl_append, vq.take_snoc HL1.out, List.foldl_append, HF.out]
              have : ofS (some p) l1 = none := by simp [ofS, hal]
              simp only [List.foldl_cons, List.foldl_nil, this, ofS_none]
            have HTG6 := Lib.hid (TwoX.set hTG5 (.slice none 0 0) (.slice none 0 0))
            have HB6 := Lib.hid hB5
            clear hX2 hT hTS5 hTG5 hB5 hb5 hal
            go_wp2_with fail
            rw [← HRV.out, ← HRP.out, HRN.out]
            exact bodyPost_ret (v := .tuple #[.agg #[.slice none 0 0, .slice none 0 0], .int .i64 1]) (res_x1 (fn := Try.f12) rfl _ _ G _ _ rfl HTG6.out) rfl ⟨_, rfl, isX_nil _, by exact by rw [hG]; exact below_set2 HB6.out (Nat.le_refl _) _ _⟩
          · have hke := HKE.out
            have hqq := HQ.out
            rw [hal] at hke hqq
            simp only [if_true] at hke hqq
            subst hke hqq
            have HF2 : Hid ((L.take (k + 1)).foldl ofS (some (l0, l0)) = some (join p (l1, l1))) := by
              show _ = _
              rw [vq.take_snoc HL1.out, List.foldl_append, HF.out]
              simp [ofS, hal]
            have HTG6 := Lib.hid (TwoX.other2 hTG5 hGS (.slice a1 a2 a3) (.slice a4 a5 a6))
            have HTS6 := Lib.hid (TwoX.set hTS5 (.slice a1 a2 a3) (.slice a4 a5 a6))
            have HX6 := Lib.hid (isX_set2 hX2 hTS5 (.slice a1 a2 a3) (.slice a4 a5 a6))
            have HB6 := Lib.hid (below_set2 hB5 (show G ≤ S by omega) (.slice a1 a2 a3) (.slice a4 a5 a6))
            clear hX2 hT hTS5 hTG5 hB5 hb5 hal
            go_wp2_with fail
            go_roundg (gk - 1)
            case measure => have := HK.out; omega
            case rel => exact ⟨k + 1, _, _, _, by have := HK.out; omega, by go_num, HF2.out, HTS6.out, HX6.out, HTG6.out, HB6.out⟩
      · obtain rfl : k = n := by omega
        rw [List.take_of_length_le (by have := H.out.1; omega)] at hfold
        have HRS : Hid (ofL L = some p) := by show _ = _; rw [HO.out, hfold]
        obtain ⟨a1, a2, a3, a4, a5, a6, he, hq1, hq2⟩ := hXS
        simp only [Value.agg.injEq, Array.mk.injEq, List.cons.injEq, and_true] at he
        obtain ⟨rfl, rfl⟩ := he
        have hc4 := hTS.two.c0
        have hc5 := hTS.two.c1
        have hc6 := hTG.two.c0
        have hc7 := hTG.two.c1
        have hf6 := hTG.f0 0
        have hf7 := hTG.f0 1
        have HTG6 := Lib.hid (TwoX.set hTG (.slice a1 a2 a3) (.slice a4 a5 a6))
        have HX6 := Lib.hid (isX_set2 HXS.out hTG (.slice a1 a2 a3) (.slice a4 a5 a6))
        have HB6 := Lib.hid (below_set2 hbel (Nat.le_refl G) (.slice a1 a2 a3) (.slice a4 a5 a6))
        clear hk hfold hTS hTG hbel hq1 hq2 HXS
        go_wp2_with fail
        rw [← HRV.out, ← HRP.out, HRS.out]
        exact bodyPost_ret (v := .tuple #[.agg #[.slice a1 a2 a3, .slice a4 a5 a6], .int .i64 0]) (res_x1 (fn := Try.f12) rfl _ _ G _ _ rfl HTG6.out) rfl ⟨_, rfl, HX6.out, by rw [hG]; exact HB6.out⟩
end Go.Proofs.Ytlcdjabfkfmpdaa.bk
