/- Joined: Kb Kc. -/
import Derived.Test.YtieipbobijnmlaaG8
/- Borders: their places, and whether they are valid. -/
namespace Go.Proofs.Ytieipbobijnmlaa.tk

open Go.ChangeShapes Go.WideShapes Go.ChangeAt Go.RowKit

open Go.Proofs.Ytieipbobijnmlaa.tq Go.Proofs.Ytieipbobijnmlaa.vk Go.Proofs.Ytieipbobijnmlaa.wk

set_option linter.unusedVariables false
set_option maxRecDepth 100000 in
set_option maxHeartbeats 4000000 in
theorem inside_calls (n : Nat) (w : World) : Calls Try.prog 46 #[.int .i64 (n : Int)] w fun e w' => e = .returned (.bool (odd n)) ∧ w' = w := by
  have h2 : (n : Int).tmod 2 = ((n % 2 : Nat) : Int) := by rw [Int.tmod_eq_emod_of_nonneg (by omega)]; omega
  go_enter Try.func46, Try.ntmps46
  by_cases h : n % 2 = 1
  · rw [h] at h2
    have h3 : (n : Int).tmod 2 = 1 := h2
    clear h2
    go_wp2_with fail
    go_ret
    exact ⟨by rw [odd_iff.2 h]; rfl, rfl⟩
  · have h4 : n % 2 = 0 := by omega
    rw [h4] at h2
    have h3 : (n : Int).tmod 2 = 0 := h2
    clear h2 h
    go_wp2_with fail
    go_ret
    exact ⟨by rw [odd_false.2 h4]; rfl, rfl⟩
set_option maxRecDepth 100000 in
set_option maxHeartbeats 4000000 in
theorem next_calls {l : List Int} {A : Option Addr} {n c : Nat} (k : Nat) (w : World) (h : wo.IsI w A n c l) : Calls Try.prog 66 #[.slice A n c, .int .i64 (k : Int)] w fun e w' => e = .returned (.int .i64 (nx l k)) ∧ w' = w := by
  have hl := h.1
  have hnc := h.2.1
  have hnm := h.2.2.1
  by_cases hk : k < n
  · have hx : l[k]? = some (l[k]'(by omega)) := List.getElem?_eq_getElem _
    generalize l[k]'(by omega) = x at *
    obtain ⟨-, b, o, rfl, hc⟩ := isI_get h hx
    have hlt : (k : Int) < (n : Int) := by omega
    have hn : nx l k = x := by unfold nx; rw [hx]; rfl
    rw [hn]
    clear h hx hn
    go_enter Try.func66, Try.ntmps66
    go_wp2_with fail
    go_ret
    exact ⟨rfl, rfl⟩
  · have hlt : ¬ (k : Int) < (n : Int) := by omega
    have hn : nx l k = 9223372036854775807 := by unfold nx; rw [List.getElem?_eq_none (by omega)]; rfl
    rw [hn]
    clear h hn
    go_enter Try.func66, Try.ntmps66
    go_wp2_with fail
    go_ret
    exact ⟨rfl, rfl⟩
theorem chk_bad {l : List Int} {k : Nat} {v last : Int} (hv : l[k]? = some v) (h : chk (-1) l = chk last (l.drop k)) (hb : v ≤ last ∨ 4096 < v) : vs l = false := by
  unfold vs
  rw [h, drop_cons_at hv]
  have : decide (last < v ∧ v ≤ 4096) = false := decide_eq_false (by omega)
  simp [chk, this]
theorem chk_next {l : List Int} {k : Nat} {v last : Int} (hv : l[k]? = some v) (h : chk (-1) l = chk last (l.drop k)) (h1 : last < v) (h2 : v ≤ 4096) : chk (-1) l = chk v (l.drop (k + 1)) := by
  rw [h, drop_cons_at hv]
  have : decide (last < v ∧ v ≤ 4096) = true := decide_eq_true ⟨h1, h2⟩
  simp [chk, this]
theorem chk_end {l : List Int} {last : Int} {n : Nat} (hn : l.length = n) (h : chk (-1) l = chk last (l.drop n)) : vs l = !odd n := by
  unfold vs
  rw [h, List.drop_of_length_le (by omega), hn]
  have : n % 2 = 0 ∨ n % 2 = 1 := by omega
  rcases this with h | h
  · rw [odd_false.2 h]; simp [chk, h]
  · rw [odd_iff.2 h]; simp [chk, h]
set_option maxRecDepth 100000 in
set_option maxHeartbeats 4000000 in
theorem valid_calls {l : List Int} {A : Option Addr} {n c : Nat} (w : World) (h : wo.IsI w A n c l) : Calls Try.prog 14 #[.slice A n c] w fun e w' => e = .returned (.bool (vs l)) ∧ w' = w := by
  have hnc := h.2.1
  have hnm := h.2.2.1
  have H := Lib.hid h
  have HL := Lib.hid h.1
  clear h
  go_enter Try.func14, Try.ntmps14
  go_wp2_with fail
  go_loopg [3, 8] n (fun g la x wr => ∃ (k : Nat) (last : Int), k + g = n ∧ la = .int .i64 last ∧ x = .int .i64 (k : Int) ∧ wr = w ∧ chk (-1) l = chk last (l.drop k))
  case atStart => exact ⟨0, -1, by omega, rfl, rfl, rfl, rfl⟩
  case round =>
    obtain ⟨k, last, hk, rfl, rfl, rfl, hc⟩ := hrel
    have HK := Lib.hid hk
    have HC := Lib.hid hc
    have hkn : k ≤ n := by omega
    clear hk hc
    by_cases hlt : k < n
    · have hx : l[k]? = some (l[k]'(by rw [HL.out]; omega)) := List.getElem?_eq_getElem _
      generalize l[k]'(by rw [HL.out]; omega) = x at *
      obtain ⟨-, b, o, rfl, hcell⟩ := isI_get H.out hx
      have hlt0 : (k : Int) < (n : Int) := by omega
      have HX := Lib.hid hx
      clear hx
      by_cases h1 : x ≤ last
      · have HV := Lib.hid (chk_bad HX.out HC.out (.inl h1))
        go_wp2_with fail
        go_ret
        exact ⟨by rw [HV.out]; rfl, rfl⟩
      · by_cases h2 : 4096 < x
        · have HV := Lib.hid (chk_bad HX.out HC.out (.inr h2))
          go_wp2_with fail
          go_ret
          exact ⟨by rw [HV.out]; rfl, rfl⟩
        · have HN := Lib.hid (chk_next HX.out HC.out (by omega) (by omega))
          go_wp2_with fail
          go_roundg (gk - 1)
          case measure => have := HK.out; omega
          case rel => exact ⟨k + 1, x, by have := HK.out; omega, rfl, by go_num, rfl, HN.out⟩
    · obtain rfl : n = k := by omega
      have HV := Lib.hid (chk_end HL.out HC.out)
      go_wp2_with fail
      refine (inside_calls n _).mono ?_
      rintro e w' ⟨rfl, hw⟩
      rw [hw]
      clear hw
      go_wp2_with fail
      go_ret
      exact ⟨by rw [HV.out]; rfl, rfl⟩
set_option maxRecDepth 100000 in
set_option maxHeartbeats 4000000 in
theorem passed_calls {l : List Int} {A : Option Addr} {n c : Nat} (x : Int) (w : World) (h : wo.IsI w A n c l) (ha : Asc l) (hn : n ≤ 1000000) : Calls Try.prog 47 #[.slice A n c, .int .i64 x] w fun e w' => e = .returned (.int .i64 (cl l x : Nat)) ∧ w' = w := by
  have hnc := h.2.1
  have hnm := h.2.2.1
  have H := Lib.hid h
  have HL := Lib.hid h.1
  have HA := Lib.hid ha
  have HCL := Lib.hid (cl_le l x)
  clear h ha
  go_enter Try.func47, Try.ntmps47
  go_wp2_with fail
  go_loopg [5, 6] n (fun g fa ta wr => ∃ (p q : Nat), p + g = q ∧ q ≤ n ∧ fa = .int .i64 (p : Int) ∧ ta = .int .i64 (q : Int) ∧ wr = w ∧ p ≤ cl l x ∧ cl l x ≤ q)
  case atStart => exact ⟨0, n, by omega, by omega, rfl, rfl, rfl, by omega, by have := HCL.out; have := HL.out; omega⟩
  case round =>
    obtain ⟨p, q, hp, hq, rfl, rfl, rfl, h1, h2⟩ := hrel
    have HP := Lib.hid hp
    have H1 := Lib.hid (And.intro h1 h2)
    clear hp h1 h2
    by_cases hlt : p < q
    · obtain ⟨m, hm⟩ : ∃ m, m = p + (q - p) / 2 := ⟨_, rfl⟩
      have hmq : m < q := by omega
      have hx : l[m]? = some (l[m]'(by rw [HL.out]; omega)) := List.getElem?_eq_getElem _
      generalize l[m]'(by rw [HL.out]; omega) = y at *
      obtain ⟨-, b, o, rfl, hcell⟩ := isI_get H.out hx
      have HPL := Lib.hid (cl_place (x := x) HA.out hx)
      have hlt0 : (p : Int) < (q : Int) := by omega
      have hqp : ((q : Int) - (p : Int)).tdiv 2 = (((q - p) / 2 : Nat) : Int) := by rw [Int.tdiv_eq_ediv_of_nonneg (by omega)]; omega
      clear hx
      generalize (q - p) / 2 = d at *
      subst hm
      have hmn : (p : Int) + (d : Int) < (n : Int) := by omega
      have h00 : (0 : Int) ≤ (p : Int) + (d : Int) := by omega
      have ht : ((p : Int) + (d : Int)).toNat = p + d := by omega
      by_cases hy : y ≤ x
      · go_wp2_with fail
        go_roundg (q - (p + d + 1))
        case measure => have := HP.out; omega
        case rel => exact ⟨p + d + 1, q, by omega, hq, by go_num, rfl, rfl, HPL.out.1 hy, H1.out.2⟩
      · go_wp2_with fail
        go_roundg d
        case measure => have := HP.out; omega
        case rel => exact ⟨p, p + d, by omega, by omega, rfl, by go_num, rfl, H1.out.1, Nat.le_of_not_lt fun h => absurd (HPL.out.2 h) (by omega)⟩
    · obtain rfl : p = q := by have := H1.out; omega
      have HE : Hid (cl l x = p) := by have := H1.out; show _ = _; omega
      go_wp2_with fail
      go_ret
      exact ⟨by rw [HE.out]; rfl, rfl⟩
end Go.Proofs.Ytieipbobijnmlaa.tk
/- Two sets put together. -/
namespace Go.Proofs.Ytieipbobijnmlaa.tk

open Go.ChangeShapes Go.WideShapes Go.ChangeAt Go.RowKit

open Go.Proofs.Ytieipbobijnmlaa.tq Go.Proofs.Ytieipbobijnmlaa.vk Go.Proofs.Ytieipbobijnmlaa.wk

set_option linter.unusedVariables false
theorem asc_len : ∀ {b : List Int} {lo hi : Int}, Asc b → (∀ x ∈ b, lo ≤ x ∧ x ≤ hi) → (b.length : Int) ≤ max (hi - lo + 1) 0
  | [], lo, hi, _, _ => by simp; omega
  | x :: b, lo, hi, h, hx => by
    have h2 := List.pairwise_cons.1 h
    have h3 := hx x (by simp)
    have ih := asc_len (lo := x + 1) (hi := hi) h2.2 fun y hy => ⟨by have := h2.1 y hy; omega, (hx y (by simp [hy])).2⟩
    rw [List.length_cons]
    omega
/-- a valid set in memory that has what p says -/
def IsS (w : World) (A : Option Addr) (n c : Nat) (p : Int → Bool) : Prop := ∃ d, wo.IsI w A n c d ∧ Ok d ∧ ∀ x, has d x = p x
theorem IsS.below {w w' : World} {A : Option Addr} {n c : Nat} {p : Int → Bool} (h : IsS w A n c p) (hb : Below w.heap.size w w') : IsS w' A n c p := by
  obtain ⟨d, h1, h2⟩ := h; exact ⟨d, vk.isI_below h1 hb, h2⟩
theorem ok_len {b : List Int} (h : Ok b) : b.length ≤ 4097 := by
  have := asc_len h.1 h.2.1; omega
theorem grownOf {w w' : World} (h : Below w.heap.size w w') : w.grownBy w' none := ⟨h.os, h.tape, h.output, h.size, fun k hk _ => h.block k hk⟩
theorem keptB {w w' : World} {B n size : Nat} {e : TypeId} {v : Value} {xs : List Value} (h : w.ownsRow B e size v n xs) (hb : Below w.heap.size w w') : w'.ownsRow B e size v n xs :=
  World.ownsRow.kept h (grownOf hb) (by cases v.ownBlock; left; rfl; right; simp)
theorem own_shape {w : World} {B n size : Nat} {e : TypeId} {v : Value} {xs : List Value} (h : w.ownsRow B e size v n xs) : ∃ A c, v = .slice A n c := by
  rcases h.2 with ⟨hv, hn⟩ | ⟨g, cap, cur, hv, _⟩
  · exact ⟨none, 0, by rw [hv, hn]⟩
  · exact ⟨_, _, hv⟩
theorem inside2 {x : Int} (n : Nat) (w : World) (h : x = (n : Int)) : Calls Try.prog 46 #[.int .i64 x] w fun e w' => e = .returned (.bool (odd n)) ∧ w' = w := by
  subst h; exact inside_calls n w
set_option maxRecDepth 100000 in
set_option maxHeartbeats 4000000 in
theorem and1_calls (p q : Bool) (w : World) : Calls Try.prog 52 #[.bool p, .bool q] w fun e w' => e = .returned (.bool (p && q)) ∧ w' = w := by
  cases p with
  | false =>
    go_enter Try.func52, Try.ntmps52
    go_wp2_with fail
    go_ret
    exact ⟨by simp, rfl⟩
  | true =>
    go_enter Try.func52, Try.ntmps52
    go_wp2_with fail
    go_ret
    exact ⟨by simp, rfl⟩
set_option maxRecDepth 100000 in
set_option maxHeartbeats 4000000 in
theorem or1_calls (p q : Bool) (w : World) : Calls Try.prog 54 #[.bool p, .bool q] w fun e w' => e = .returned (.bool (p || q)) ∧ w' = w := by
  cases p with
  | false =>
    go_enter Try.func54, Try.ntmps54
    go_wp2_with fail
    go_ret
    exact ⟨by simp, rfl⟩
  | true =>
    go_enter Try.func54, Try.ntmps54
    go_wp2_with fail
    go_ret
    exact ⟨by simp, rfl⟩
set_option maxRecDepth 100000 in
set_option maxHeartbeats 4000000 in
theorem minus1_calls (p q : Bool) (w : World) : Calls Try.prog 55 #[.bool p, .bool q] w fun e w' => e = .returned (.bool (p && !q)) ∧ w' = w := by
  cases p with
  | false =>
    go_enter Try.func55, Try.ntmps55
    go_wp2_with fail
    go_ret
    exact ⟨by simp, rfl⟩
  | true =>
    go_enter Try.func55, Try.ntmps55
    go_wp2_with fail
    go_ret
    exact ⟨by simp, rfl⟩
theorem one_cell (w : World) (x : Int) (k : Nat) (u : Value) (hu : (iv [x])[k]? = some u) : (w.alloc (.cells #[.int .i64 x] 3)).cell? ((⟨w.heap.size, 0, none⟩ : Addr).add k) = some u := by
  rw [wk.add_at, Nat.zero_add, cell_of_row _ _ _ _ _ _ (heap_alloc_new w _)]
  simpa [iv] using hu
theorem ones1 (x : Int) : ∀ u ∈ iv [x], u.oneCell' = true := by
  intro u hu; simp [iv] at hu; subst hu; rfl
/-- what a round gives -/
theorem dummyAnd : True := trivial
set_option maxRecDepth 100000 in
set_option maxHeartbeats 16000000 in
theorem togAnd_calls {a b : List Int} {A1 A2 : Option Addr} {n1 c1 n2 c2 : Nat} (w : World) (h1 : wo.IsI w A1 n1 c1 a) (h2 : wo.IsI w A2 n2 c2 b) (ha : Ok a) (hb : Ok b) : Calls Try.prog 51 #[.slice A1 n1 c1, .slice A2 n2 c2, .func (.func 52) #[] #[]] w fun e w' => ∃ A n c, e = .returned (.slice A n c) ∧ IsS w' A n c (fun x => (fun p q => p && q) (has a x) (has b x)) ∧ Below w.heap.size w w' := by
  obtain ⟨i0, hi, hz0, hz1, hz2⟩ := info_parts wi.infoI
  have hm1 := h1.2.2.1
  have hnc1 := h1.2.1
  have hm2 := h2.2.2.1
  have hnc2 := h2.2.1
  have hn1 : n1 ≤ 4097 := by have := ok_len ha; have := h1.1; omega
  have hn2 : n2 ≤ 4097 := by have := ok_len hb; have := h2.1; omega
  have hnI : (i0.bytes : Nat) * (n1 + n2) ≤ 281474976710656 := by rw [hz2]; omega
  obtain ⟨w1, hmk, hown, hgr⟩ := run_make_own (P := Try.prog) w w.heap.size 23 3 i0 (.int .i64 0) 1 Try.underlying23 hi hz0 hz1 .i64 .i64 (n1 + n2) hnI (by unfold maxLen; omega) (Nat.le_refl _)
  have HB1 : Hid (Below w.heap.size w w1) := (Below.refl _ _).grown hgr (Nat.le_refl _) (fun k hk => by cases hk)
  have HO1 := Lib.hid hown
  have HA := Lib.hid h1
  have HB := Lib.hid h2
  have HOA := Lib.hid ha
  have HOB := Lib.hid hb
  have HL1 := Lib.hid h1.1
  have HL2 := Lib.hid h2.1
  have hcast2 : (((n1 + n2 : Nat) : Int)) = (n1 : Int) + (n2 : Int) := by omega
  rw [hcast2] at hmk
  obtain ⟨F0, hF0⟩ : ∃ F0 : Bool → Bool → Bool, F0 = fun p q => p && q := ⟨_, rfl⟩
  have HF0 := Lib.hid hF0
  have HFF : Hid (F0 false false = false) := by show _ = _; rw [hF0]; rfl
  rw [← hF0]
  have HFA : Hid (∀ p q, (p && q) = F0 p q) := fun p q => by rw [hF0]
  clear h1 h2 ha hb hown hgr hcast2 hF0
  go_enter Try.func51, Try.ntmps51
  go_wp2_with fail
  clear hmk
  go_loopg [7, 8, 9] (n1 + n2) (fun gg s xi xj wr => ∃ (i j : Nat) (t : Int) (d : List Int) (v : Value), i ≤ n1 ∧ j ≤ n2 ∧ gg = n1 - i + (n2 - j) ∧ t ≤ 4096 ∧ v = s ∧ xi = .int .i64 (i : Int) ∧ xj = .int .i64 (j : Int) ∧ Below w.heap.size w wr ∧ wr.ownsRow w.heap.size 3 1 v d.length (iv d) ∧ Tg F0 a b t i j d ∧ d.length ≤ i + j)
  case atStart => exact ⟨0, 0, -1, [], _, by omega, by omega, by omega, by omega, rfl, rfl, rfl, HB1.out, by simpa [iv] using HO1.out, tg_start HFF.out HOA.out HOB.out, by simp⟩
  case round =>
    obtain ⟨i, j, t, d, v, hi1, hj1, hgg, ht, rfl, rfl, rfl, hbel, hown, htg, hdl⟩ := hrel
    have HK : Hid (gk = n1 - i + (n2 - j) ∧ d.length ≤ i + j) := ⟨hgg, hdl⟩
    have HBEL := Lib.hid hbel
    have HOW := Lib.hid hown
    have HTG := Lib.hid htg
    have HBW : Hid (w.heap.size ≤ wr.heap.size) := hbel.size
    have HAr := Lib.hid (vk.isI_below HA.out hbel)
    have HBr := Lib.hid (vk.isI_below HB.out hbel)
    have hd0 : d.length ≤ 8194 := by omega
    obtain ⟨A5, c5, rfl⟩ := own_shape hown
    clear hgg hbel hown htg hdl
    by_cases hne : i < n1 ∨ j < n2
    · have HSTEP := Lib.hid (tg_round HOA.out HOB.out HTG.out ht (by rw [HL1.out, HL2.out]; exact hne))
      obtain ⟨x, hx⟩ : ∃ x, nx a i = x := ⟨_, rfl⟩
      obtain ⟨y, hy⟩ : ∃ y, nx b j = y := ⟨_, rfl⟩
      rw [hx, hy] at HSTEP
      dsimp only at HSTEP
      by_cases hlt : i < n1
      · have hlt0 : (i : Int) < (n1 : Int) := by omega
        rcases Int.lt_trichotomy x y with hxy | hxy | hxy
        · have hmin : min x y = x := by omega
          have hT0 : Tg F0 a b x (i + 1) j (if F0 (odd (i + 1)) (odd j) ≠ odd d.length then d ++ [x] else d) := by
            have h := HSTEP.out.1
            rw [hmin] at h
            simpa [show x ≠ y by omega, Ne.symm (show x ≠ y by omega)] using h
          have HT := Lib.hid hT0
          clear hT0
          have hm4 : x ≤ 4096 := by have := HSTEP.out.2.1; rw [hmin] at this; exact this
          have hii : (i + 1) ≤ n1 ∧ j ≤ n2 := by
            have h1 := HSTEP.out.2.2.1
            have h2 := HSTEP.out.2.2.2.1
            rw [hmin] at h1 h2
            have hl1 := HL1.out
            have hl2 := HL2.out
            constructor
            · have h3 : (i + 1) ≤ a.length := by simpa [hmin] using h1
              omega
            · have h3 : j ≤ b.length := by simpa [Ne.symm (show x ≠ y by omega)] using h2
              omega
          have hne : (y == x) = false := by simp; omega
          go_wp2_with fail
          refine (next_calls i _ HAr.out).mono ?_
          rintro e w8 ⟨rfl, hw⟩
          rw [hw]
          clear hw w8
          rw [hx]
          go_wp2_with fail
          refine (next_calls j _ HBr.out).mono ?_
          rintro e w8 ⟨rfl, hw⟩
          rw [hw]
          clear hw w8
          rw [hy]
          go_wp2_with fail
          refine (next_calls i _ HAr.out).mono ?_
          rintro e w8 ⟨rfl, hw⟩
          rw [hw]
          clear hw w8
          rw [hx]
          go_wp2_with fail
          refine (next_calls j _ HBr.out).mono ?_
          rintro e w8 ⟨rfl, hw⟩
          rw [hw]
          clear hw w8
          rw [hy]
          go_wp2_with fail
          refine (inside2 (i + 1) _ (by omega)).mono ?_
          rintro e w8 ⟨rfl, hw⟩
          rw [hw]
          clear hw w8
          go_wp2_with fail
          refine (inside2 j _ (by omega)).mono ?_
          rintro e w8 ⟨rfl, hw⟩
          rw [hw]
          clear hw w8
          go_wp2_with fail
          refine (and1_calls (odd (i + 1)) (odd j) _).mono ?_
          rintro e w8 ⟨rfl, hw⟩
          rw [hw]
          clear hw w8
          obtain ⟨P, hP⟩ : ∃ P, (odd (i + 1) && odd j) = P := ⟨_, rfl⟩
          rw [hP]
          go_wp2_with fail
          refine (inside2 d.length _ (rfl)).mono ?_
          rintro e w8 ⟨rfl, hw⟩
          rw [hw]
          clear hw w8
          obtain ⟨Q, hQ⟩ : ∃ Q, odd d.length = Q := ⟨_, rfl⟩
          rw [hQ]
          have hT := HT.out
          rw [← HFA.out, hP, hQ] at hT
          clear hP hQ
          by_cases hc : P = Q
          · rw [if_neg (by simpa using hc)] at hT
            have HT2 := Lib.hid hT
            clear hT
            subst hc
            have hcc : (P != P) = false := bne_self_eq_false P
            go_wp2_with fail
            go_roundg (n1 - (i + 1) + (n2 - j))
            case measure => have := HK.out; omega
            case rel => exact ⟨(i + 1), j, x, d, _, by omega, by omega, by omega, by omega, rfl, by go_num, by go_num, HBEL.out, HOW.out, HT2.out, by have := HK.out; omega⟩
          · rw [if_pos (by simpa using hc)] at hT
            have HT2 := Lib.hid hT
            clear hT
            have hcc : (P != Q) = true := by simpa using hc
            have hc2 : (P == Q) = false := by simpa using hc
            have hc3 : decide (P = Q) = false := decide_eq_false hc
            clear hc
            have HR2 := Lib.hid (below_new wr (.cells #[.int .i64 x] 3))
            have HO2 := Lib.hid (keptB HOW.out HR2.out)
            have HCI : Hid (∀ k u, (iv [x])[k]? = some u → (wr.alloc (.cells #[.int .i64 x] 3)).cell? ((⟨wr.heap.size, 0, none⟩ : Addr).add k) = some u) := fun k u hu => one_cell wr x k u hu
            have HB2 : Hid (Below w.heap.size w (wr.alloc (.cells #[.int .i64 x] 3))) := HBEL.out.trans (HR2.out.mono HBW.out)
            go_wp2_with (at_builtin; refine wpList_append_own _ rfl _ _ 23 rfl w.heap.size 3 i0 (.int .i64 0) 1 8 Try.underlying23 hi hz0 hz1 hz2 rfl (by decide) _ _ _ rfl HO2.out ⟨wr.heap.size, 0, none⟩ 1 1 (iv [x]) rfl rfl HCI.out (ones1 x) ?c3 ?c4 ?c5 ?_)
            case c3 => unfold maxLen; omega
            case c4 => omega
            case c5 => exact HB2.out.size
            intro v5 w5 hown5 hg5 _
            have HB5 := Lib.hid (HB2.out.grown hg5 HB2.out.size (fun g hg => (HO2.out.lt g hg).1))
            have HOW5 := Lib.hid hown5
            clear hown5 hg5
            go_wp2_with fail
            go_roundg (n1 - (i + 1) + (n2 - j))
            case measure => have := HK.out; omega
            case rel => exact ⟨(i + 1), j, x, d ++ [x], _, by omega, by omega, by omega, by omega, rfl, by go_num, by go_num, HB5.out, by have := HOW5.out; rw [List.length_append, List.length_singleton]; unfold iv at this ⊢; rw [List.map_append]; exact this, HT2.out, by have := HK.out; rw [List.length_append, List.length_singleton]; omega⟩
        · subst hxy
          have hmin : min x x = x := by omega
          have hT0 : Tg F0 a b x (i + 1) (j + 1) (if F0 (odd (i + 1)) (odd (j + 1)) ≠ odd d.length then d ++ [x] else d) := by
            have h := HSTEP.out.1
            rw [hmin] at h
            simpa using h
          have HT := Lib.hid hT0
          clear hT0
          have hm4 : x ≤ 4096 := by have := HSTEP.out.2.1; rw [hmin] at this; exact this
          have hii : (i + 1) ≤ n1 ∧ (j + 1) ≤ n2 := by
            have h1 := HSTEP.out.2.2.1
            have h2 := HSTEP.out.2.2.2.1
            rw [hmin] at h1 h2
            have hl1 := HL1.out
            have hl2 := HL2.out
            constructor
            · have h3 : (i + 1) ≤ a.length := by simpa using h1
              omega
            · have h3 : (j + 1) ≤ b.length := by simpa using h2
              omega
          go_wp2_with fail
          refine (next_calls i _ HAr.out).mono ?_
          rintro e w8 ⟨rfl, hw⟩
          rw [hw]
          clear hw w8
          rw [hx]
          go_wp2_with fail
          refine (next_calls j _ HBr.out).mono ?_
          rintro e w8 ⟨rfl, hw⟩
          rw [hw]
          clear hw w8
          rw [hy]
          go_wp2_with fail
          refine (next_calls i _ HAr.out).mono ?_
          rintro e w8 ⟨rfl, hw⟩
          rw [hw]
          clear hw w8
          rw [hx]
          go_wp2_with fail
          refine (next_calls j _ HBr.out).mono ?_
          rintro e w8 ⟨rfl, hw⟩
          rw [hw]
          clear hw w8
          rw [hy]
          go_wp2_with fail
          refine (inside2 (i + 1) _ (by omega)).mono ?_
          rintro e w8 ⟨rfl, hw⟩
          rw [hw]
          clear hw w8
          go_wp2_with fail
          refine (inside2 (j + 1) _ (by omega)).mono ?_
          rintro e w8 ⟨rfl, hw⟩
          rw [hw]
          clear hw w8
          go_wp2_with fail
          refine (and1_calls (odd (i + 1)) (odd (j + 1)) _).mono ?_
          rintro e w8 ⟨rfl, hw⟩
          rw [hw]
          clear hw w8
          obtain ⟨P, hP⟩ : ∃ P, (odd (i + 1) && odd (j + 1)) = P := ⟨_, rfl⟩
          rw [hP]
          go_wp2_with fail
          refine (inside2 d.length _ (rfl)).mono ?_
          rintro e w8 ⟨rfl, hw⟩
          rw [hw]
          clear hw w8
          obtain ⟨Q, hQ⟩ : ∃ Q, odd d.length = Q := ⟨_, rfl⟩
          rw [hQ]
          have hT := HT.out
          rw [← HFA.out, hP, hQ] at hT
          clear hP hQ
          by_cases hc : P = Q
          · rw [if_neg (by simpa using hc)] at hT
            have HT2 := Lib.hid hT
            clear hT
            subst hc
            have hcc : (P != P) = false := bne_self_eq_false P
            go_wp2_with fail
            go_roundg (n1 - (i + 1) + (n2 - (j + 1)))
            case measure => have := HK.out; omega
            case rel => exact ⟨(i + 1), (j + 1), x, d, _, by omega, by omega, by omega, by omega, rfl, by go_num, by go_num, HBEL.out, HOW.out, HT2.out, by have := HK.out; omega⟩
          · rw [if_pos (by simpa using hc)] at hT
            have HT2 := Lib.hid hT
            clear hT
            have hcc : (P != Q) = true := by simpa using hc
            have hc2 : (P == Q) = false := by simpa using hc
            have hc3 : decide (P = Q) = false := decide_eq_false hc
            clear hc
            have HR2 := Lib.hid (below_new wr (.cells #[.int .i64 x] 3))
            have HO2 := Lib.hid (keptB HOW.out HR2.out)
            have HCI : Hid (∀ k u, (iv [x])[k]? = some u → (wr.alloc (.cells #[.int .i64 x] 3)).cell? ((⟨wr.heap.size, 0, none⟩ : Addr).add k) = some u) := fun k u hu => one_cell wr x k u hu
            have HB2 : Hid (Below w.heap.size w (wr.alloc (.cells #[.int .i64 x] 3))) := HBEL.out.trans (HR2.out.mono HBW.out)
            go_wp2_with (at_builtin; refine wpList_append_own _ rfl _ _ 23 rfl w.heap.size 3 i0 (.int .i64 0) 1 8 Try.underlying23 hi hz0 hz1 hz2 rfl (by decide) _ _ _ rfl HO2.out ⟨wr.heap.size, 0, none⟩ 1 1 (iv [x]) rfl rfl HCI.out (ones1 x) ?c3 ?c4 ?c5 ?_)
            case c3 => unfold maxLen; omega
            case c4 => omega
            case c5 => exact HB2.out.size
            intro v5 w5 hown5 hg5 _
            have HB5 := Lib.hid (HB2.out.grown hg5 HB2.out.size (fun g hg => (HO2.out.lt g hg).1))
            have HOW5 := Lib.hid hown5
            clear hown5 hg5
            go_wp2_with fail
            go_roundg (n1 - (i + 1) + (n2 - (j + 1)))
            case measure => have := HK.out; omega
            case rel => exact ⟨(i + 1), (j + 1), x, d ++ [x], _, by omega, by omega, by omega, by omega, rfl, by go_num, by go_num, HB5.out, by have := HOW5.out; rw [List.length_append, List.length_singleton]; unfold iv at this ⊢; rw [List.map_append]; exact this, HT2.out, by have := HK.out; rw [List.length_append, List.length_singleton]; omega⟩
        · have hmin : min x y = y := by omega
          have hT0 : Tg F0 a b y i (j + 1) (if F0 (odd i) (odd (j + 1)) ≠ odd d.length then d ++ [y] else d) := by
            have h := HSTEP.out.1
            rw [hmin] at h
            simpa [show x ≠ y by omega, Ne.symm (show x ≠ y by omega)] using h
          have HT := Lib.hid hT0
          clear hT0
          have hm4 : y ≤ 4096 := by have := HSTEP.out.2.1; rw [hmin] at this; exact this
          have hii : i ≤ n1 ∧ (j + 1) ≤ n2 := by
            have h1 := HSTEP.out.2.2.1
            have h2 := HSTEP.out.2.2.2.1
            rw [hmin] at h1 h2
            have hl1 := HL1.out
            have hl2 := HL2.out
            constructor
            · have h3 : i ≤ a.length := by simpa [show x ≠ y by omega] using h1
              omega
            · have h3 : (j + 1) ≤ b.length := by simpa [hmin] using h2
              omega
          have hne : (x == y) = false := by simp; omega
          go_wp2_with fail
          refine (next_calls i _ HAr.out).mono ?_
          rintro e w8 ⟨rfl, hw⟩
          rw [hw]
          clear hw w8
          rw [hx]
          go_wp2_with fail
          refine (next_calls j _ HBr.out).mono ?_
          rintro e w8 ⟨rfl, hw⟩
          rw [hw]
          clear hw w8
          rw [hy]
          go_wp2_with fail
          refine (next_calls i _ HAr.out).mono ?_
          rintro e w8 ⟨rfl, hw⟩
          rw [hw]
          clear hw w8
          rw [hx]
          go_wp2_with fail
          refine (next_calls j _ HBr.out).mono ?_
          rintro e w8 ⟨rfl, hw⟩
          rw [hw]
          clear hw w8
          rw [hy]
          go_wp2_with fail
          refine (inside2 i _ (by omega)).mono ?_
          rintro e w8 ⟨rfl, hw⟩
          rw [hw]
          clear hw w8
          go_wp2_with fail
          refine (inside2 (j + 1) _ (by omega)).mono ?_
          rintro e w8 ⟨rfl, hw⟩
          rw [hw]
          clear hw w8
          go_wp2_with fail
          refine (and1_calls (odd i) (odd (j + 1)) _).mono ?_
          rintro e w8 ⟨rfl, hw⟩
          rw [hw]
          clear hw w8
          obtain ⟨P, hP⟩ : ∃ P, (odd i && odd (j + 1)) = P := ⟨_, rfl⟩
          rw [hP]
          go_wp2_with fail
          refine (inside2 d.length _ (rfl)).mono ?_
          rintro e w8 ⟨rfl, hw⟩
          rw [hw]
          clear hw w8
          obtain ⟨Q, hQ⟩ : ∃ Q, odd d.length = Q := ⟨_, rfl⟩
          rw [hQ]
          have hT := HT.out
          rw [← HFA.out, hP, hQ] at hT
          clear hP hQ
          by_cases hc : P = Q
          · rw [if_neg (by simpa using hc)] at hT
            have HT2 := Lib.hid hT
            clear hT
            subst hc
            have hcc : (P != P) = false := bne_self_eq_false P
            go_wp2_with fail
            go_roundg (n1 - i + (n2 - (j + 1)))
            case measure => have := HK.out; omega
            case rel => exact ⟨i, (j + 1), y, d, _, by omega, by omega, by omega, by omega, rfl, by go_num, by go_num, HBEL.out, HOW.out, HT2.out, by have := HK.out; omega⟩
          · rw [if_pos (by simpa using hc)] at hT
            have HT2 := Lib.hid hT
            clear hT
            have hcc : (P != Q) = true := by simpa using hc
            have hc2 : (P == Q) = false := by simpa using hc
            have hc3 : decide (P = Q) = false := decide_eq_false hc
            clear hc
            have HR2 := Lib.hid (below_new wr (.cells #[.int .i64 y] 3))
            have HO2 := Lib.hid (keptB HOW.out HR2.out)
            have HCI : Hid (∀ k u, (iv [y])[k]? = some u → (wr.alloc (.cells #[.int .i64 y] 3)).cell? ((⟨wr.heap.size, 0, none⟩ : Addr).add k) = some u) := fun k u hu => one_cell wr y k u hu
            have HB2 : Hid (Below w.heap.size w (wr.alloc (.cells #[.int .i64 y] 3))) := HBEL.out.trans (HR2.out.mono HBW.out)
            go_wp2_with (at_builtin; refine wpList_append_own _ rfl _ _ 23 rfl w.heap.size 3 i0 (.int .i64 0) 1 8 Try.underlying23 hi hz0 hz1 hz2 rfl (by decide) _ _ _ rfl HO2.out ⟨wr.heap.size, 0, none⟩ 1 1 (iv [y]) rfl rfl HCI.out (ones1 y) ?c3 ?c4 ?c5 ?_)
            case c3 => unfold maxLen; omega
            case c4 => omega
            case c5 => exact HB2.out.size
            intro v5 w5 hown5 hg5 _
            have HB5 := Lib.hid (HB2.out.grown hg5 HB2.out.size (fun g hg => (HO2.out.lt g hg).1))
            have HOW5 := Lib.hid hown5
            clear hown5 hg5
            go_wp2_with fail
            go_roundg (n1 - i + (n2 - (j + 1)))
            case measure => have := HK.out; omega
            case rel => exact ⟨i, (j + 1), y, d ++ [y], _, by omega, by omega, by omega, by omega, rfl, by go_num, by go_num, HB5.out, by have := HOW5.out; rw [List.length_append, List.length_singleton]; unfold iv at this ⊢; rw [List.map_append]; exact this, HT2.out, by have := HK.out; rw [List.length_append, List.length_singleton]; omega⟩
      · have hlt0 : ¬ (i : Int) < (n1 : Int) := by omega
        have hlt1 : (j : Int) < (n2 : Int) := by omega
        rcases Int.lt_trichotomy x y with hxy | hxy | hxy
        · have hmin : min x y = x := by omega
          have hT0 : Tg F0 a b x (i + 1) j (if F0 (odd (i + 1)) (odd j) ≠ odd d.length then d ++ [x] else d) := by
            have h := HSTEP.out.1
            rw [hmin] at h
            simpa [show x ≠ y by omega, Ne.symm (show x ≠ y by omega)] using h
          have HT := Lib.hid hT0
          clear hT0
          have hm4 : x ≤ 4096 := by have := HSTEP.out.2.1; rw [hmin] at this; exact this
          have hii : (i + 1) ≤ n1 ∧ j ≤ n2 := by
            have h1 := HSTEP.out.2.2.1
            have h2 := HSTEP.out.2.2.2.1
            rw [hmin] at h1 h2
            have hl1 := HL1.out
            have hl2 := HL2.out
            constructor
            · have h3 : (i + 1) ≤ a.length := by simpa [hmin] using h1
              omega
            · have h3 : j ≤ b.length := by simpa [Ne.symm (show x ≠ y by omega)] using h2
              omega
          have hne : (y == x) = false := by simp; omega
          exact absurd hii.1 (by omega)
        · subst hxy
          have hmin : min x x = x := by omega
          have hT0 : Tg F0 a b x (i + 1) (j + 1) (if F0 (odd (i + 1)) (odd (j + 1)) ≠ odd d.length then d ++ [x] else d) := by
            have h := HSTEP.out.1
            rw [hmin] at h
            simpa using h
          have HT := Lib.hid hT0
          clear hT0
          have hm4 : x ≤ 4096 := by have := HSTEP.out.2.1; rw [hmin] at this; exact this
          have hii : (i + 1) ≤ n1 ∧ (j + 1) ≤ n2 := by
            have h1 := HSTEP.out.2.2.1
            have h2 := HSTEP.out.2.2.2.1
            rw [hmin] at h1 h2
            have hl1 := HL1.out
            have hl2 := HL2.out
            constructor
            · have h3 : (i + 1) ≤ a.length := by simpa using h1
              omega
            · have h3 : (j + 1) ≤ b.length := by simpa using h2
              omega
          exact absurd hii.1 (by omega)
        · have hmin : min x y = y := by omega
          have hT0 : Tg F0 a b y i (j + 1) (if F0 (odd i) (odd (j + 1)) ≠ odd d.length then d ++ [y] else d) := by
            have h := HSTEP.out.1
            rw [hmin] at h
            simpa [show x ≠ y by omega, Ne.symm (show x ≠ y by omega)] using h
          have HT := Lib.hid hT0
          clear hT0
          have hm4 : y ≤ 4096 := by have := HSTEP.out.2.1; rw [hmin] at this; exact this
          have hii : i ≤ n1 ∧ (j + 1) ≤ n2 := by
            have h1 := HSTEP.out.2.2.1
            have h2 := HSTEP.out.2.2.2.1
            rw [hmin] at h1 h2
            have hl1 := HL1.out
            have hl2 := HL2.out
            constructor
            · have h3 : i ≤ a.length := by simpa [show x ≠ y by omega] using h1
              omega
            · have h3 : (j + 1) ≤ b.length := by simpa [hmin] using h2
              omega
          have hne : (x == y) = false := by simp; omega
          go_wp2_with fail
          refine (next_calls i _ HAr.out).mono ?_
          rintro e w8 ⟨rfl, hw⟩
          rw [hw]
          clear hw w8
          rw [hx]
          go_wp2_with fail
          refine (next_calls j _ HBr.out).mono ?_
          rintro e w8 ⟨rfl, hw⟩
          rw [hw]
          clear hw w8
          rw [hy]
          go_wp2_with fail
          refine (next_calls i _ HAr.out).mono ?_
          rintro e w8 ⟨rfl, hw⟩
          rw [hw]
          clear hw w8
          rw [hx]
          go_wp2_with fail
          refine (next_calls j _ HBr.out).mono ?_
          rintro e w8 ⟨rfl, hw⟩
          rw [hw]
          clear hw w8
          rw [hy]
          go_wp2_with fail
          refine (inside2 i _ (by omega)).mono ?_
          rintro e w8 ⟨rfl, hw⟩
          rw [hw]
          clear hw w8
          go_wp2_with fail
          refine (inside2 (j + 1) _ (by omega)).mono ?_
          rintro e w8 ⟨rfl, hw⟩
          rw [hw]
          clear hw w8
          go_wp2_with fail
          refine (and1_calls (odd i) (odd (j + 1)) _).mono ?_
          rintro e w8 ⟨rfl, hw⟩
          rw [hw]
          clear hw w8
          obtain ⟨P, hP⟩ : ∃ P, (odd i && odd (j + 1)) = P := ⟨_, rfl⟩
          rw [hP]
          go_wp2_with fail
          refine (inside2 d.length _ (rfl)).mono ?_
          rintro e w8 ⟨rfl, hw⟩
          rw [hw]
          clear hw w8
          obtain ⟨Q, hQ⟩ : ∃ Q, odd d.length = Q := ⟨_, rfl⟩
          rw [hQ]
          have hT := HT.out
          rw [← HFA.out, hP, hQ] at hT
          clear hP hQ
          by_cases hc : P = Q
          · rw [if_neg (by simpa using hc)] at hT
            have HT2 := Lib.hid hT
            clear hT
            subst hc
            have hcc : (P != P) = false := bne_self_eq_false P
            go_wp2_with fail
            go_roundg (n1 - i + (n2 - (j + 1)))
            case measure => have := HK.out; omega
            case rel => exact ⟨i, (j + 1), y, d, _, by omega, by omega, by omega, by omega, rfl, by go_num, by go_num, HBEL.out, HOW.out, HT2.out, by have := HK.out; omega⟩
          · rw [if_pos (by simpa using hc)] at hT
            have HT2 := Lib.hid hT
            clear hT
            have hcc : (P != Q) = true := by simpa using hc
            have hc2 : (P == Q) = false := by simpa using hc
            have hc3 : decide (P = Q) = false := decide_eq_false hc
            clear hc
            have HR2 := Lib.hid (below_new wr (.cells #[.int .i64 y] 3))
            have HO2 := Lib.hid (keptB HOW.out HR2.out)
            have HCI : Hid (∀ k u, (iv [y])[k]? = some u → (wr.alloc (.cells #[.int .i64 y] 3)).cell? ((⟨wr.heap.size, 0, none⟩ : Addr).add k) = some u) := fun k u hu => one_cell wr y k u hu
            have HB2 : Hid (Below w.heap.size w (wr.alloc (.cells #[.int .i64 y] 3))) := HBEL.out.trans (HR2.out.mono HBW.out)
            go_wp2_with (at_builtin; refine wpList_append_own _ rfl _ _ 23 rfl w.heap.size 3 i0 (.int .i64 0) 1 8 Try.underlying23 hi hz0 hz1 hz2 rfl (by decide) _ _ _ rfl HO2.out ⟨wr.heap.size, 0, none⟩ 1 1 (iv [y]) rfl rfl HCI.out (ones1 y) ?c3 ?c4 ?c5 ?_)
            case c3 => unfold maxLen; omega
            case c4 => omega
            case c5 => exact HB2.out.size
            intro v5 w5 hown5 hg5 _
            have HB5 := Lib.hid (HB2.out.grown hg5 HB2.out.size (fun g hg => (HO2.out.lt g hg).1))
            have HOW5 := Lib.hid hown5
            clear hown5 hg5
            go_wp2_with fail
            go_roundg (n1 - i + (n2 - (j + 1)))
            case measure => have := HK.out; omega
            case rel => exact ⟨i, (j + 1), y, d ++ [y], _, by omega, by omega, by omega, by omega, rfl, by go_num, by go_num, HB5.out, by have := HOW5.out; rw [List.length_append, List.length_singleton]; unfold iv at this ⊢; rw [List.map_append]; exact this, HT2.out, by have := HK.out; rw [List.length_append, List.length_singleton]; omega⟩
    · obtain rfl : n1 = i := by omega
      obtain rfl : n2 = j := by omega
      have HE := Lib.hid (tg_end HFF.out HOA.out HOB.out (by have := HTG.out; rw [HL1.out, HL2.out]; exact this))
      obtain ⟨A7, c7, e7, hI⟩ := vk.isI_of_own HOW.out (fun x hx => by have := HE.out.1.2.1 x hx; omega)
      injection e7 with e8 e9 e10
      subst e8
      subst e10
      have HI := Lib.hid hI
      clear hI
      go_wp2_with fail
      go_ret
      exact ⟨_, _, _, rfl, ⟨d, HI.out, HE.out.1, HE.out.2⟩, HBEL.out⟩
set_option maxRecDepth 100000 in
set_option maxHeartbeats 16000000 in
theorem togOr_calls {a b : List Int} {A1 A2 : Option Addr} {n1 c1 n2 c2 : Nat} (w : World) (h1 : wo.IsI w A1 n1 c1 a) (h2 : wo.IsI w A2 n2 c2 b) (ha : Ok a) (hb : Ok b) : Calls Try.prog 51 #[.slice A1 n1 c1, .slice A2 n2 c2, .func (.func 54) #[] #[]] w fun e w' => ∃ A n c, e = .returned (.slice A n c) ∧ IsS w' A n c (fun x => (fun p q => p || q) (has a x) (has b x)) ∧ Below w.heap.size w w' := by
  obtain ⟨i0, hi, hz0, hz1, hz2⟩ := info_parts wi.infoI
  have hm1 := h1.2.2.1
  have hnc1 := h1.2.1
  have hm2 := h2.2.2.1
  have hnc2 := h2.2.1
  have hn1 : n1 ≤ 4097 := by have := ok_len ha; have := h1.1; omega
  have hn2 : n2 ≤ 4097 := by have := ok_len hb; have := h2.1; omega
  have hnI : (i0.bytes : Nat) * (n1 + n2) ≤ 281474976710656 := by rw [hz2]; omega
  obtain ⟨w1, hmk, hown, hgr⟩ := run_make_own (P := Try.prog) w w.heap.size 23 3 i0 (.int .i64 0) 1 Try.underlying23 hi hz0 hz1 .i64 .i64 (n1 + n2) hnI (by unfold maxLen; omega) (Nat.le_refl _)
  have HB1 : Hid (Below w.heap.size w w1) := (Below.refl _ _).grown hgr (Nat.le_refl _) (fun k hk => by cases hk)
  have HO1 := Lib.hid hown
  have HA := Lib.hid h1
  have HB := Lib.hid h2
  have HOA := Lib.hid ha
  have HOB := Lib.hid hb
  have HL1 := Lib.hid h1.1
  have HL2 := Lib.hid h2.1
  have hcast2 : (((n1 + n2 : Nat) : Int)) = (n1 : Int) + (n2 : Int) := by omega
  rw [hcast2] at hmk
  obtain ⟨F0, hF0⟩ : ∃ F0 : Bool → Bool → Bool, F0 = fun p q => p || q := ⟨_, rfl⟩
  have HF0 := Lib.hid hF0
  have HFF : Hid (F0 false false = false) := by show _ = _; rw [hF0]; rfl
  rw [← hF0]
  have HFA : Hid (∀ p q, (p || q) = F0 p q) := fun p q => by rw [hF0]
  clear h1 h2 ha hb hown hgr hcast2 hF0
  go_enter Try.func51, Try.ntmps51
  go_wp2_with fail
  clear hmk
  go_loopg [7, 8, 9] (n1 + n2) (fun gg s xi xj wr => ∃ (i j : Nat) (t : Int) (d : List Int) (v : Value), i ≤ n1 ∧ j ≤ n2 ∧ gg = n1 - i + (n2 - j) ∧ t ≤ 4096 ∧ v = s ∧ xi = .int .i64 (i : Int) ∧ xj = .int .i64 (j : Int) ∧ Below w.heap.size w wr ∧ wr.ownsRow w.heap.size 3 1 v d.length (iv d) ∧ Tg F0 a b t i j d ∧ d.length ≤ i + j)
  case atStart => exact ⟨0, 0, -1, [], _, by omega, by omega, by omega, by omega, rfl, rfl, rfl, HB1.out, by simpa [iv] using HO1.out, tg_start HFF.out HOA.out HOB.out, by simp⟩
  case round =>
    obtain ⟨i, j, t, d, v, hi1, hj1, hgg, ht, rfl, rfl, rfl, hbel, hown, htg, hdl⟩ := hrel
    have HK : Hid (gk = n1 - i + (n2 - j) ∧ d.length ≤ i + j) := ⟨hgg, hdl⟩
    have HBEL := Lib.hid hbel
    have HOW := Lib.hid hown
    have HTG := Lib.hid htg
    have HBW : Hid (w.heap.size ≤ wr.heap.size) := hbel.size
    have HAr := Lib.hid (vk.isI_below HA.out hbel)
    have HBr := Lib.hid (vk.isI_below HB.out hbel)
    have hd0 : d.length ≤ 8194 := by omega
    obtain ⟨A5, c5, rfl⟩ := own_shape hown
    clear hgg hbel hown htg hdl
    by_cases hne : i < n1 ∨ j < n2
    · have HSTEP := Lib.hid (tg_round HOA.out HOB.out HTG.out ht (by rw [HL1.out, HL2.out]; exact hne))
      obtain ⟨x, hx⟩ : ∃ x, nx a i = x := ⟨_, rfl⟩
      obtain ⟨y, hy⟩ : ∃ y, nx b j = y := ⟨_, rfl⟩
      rw [hx, hy] at HSTEP
      dsimp only at HSTEP
      by_cases hlt : i < n1
      · have hlt0 : (i : Int) < (n1 : Int) := by omega
        rcases Int.lt_trichotomy x y with hxy | hxy | hxy
        · have hmin : min x y = x := by omega
          have hT0 : Tg F0 a b x (i + 1) j (if F0 (odd (i + 1)) (odd j) ≠ odd d.length then d ++ [x] else d) := by
            have h := HSTEP.out.1
            rw [hmin] at h
            simpa [show x ≠ y by omega, Ne.symm (show x ≠ y by omega)] using h
          have HT := Lib.hid hT0
          clear hT0
          have hm4 : x ≤ 4096 := by have := HSTEP.out.2.1; rw [hmin] at this; exact this
          have hii : (i + 1) ≤ n1 ∧ j ≤ n2 := by
            have h1 := HSTEP.out.2.2.1
            have h2 := HSTEP.out.2.2.2.1
            rw [hmin] at h1 h2
            have hl1 := HL1.out
            have hl2 := HL2.out
            constructor
            · have h3 : (i + 1) ≤ a.length := by simpa [hmin] using h1
              omega
            · have h3 : j ≤ b.length := by simpa [Ne.symm (show x ≠ y by omega)] using h2
              omega
          have hne : (y == x) = false := by simp; omega
          go_wp2_with fail
          refine (next_calls i _ HAr.out).mono ?_
          rintro e w8 ⟨rfl, hw⟩
          rw [hw]
          clear hw w8
          rw [hx]
          go_wp2_with fail
          refine (next_calls j _ HBr.out).mono ?_
          rintro e w8 ⟨rfl, hw⟩
          rw [hw]
          clear hw w8
          rw [hy]
          go_wp2_with fail
          refine (next_calls i _ HAr.out).mono ?_
          rintro e w8 ⟨rfl, hw⟩
          rw [hw]
          clear hw w8
          rw [hx]
          go_wp2_with fail
          refine (next_calls j _ HBr.out).mono ?_
          rintro e w8 ⟨rfl, hw⟩
          rw [hw]
          clear hw w8
          rw [hy]
          go_wp2_with fail
          refine (inside2 (i + 1) _ (by omega)).mono ?_
          rintro e w8 ⟨rfl, hw⟩
          rw [hw]
          clear hw w8
          go_wp2_with fail
          refine (inside2 j _ (by omega)).mono ?_
          rintro e w8 ⟨rfl, hw⟩
          rw [hw]
          clear hw w8
          go_wp2_with fail
          refine (or1_calls (odd (i + 1)) (odd j) _).mono ?_
          rintro e w8 ⟨rfl, hw⟩
          rw [hw]
          clear hw w8
          obtain ⟨P, hP⟩ : ∃ P, (odd (i + 1) || odd j) = P := ⟨_, rfl⟩
          rw [hP]
          go_wp2_with fail
          refine (inside2 d.length _ (rfl)).mono ?_
          rintro e w8 ⟨rfl, hw⟩
          rw [hw]
          clear hw w8
          obtain ⟨Q, hQ⟩ : ∃ Q, odd d.length = Q := ⟨_, rfl⟩
          rw [hQ]
          have hT := HT.out
          rw [← HFA.out, hP, hQ] at hT
          clear hP hQ
          by_cases hc : P = Q
          · rw [if_neg (by simpa using hc)] at hT
            have HT2 := Lib.hid hT
            clear hT
            subst hc
            have hcc : (P != P) = false := bne_self_eq_false P
            go_wp2_with fail
            go_roundg (n1 - (i + 1) + (n2 - j))
            case measure => have := HK.out; omega
            case rel => exact ⟨(i + 1), j, x, d, _, by omega, by omega, by omega, by omega, rfl, by go_num, by go_num, HBEL.out, HOW.out, HT2.out, by have := HK.out; omega⟩
          · rw [if_pos (by simpa using hc)] at hT
            have HT2 := Lib.hid hT
            clear hT
            have hcc : (P != Q) = true := by simpa using hc
            have hc2 : (P == Q) = false := by simpa using hc
            have hc3 : decide (P = Q) = false := decide_eq_false hc
            clear hc
            have HR2 := Lib.hid (below_new wr (.cells #[.int .i64 x] 3))
            have HO2 := Lib.hid (keptB HOW.out HR2.out)
            have HCI : Hid (∀ k u, (iv [x])[k]? = some u → (wr.alloc (.cells #[.int .i64 x] 3)).cell? ((⟨wr.heap.size, 0, none⟩ : Addr).add k) = some u) := fun k u hu => one_cell wr x k u hu
            have HB2 : Hid (Below w.heap.size w (wr.alloc (.cells #[.int .i64 x] 3))) := HBEL.out.trans (HR2.out.mono HBW.out)
            go_wp2_with (at_builtin; refine wpList_append_own _ rfl _ _ 23 rfl w.heap.size 3 i0 (.int .i64 0) 1 8 Try.underlying23 hi hz0 hz1 hz2 rfl (by decide) _ _ _ rfl HO2.out ⟨wr.heap.size, 0, none⟩ 1 1 (iv [x]) rfl rfl HCI.out (ones1 x) ?c3 ?c4 ?c5 ?_)
            case c3 => unfold maxLen; omega
            case c4 => omega
            case c5 => exact HB2.out.size
            intro v5 w5 hown5 hg5 _
            have HB5 := Lib.hid (HB2.out.grown hg5 HB2.out.size (fun g hg => (HO2.out.lt g hg).1))
            have HOW5 := Lib.hid hown5
            clear hown5 hg5
            go_wp2_with fail
            go_roundg (n1 - (i + 1) + (n2 - j))
            case measure => have := HK.out; omega
            case rel => exact ⟨(i + 1), j, x, d ++ [x], _, by omega, by omega, by omega, by omega, rfl, by go_num, by go_num, HB5.out, by have := HOW5.out; rw [List.length_append, List.length_singleton]; unfold iv at this ⊢; rw [List.map_append]; exact this, HT2.out, by have := HK.out; rw [List.length_append, List.length_singleton]; omega⟩
        · subst hxy
          have hmin : min x x = x := by omega
          have hT0 : Tg F0 a b x (i + 1) (j + 1) (if F0 (odd (i + 1)) (odd (j + 1)) ≠ odd d.length then d ++ [x] else d) := by
            have h := HSTEP.out.1
            rw [hmin] at h
            simpa using h
          have HT := Lib.hid hT0
          clear hT0
          have hm4 : x ≤ 4096 := by have := HSTEP.out.2.1; rw [hmin] at this; exact this
          have hii : (i + 1) ≤ n1 ∧ (j + 1) ≤ n2 := by
            have h1 := HSTEP.out.2.2.1
            have h2 := HSTEP.out.2.2.2.1
            rw [hmin] at h1 h2
            have hl1 := HL1.out
            have hl2 := HL2.out
            constructor
            · have h3 : (i + 1) ≤ a.length := by simpa using h1
              omega
            · have h3 : (j + 1) ≤ b.length := by simpa using h2
              omega
          go_wp2_with fail
          refine (next_calls i _ HAr.out).mono ?_
          rintro e w8 ⟨rfl, hw⟩
          rw [hw]
          clear hw w8
          rw [hx]
          go_wp2_with fail
          refine (next_calls j _ HBr.out).mono ?_
          rintro e w8 ⟨rfl, hw⟩
          rw [hw]
          clear hw w8
          rw [hy]
          go_wp2_with fail
          refine (next_calls i _ HAr.out).mono ?_
          rintro e w8 ⟨rfl, hw⟩
          rw [hw]
          clear hw w8
          rw [hx]
          go_wp2_with fail
          refine (next_calls j _ HBr.out).mono ?_
          rintro e w8 ⟨rfl, hw⟩
          rw [hw]
          clear hw w8
          rw [hy]
          go_wp2_with fail
          refine (inside2 (i + 1) _ (by omega)).mono ?_
          rintro e w8 ⟨rfl, hw⟩
          rw [hw]
          clear hw w8
          go_wp2_with fail
          refine (inside2 (j + 1) _ (by omega)).mono ?_
          rintro e w8 ⟨rfl, hw⟩
          rw [hw]
          clear hw w8
          go_wp2_with fail
          refine (or1_calls (odd (i + 1)) (odd (j + 1)) _).mono ?_
          rintro e w8 ⟨rfl, hw⟩
          rw [hw]
          clear hw w8
          obtain ⟨P, hP⟩ : ∃ P, (odd (i + 1) || odd (j + 1)) = P := ⟨_, rfl⟩
          rw [hP]
          go_wp2_with fail
          refine (inside2 d.length _ (rfl)).mono ?_
          rintro e w8 ⟨rfl, hw⟩
          rw [hw]
          clear hw w8
          obtain ⟨Q, hQ⟩ : ∃ Q, odd d.length = Q := ⟨_, rfl⟩
          rw [hQ]
          have hT := HT.out
          rw [← HFA.out, hP, hQ] at hT
          clear hP hQ
          by_cases hc : P = Q
          · rw [if_neg (by simpa using hc)] at hT
            have HT2 := Lib.hid hT
            clear hT
            subst hc
            have hcc : (P != P) = false := bne_self_eq_false P
            go_wp2_with fail
            go_roundg (n1 - (i + 1) + (n2 - (j + 1)))
            case measure => have := HK.out; omega
            case rel => exact ⟨(i + 1), (j + 1), x, d, _, by omega, by omega, by omega, by omega, rfl, by go_num, by go_num, HBEL.out, HOW.out, HT2.out, by have := HK.out; omega⟩
          · rw [if_pos (by simpa using hc)] at hT
            have HT2 := Lib.hid hT
            clear hT
            have hcc : (P != Q) = true := by simpa using hc
            have hc2 : (P == Q) = false := by simpa using hc
            have hc3 : decide (P = Q) = false := decide_eq_false hc
            clear hc
            have HR2 := Lib.hid (below_new wr (.cells #[.int .i64 x] 3))
            have HO2 := Lib.hid (keptB HOW.out HR2.out)
            have HCI : Hid (∀ k u, (iv [x])[k]? = some u → (wr.alloc (.cells #[.int .i64 x] 3)).cell? ((⟨wr.heap.size, 0, none⟩ : Addr).add k) = some u) := fun k u hu => one_cell wr x k u hu
            have HB2 : Hid (Below w.heap.size w (wr.alloc (.cells #[.int .i64 x] 3))) := HBEL.out.trans (HR2.out.mono HBW.out)
            go_wp2_with (at_builtin; refine wpList_append_own _ rfl _ _ 23 rfl w.heap.size 3 i0 (.int .i64 0) 1 8 Try.underlying23 hi hz0 hz1 hz2 rfl (by decide) _ _ _ rfl HO2.out ⟨wr.heap.size, 0, none⟩ 1 1 (iv [x]) rfl rfl HCI.out (ones1 x) ?c3 ?c4 ?c5 ?_)
            case c3 => unfold maxLen; omega
            case c4 => omega
            case c5 => exact HB2.out.size
            intro v5 w5 hown5 hg5 _
            have HB5 := Lib.hid (HB2.out.grown hg5 HB2.out.size (fun g hg => (HO2.out.lt g hg).1))
            have HOW5 := Lib.hid hown5
            clear hown5 hg5
            go_wp2_with fail
            go_roundg (n1 - (i + 1) + (n2 - (j + 1)))
            case measure => have := HK.out; omega
            case rel => exact ⟨(i + 1), (j + 1), x, d ++ [x], _, by omega, by omega, by omega, by omega, rfl, by go_num, by go_num, HB5.out, by have := HOW5.out; rw [List.length_append, List.length_singleton]; unfold iv at this ⊢; rw [List.map_append]; exact this, HT2.out, by have := HK.out; rw [List.length_append, List.length_singleton]; omega⟩
        · have hmin : min x y = y := by omega
          have hT0 : Tg F0 a b y i (j + 1) (if F0 (odd i) (odd (j + 1)) ≠ odd d.length then d ++ [y] else d) := by
            have h := HSTEP.out.1
            rw [hmin] at h
            simpa [show x ≠ y by omega, Ne.symm (show x ≠ y by omega)] using h
          have HT := Lib.hid hT0
          clear hT0
          have hm4 : y ≤ 4096 := by have := HSTEP.out.2.1; rw [hmin] at this; exact this
          have hii : i ≤ n1 ∧ (j + 1) ≤ n2 := by
            have h1 := HSTEP.out.2.2.1
            have h2 := HSTEP.out.2.2.2.1
            rw [hmin] at h1 h2
            have hl1 := HL1.out
            have hl2 := HL2.out
            constructor
            · have h3 : i ≤ a.length := by simpa [show x ≠ y by omega] using h1
              omega
            · have h3 : (j + 1) ≤ b.length := by simpa [hmin] using h2
              omega
          have hne : (x == y) = false := by simp; omega
          go_wp2_with fail
          refine (next_calls i _ HAr.out).mono ?_
          rintro e w8 ⟨rfl, hw⟩
          rw [hw]
          clear hw w8
          rw [hx]
          go_wp2_with fail
          refine (next_calls j _ HBr.out).mono ?_
          rintro e w8 ⟨rfl, hw⟩
          rw [hw]
          clear hw w8
          rw [hy]
          go_wp2_with fail
          refine (next_calls i _ HAr.out).mono ?_
          rintro e w8 ⟨rfl, hw⟩
          rw [hw]
          clear hw w8
          rw [hx]
          go_wp2_with fail
          refine (next_calls j _ HBr.out).mono ?_
          rintro e w8 ⟨rfl, hw⟩
          rw [hw]
          clear hw w8
          rw [hy]
          go_wp2_with fail
          refine (inside2 i _ (by omega)).mono ?_
          rintro e w8 ⟨rfl, hw⟩
          rw [hw]
          clear hw w8
          go_wp2_with fail
          refine (inside2 (j + 1) _ (by omega)).mono ?_
          rintro e w8 ⟨rfl, hw⟩
          rw [hw]
          clear hw w8
          go_wp2_with fail
          refine (or1_calls (odd i) (odd (j + 1)) _).mono ?_
          rintro e w8 ⟨rfl, hw⟩
          rw [hw]
          clear hw w8
          obtain ⟨P, hP⟩ : ∃ P, (odd i || odd (j + 1)) = P := ⟨_, rfl⟩
          rw [hP]
          go_wp2_with fail
          refine (inside2 d.length _ (rfl)).mono ?_
          rintro e w8 ⟨rfl, hw⟩
          rw [hw]
          clear hw w8
          obtain ⟨Q, hQ⟩ : ∃ Q, odd d.length = Q := ⟨_, rfl⟩
          rw [hQ]
          have hT := HT.out
          rw [← HFA.out, hP, hQ] at hT
          clear hP hQ
          by_cases hc : P = Q
          · rw [if_neg (by simpa using hc)] at hT
            have HT2 := Lib.hid hT
            clear hT
            subst hc
            have hcc : (P != P) = false := bne_self_eq_false P
            go_wp2_with fail
            go_roundg (n1 - i + (n2 - (j + 1)))
            case measure => have := HK.out; omega
            case rel => exact ⟨i, (j + 1), y, d, _, by omega, by omega, by omega, by omega, rfl, by go_num, by go_num, HBEL.out, HOW.out, HT2.out, by have := HK.out; omega⟩
          · rw [if_pos (by simpa using hc)] at hT
            have HT2 := Lib.hid hT
            clear hT
            have hcc : (P != Q) = true := by simpa using hc
            have hc2 : (P == Q) = false := by simpa using hc
            have hc3 : decide (P = Q) = false := decide_eq_false hc
            clear hc
            have HR2 := Lib.hid (below_new wr (.cells #[.int .i64 y] 3))
            have HO2 := Lib.hid (keptB HOW.out HR2.out)
            have HCI : Hid (∀ k u, (iv [y])[k]? = some u → (wr.alloc (.cells #[.int .i64 y] 3)).cell? ((⟨wr.heap.size, 0, none⟩ : Addr).add k) = some u) := fun k u hu => one_cell wr y k u hu
            have HB2 : Hid (Below w.heap.size w (wr.alloc (.cells #[.int .i64 y] 3))) := HBEL.out.trans (HR2.out.mono HBW.out)
            go_wp2_with (at_builtin; refine wpList_append_own _ rfl _ _ 23 rfl w.heap.size 3 i0 (.int .i64 0) 1 8 Try.underlying23 hi hz0 hz1 hz2 rfl (by decide) _ _ _ rfl HO2.out ⟨wr.heap.size, 0, none⟩ 1 1 (iv [y]) rfl rfl HCI.out (ones1 y) ?c3 ?c4 ?c5 ?_)
            case c3 => unfold maxLen; omega
            case c4 => omega
            case c5 => exact HB2.out.size
            intro v5 w5 hown5 hg5 _
            have HB5 := Lib.hid (HB2.out.grown hg5 HB2.out.size (fun g hg => (HO2.out.lt g hg).1))
            have HOW5 := Lib.hid hown5
            clear hown5 hg5
            go_wp2_with fail
            go_roundg (n1 - i + (n2 - (j + 1)))
            case measure => have := HK.out; omega
            case rel => exact ⟨i, (j + 1), y, d ++ [y], _, by omega, by omega, by omega, by omega, rfl, by go_num, by go_num, HB5.out, by have := HOW5.out; rw [List.length_append, List.length_singleton]; unfold iv at this ⊢; rw [List.map_append]; exact this, HT2.out, by have := HK.out; rw [List.length_append, List.length_singleton]; omega⟩
      · have hlt0 : ¬ (i : Int) < (n1 : Int) := by omega
        have hlt1 : (j : Int) < (n2 : Int) := by omega
        rcases Int.lt_trichotomy x y with hxy | hxy | hxy
        · have hmin : min x y = x := by omega
          have hT0 : Tg F0 a b x (i + 1) j (if F0 (odd (i + 1)) (odd j) ≠ odd d.length then d ++ [x] else d) := by
            have h := HSTEP.out.1
            rw [hmin] at h
            simpa [show x ≠ y by omega, Ne.symm (show x ≠ y by omega)] using h
          have HT := Lib.hid hT0
          clear hT0
          have hm4 : x ≤ 4096 := by have := HSTEP.out.2.1; rw [hmin] at this; exact this
          have hii : (i + 1) ≤ n1 ∧ j ≤ n2 := by
            have h1 := HSTEP.out.2.2.1
            have h2 := HSTEP.out.2.2.2.1
            rw [hmin] at h1 h2
            have hl1 := HL1.out
            have hl2 := HL2.out
            constructor
            · have h3 : (i + 1) ≤ a.length := by simpa [hmin] using h1
              omega
            · have h3 : j ≤ b.length := by simpa [Ne.symm (show x ≠ y by omega)] using h2
              omega
          have hne : (y == x) = false := by simp; omega
          exact absurd hii.1 (by omega)
        · subst hxy
          have hmin : min x x = x := by omega
          have hT0 : Tg F0 a b x (i + 1) (j + 1) (if F0 (odd (i + 1)) (odd (j + 1)) ≠ odd d.length then d ++ [x] else d) := by
            have h := HSTEP.out.1
            rw [hmin] at h
            simpa using h
          have HT := Lib.hid hT0
          clear hT0
          have hm4 : x ≤ 4096 := by have := HSTEP.out.2.1; rw [hmin] at this; exact this
          have hii : (i + 1) ≤ n1 ∧ (j + 1) ≤ n2 := by
            have h1 := HSTEP.out.2.2.1
            have h2 := HSTEP.out.2.2.2.1
            rw [hmin] at h1 h2
            have hl1 := HL1.out
            have hl2 := HL2.out
            constructor
            · have h3 : (i + 1) ≤ a.length := by simpa using h1
              omega
            · have h3 : (j + 1) ≤ b.length := by simpa using h2
              omega
          exact absurd hii.1 (by omega)
        · have hmin : min x y = y := by omega
          have hT0 : Tg F0 a b y i (j + 1) (if F0 (odd i) (odd (j + 1)) ≠ odd d.length then d ++ [y] else d) := by
            have h := HSTEP.out.1
            rw [hmin] at h
            simpa [show x ≠ y by omega, Ne.symm (show x ≠ y by omega)] using h
          have HT := Lib.hid hT0
          clear hT0
          have hm4 : y ≤ 4096 := by have := HSTEP.out.2.1; rw [hmin] at this; exact this
          have hii : i ≤ n1 ∧ (j + 1) ≤ n2 := by
            have h1 := HSTEP.out.2.2.1
            have h2 := HSTEP.out.2.2.2.1
            rw [hmin] at h1 h2
            have hl1 := HL1.out
            have hl2 := HL2.out
            constructor
            · have h3 : i ≤ a.length := by simpa [show x ≠ y by omega] using h1
              omega
            · have h3 : (j + 1) ≤ b.length := by simpa [hmin] using h2
              omega
          have hne : (x == y) = false := by simp; omega
          go_wp2_with fail
          refine (next_calls i _ HAr.out).mono ?_
          rintro e w8 ⟨rfl, hw⟩
          rw [hw]
          clear hw w8
          rw [hx]
          go_wp2_with fail
          refine (next_calls j _ HBr.out).mono ?_
          rintro e w8 ⟨rfl, hw⟩
          rw [hw]
          clear hw w8
          rw [hy]
          go_wp2_with fail
          refine (next_calls i _ HAr.out).mono ?_
          rintro e w8 ⟨rfl, hw⟩
          rw [hw]
          clear hw w8
          rw [hx]
          go_wp2_with fail
          refine (next_calls j _ HBr.out).mono ?_
          rintro e w8 ⟨rfl, hw⟩
          rw [hw]
          clear hw w8
          rw [hy]
          go_wp2_with fail
          refine (inside2 i _ (by omega)).mono ?_
          rintro e w8 ⟨rfl, hw⟩
          rw [hw]
          clear hw w8
          go_wp2_with fail
          refine (inside2 (j + 1) _ (by omega)).mono ?_
          rintro e w8 ⟨rfl, hw⟩
          rw [hw]
          clear hw w8
          go_wp2_with fail
          refine (or1_calls (odd i) (odd (j + 1)) _).mono ?_
          rintro e w8 ⟨rfl, hw⟩
          rw [hw]
          clear hw w8
          obtain ⟨P, hP⟩ : ∃ P, (odd i || odd (j + 1)) = P := ⟨_, rfl⟩
          rw [hP]
          go_wp2_with fail
          refine (inside2 d.length _ (rfl)).mono ?_
          rintro e w8 ⟨rfl, hw⟩
          rw [hw]
          clear hw w8
          obtain ⟨Q, hQ⟩ : ∃ Q, odd d.length = Q := ⟨_, rfl⟩
          rw [hQ]
          have hT := HT.out
          rw [← HFA.out, hP, hQ] at hT
          clear hP hQ
          by_cases hc : P = Q
          · rw [if_neg (by simpa using hc)] at hT
            have HT2 := Lib.hid hT
            clear hT
            subst hc
            have hcc : (P != P) = false := bne_self_eq_false P
            go_wp2_with fail
            go_roundg (n1 - i + (n2 - (j + 1)))
            case measure => have := HK.out; omega
            case rel => exact ⟨i, (j + 1), y, d, _, by omega, by omega, by omega, by omega, rfl, by go_num, by go_num, HBEL.out, HOW.out, HT2.out, by have := HK.out; omega⟩
          · rw [if_pos (by simpa using hc)] at hT
            have HT2 := Lib.hid hT
            clear hT
            have hcc : (P != Q) = true := by simpa using hc
            have hc2 : (P == Q) = false := by simpa using hc
            have hc3 : decide (P = Q) = false := decide_eq_false hc
            clear hc
            have HR2 := Lib.hid (below_new wr (.cells #[.int .i64 y] 3))
            have HO2 := Lib.hid (keptB HOW.out HR2.out)
            have HCI : Hid (∀ k u, (iv [y])[k]? = some u → (wr.alloc (.cells #[.int .i64 y] 3)).cell? ((⟨wr.heap.size, 0, none⟩ : Addr).add k) = some u) := fun k u hu => one_cell wr y k u hu
            have HB2 : Hid (Below w.heap.size w (wr.alloc (.cells #[.int .i64 y] 3))) := HBEL.out.trans (HR2.out.mono HBW.out)
            go_wp2_with (at_builtin; refine wpList_append_own _ rfl _ _ 23 rfl w.heap.size 3 i0 (.int .i64 0) 1 8 Try.underlying23 hi hz0 hz1 hz2 rfl (by decide) _ _ _ rfl HO2.out ⟨wr.heap.size, 0, none⟩ 1 1 (iv [y]) rfl rfl HCI.out (ones1 y) ?c3 ?c4 ?c5 ?_)
            case c3 => unfold maxLen; omega
            case c4 => omega
            case c5 => exact HB2.out.size
            intro v5 w5 hown5 hg5 _
            have HB5 := Lib.hid (HB2.out.grown hg5 HB2.out.size (fun g hg => (HO2.out.lt g hg).1))
            have HOW5 := Lib.hid hown5
            clear hown5 hg5
            go_wp2_with fail
            go_roundg (n1 - i + (n2 - (j + 1)))
            case measure => have := HK.out; omega
            case rel => exact ⟨i, (j + 1), y, d ++ [y], _, by omega, by omega, by omega, by omega, rfl, by go_num, by go_num, HB5.out, by have := HOW5.out; rw [List.length_append, List.length_singleton]; unfold iv at this ⊢; rw [List.map_append]; exact this, HT2.out, by have := HK.out; rw [List.length_append, List.length_singleton]; omega⟩
    · obtain rfl : n1 = i := by omega
      obtain rfl : n2 = j := by omega
      have HE := Lib.hid (tg_end HFF.out HOA.out HOB.out (by have := HTG.out; rw [HL1.out, HL2.out]; exact this))
      obtain ⟨A7, c7, e7, hI⟩ := vk.isI_of_own HOW.out (fun x hx => by have := HE.out.1.2.1 x hx; omega)
      injection e7 with e8 e9 e10
      subst e8
      subst e10
      have HI := Lib.hid hI
      clear hI
      go_wp2_with fail
      go_ret
      exact ⟨_, _, _, rfl, ⟨d, HI.out, HE.out.1, HE.out.2⟩, HBEL.out⟩
set_option maxRecDepth 100000 in
set_option maxHeartbeats 16000000 in
theorem togMinus_calls {a b : List Int} {A1 A2 : Option Addr} {n1 c1 n2 c2 : Nat} (w : World) (h1 : wo.IsI w A1 n1 c1 a) (h2 : wo.IsI w A2 n2 c2 b) (ha : Ok a) (hb : Ok b) : Calls Try.prog 51 #[.slice A1 n1 c1, .slice A2 n2 c2, .func (.func 55) #[] #[]] w fun e w' => ∃ A n c, e = .returned (.slice A n c) ∧ IsS w' A n c (fun x => (fun p q => p && !q) (has a x) (has b x)) ∧ Below w.heap.size w w' := by
  obtain ⟨i0, hi, hz0, hz1, hz2⟩ := info_parts wi.infoI
  have hm1 := h1.2.2.1
  have hnc1 := h1.2.1
  have hm2 := h2.2.2.1
  have hnc2 := h2.2.1
  have hn1 : n1 ≤ 4097 := by have := ok_len ha; have := h1.1; omega
  have hn2 : n2 ≤ 4097 := by have := ok_len hb; have := h2.1; omega
  have hnI : (i0.bytes : Nat) * (n1 + n2) ≤ 281474976710656 := by rw [hz2]; omega
  obtain ⟨w1, hmk, hown, hgr⟩ := run_make_own (P := Try.prog) w w.heap.size 23 3 i0 (.int .i64 0) 1 Try.underlying23 hi hz0 hz1 .i64 .i64 (n1 + n2) hnI (by unfold maxLen; omega) (Nat.le_refl _)
  have HB1 : Hid (Below w.heap.size w w1) := (Below.refl _ _).grown hgr (Nat.le_refl _) (fun k hk => by cases hk)
  have HO1 := Lib.hid hown
  have HA := Lib.hid h1
  have HB := Lib.hid h2
  have HOA := Lib.hid ha
  have HOB := Lib.hid hb
  have HL1 := Lib.hid h1.1
  have HL2 := Lib.hid h2.1
  have hcast2 : (((n1 + n2 : Nat) : Int)) = (n1 : Int) + (n2 : Int) := by omega
  rw [hcast2] at hmk
  obtain ⟨F0, hF0⟩ : ∃ F0 : Bool → Bool → Bool, F0 = fun p q => p && !q := ⟨_, rfl⟩
  have HF0 := Lib.hid hF0
  have HFF : Hid (F0 false false = false) := by show _ = _; rw [hF0]; rfl
  rw [← hF0]
  have HFA : Hid (∀ p q, (p && !q) = F0 p q) := fun p q => by rw [hF0]
  clear h1 h2 ha hb hown hgr hcast2 hF0
  go_enter Try.func51, Try.ntmps51
  go_wp2_with fail
  clear hmk
  go_loopg [7, 8, 9] (n1 + n2) (fun gg s xi xj wr => ∃ (i j : Nat) (t : Int) (d : List Int) (v : Value), i ≤ n1 ∧ j ≤ n2 ∧ gg = n1 - i + (n2 - j) ∧ t ≤ 4096 ∧ v = s ∧ xi = .int .i64 (i : Int) ∧ xj = .int .i64 (j : Int) ∧ Below w.heap.size w wr ∧ wr.ownsRow w.heap.size 3 1 v d.length (iv d) ∧ Tg F0 a b t i j d ∧ d.length ≤ i + j)
  case atStart => exact ⟨0, 0, -1, [], _, by omega, by omega, by omega, by omega, rfl, rfl, rfl, HB1.out, by simpa [iv] using HO1.out, tg_start HFF.out HOA.out HOB.out, by simp⟩
  case round =>
    obtain ⟨i, j, t, d, v, hi1, hj1, hgg, ht, rfl, rfl, rfl, hbel, hown, htg, hdl⟩ := hrel
    have HK : Hid (gk = n1 - i + (n2 - j) ∧ d.length ≤ i + j) := ⟨hgg, hdl⟩
    have HBEL := Lib.hid hbel
    have HOW := Lib.hid hown
    have HTG := Lib.hid htg
    have HBW : Hid (w.heap.size ≤ wr.heap.size) := hbel.size
    have HAr := Lib.hid (vk.isI_below HA.out hbel)
    have HBr := Lib.hid (vk.isI_below HB.out hbel)
    have hd0 : d.length ≤ 8194 := by omega
    obtain ⟨A5, c5, rfl⟩ := own_shape hown
    clear hgg hbel hown htg hdl
    by_cases hne : i < n1 ∨ j < n2
    · have HSTEP := Lib.hid (tg_round HOA.out HOB.out HTG.out ht (by rw [HL1.out, HL2.out]; exact hne))
      obtain ⟨x, hx⟩ : ∃ x, nx a i = x := ⟨_, rfl⟩
      obtain ⟨y, hy⟩ : ∃ y, nx b j = y := ⟨_, rfl⟩
      rw [hx, hy] at HSTEP
      dsimp only at HSTEP
      by_cases hlt : i < n1
      · have hlt0 : (i : Int) < (n1 : Int) := by omega
        rcases Int.lt_trichotomy x y with hxy | hxy | hxy
        · have hmin : min x y = x := by omega
          have hT0 : Tg F0 a b x (i + 1) j (if F0 (odd (i + 1)) (odd j) ≠ odd d.length then d ++ [x] else d) := by
            have h := HSTEP.out.1
            rw [hmin] at h
            simpa [show x ≠ y by omega, Ne.symm (show x ≠ y by omega)] using h
          have HT := Lib.hid hT0
          clear hT0
          have hm4 : x ≤ 4096 := by have := HSTEP.out.2.1; rw [hmin] at this; exact this
          have hii : (i + 1) ≤ n1 ∧ j ≤ n2 := by
            have h1 := HSTEP.out.2.2.1
            have h2 := HSTEP.out.2.2.2.1
            rw [hmin] at h1 h2
            have hl1 := HL1.out
            have hl2 := HL2.out
            constructor
            · have h3 : (i + 1) ≤ a.length := by simpa [hmin] using h1
              omega
            · have h3 : j ≤ b.length := by simpa [Ne.symm (show x ≠ y by omega)] using h2
              omega
          have hne : (y == x) = false := by simp; omega
          go_wp2_with fail
          refine (next_calls i _ HAr.out).mono ?_
          rintro e w8 ⟨rfl, hw⟩
          rw [hw]
          clear hw w8
          rw [hx]
          go_wp2_with fail
          refine (next_calls j _ HBr.out).mono ?_
          rintro e w8 ⟨rfl, hw⟩
          rw [hw]
          clear hw w8
          rw [hy]
          go_wp2_with fail
          refine (next_calls i _ HAr.out).mono ?_
          rintro e w8 ⟨rfl, hw⟩
          rw [hw]
          clear hw w8
          rw [hx]
          go_wp2_with fail
          refine (next_calls j _ HBr.out).mono ?_
          rintro e w8 ⟨rfl, hw⟩
          rw [hw]
          clear hw w8
          rw [hy]
          go_wp2_with fail
          refine (inside2 (i + 1) _ (by omega)).mono ?_
          rintro e w8 ⟨rfl, hw⟩
          rw [hw]
          clear hw w8
          go_wp2_with fail
          refine (inside2 j _ (by omega)).mono ?_
          rintro e w8 ⟨rfl, hw⟩
          rw [hw]
          clear hw w8
          go_wp2_with fail
          refine (minus1_calls (odd (i + 1)) (odd j) _).mono ?_
          rintro e w8 ⟨rfl, hw⟩
          rw [hw]
          clear hw w8
          obtain ⟨P, hP⟩ : ∃ P, (odd (i + 1) && !odd j) = P := ⟨_, rfl⟩
          rw [hP]
          go_wp2_with fail
          refine (inside2 d.length _ (rfl)).mono ?_
          rintro e w8 ⟨rfl, hw⟩
          rw [hw]
          clear hw w8
          obtain ⟨Q, hQ⟩ : ∃ Q, odd d.length = Q := ⟨_, rfl⟩
          rw [hQ]
          have hT := HT.out
          rw [← HFA.out, hP, hQ] at hT
          clear hP hQ
          by_cases hc : P = Q
          · rw [if_neg (by simpa using hc)] at hT
            have HT2 := Lib.hid hT
            clear hT
            subst hc
            have hcc : (P != P) = false := bne_self_eq_false P
            go_wp2_with fail
            go_roundg (n1 - (i + 1) + (n2 - j))
            case measure => have := HK.out; omega
            case rel => exact ⟨(i + 1), j, x, d, _, by omega, by omega, by omega, by omega, rfl, by go_num, by go_num, HBEL.out, HOW.out, HT2.out, by have := HK.out; omega⟩
          · rw [if_pos (by simpa using hc)] at hT
            have HT2 := Lib.hid hT
            clear hT
            have hcc : (P != Q) = true := by simpa using hc
            have hc2 : (P == Q) = false := by simpa using hc
            have hc3 : decide (P = Q) = false := decide_eq_false hc
            clear hc
            have HR2 := Lib.hid (below_new wr (.cells #[.int .i64 x] 3))
            have HO2 := Lib.hid (keptB HOW.out HR2.out)
            have HCI : Hid (∀ k u, (iv [x])[k]? = some u → (wr.alloc (.cells #[.int .i64 x] 3)).cell? ((⟨wr.heap.size, 0, none⟩ : Addr).add k) = some u) := fun k u hu => one_cell wr x k u hu
            have HB2 : Hid (Below w.heap.size w (wr.alloc (.cells #[.int .i64 x] 3))) := HBEL.out.trans (HR2.out.mono HBW.out)
            go_wp2_with (at_builtin; refine wpList_append_own _ rfl _ _ 23 rfl w.heap.size 3 i0 (.int .i64 0) 1 8 Try.underlying23 hi hz0 hz1 hz2 rfl (by decide) _ _ _ rfl HO2.out ⟨wr.heap.size, 0, none⟩ 1 1 (iv [x]) rfl rfl HCI.out (ones1 x) ?c3 ?c4 ?c5 ?_)
            case c3 => unfold maxLen; omega
            case c4 => omega
            case c5 => exact HB2.out.size
            intro v5 w5 hown5 hg5 _
            have HB5 := Lib.hid (HB2.out.grown hg5 HB2.out.size (fun g hg => (HO2.out.lt g hg).1))
            have HOW5 := Lib.hid hown5
            clear hown5 hg5
            go_wp2_with fail
            go_roundg (n1 - (i + 1) + (n2 - j))
            case measure => have := HK.out; omega
            case rel => exact ⟨(i + 1), j, x, d ++ [x], _, by omega, by omega, by omega, by omega, rfl, by go_num, by go_num, HB5.out, by have := HOW5.out; rw [List.length_append, List.length_singleton]; unfold iv at this ⊢; rw [List.map_append]; exact this, HT2.out, by have := HK.out; rw [List.length_append, List.length_singleton]; omega⟩
        · subst hxy
          have hmin : min x x = x := by omega
          have hT0 : Tg F0 a b x (i + 1) (j + 1) (if F0 (odd (i + 1)) (odd (j + 1)) ≠ odd d.length then d ++ [x] else d) := by
            have h := HSTEP.out.1
            rw [hmin] at h
            simpa using h
          have HT := Lib.hid hT0
          clear hT0
          have hm4 : x ≤ 4096 := by have := HSTEP.out.2.1; rw [hmin] at this; exact this
          have hii : (i + 1) ≤ n1 ∧ (j + 1) ≤ n2 := by
            have h1 := HSTEP.out.2.2.1
            have h2 := HSTEP.out.2.2.2.1
            rw [hmin] at h1 h2
            have hl1 := HL1.out
            have hl2 := HL2.out
            constructor
            · have h3 : (i + 1) ≤ a.length := by simpa using h1
              omega
            · have h3 : (j + 1) ≤ b.length := by simpa using h2
              omega
          go_wp2_with fail
          refine (next_calls i _ HAr.out).mono ?_
          rintro e w8 ⟨rfl, hw⟩
          rw [hw]
          clear hw w8
          rw [hx]
          go_wp2_with fail
          refine (next_calls j _ HBr.out).mono ?_
          rintro e w8 ⟨rfl, hw⟩
          rw [hw]
          clear hw w8
          rw [hy]
          go_wp2_with fail
          refine (next_calls i _ HAr.out).mono ?_
          rintro e w8 ⟨rfl, hw⟩
          rw [hw]
          clear hw w8
          rw [hx]
          go_wp2_with fail
          refine (next_calls j _ HBr.out).mono ?_
          rintro e w8 ⟨rfl, hw⟩
          rw [hw]
          clear hw w8
          rw [hy]
          go_wp2_with fail
          refine (inside2 (i + 1) _ (by omega)).mono ?_
          rintro e w8 ⟨rfl, hw⟩
          rw [hw]
          clear hw w8
          go_wp2_with fail
          refine (inside2 (j + 1) _ (by omega)).mono ?_
          rintro e w8 ⟨rfl, hw⟩
          rw [hw]
          clear hw w8
          go_wp2_with fail
          refine (minus1_calls (odd (i + 1)) (odd (j + 1)) _).mono ?_
          rintro e w8 ⟨rfl, hw⟩
          rw [hw]
          clear hw w8
          obtain ⟨P, hP⟩ : ∃ P, (odd (i + 1) && !odd (j + 1)) = P := ⟨_, rfl⟩
          rw [hP]
          go_wp2_with fail
          refine (inside2 d.length _ (rfl)).mono ?_
          rintro e w8 ⟨rfl, hw⟩
          rw [hw]
          clear hw w8
          obtain ⟨Q, hQ⟩ : ∃ Q, odd d.length = Q := ⟨_, rfl⟩
          rw [hQ]
          have hT := HT.out
          rw [← HFA.out, hP, hQ] at hT
          clear hP hQ
          by_cases hc : P = Q
          · rw [if_neg (by simpa using hc)] at hT
            have HT2 := Lib.hid hT
            clear hT
            subst hc
            have hcc : (P != P) = false := bne_self_eq_false P
            go_wp2_with fail
            go_roundg (n1 - (i + 1) + (n2 - (j + 1)))
            case measure => have := HK.out; omega
            case rel => exact ⟨(i + 1), (j + 1), x, d, _, by omega, by omega, by omega, by omega, rfl, by go_num, by go_num, HBEL.out, HOW.out, HT2.out, by have := HK.out; omega⟩
          · rw [if_pos (by simpa using hc)] at hT
            have HT2 := Lib.hid hT
            clear hT
            have hcc : (P != Q) = true := by simpa using hc
            have hc2 : (P == Q) = false := by simpa using hc
            have hc3 : decide (P = Q) = false := decide_eq_false hc
            clear hc
            have HR2 := Lib.hid (below_new wr (.cells #[.int .i64 x] 3))
            have HO2 := Lib.hid (keptB HOW.out HR2.out)
            have HCI : Hid (∀ k u, (iv [x])[k]? = some u → (wr.alloc (.cells #[.int .i64 x] 3)).cell? ((⟨wr.heap.size, 0, none⟩ : Addr).add k) = some u) := fun k u hu => one_cell wr x k u hu
            have HB2 : Hid (Below w.heap.size w (wr.alloc (.cells #[.int .i64 x] 3))) := HBEL.out.trans (HR2.out.mono HBW.out)
            go_wp2_with (at_builtin; refine wpList_append_own _ rfl _ _ 23 rfl w.heap.size 3 i0 (.int .i64 0) 1 8 Try.underlying23 hi hz0 hz1 hz2 rfl (by decide) _ _ _ rfl HO2.out ⟨wr.heap.size, 0, none⟩ 1 1 (iv [x]) rfl rfl HCI.out (ones1 x) ?c3 ?c4 ?c5 ?_)
            case c3 => unfold maxLen; omega
            case c4 => omega
            case c5 => exact HB2.out.size
            intro v5 w5 hown5 hg5 _
            have HB5 := Lib.hid (HB2.out.grown hg5 HB2.out.size (fun g hg => (HO2.out.lt g hg).1))
            have HOW5 := Lib.hid hown5
            clear hown5 hg5
            go_wp2_with fail
            go_roundg (n1 - (i + 1) + (n2 - (j + 1)))
            case measure => have := HK.out; omega
            case rel => exact ⟨(i + 1), (j + 1), x, d ++ [x], _, by omega, by omega, by omega, by omega, rfl, by go_num, by go_num, HB5.out, by have := HOW5.out; rw [List.length_append, List.length_singleton]; unfold iv at this ⊢; rw [List.map_append]; exact this, HT2.out, by have := HK.out; rw [List.length_append, List.length_singleton]; omega⟩
        · have hmin : min x y = y := by omega
          have hT0 : Tg F0 a b y i (j + 1) (if F0 (odd i) (odd (j + 1)) ≠ odd d.length then d ++ [y] else d) := by
            have h := HSTEP.out.1
            rw [hmin] at h
            simpa [show x ≠ y by omega, Ne.symm (show x ≠ y by omega)] using h
          have HT := Lib.hid hT0
          clear hT0
          have hm4 : y ≤ 4096 := by have := HSTEP.out.2.1; rw [hmin] at this; exact this
          have hii : i ≤ n1 ∧ (j + 1) ≤ n2 := by
            have h1 := HSTEP.out.2.2.1
            have h2 := HSTEP.out.2.2.2.1
            rw [hmin] at h1 h2
            have hl1 := HL1.out
            have hl2 := HL2.out
            constructor
            · have h3 : i ≤ a.length := by simpa [show x ≠ y by omega] using h1
              omega
            · have h3 : (j + 1) ≤ b.length := by simpa [hmin] using h2
              omega
          have hne : (x == y) = false := by simp; omega
          go_wp2_with fail
          refine (next_calls i _ HAr.out).mono ?_
          rintro e w8 ⟨rfl, hw⟩
          rw [hw]
          clear hw w8
          rw [hx]
          go_wp2_with fail
          refine (next_calls j _ HBr.out).mono ?_
          rintro e w8 ⟨rfl, hw⟩
          rw [hw]
          clear hw w8
          rw [hy]
          go_wp2_with fail
          refine (next_calls i _ HAr.out).mono ?_
          rintro e w8 ⟨rfl, hw⟩
          rw [hw]
          clear hw w8
          rw [hx]
          go_wp2_with fail
          refine (next_calls j _ HBr.out).mono ?_
          rintro e w8 ⟨rfl, hw⟩
          rw [hw]
          clear hw w8
          rw [hy]
          go_wp2_with fail
          refine (inside2 i _ (by omega)).mono ?_
          rintro e w8 ⟨rfl, hw⟩
          rw [hw]
          clear hw w8
          go_wp2_with fail
          refine (inside2 (j + 1) _ (by omega)).mono ?_
          rintro e w8 ⟨rfl, hw⟩
          rw [hw]
          clear hw w8
          go_wp2_with fail
          refine (minus1_calls (odd i) (odd (j + 1)) _).mono ?_
          rintro e w8 ⟨rfl, hw⟩
          rw [hw]
          clear hw w8
          obtain ⟨P, hP⟩ : ∃ P, (odd i && !odd (j + 1)) = P := ⟨_, rfl⟩
          rw [hP]
          go_wp2_with fail
          refine (inside2 d.length _ (rfl)).mono ?_
          rintro e w8 ⟨rfl, hw⟩
          rw [hw]
          clear hw w8
          obtain ⟨Q, hQ⟩ : ∃ Q, odd d.length = Q := ⟨_, rfl⟩
          rw [hQ]
          have hT := HT.out
          rw [← HFA.out, hP, hQ] at hT
          clear hP hQ
          by_cases hc : P = Q
          · rw [if_neg (by simpa using hc)] at hT
            have HT2 := Lib.hid hT
            clear hT
            subst hc
            have hcc : (P != P) = false := bne_self_eq_false P
            go_wp2_with fail
            go_roundg (n1 - i + (n2 - (j + 1)))
            case measure => have := HK.out; omega
            case rel => exact ⟨i, (j + 1), y, d, _, by omega, by omega, by omega, by omega, rfl, by go_num, by go_num, HBEL.out, HOW.out, HT2.out, by have := HK.out; omega⟩
          · rw [if_pos (by simpa using hc)] at hT
            have HT2 := Lib.hid hT
            clear hT
            have hcc : (P != Q) = true := by simpa using hc
            have hc2 : (P == Q) = false := by simpa using hc
            have hc3 : decide (P = Q) = false := decide_eq_false hc
            clear hc
            have HR2 := Lib.hid (below_new wr (.cells #[.int .i64 y] 3))
            have HO2 := Lib.hid (keptB HOW.out HR2.out)
            have HCI : Hid (∀ k u, (iv [y])[k]? = some u → (wr.alloc (.cells #[.int .i64 y] 3)).cell? ((⟨wr.heap.size, 0, none⟩ : Addr).add k) = some u) := fun k u hu => one_cell wr y k u hu
            have HB2 : Hid (Below w.heap.size w (wr.alloc (.cells #[.int .i64 y] 3))) := HBEL.out.trans (HR2.out.mono HBW.out)
            go_wp2_with (at_builtin; refine wpList_append_own _ rfl _ _ 23 rfl w.heap.size 3 i0 (.int .i64 0) 1 8 Try.underlying23 hi hz0 hz1 hz2 rfl (by decide) _ _ _ rfl HO2.out ⟨wr.heap.size, 0, none⟩ 1 1 (iv [y]) rfl rfl HCI.out (ones1 y) ?c3 ?c4 ?c5 ?_)
            case c3 => unfold maxLen; omega
            case c4 => omega
            case c5 => exact HB2.out.size
            intro v5 w5 hown5 hg5 _
            have HB5 := Lib.hid (HB2.out.grown hg5 HB2.out.size (fun g hg => (HO2.out.lt g hg).1))
            have HOW5 := Lib.hid hown5
            clear hown5 hg5
            go_wp2_with fail
            go_roundg (n1 - i + (n2 - (j + 1)))
            case measure => have := HK.out; omega
            case rel => exact ⟨i, (j + 1), y, d ++ [y], _, by omega, by omega, by omega, by omega, rfl, by go_num, by go_num, HB5.out, by have := HOW5.out; rw [List.length_append, List.length_singleton]; unfold iv at this ⊢; rw [List.map_append]; exact this, HT2.out, by have := HK.out; rw [List.length_append, List.length_singleton]; omega⟩
      · have hlt0 : ¬ (i : Int) < (n1 : Int) := by omega
        have hlt1 : (j : Int) < (n2 : Int) := by omega
        rcases Int.lt_trichotomy x y with hxy | hxy | hxy
        · have hmin : min x y = x := by omega
          have hT0 : Tg F0 a b x (i + 1) j (if F0 (odd (i + 1)) (odd j) ≠ odd d.length then d ++ [x] else d) := by
            have h := HSTEP.out.1
            rw [hmin] at h
            simpa [show x ≠ y by omega, Ne.symm (show x ≠ y by omega)] using h
          have HT := Lib.hid hT0
          clear hT0
          have hm4 : x ≤ 4096 := by have := HSTEP.out.2.1; rw [hmin] at this; exact this
          have hii : (i + 1) ≤ n1 ∧ j ≤ n2 := by
            have h1 := HSTEP.out.2.2.1
            have h2 := HSTEP.out.2.2.2.1
            rw [hmin] at h1 h2
            have hl1 := HL1.out
            have hl2 := HL2.out
            constructor
            · have h3 : (i + 1) ≤ a.length := by simpa [hmin] using h1
              omega
            · have h3 : j ≤ b.length := by simpa [Ne.symm (show x ≠ y by omega)] using h2
              omega
          have hne : (y == x) = false := by simp; omega
          exact absurd hii.1 (by omega)
        · subst hxy
          have hmin : min x x = x := by omega
          have hT0 : Tg F0 a b x (i + 1) (j + 1) (if F0 (odd (i + 1)) (odd (j + 1)) ≠ odd d.length then d ++ [x] else d) := by
            have h := HSTEP.out.1
            rw [hmin] at h
            simpa using h
          have HT := Lib.hid hT0
          clear hT0
          have hm4 : x ≤ 4096 := by have := HSTEP.out.2.1; rw [hmin] at this; exact this
          have hii : (i + 1) ≤ n1 ∧ (j + 1) ≤ n2 := by
            have h1 := HSTEP.out.2.2.1
            have h2 := HSTEP.out.2.2.2.1
            rw [hmin] at h1 h2
            have hl1 := HL1.out
            have hl2 := HL2.out
            constructor
            · have h3 : (i + 1) ≤ a.length := by simpa using h1
              omega
            · have h3 : (j + 1) ≤ b.length := by simpa using h2
              omega
          exact absurd hii.1 (by omega)
        · have hmin : min x y = y := by omega
          have hT0 : Tg F0 a b y i (j + 1) (if F0 (odd i) (odd (j + 1)) ≠ odd d.length then d ++ [y] else d) := by
            have h := HSTEP.out.1
            rw [hmin] at h
            simpa [show x ≠ y by omega, Ne.symm (show x ≠ y by omega)] using h
          have HT := Lib.hid hT0
          clear hT0
          have hm4 : y ≤ 4096 := by have := HSTEP.out.2.1; rw [hmin] at this; exact this
          have hii : i ≤ n1 ∧ (j + 1) ≤ n2 := by
            have h1 := HSTEP.out.2.2.1
            have h2 := HSTEP.out.2.2.2.1
            rw [hmin] at h1 h2
            have hl1 := HL1.out
            have hl2 := HL2.out
            constructor
            · have h3 : i ≤ a.length := by simpa [show x ≠ y by omega] using h1
              omega
            · have h3 : (j + 1) ≤ b.length := by simpa [hmin] using h2
              omega
          have hne : (x == y) = false := by simp; omega
          go_wp2_with fail
          refine (next_calls i _ HAr.out).mono ?_
          rintro e w8 ⟨rfl, hw⟩
          rw [hw]
          clear hw w8
          rw [hx]
          go_wp2_with fail
          refine (next_calls j _ HBr.out).mono ?_
          rintro e w8 ⟨rfl, hw⟩
          rw [hw]
          clear hw w8
          rw [hy]
          go_wp2_with fail
          refine (next_calls i _ HAr.out).mono ?_
          rintro e w8 ⟨rfl, hw⟩
          rw [hw]
          clear hw w8
          rw [hx]
          go_wp2_with fail
          refine (next_calls j _ HBr.out).mono ?_
          rintro e w8 ⟨rfl, hw⟩
          rw [hw]
          clear hw w8
          rw [hy]
          go_wp2_with fail
          refine (inside2 i _ (by omega)).mono ?_
          rintro e w8 ⟨rfl, hw⟩
          rw [hw]
          clear hw w8
          go_wp2_with fail
          refine (inside2 (j + 1) _ (by omega)).mono ?_
          rintro e w8 ⟨rfl, hw⟩
          rw [hw]
          clear hw w8
          go_wp2_with fail
          refine (minus1_calls (odd i) (odd (j + 1)) _).mono ?_
          rintro e w8 ⟨rfl, hw⟩
          rw [hw]
          clear hw w8
          obtain ⟨P, hP⟩ : ∃ P, (odd i && !odd (j + 1)) = P := ⟨_, rfl⟩
          rw [hP]
          go_wp2_with fail
          refine (inside2 d.length _ (rfl)).mono ?_
          rintro e w8 ⟨rfl, hw⟩
          rw [hw]
          clear hw w8
          obtain ⟨Q, hQ⟩ : ∃ Q, odd d.length = Q := ⟨_, rfl⟩
          rw [hQ]
          have hT := HT.out
          rw [← HFA.out, hP, hQ] at hT
          clear hP hQ
          by_cases hc : P = Q
          · rw [if_neg (by simpa using hc)] at hT
            have HT2 := Lib.hid hT
            clear hT
            subst hc
            have hcc : (P != P) = false := bne_self_eq_false P
            go_wp2_with fail
            go_roundg (n1 - i + (n2 - (j + 1)))
            case measure => have := HK.out; omega
            case rel => exact ⟨i, (j + 1), y, d, _, by omega, by omega, by omega, by omega, rfl, by go_num, by go_num, HBEL.out, HOW.out, HT2.out, by have := HK.out; omega⟩
          · rw [if_pos (by simpa using hc)] at hT
            have HT2 := Lib.hid hT
            clear hT
            have hcc : (P != Q) = true := by simpa using hc
            have hc2 : (P == Q) = false := by simpa using hc
            have hc3 : decide (P = Q) = false := decide_eq_false hc
            clear hc
            have HR2 := Lib.hid (below_new wr (.cells #[.int .i64 y] 3))
            have HO2 := Lib.hid (keptB HOW.out HR2.out)
            have HCI : Hid (∀ k u, (iv [y])[k]? = some u → (wr.alloc (.cells #[.int .i64 y] 3)).cell? ((⟨wr.heap.size, 0, none⟩ : Addr).add k) = some u) := fun k u hu => one_cell wr y k u hu
            have HB2 : Hid (Below w.heap.size w (wr.alloc (.cells #[.int .i64 y] 3))) := HBEL.out.trans (HR2.out.mono HBW.out)
            go_wp2_with (at_builtin; refine wpList_append_own _ rfl _ _ 23 rfl w.heap.size 3 i0 (.int .i64 0) 1 8 Try.underlying23 hi hz0 hz1 hz2 rfl (by decide) _ _ _ rfl HO2.out ⟨wr.heap.size, 0, none⟩ 1 1 (iv [y]) rfl rfl HCI.out (ones1 y) ?c3 ?c4 ?c5 ?_)
            case c3 => unfold maxLen; omega
            case c4 => omega
            case c5 => exact HB2.out.size
            intro v5 w5 hown5 hg5 _
            have HB5 := Lib.hid (HB2.out.grown hg5 HB2.out.size (fun g hg => (HO2.out.lt g hg).1))
            have HOW5 := Lib.hid hown5
            clear hown5 hg5
            go_wp2_with fail
            go_roundg (n1 - i + (n2 - (j + 1)))
            case measure => have := HK.out; omega
            case rel => exact ⟨i, (j + 1), y, d ++ [y], _, by omega, by omega, by omega, by omega, rfl, by go_num, by go_num, HB5.out, by have := HOW5.out; rw [List.length_append, List.length_singleton]; unfold iv at this ⊢; rw [List.map_append]; exact this, HT2.out, by have := HK.out; rw [List.length_append, List.length_singleton]; omega⟩
    · obtain rfl : n1 = i := by omega
      obtain rfl : n2 = j := by omega
      have HE := Lib.hid (tg_end HFF.out HOA.out HOB.out (by have := HTG.out; rw [HL1.out, HL2.out]; exact this))
      obtain ⟨A7, c7, e7, hI⟩ := vk.isI_of_own HOW.out (fun x hx => by have := HE.out.1.2.1 x hx; omega)
      injection e7 with e8 e9 e10
      subst e8
      subst e10
      have HI := Lib.hid hI
      clear hI
      go_wp2_with fail
      go_ret
      exact ⟨_, _, _, rfl, ⟨d, HI.out, HE.out.1, HE.out.2⟩, HBEL.out⟩
set_option maxRecDepth 100000 in
set_option maxHeartbeats 4000000 in
theorem and_calls {a b : List Int} {A1 A2 : Option Addr} {n1 c1 n2 c2 : Nat} (w : World) (h1 : wo.IsI w A1 n1 c1 a) (h2 : wo.IsI w A2 n2 c2 b) (ha : Ok a) (hb : Ok b) : Calls Try.prog 30 #[.slice A1 n1 c1, .slice A2 n2 c2] w fun e w' => ∃ A n c, e = .returned (.slice A n c) ∧ IsS w' A n c (fun x => (fun p q => p && q) (has a x) (has b x)) ∧ Below w.heap.size w w' := by
  have HT := Lib.hid (togAnd_calls w h1 h2 ha hb)
  clear h1 h2 ha hb
  go_enter Try.func30, Try.ntmps30
  go_wp2_with fail
  refine HT.out.mono ?_
  rintro e w' ⟨A, n, c, rfl, hs, hb⟩
  have HS := Lib.hid (And.intro hs hb)
  clear hs hb
  go_wp2_with fail
  go_ret
  exact ⟨_, _, _, rfl, HS.out⟩
set_option maxRecDepth 100000 in
set_option maxHeartbeats 4000000 in
theorem or_calls {a b : List Int} {A1 A2 : Option Addr} {n1 c1 n2 c2 : Nat} (w : World) (h1 : wo.IsI w A1 n1 c1 a) (h2 : wo.IsI w A2 n2 c2 b) (ha : Ok a) (hb : Ok b) : Calls Try.prog 32 #[.slice A1 n1 c1, .slice A2 n2 c2] w fun e w' => ∃ A n c, e = .returned (.slice A n c) ∧ IsS w' A n c (fun x => (fun p q => p || q) (has a x) (has b x)) ∧ Below w.heap.size w w' := by
  have HT := Lib.hid (togOr_calls w h1 h2 ha hb)
  clear h1 h2 ha hb
  go_enter Try.func32, Try.ntmps32
  go_wp2_with fail
  refine HT.out.mono ?_
  rintro e w' ⟨A, n, c, rfl, hs, hb⟩
  have HS := Lib.hid (And.intro hs hb)
  clear hs hb
  go_wp2_with fail
  go_ret
  exact ⟨_, _, _, rfl, HS.out⟩
set_option maxRecDepth 100000 in
set_option maxHeartbeats 4000000 in
theorem minus_calls {a b : List Int} {A1 A2 : Option Addr} {n1 c1 n2 c2 : Nat} (w : World) (h1 : wo.IsI w A1 n1 c1 a) (h2 : wo.IsI w A2 n2 c2 b) (ha : Ok a) (hb : Ok b) : Calls Try.prog 34 #[.slice A1 n1 c1, .slice A2 n2 c2] w fun e w' => ∃ A n c, e = .returned (.slice A n c) ∧ IsS w' A n c (fun x => (fun p q => p && !q) (has a x) (has b x)) ∧ Below w.heap.size w w' := by
  have HT := Lib.hid (togMinus_calls w h1 h2 ha hb)
  clear h1 h2 ha hb
  go_enter Try.func34, Try.ntmps34
  go_wp2_with fail
  refine HT.out.mono ?_
  rintro e w' ⟨A, n, c, rfl, hs, hb⟩
  have HS := Lib.hid (And.intro hs hb)
  clear hs hb
  go_wp2_with fail
  go_ret
  exact ⟨_, _, _, rfl, HS.out⟩
end Go.Proofs.Ytieipbobijnmlaa.tk
