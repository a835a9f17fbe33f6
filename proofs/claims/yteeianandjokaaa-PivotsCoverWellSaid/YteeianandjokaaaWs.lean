/- The law's own `some`. -/
import Derived.Test.YteeianandjokaaaWzb

import Derived.Test.YteeianandjokaaaWv

namespace Go.Proofs.Yteeianandjokaaa.pk

open Go.ChangeShapes Go.WideShapes Go.ChangeAt Go.RowKit

open Go.Proofs.Yteeianandjokaaa.pq Go.Proofs.Yteeianandjokaaa.cq Go.Proofs.Yteeianandjokaaa.vk Go.Proofs.Yteeianandjokaaa.bk Go.Proofs.Yteeianandjokaaa.wk Go.Proofs.Yteeianandjokaaa.uk

set_option linter.unusedVariables false
structure W4 (w : World) (A : Option Addr) (n c : Nat) (l : List UInt8) : Prop where
  is : wo.IsB w A n c l
theorem W4.below {w w' : World} {A : Option Addr} {n c : Nat} {l : List UInt8} (h : W4 w A n c l) (hb : Below w.heap.size w w') : W4 w' A n c l := ⟨⟨h.is.1, h.is.2.1, h.is.2.2.1, wk.RB.below h.is.2.2.2 hb⟩⟩
theorem own_app {w : World} {B n k : Nat} {e : TypeId} {v : Value} {xs ys : List Value} (h : w.ownsRow B e 1 v n xs) (hn : n = k) (hx : xs = ys) : w.ownsRow B e 1 v k ys := by subst hn; subst hx; exact h
set_option maxRecDepth 100000 in
set_option maxHeartbeats 4000000 in
theorem some_calls {A A' : Option Addr} {n2 c n' c' n : Nat} {L : VV} {bs : List UInt8} (w : World) (h : IsVV w A n2 c L) (h' : wo.IsB w A' n' c' bs) (h1 : 1 ≤ n2) (hn : n ≤ 8) :
    Calls Try.prog 39 #[.slice A n2 c, .slice A' n' c', .int .i64 (n : Int)] w fun e w' => ∃ A2 c2 S, e = .returned (.slice A2 n c2) ∧ IsVV w' A2 n c2 S ∧ (∀ s ∈ S, s ∈ L) ∧ Below w.heap.size w w' := by
  have hnc := h.2.1
  have hnm := h.2.2.1
  have hnc' := h'.2.1
  have hnm' := h'.2.2.1
  have HL := Lib.hid h
  have HV := Lib.hid (W4.mk h')
  clear h h'
  obtain ⟨i0, hi, hz0, hz1, hz2⟩ := info_parts infoSl9
  go_enter Try.func39, Try.ntmps39
  go_wp2_with fail
  go_loopg [7, 8] n (fun gk u x wr => ∃ (k : Nat) (v7 : Value) (vals : List Value) (C : VV), k + gk = n ∧ v7 = u ∧ x = .int .i64 (k : Int) ∧ wr.ownsRow w.heap.size 23 1 v7 k vals ∧ SV w C vals ∧ C.length = k ∧ (∀ s ∈ C, s ∈ L) ∧ Below w.heap.size w wr)
  case atStart => exact ⟨0, _, [], [], by omega, rfl, rfl, World.ownsRow_nil _ _ _ _, fun j p hj => by simp at hj, rfl, fun s hs => (by cases hs), Below.refl _ _⟩
  case round =>
    obtain ⟨k, v7, vals, C, hk, hv7, rfl, hown, hsv, hcl, hin, hbel⟩ := hrel
    subst hv7
    have HK := Lib.hid hk
    have HOWN := Lib.hid hown
    have HSV := Lib.hid hsv
    have HCL := Lib.hid hcl
    have HIN := Lib.hid hin
    have HBEL := Lib.hid hbel
    have HBW : Hid (w.heap.size ≤ wr.heap.size) := hbel.size
    have hkn : k ≤ n := by omega
    clear hk hown hsv hcl hin
    by_cases hlt : k < n
    · have hlt0 : (k : Int) < (n : Int) := by omega
      by_cases hpl : k < n'
      · obtain ⟨b, o, e1, hb, hcell⟩ := HV.out.is.2.2.2 (by rw [HV.out.is.1]; omega)
        subst e1
        obtain ⟨z, hz⟩ := at_of_lt (l := bs) (k := k) (by rw [HV.out.is.1]; exact hpl)
        have hcz := (hbel.cell (p := ⟨b, o + k, none⟩) hb).trans (hcell k z hz)
        obtain ⟨zn, hzn⟩ : ∃ zn : Nat, z.toNat = zn := ⟨_, rfl⟩
        have hz256 : zn < 256 := by rw [← hzn]; exact z.toNat_lt
        rw [hzn] at hcz
        obtain ⟨r, hr⟩ : ∃ r : Nat, zn % n2 = r := ⟨_, rfl⟩
        have hrl : r < n2 := by rw [← hr]; exact Nat.mod_lt _ (by omega)
        have htm : Int.tmod (zn : Int) (n2 : Int) = (r : Int) := by rw [← hr]; rfl
        have hlt1 : (k : Int) < (n' : Int) := by omega
        have hlt2 : (r : Int) < (n2 : Int) := by omega
        obtain ⟨b2, o2, A9, n9, c9, l9, e2, hb2, hc2, hI2, hX2⟩ := isVV_get HL.out hrl
        cases e2
        replace hc2 := (hbel.cell (p := ⟨b2, o2 + r, none⟩) hb2).trans hc2
        have HI2 := Lib.hid hI2
        have HX2 := Lib.hid (List.mem_of_getElem? hX2)
        clear hI2 hX2 hcell hz hzn hr hbel
        go_wp2_with (at_builtin; refine wpList_append_own _ rfl _ _ 22 rfl w.heap.size 23 i0 (.slice none 0 0) 1 24 Try.underlying22 hi hz0 hz1 hz2 rfl (by decide) _ _ _ rfl (HOWN.out.alloc _) ⟨wr.heap.size, 0, none⟩ 1 _ [.slice A9 n9 c9] rfl rfl (cells1 _ _ _) ?c2 ?c3 ?c4 ?c5 ?_)
        case c2 => simp [Value.oneCell']
        case c3 => unfold maxLen; omega
        case c4 => omega
        case c5 => have := HBW.out; first | omega | (simp only [size_new]; omega)
        intro v9 w9 own9 hg9 _
        have b9 : Below w.heap.size w w9 := (HBEL.out.alloc HBW.out _).grown hg9 (by have := HBW.out; first | omega | (simp only [size_new]; omega)) (fun g hg => (HOWN.out.lt g hg).1)
        have HO9 := Lib.hid own9
        have HB9 := Lib.hid b9
        have HSV9 := Lib.hid (sv_push HSV.out (by have := HOWN.out.1; have := HCL.out; omega) HI2.out)
        clear own9 hg9 b9
        go_wp2_with fail
        go_roundg (gk - 1)
        case measure => have := HK.out; omega
        case rel => exact ⟨k + 1, _, _, C ++ [l9], by have := HK.out; omega, rfl, by go_num, HO9.out, HSV9.out, by rw [List.length_append, HCL.out]; rfl, fun s hs => by
            rcases List.mem_append.1 hs with h | h
            · exact HIN.out s h
            · rw [List.mem_singleton.1 h]; exact HX2.out, HB9.out⟩
      · have hlt1 : ¬ (k : Int) < (n' : Int) := by omega
        have hlt2 : (0 : Int) < (n2 : Int) := by omega
        obtain ⟨b2, o2, A9, n9, c9, l9, e2, hb2, hc2, hI2, hX2⟩ := isVV_get HL.out (k := 0) (by omega)
        cases e2
        rw [Nat.add_zero] at hc2
        replace hc2 := (hbel.cell (p := ⟨b2, o2, none⟩) hb2).trans hc2
        have HI2 := Lib.hid hI2
        have HX2 := Lib.hid (List.mem_of_getElem? hX2)
        clear hI2 hX2 hbel
        go_wp2_with (at_builtin; refine wpList_append_own _ rfl _ _ 22 rfl w.heap.size 23 i0 (.slice none 0 0) 1 24 Try.underlying22 hi hz0 hz1 hz2 rfl (by decide) _ _ _ rfl (HOWN.out.alloc _) ⟨wr.heap.size, 0, none⟩ 1 _ [.slice A9 n9 c9] rfl rfl (cells1 _ _ _) ?c2 ?c3 ?c4 ?c5 ?_)
        case c2 => simp [Value.oneCell']
        case c3 => unfold maxLen; omega
        case c4 => omega
        case c5 => have := HBW.out; first | omega | (simp only [size_new]; omega)
        intro v9 w9 own9 hg9 _
        have b9 : Below w.heap.size w w9 := (HBEL.out.alloc HBW.out _).grown hg9 (by have := HBW.out; first | omega | (simp only [size_new]; omega)) (fun g hg => (HOWN.out.lt g hg).1)
        have HO9 := Lib.hid own9
        have HB9 := Lib.hid b9
        have HSV9 := Lib.hid (sv_push HSV.out (by have := HOWN.out.1; have := HCL.out; omega) HI2.out)
        clear own9 hg9 b9
        go_wp2_with fail
        go_roundg (gk - 1)
        case measure => have := HK.out; omega
        case rel => exact ⟨k + 1, _, _, C ++ [l9], by have := HK.out; omega, rfl, by go_num, HO9.out, HSV9.out, by rw [List.length_append, HCL.out]; rfl, fun s hs => by
            rcases List.mem_append.1 hs with h | h
            · exact HIN.out s h
            · rw [List.mem_singleton.1 h]; exact HX2.out, HB9.out⟩
    · obtain rfl : n = k := by omega
      obtain ⟨A9, c9, e9, hI9⟩ := isVV_own0 HOWN.out HSV.out hbel HCL.out
      subst e9
      have HI9 := Lib.hid hI9
      clear hI9 hbel
      go_wp2_with fail
      go_ret
      exact ⟨_, _, _, rfl, HI9.out, HIN.out, HBEL.out⟩
end Go.Proofs.Yteeianandjokaaa.pk
