/- What comes in: digests and lists of them. -/
import Derived.Test.YtmjmkkdmphgdnaaDoorG8

import Derived.Test.YtmjmkkdmphgdnaaDoorG5

import Derived.OpenShut

namespace Go.Proofs.YtmjmkkdmphgdnaaDoor.mk

open Go Go.ChangeShapes Go.WideShapes Go.ChangeAt Go.RowKit

set_option linter.unusedVariables false
theorem isD_of {w : World} {A : Option Addr} {n c : Nat} {l : List D} (h : wo.IsD w A n c l) : IsD w A n c l := ⟨h.1, h.2.1, by unfold maxLen; exact h.2.2.1, h.2.2.2.1, h.2.2.2.2⟩
theorem list_of_bytes : ∀ (n : Nat) (cs : List Value), cs.length = n → (∀ j, j < n → ∃ u : UInt8, cs[j]? = some (.int .u8 (u.toNat : Int))) → ∃ d : D, d.length = n ∧ cs = wp.bc d
  | 0, cs, h, _ => ⟨[], rfl, List.eq_nil_of_length_eq_zero h⟩
  | n + 1, [], h, _ => by simp at h
  | n + 1, c :: cs, h, hj => by
    obtain ⟨u, hu⟩ := hj 0 (by omega)
    obtain ⟨d, h1, h2⟩ := list_of_bytes n cs (by simpa using h) (fun j hj2 => by
      obtain ⟨u, hu⟩ := hj (j + 1) (by omega)
      exact ⟨u, by simpa using hu⟩)
    have hc : c = .int .u8 (u.toNat : Int) := by simpa using hu
    exact ⟨u :: d, by simp [h1], by rw [hc, h2]; rfl⟩
set_option maxRecDepth 100000 in
theorem open_digest {H : Type} {enc : TypeId × Value → H} {w : World} {base b0 : Nat} {sp : Nat → Bool} {held : Bool} {r : Reach} {v : Value} {d : DataW H} {ps : List MemPlace}
    (hval : Value.okWide Tryd.prog w r b0 31 v) (hd : DataW.Trod enc Tryd.prog w base sp held 31 v d ps) :
    ∃ x : D, x.length = 16 ∧ v = dv x := by
  have hv : ∃ cs : Array Value, v = .agg cs ∧ cs.size = 16 := by
    unfold Value.okWide at hval
    rw [Tryd.underlying31] at hval
    obtain ⟨cs, h1, h2, _⟩ := hval
    exact ⟨cs, h1, h2.trans (by kernel_rfl)⟩
  obtain ⟨⟨cs⟩, rfl, hcs⟩ := hv
  obtain ⟨fuel, hf⟩ := hd
  obtain ⟨xs, m, rfl, hx, hl, hn, hall⟩ := DataW.trod_array Tryd.underlying31 hf
  have hc1 : Tryd.prog.cellsOf 5 = 1 := by kernel_rfl
  have hcs' : cs.length = 16 := by simpa using hcs
  obtain ⟨d, h1, h2⟩ := list_of_bytes 16 cs hcs' (fun j hj => by
    have h1 := hall j hj
    rw [hc1] at h1
    have hxj : xs[j]? = some (xs[j]'(by omega)) := List.getElem?_eq_getElem (by omega)
    rw [hxj, Nat.mul_one] at h1
    obtain ⟨z, hz, _, hwf⟩ := DataW.trod_int Tryd.underlying5 h1
    have hzb : 0 ≤ z ∧ z ≤ 255 := by simpa [Lit.wf, IntKind.min, IntKind.max, IntKind.signed, IntKind.bits] using hwf
    refine ⟨UInt8.ofNat z.toNat, ?_⟩
    have h2 : ((cs.drop j).take 1)[0]? = some (.int .u8 z) := by
      have := congrArg (fun l : List Value => l[0]?) hz
      simpa [Value.cells] using this
    rw [List.getElem?_take_of_lt (by omega), List.getElem?_drop, Nat.add_zero] at h2
    rw [h2]
    congr 2
    simp only [UInt8.toNat_ofNat']
    omega)
  exact ⟨d, h1, by unfold dv; rw [h2]⟩
end Go.Proofs.YtmjmkkdmphgdnaaDoor.mk
