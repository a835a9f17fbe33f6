/- A box as an argument; a list of 16-bit numbers as an argument. -/
import Derived.Test.YtlcdjabfkfmpdaaOpen

import Derived.OpenShut

import Derived.ChangeSame

import Derived.WideShapes

import Derived.Test.YtlcdjabfkfmpdaaBb

import Derived.Test.YtlcdjabfkfmpdaaBt

namespace Go.Proofs.Ytlcdjabfkfmpdaa.bk

open Go Go.ChangeShapes Go.WideShapes Go.ChangeAt Go.RowKit

open Go.Proofs.Ytlcdjabfkfmpdaa.bq Go.Proofs.Ytlcdjabfkfmpdaa.vk Go.Proofs.Ytlcdjabfkfmpdaa.wk

set_option linter.unusedVariables false
theorem open_is {H : Type} {enc : TypeId × Value → H} {w : World} {base : Nat} {sp : Nat → Bool} {held : Bool} {v : Value} {m : Nat} {y : DataW H × List MemPlace}
    (h : DataW.trod enc Try.prog w base sp held m 23 [v] = some y) : ∃ A n c l, v = .slice A n c ∧ wo.IsI w A n c l := by
  have hs : ∃ A n c, v = .slice A n c := by
    rcases DataW.trod_slice Try.underlying23 h with ⟨hcs, _⟩ | ⟨ad, len, cap, elems, rest, m, _, hcs, _⟩
    · simp only [List.cons.injEq, and_true] at hcs; exact ⟨_, _, _, hcs⟩
    · simp only [List.cons.injEq, and_true] at hcs; exact ⟨_, _, _, hcs⟩
  obtain ⟨A, n, c, rfl⟩ := hs
  obtain ⟨l, hl⟩ := wo.openI Try.underlying23 Try.underlying3 (by kernel_rfl) h
  exact ⟨A, n, c, l, rfl, hl⟩
theorem open_x {H : Type} {enc : TypeId × Value → H} {w : World} {base b0 : Nat} {sp : Nat → Bool} {held : Bool} {r : Reach} {v : Value} {d : DataW H} {ps : List MemPlace}
    (hval : Value.okWide Try.prog w r b0 25 v) (hd : DataW.Trod enc Try.prog w base sp held 25 v d ps) : ∃ p, IsX w v p := by
  obtain ⟨⟨cs⟩, rfl, hcs⟩ := okWide_struct Try.underlying25 hval
  have hcs : cs.length = 2 := hcs.trans (by kernel_rfl)
  obtain ⟨fuel, hf⟩ := hd
  match cs, hcs with
  | [c0, c1], _ =>
    obtain ⟨y0, y1, m, _, _, h0, h1⟩ := trod_struct2 Try.underlying25 hf
    have hc : Try.prog.cellsOf 23 = 1 := by kernel_rfl
    rw [hc] at h0 h1
    obtain ⟨A, n, c, l, rfl, hl⟩ := open_is (show DataW.trod enc Try.prog w base sp held m 23 [c0] = some y0 from h0)
    obtain ⟨A', n', c', l', rfl, hl'⟩ := open_is (show DataW.trod enc Try.prog w base sp held m 23 [c1] = some y1 from h1)
    exact ⟨(l, l'), A, n, c, A', n', c', rfl, hl, hl'⟩
section

variable {H : Type} {enc : TypeId × Value → H} {P : Program} {w : World} {base : Nat} {spare : Nat → Bool} {held : Bool} {t e : TypeId} {a : Option Addr} {n c fuel : Nat} {x : DataW H × List MemPlace}
theorem openU (ht : P.underlying t = some (.slice e)) (he : P.underlying e = some (.int .u16)) (hc : P.cellsOf e = 1) (h : DataW.trod enc P w base spare held fuel t [.slice a n c] = some x) : ∃ l, IsU w a n c l := by
  rcases open_ints ht he hc h with ⟨hcs, _⟩ | ⟨ad, l, c', zs, hcs, _, hl, hm, hz, _, hcell, hwz⟩
  · simp only [List.cons.injEq, Value.slice.injEq, and_true] at hcs
    obtain ⟨rfl, rfl, rfl⟩ := hcs
    exact ⟨[], rfl, Nat.le_refl _, by omega, fun h => absurd h (by simp), by simp⟩
  · simp only [List.cons.injEq, Value.slice.injEq, and_true] at hcs
    obtain ⟨rfl, rfl, rfl⟩ := hcs
    have hzl : n ≤ zs.length := by rw [hz]; split <;> omega
    refine ⟨zs.take n, by simp; omega, hl, by unfold maxLen at hm; omega, wo.rc_of fun i u hu => ?_, fun y hy => ?_⟩
    · have hi : i < n := by
        rcases Nat.lt_or_ge i n with h' | h'
        · exact h'
        · rw [List.getElem?_eq_none (by simp; omega)] at hu; cases hu
      rw [hcell i (by omega), ← hu]
      simp [List.getD, List.getElem?_take_of_lt hi, List.getElem?_eq_getElem (show i < zs.length by omega)]
    · have := hwz y (List.mem_of_mem_take hy)
      simpa [Lit.wf, IntKind.min, IntKind.max, IntKind.signed, IntKind.bits] using this
end

end Go.Proofs.Ytlcdjabfkfmpdaa.bk
