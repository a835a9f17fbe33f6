
import Derived.Test.YtlmbacacjcbdjaaDoorWo

import Derived.Test.YtlmbacacjcbdjaaDoorKit4

namespace Go.Proofs.YtlmbacacjcbdjaaDoor.hi

open Go.ChangeShapes Go.WideShapes Go.ChangeAt Go.RowKit

set_option linter.unusedVariables false
/-- texts that lie one after the other -/
def cat (l : List ByteArray) : List UInt8 := l.flatMap fun s => s.data.toList
theorem cat_snoc {l : List ByteArray} {k : Nat} {x : ByteArray} (h : l[k]? = some x) : cat (l.take (k + 1)) = cat (l.take k) ++ x.data.toList := by
  unfold cat; rw [List.take_add_one, h]; simp
theorem str_append (a : List UInt8) (x : ByteArray) : (⟨a.toArray⟩ : ByteArray) ++ x = ⟨(a ++ x.data.toList).toArray⟩ := by
  apply ByteArray.ext
  rw [ByteArray.data_append]
  apply Array.toList_inj.1
  simp
theorem cat_le (l : List ByteArray) (k : Nat) : (cat (l.take k)).length ≤ (cat l).length := wp.flat_le _ l k
theorem str_size (a : List UInt8) : (⟨a.toArray⟩ : ByteArray).size = a.length := by show a.toArray.size = _; simp
/-- at most 12 texts of at most 400 bytes -/
def fewB (l : List ByteArray) : Bool := decide (l.length ≤ 12) && l.all fun s => decide (s.size ≤ 400)

set_option maxRecDepth 100000 in
theorem few_calls (A : Option Addr) (n c : Nat) (l : List ByteArray) (w : World) (hn : l.length = n) (hnc : n ≤ c) (hc : c ≤ 9223372036854775807)
    (hl : wp.RC w A (l.map Value.string)) (hsz : ∀ s ∈ l, s.size ≤ 9223372036854775807) :
    Calls Tryd.prog 34 #[.slice A n c] w fun e w' => e = .returned (.bool (fewB l)) ∧ w = w' := by
  have HL := Lib.hid hl
  have HN := Lib.hid hn
  have HSZ := Lib.hid hsz
  by_cases h12 : 12 < n
  · have HF : Hid (fewB l = false) := by show _ = _; unfold fewB; rw [decide_eq_false (by omega)]; rfl
    clear hl hn hsz
    go_enter Tryd.func34, Tryd.ntmps34
    go_wp2_with fail
    go_ret
    exact ⟨by rw [HF.out]; rfl, rfl⟩
  · have HF : Hid (fewB l = l.all fun s => decide (s.size ≤ 400)) := by show _ = _; unfold fewB; rw [decide_eq_true (by omega)]; rfl
    clear hl hn hsz
    go_enter Tryd.func34, Tryd.ntmps34
    go_wp2_with fail
    go_loopg [3] n (fun g x wr => ∃ k : Nat, k + g = n ∧ x = .int .i64 (k : Int) ∧ ((l.take k).all fun s => decide (s.size ≤ 400)) = true ∧ w = wr)
    case atStart => exact ⟨0, by omega, rfl, rfl, rfl⟩
    case round =>
      obtain ⟨k, hk, rfl, hall, rfl⟩ := hrel
      have HK := Lib.hid hk
      have HALL := Lib.hid hall
      have hkn : k ≤ n := by omega
      clear hk hall
      by_cases hlt : k < n
      · have hkl : k < l.length := by have := HN.out; omega
        have hlk : l[k]? = some l[k] := List.getElem?_eq_getElem hkl
        obtain ⟨b, o, rfl, hbw, hcell⟩ := HL.out (by simp; omega)
        have hck : w.cell? ⟨b, o + k, none⟩ = some (.string l[k]) := hcell k _ (by simp [hlk])
        have hxs := HSZ.out l[k] (List.getElem_mem hkl)
        have HT : Hid (l.take (k + 1) = l.take k ++ [l[k]]) := by show _ = _; rw [List.take_add_one, hlk]; rfl
        have HMEM := Lib.hid (List.getElem_mem hkl)
        clear hcell hlk
        generalize l[k] = x at *
        by_cases h4 : 400 < x.size
        · have HF2 : Hid ((l.all fun s => decide (s.size ≤ 400)) = false) := List.all_eq_false.2 ⟨x, HMEM.out, by simp; omega⟩
          go_wp2_with fail
          go_ret
          exact ⟨by rw [HF.out, HF2.out]; rfl, rfl⟩
        · go_wp2_with fail
          go_roundg (gk - 1)
          case measure => have := HK.out; omega
          case rel =>
            refine ⟨k + 1, by have := HK.out; omega, by go_num, ?_, rfl⟩
            rw [HT.out, List.all_append, HALL.out]
            simp
            omega
      · obtain rfl : k = n := by omega
        have hkl : l.take k = l := by rw [← HN.out]; exact List.take_length
        have hall := HALL.out
        rw [hkl] at hall
        have HA := Lib.hid hall
        clear hall hkl
        go_wp2_with fail
        go_ret
        exact ⟨by rw [HF.out, HA.out]; rfl, rfl⟩
end Go.Proofs.YtlmbacacjcbdjaaDoor.hi
