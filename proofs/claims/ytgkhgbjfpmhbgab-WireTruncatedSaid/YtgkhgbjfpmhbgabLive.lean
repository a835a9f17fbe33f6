import Derived.Test.YtgkhgbjfpmhbgabSan
import Derived.Test.YtgkhgbjfpmhbgabPl3
import Derived.Test.YtgkhgbjfpmhbgabOpen
namespace Go.Proofs.Ytgkhgbjfpmhbgab.wp
open Go.RowKit

/-- several rows, carried on together -/
def LiveL (w : World) (L : List (Option Addr × List Value)) : Prop := ∀ p ∈ L, RC w p.1 p.2
theorem LiveL.nil {w : World} : LiveL w [] := fun _ h => by cases h
theorem LiveL.below {w w' : World} {L : List (Option Addr × List Value)} (h : LiveL w L) (hb : Below w.heap.size w w') : LiveL w' L := fun p hp => (h p hp).below hb
theorem LiveL.add {w : World} {L : List (Option Addr × List Value)} {A : Option Addr} {xs : List Value} (h : LiveL w L) (hr : RC w A xs) : LiveL w ((A, xs) :: L) := fun p hp => by
  rcases List.mem_cons.1 hp with rfl | hp
  · exact hr
  · exact h p hp
theorem LiveL.get {w : World} {L : List (Option Addr × List Value)} (h : LiveL w L) (i : Nat) {A : Option Addr} {xs : List Value} (hi : L[i]? = some (A, xs)) : RC w A xs := h (A, xs) (List.mem_of_getElem? hi)
theorem LiveL.drewN {w : World} {L : List (Option Addr × List Value)} (h : LiveL w L) (q : Nat) : LiveL (w.drewN q) L := h
theorem RB.rc {w : World} {A : Option Addr} {l : List UInt8} (h : RB w A l) : RC w A (bc l) := fun hl => by
  rw [bc_length] at hl
  obtain ⟨b, o, hA, hb, hc⟩ := h hl
  refine ⟨b, o, hA, hb, fun j u hu => ?_⟩
  obtain ⟨x, hx, rfl⟩ := wk.bc_at.1 hu
  exact hc j x hx

/-- the list form of a string -/
theorem str_eta (s : ByteArray) : (⟨s.data.toList.toArray⟩ : ByteArray) = s := rfl
theorem encSs_eq (lx : List ByteArray) : encSs lx = encI ((lx.map fun s => s.data.toList).length : Int) ++ (lx.map fun s => s.data.toList).flatMap encB := by
  simp [encSs, List.flatMap_map]
theorem strs_eq (lx : List ByteArray) : (lx.map fun s => s.data.toList).map (fun s => Value.string ⟨s.toArray⟩) = lx.map Value.string := by
  simp [List.map_map, Function.comp_def]

/-- the number of texts and of their bytes -/
def total (lx : List ByteArray) : Nat := lx.length + (lx.map fun s => s.size).sum
theorem total_flat (lx : List ByteArray) : (encSs lx).length ≤ 10 + 10 * lx.length + total lx ∨ ∃ s ∈ lx, 9223372036854775807 < s.size := by
  by_cases h : ∃ s ∈ lx, 9223372036854775807 < s.size
  · exact .inr h
  · refine .inl ?_
    have key : ∀ l : List ByteArray, (∀ s ∈ l, s.size ≤ 9223372036854775807) → (l.flatMap fun s => encB s.data.toList).length ≤ 10 * l.length + (l.map fun s => s.size).sum := by
      intro l
      induction l with
      | nil => intro _; simp
      | cons x r ih =>
        intro hl
        have h1 := ih fun s hs => hl s (List.mem_cons_of_mem _ hs)
        have h2 := hl x List.mem_cons_self
        have h3 := encI_length (n := (x.size : Int)) (by omega) (by omega)
        have h4 := congrArg List.length (encB_eq x)
        have h5 : x.data.toList.length = x.size := by rw [Array.length_toList]; rfl
        rw [List.length_append, h5] at h4
        simp only [List.flatMap_cons, List.length_append, List.length_cons, List.map_cons, List.sum_cons]
        omega
    have h1 := key lx (fun s hs => by
      rcases Nat.lt_or_ge 9223372036854775807 s.size with h' | h'
      · exact absurd ⟨s, hs, h'⟩ h
      · exact h')
    unfold encSs total
    rw [List.length_append]
    rcases Nat.lt_or_ge 9223372036854775807 lx.length with h' | h'
    · have : (encI (lx.length : Int)).length ≤ 10 + lx.length := by
        have e : ∀ q : Nat, (Lib.uvarint q).length ≤ 1 + q := by
          intro q
          induction q using Nat.strongRecOn with
          | _ q ih =>
            rcases Nat.lt_or_ge q 128 with hq | hq
            · rw [Lib.uvarint_small hq]; simp
            · rw [Lib.uvarint_big hq, List.length_cons]
              have := ih (q / 128) (by omega)
              omega
        have hz : Lib.zigzag (lx.length : Int) = 2 * lx.length := by unfold Lib.zigzag; rw [if_pos (by omega)]; omega
        have := e (2 * lx.length / 128)
        unfold encI
        rw [hz, Lib.uvarint_big (by omega), List.length_cons]
        omega
      omega
    · have := encI_length (n := (lx.length : Int)) (by omega) (by omega)
      omega
end Go.Proofs.Ytgkhgbjfpmhbgab.wp

namespace Go.Proofs.Ytgkhgbjfpmhbgab.wi
open Go.ChangeShapes Go.WideShapes Go.ChangeAt Go.RowKit
set_option linter.unusedVariables false

theorem sum_take_le (l : List Nat) : ∀ k : Nat, (l.take k).sum ≤ l.sum := by
  induction l with
  | nil => intro k; simp
  | cons x r ih => intro k; cases k with
    | zero => simp
    | succ k => simp only [List.take_succ_cons, List.sum_cons]; have := ih k; omega
theorem sum_take_succ (l : List Nat) (k : Nat) (x : Nat) (h : l[k]? = some x) : (l.take (k + 1)).sum = (l.take k).sum + x := by
  rw [List.take_add_one, h]; simp

set_option maxRecDepth 100000 in
theorem few_any (A : Option Addr) (n c : Nat) (lx : List ByteArray) (w : World) (h : wo.IsS w A n c lx) (ht : wp.total lx ≤ 4611686018427387904) :
    Calls Try.prog 5 #[.slice A n c] w fun e w' => e = .returned (.bool (decide ((wp.total lx : Int) ≤ 2000))) ∧ w = w' := by
  obtain ⟨hl, hnc, hc, hr, hs⟩ := h
  have et : wp.total lx = n + (lx.map fun s => s.size).sum := by unfold wp.total; rw [hl]
  rw [et] at ht
  have ET := Lib.hid et
  clear et
  have HR := Lib.hid hr
  have HL := Lib.hid hl
  have hcn : n ≤ 4611686018427387904 := by omega
  have HT := Lib.hid ht
  clear hr hl hs ht
  go_enter Try.func5, Try.ntmps5
  go_wp2_with fail
  go_loopg [3, 10] n (fun g t x wr => ∃ k : Nat, k + g = n ∧ x = .int .i64 (k : Int) ∧ t = .int .i64 ((n + ((lx.map fun s => s.size).take k).sum : Nat) : Int) ∧ w = wr)
  case atStart => exact ⟨0, by omega, rfl, by simp, rfl⟩
  case round =>
    obtain ⟨k, hk, rfl, rfl, rfl⟩ := hrel
    have HK := Lib.hid hk
    have hkn : k ≤ n := by omega
    clear hk
    by_cases hlt : k < n
    · have hkl : k < lx.length := by have := HL.out; omega
      obtain ⟨b, o, rfl, hc1⟩ := RC_at HR.out (k := k) (u := .string lx[k]) (by simp [List.getElem?_eq_getElem hkl])
      have hst := sum_take_succ (lx.map fun s => s.size) k lx[k].size (by simp [List.getElem?_eq_getElem hkl])
      have hle := sum_take_le (lx.map fun s => s.size) (k + 1)
      have HST := Lib.hid hst
      have hb1 : n + ((lx.map fun s => s.size).take k).sum + lx[k].size ≤ 4611686018427387904 := by have := HT.out; omega
      clear hst hle
      generalize ((lx.map fun s => s.size).take k).sum = S0 at *
      generalize lx[k] = x at *
      go_wp2_with fail
      go_roundg (gk - 1)
      case measure => have := HK.out; omega
      case rel => exact ⟨k + 1, by have := HK.out; omega, by go_num, by rw [HST.out]; congr 1; push_cast; omega, rfl⟩
    · have hkk : k = n := by omega
      subst hkk
      have e : (lx.map fun s => s.size).take k = lx.map fun s => s.size := List.take_of_length_le (by rw [List.length_map, HL.out]; exact Nat.le_refl _)
      rw [e]
      generalize hS : (lx.map fun s => s.size).sum = S0 at *
      have HS := Lib.hid hS
      clear hS e
      go_wp2_with fail
      go_ret
      exact ⟨by rw [ET.out]; push_cast; rfl, rfl⟩
end Go.Proofs.Ytgkhgbjfpmhbgab.wi
