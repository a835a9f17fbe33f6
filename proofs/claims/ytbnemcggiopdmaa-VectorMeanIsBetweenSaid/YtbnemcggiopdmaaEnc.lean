
import Derived.Test.YtbnemcggiopdmaaInt

namespace Go.Proofs.Ytbnemcggiopdmaa.wi

open Go.ChangeShapes Go.WideShapes Go.ChangeAt Go.RowKit
/-- a fresh row of bytes is handed back -/
def OutB (l : List UInt8) (w : World) (e : Ending) (w' : World) : Prop :=
  ∃ v, e = .returned v ∧ w'.ownsRow w.heap.size 5 1 v l.length (wp.bc l) ∧ Below w.heap.size w w'

theorem int_out (n : Int) (w : World) (h0 : -9223372036854775808 ≤ n) (h1 : n ≤ 9223372036854775807) :
    Calls Try.prog 71 #[.int .i64 n] w (OutB (wp.encI n) w) := by
  go_enter Try.func71, Try.ntmps71
  go_wp2_with fail
  refine (appendInt_own w.heap.size 0 _ [] n w h0 h1 (World.ownsRow_nil _ _ _ _) (Nat.le_refl _) (by decide)).mono ?_
  rintro e w1 ⟨v1, rfl, hown1, hbel1⟩
  go_wp2
  go_ret
  exact ⟨v1, rfl, by simpa using hown1, hbel1⟩

set_option maxRecDepth 100000 in
set_option maxHeartbeats 1000000 in
theorem listInts (A : Option Addr) (n c : Nat) (l : List Int) (w : World) (hn : l.length = n) (hnc : n ≤ c) (hc : c ≤ 9223372036854775807)
    (hl : wp.RC w A (l.map (Value.int .i64))) (hwf : ∀ x ∈ l, -9223372036854775808 ≤ x ∧ x ≤ 9223372036854775807) (htot : (wp.encIs l).length + 10 ≤ 140737488355328) :
    Calls Try.prog 66 #[.slice A n c, .func (.func 67) #[] #[]] w (OutB (wp.encIs l) w) := by
  have HL := Lib.hid hl
  have HN := Lib.hid hn
  have HT := Lib.hid htot
  have HW := Lib.hid hwf
  clear hl hn htot hwf
  have hint : ∀ (n : Nat) (w : World), n ≤ 9223372036854775807 → Calls Try.prog 71 #[.int .i64 (n : Int)] w (OutB (wp.encI (n : Int)) w) := fun n w h => int_out (n : Int) w (by omega) (by omega)
  have HI := Lib.hid hint
  clear hint
  go_enter Try.func66, Try.ntmps66
  go_wp2_with fail
  refine (HI.out n w (by omega)).mono ?_
  rintro e w1 ⟨v1, rfl, hown1, hbel1⟩
  go_wp2_with fail
  generalize hB : w.heap.size = B at *
  have HB := Lib.hid hB
  clear hB
  go_loopg [5, 13] n (fun g v x wr => ∃ k : Nat, k + g = n ∧ x = .int .i64 (k : Int) ∧ wr.ownsRow B 5 1 v ((wp.encI (n : Int)).length + ((l.take k).flatMap wp.encI).length) (wp.bc (wp.encI (n : Int)) ++ wp.bc ((l.take k).flatMap wp.encI)) ∧ Below B w wr)
  case atStart => exact ⟨0, by omega, rfl, by simpa [wp.bc] using hown1, hbel1⟩
  case round =>
    obtain ⟨k, hk, rfl, hown, hbel⟩ := hrel
    have HK := Lib.hid hk
    have hkn : k ≤ n := by omega
    have HBW : Hid (B ≤ wr.heap.size) := by have := hbel.size; have := HB.out; show _ ≤ _; omega
    clear hk hown1 hbel1
    by_cases hlt : k < n
    · have hkl : k < l.length := by have := HN.out; omega
      obtain ⟨b, o, rfl, hbw, hcell⟩ := HL.out (by simp; omega)
      have hlk : l[k]? = some l[k] := List.getElem?_eq_getElem hkl
      have hck : wr.cell? ⟨b, o + k, none⟩ = some (.int .i64 l[k]) := by
        rw [hbel.cell (p := ⟨b, o + k, none⟩) (by rw [← HB.out]; exact hbw)]
        exact hcell k _ (by simp [hlk])
      have HLK := Lib.hid hlk
      have HX := Lib.hid (HW.out l[k] (List.getElem_mem hkl))
      have HS := Lib.hid (wp.flat_snoc wp.encI hlk)
      clear hcell hlk
      generalize l[k] = x at *
      go_wp2_with fail
      refine (appendInt_own B _ _ _ x wr HX.out.1 HX.out.2 hown HBW.out ?_).mono ?_
      · have h1 := HT.out
        have h2 := wp.flat_le wp.encI l k
        unfold wp.encIs at h1
        rw [List.length_append, HN.out] at h1
        omega
      rintro e w2 ⟨v2, rfl, hown2, hbel2⟩
      go_wp2_with fail
      go_roundg (gk - 1)
      case measure => have := HK.out; omega
      case rel =>
        refine ⟨k + 1, by have := HK.out; omega, by go_num, ?_, hbel.trans hbel2⟩
        rw [HS.out, wp.bc_append, List.length_append, ← Nat.add_assoc, ← List.append_assoc]
        exact hown2
    · go_wp2_with fail
      go_ret
      have hkl : k = l.length := by have := HN.out; omega
      refine ⟨_, rfl, ?_, by rw [HB.out]; exact hbel⟩
      unfold wp.encIs
      rw [HB.out, wp.bc_append, List.length_append, HN.out]
      have : l.take k = l := by rw [hkl]; exact List.take_length
      rw [this] at hown
      exact hown

theorem ints_out (A : Option Addr) (n c : Nat) (l : List Int) (w : World) (hn : l.length = n) (hnc : n ≤ c) (hc : c ≤ 9223372036854775807)
    (hl : wp.RC w A (l.map (Value.int .i64))) (hwf : ∀ x ∈ l, -9223372036854775808 ≤ x ∧ x ≤ 9223372036854775807) (htot : (wp.encIs l).length + 10 ≤ 140737488355328) :
    Calls Try.prog 55 #[.slice A n c] w (OutB (wp.encIs l) w) := by
  have H := Lib.hid (listInts A n c l w hn hnc hc hl hwf htot)
  clear hn hl hwf htot
  go_enter Try.func55, Try.ntmps55
  go_wp2_with fail
  refine H.out.mono ?_
  rintro e w1 ⟨v1, rfl, hown1, hbel1⟩
  go_wp2_with fail
  go_ret
  exact ⟨v1, rfl, hown1, hbel1⟩
end Go.Proofs.Ytbnemcggiopdmaa.wi
