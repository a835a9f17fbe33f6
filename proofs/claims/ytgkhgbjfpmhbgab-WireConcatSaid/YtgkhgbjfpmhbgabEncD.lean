import Derived.Test.YtgkhgbjfpmhbgabEnc
import Derived.Test.YtgkhgbjfpmhbgabKit
namespace Go.Proofs.Ytgkhgbjfpmhbgab.wi
open Go.ChangeShapes Go.WideShapes Go.ChangeAt Go.RowKit

theorem info55 : (Try.prog.info? 49).map (·.size) = some 16 := by kernel_rfl

set_option maxRecDepth 100000 in
theorem appendDigest_own (base k : Nat) (v : Value) (xs : List Value) (d : List UInt8) (w : World) (hd : d.length = 16)
    (hown : w.ownsRow base 5 1 v k xs) (hb : base ≤ w.heap.size) (hk : k + 16 ≤ 140737488355328) :
    Calls Try.prog 26 #[v, .agg (wp.bc d).toArray] w fun e w' => ∃ v', e = .returned v' ∧ w'.ownsRow base 5 1 v' (k + d.length) (xs ++ wp.bc d) ∧ Below base w w' := by
  obtain ⟨i0, hi, hz0, hz1, hz2⟩ := info_parts info5
  go_enter Try.func26, Try.ntmps26
  go_wp2_with (at_builtin; refine wpList_append_own _ rfl _ _ 27 rfl base 5 i0 (.int .u8 0) 1 1 Try.underlying27 hi hz0 hz1 hz2 rfl (by decide) _ _ _ rfl (hown.alloc _) ⟨w.heap.size, 0, none⟩ 16 16 (wp.bc d) rfl ?cl ?c1 wp.bc_one ?c3 ?c4 ?c5 ?_)
  case cl => rw [wp.bc_length, hd]
  case c1 => exact wk.cells_new _ _ _
  case c3 => unfold maxLen; omega
  case c4 => omega
  case c5 => simp; omega
  intro v' w1 hown' hgrow _
  go_wp2
  go_ret
  exact ⟨v', rfl, by rw [hd]; exact hown', ((Below.refl _ _).alloc hb _).grown hgrow (by simp; omega) (fun g hg => (hown.lt g hg).1)⟩

theorem cellsD : Try.prog.cellsOf 49 = 16 := by kernel_rfl

/-- the value of a digest -/
def dg (d : List UInt8) : Value := .agg (wp.bc d).toArray

set_option maxRecDepth 100000 in
set_option maxHeartbeats 1000000 in
theorem listDigests (A : Option Addr) (n c : Nat) (l : List (List UInt8)) (w : World) (hn : l.length = n) (hnc : n ≤ c) (hc : c ≤ 9223372036854775807)
    (hl : wp.RC w A (l.flatMap wp.bc)) (h16 : ∀ d ∈ l, d.length = 16) (htot : (wp.encDs l).length + 10 ≤ 140737488355328) :
    Calls Try.prog 25 #[.slice A n c, .func (.func 26) #[] #[]] w (OutB (wp.encDs l) w) := by
  have HL := Lib.hid hl
  have HN := Lib.hid hn
  have HT := Lib.hid htot
  have H16 := Lib.hid h16
  clear hl hn htot h16
  have hint : ∀ (n : Nat) (w : World), n ≤ 9223372036854775807 → Calls Try.prog 7 #[.int .i64 (n : Int)] w (OutB (wp.encI (n : Int)) w) := fun n w h => int_out (n : Int) w (by omega) (by omega)
  have HI := Lib.hid hint
  clear hint
  go_enter Try.func25, Try.ntmps25
  go_wp2_with fail
  refine (HI.out n w (by omega)).mono ?_
  rintro e w1 ⟨v1, rfl, hown1, hbel1⟩
  go_wp2_with fail
  generalize hB : w.heap.size = B at *
  have HB := Lib.hid hB
  clear hB
  go_loopg [5, 13] n (fun g v x wr => ∃ k : Nat, k + g = n ∧ x = .int .i64 (k : Int) ∧ wr.ownsRow B 5 1 v ((wp.encI (n : Int)).length + ((l.take k).flatMap id).length) (wp.bc (wp.encI (n : Int)) ++ wp.bc ((l.take k).flatMap id)) ∧ Below B w wr)
  case atStart => exact ⟨0, by omega, rfl, by simpa [wp.bc] using hown1, hbel1⟩
  case round =>
    obtain ⟨k, hk, rfl, hown, hbel⟩ := hrel
    have HK := Lib.hid hk
    have hkn : k ≤ n := by omega
    have HBW : Hid (B ≤ wr.heap.size) := by have := hbel.size; have := HB.out; show _ ≤ _; omega
    clear hk hown1 hbel1
    by_cases hlt : k < n
    · have hkl : k < l.length := by have := HN.out; omega
      obtain ⟨b, o, rfl, hbw, hcell⟩ := HL.out (by rw [wp.flat_bc_length H16.out]; omega)
      have hlk : l[k]? = some l[k] := List.getElem?_eq_getElem hkl
      have hck : ∀ j u, (wp.bc l[k])[j]? = some u → wr.cell? ((⟨b, o + k * 16, none⟩ : Addr).add j) = some u := fun j u hu => by
        rw [wk.add_at, hbel.cell (p := ⟨b, _, none⟩) (by rw [← HB.out]; exact hbw), Nat.add_assoc]
        rw [Nat.mul_comm k 16]
        exact hcell _ u (wp.flat_bc_at H16.out hlk hu)
      have HCK := Lib.hid hck
      have HLK := Lib.hid hlk
      have HX := Lib.hid (H16.out l[k] (List.getElem_mem hkl))
      have HS := Lib.hid (wp.flat_snoc id hlk)
      clear hcell hlk hck
      generalize l[k] = x at *
      go_wp2_with (first | refine wk.load_agg rfl 49 (.tmp 15) rfl _ rfl (wp.bc x) _ HCK.out Try.underlying49 rfl (by rw [info55, wp.bc_length, HX.out]) ?_ | refine wk.store_new rfl 49 (.tmp 7) (.tmp 16) rfl _ _ (wp.bc x) rfl rfl (by rw [info55, wp.bc_length, HX.out]) (by rw [wp.bc_length, HX.out]; rfl) wp.bc_one ?_ | refine wk.load_agg rfl 49 (.tmp 7) rfl _ rfl (wp.bc x) _ (wk.cells_new _ _ _) Try.underlying49 rfl (by rw [info55, wp.bc_length, HX.out]) ?_)
      refine (appendDigest_own B _ _ _ x _ HX.out (hown.alloc _) (by simp; have := HBW.out; omega) ?_).mono ?_
      · have h1 := HT.out
        have h2 := wp.flat_le id l (k + 1)
        rw [HS.out, List.length_append] at h2
        have h3 := HX.out
        unfold wp.encDs at h1
        rw [List.length_append, HN.out] at h1
        simp only [id] at h2
        omega
      rintro e w2 ⟨v2, rfl, hown2, hbel2⟩
      go_wp2_with fail
      go_roundg (gk - 1)
      case measure => have := HK.out; omega
      case rel =>
        refine ⟨k + 1, by have := HK.out; omega, by go_num, ?_, (hbel.alloc HBW.out _).trans hbel2⟩
        rw [HS.out, wp.bc_append, List.length_append, ← Nat.add_assoc, ← List.append_assoc]
        exact hown2
    · go_wp2_with fail
      go_ret
      have hkl : k = l.length := by have := HN.out; omega
      refine ⟨_, rfl, ?_, by rw [HB.out]; exact hbel⟩
      unfold wp.encDs
      rw [HB.out, wp.bc_append, List.length_append, HN.out]
      have : l.take k = l := by rw [hkl]; exact List.take_length
      rw [this] at hown
      exact hown
theorem digests_out (A : Option Addr) (n c : Nat) (l : List (List UInt8)) (w : World) (hn : l.length = n) (hnc : n ≤ c) (hc : c ≤ 9223372036854775807)
    (hl : wp.RC w A (l.flatMap wp.bc)) (h16 : ∀ d ∈ l, d.length = 16) (htot : (wp.encDs l).length + 10 ≤ 140737488355328) :
    Calls Try.prog 11 #[.slice A n c] w (OutB (wp.encDs l) w) := by
  have H := Lib.hid (listDigests A n c l w hn hnc hc hl h16 htot)
  clear hn hl h16 htot
  go_enter Try.func11, Try.ntmps11
  go_wp2_with fail
  refine H.out.mono ?_
  rintro e w1 ⟨v1, rfl, hown1, hbel1⟩
  go_wp2_with fail
  go_ret
  exact ⟨v1, rfl, hown1, hbel1⟩
end Go.Proofs.Ytgkhgbjfpmhbgab.wi
