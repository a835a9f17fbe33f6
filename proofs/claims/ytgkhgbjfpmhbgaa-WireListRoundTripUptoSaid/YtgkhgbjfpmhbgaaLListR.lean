/- WireListRoundTrip: for every input that the row admits the call returns true and leaves what it was given as it was. Where what comes in is of bulk at most 1048576. -/
import Derived.Test.YtgkhgbjfpmhbgaaWListR
import Derived.Test.YtgkhgbjfpmhbgaaOpen
import Derived.Test.YtgkhgbjfpmhbgaaBulk
import Derived.OpenShut
import Derived.ShutString
import Derived.ChangeOld
import Derived.Below
import Derived.JoinedCond
namespace Go.Proofs.Ytgkhgbjfpmhbgaa.wireListRoundTrip
open Go.ChangeShapes Go.WideShapes Go.ChangeAt Go.RowKit
open Go.ChangeMaps (open_string shut_string)
set_option linter.unusedVariables false

theorem own : ownKnob Try.prog.godebug = none := by kernel_rfl
theorem laidOut : laidOutB Try.prog = true := by kernel_rfl

set_option maxRecDepth 100000 in
theorem lifted (os : Os) (started : os.Started) (H : Type) (enc : TypeId × Value → H) (F : Stop.Interp) :
    ReturnsInHanded {} Try.checked os 8 .any ((Rows.OpenSpec.upto Rows.wireListRoundTripSpec).pre6 enc Try.prog Try.f8 Rows.wireListRoundTripUptoRow.domain false) (((Rows.OpenSpec.upto Rows.wireListRoundTripSpec).at F).post enc Try.prog Try.f8 false true false false) := by
  refine returnsInHanded_of_cond (C := Try.checked) (s := Rows.OpenSpec.upto Rows.wireListRoundTripSpec) (k := Rows.uptoSmall) rfl own started (by kernel_rfl) Try.func8
    (OpenSpec.witness (enc := enc) (C := Try.checked) (s := Rows.OpenSpec.upto Rows.wireListRoundTripSpec) (k := Rows.uptoSmall) rfl false ⟨#[], #[.string .empty, .slice none 0 0, .slice none 0 0, .slice none 0 0, .slice none 0 0], []⟩ 8 (by kernel_rfl) (by kernel_rfl) (by kernel_rfl)
      (x := ([.lit (.string []), .nil, .nil, .nil, .nil], [], [])) (by kernel_rfl) rfl (by kernel_rfl)) ?_
  intro W base args ds gs before hval0 hW _ hk _
  have hval : ∀ (j : Nat) t v, Try.f8.params[j]? = some t → args[j]? = some v → Value.okWide Try.prog W .any base t v := hval0
  have hW' := hW
  obtain ⟨p, q, hA0, hV, rfl, hfz, hnd⟩ := hW
  have hA : DataW.TrodAll enc Try.prog W 0 (fun _ => true) true Try.f8.params.toList args.toList ds p := hA0
  rw [Try.params8] at hA hval
  obtain ⟨v0, vs0, d0, ds0, p0, q0, hargs, rfl, rfl, h0, r0⟩ := trodAll_cons hA
  obtain ⟨v1, vs1, d1, ds1, p1, q1, rfl, rfl, rfl, h1, r1⟩ := trodAll_cons r0
  obtain ⟨v2, vs2, d2, ds2, p2, q2, rfl, rfl, rfl, h2, r2⟩ := trodAll_cons r1
  obtain ⟨v3, vs3, d3, ds3, p3, q3, rfl, rfl, rfl, h3, r3⟩ := trodAll_cons r2
  obtain ⟨v4, vs4, d4, ds4, p4, q4, rfl, rfl, rfl, h4, r4⟩ := trodAll_cons r3
  obtain ⟨rfl, rfl, rfl⟩ := trodAll_nil r4
  obtain rfl : args = #[v0, v1, v2, v3, v4] := by cases args; simp_all
  obtain ⟨rfl, rfl⟩ := trodVars_none hV
  have hbulk : Rows.uptoBulkAll [d0, d1, d2, d3, d4] ≤ 1048576 := by
    have h : Rows.uptoSmall H ([d0, d1, d2, d3, d4] ++ []) = true := hk
    rw [List.append_nil] at h
    exact of_decide_eq_true h
  have _hb0 := hbulk
  obtain ⟨s0, rfl, rfl, rfl, w0⟩ := open_string Try.underlying9 (hval 0 9 v0 rfl rfl) h0
  have m0 : s0.size ≤ 1048576 := Nat.le_trans (wo.string_bulk (H := H) s0) (Nat.le_trans (wo.bulk_mem (by simp)) _hb0)
  obtain ⟨a1, n1, c1, rfl⟩ := okWide_slice Try.underlying22 (hval 1 22 v1 rfl rfl)
  have k1 := h1
  have lt1 : ∀ x ∈ p1, x.block < W.heap.size := by obtain ⟨m, hm⟩ := k1; exact DataW.trod_lt m _ _ _ hm
  obtain ⟨l1, w1⟩ : ∃ l, wo.IsI W a1 n1 c1 l := by obtain ⟨fuel, hf⟩ := h1; exact wo.openI Try.underlying22 Try.underlying3 (by kernel_rfl) (by simpa [Value.cells] using hf)
  have m1 : n1 ≤ 1048576 := by obtain ⟨fuel, hf⟩ := k1; exact Nat.le_trans (wo.slice_bulk Try.underlying22 (by simpa [Value.cells] using hf)) (Nat.le_trans (wo.bulk_mem (by simp)) hbulk)
  obtain ⟨a2, n2, c2, rfl⟩ := okWide_slice Try.underlying23 (hval 2 23 v2 rfl rfl)
  have k2 := h2
  have lt2 : ∀ x ∈ p2, x.block < W.heap.size := by obtain ⟨m, hm⟩ := k2; exact DataW.trod_lt m _ _ _ hm
  obtain ⟨l2, w2, u2⟩ : ∃ l, wo.IsS W a2 n2 c2 l ∧ wp.total l ≤ Rows.uptoBulk d2 := by obtain ⟨fuel, hf⟩ := h2; exact wo.openS_bulk Try.underlying23 Try.underlying9 (by kernel_rfl) (by simpa [Value.cells] using hf)
  have t2 : wp.total l2 ≤ 1048576 := Nat.le_trans u2 (Nat.le_trans (wo.bulk_mem (by simp)) hbulk)
  have m2 : n2 ≤ 1048576 := by obtain ⟨fuel, hf⟩ := k2; exact Nat.le_trans (wo.slice_bulk Try.underlying23 (by simpa [Value.cells] using hf)) (Nat.le_trans (wo.bulk_mem (by simp)) hbulk)
  obtain ⟨a3, n3, c3, rfl⟩ := okWide_slice Try.underlying24 (hval 3 24 v3 rfl rfl)
  have k3 := h3
  have lt3 : ∀ x ∈ p3, x.block < W.heap.size := by obtain ⟨m, hm⟩ := k3; exact DataW.trod_lt m _ _ _ hm
  obtain ⟨l3, w3⟩ : ∃ l, wo.IsD W a3 n3 c3 l := by obtain ⟨fuel, hf⟩ := h3; exact wo.openD Try.underlying24 Try.underlying55 Try.underlying5 (by kernel_rfl) (by kernel_rfl) (by simpa [Value.cells] using hf)
  have m3 : n3 ≤ 1048576 := by obtain ⟨fuel, hf⟩ := k3; exact Nat.le_trans (wo.slice_bulk Try.underlying24 (by simpa [Value.cells] using hf)) (Nat.le_trans (wo.bulk_mem (by simp)) hbulk)
  obtain ⟨a4, n4, c4, rfl⟩ := okWide_slice Try.underlying28 (hval 4 28 v4 rfl rfl)
  have k4 := h4
  have lt4 : ∀ x ∈ p4, x.block < W.heap.size := by obtain ⟨m, hm⟩ := k4; exact DataW.trod_lt m _ _ _ hm
  obtain ⟨l4, w4⟩ : ∃ l, wo.IsB W a4 n4 c4 l := by obtain ⟨fuel, hf⟩ := h4; exact wo.openB Try.underlying28 Try.underlying5 (by kernel_rfl) (by simpa [Value.cells] using hf)
  have m4 : n4 ≤ 1048576 := by obtain ⟨fuel, hf⟩ := k4; exact Nat.le_trans (wo.slice_bulk Try.underlying28 (by simpa [Value.cells] using hf)) (Nat.le_trans (wo.bulk_mem (by simp)) hbulk)
  clear hA0 hval0
  refine (walk W w0 m0 w1 m1 w2 t2 m2 w3 m3 w4 m4).mono fun e W' ⟨he, bel⟩ => ?_
  subst he
  exact ⟨_, rfl, _, _, _, [], _, [], hW', trodAll_mk1 (shut_bool Try.underlying4 _), (trodAll_cons_mk (shut_string Try.underlying9 w0) (trodAll_cons_mk (Below.trod laidOut (by kernel_rfl) (of_decide_eq_true (by kernel_rfl)) k1 bel lt1) (trodAll_cons_mk (Below.trod laidOut (by kernel_rfl) (of_decide_eq_true (by kernel_rfl)) k2 bel lt2) (trodAll_cons_mk (Below.trod laidOut (by kernel_rfl) (of_decide_eq_true (by kernel_rfl)) k3 bel lt3) (trodAll_cons_mk (Below.trod laidOut (by kernel_rfl) (of_decide_eq_true (by kernel_rfl)) k4 bel lt4) trodAll_mk0))))), rfl, bel.frame _, fun h => by cases h⟩

theorem proved : Rows.WireListRoundTripUptoSaid :=
  OpenClaim.holds_of_cond 8 Try.f8 rfl rfl rfl rfl rfl rfl rfl ⟨rfl, rfl, rfl, rfl, rfl⟩ rfl rfl rfl rfl rfl (by kernel_rfl) Try.func8 (by kernel_rfl)
    (of_decide_eq_true (by kernel_rfl)) (by unfold Func.isWrapper; first | (rw [if_pos (by decide +kernel)]; kernel_rfl) | (rw [if_neg (by decide +kernel)]; exact ⟨rfl, rfl⟩))
    (fun os started H enc _ F => lifted os started H enc F)
end Go.Proofs.Ytgkhgbjfpmhbgaa.wireListRoundTrip
