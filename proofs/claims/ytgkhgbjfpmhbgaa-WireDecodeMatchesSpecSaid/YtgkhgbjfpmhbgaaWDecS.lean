import Derived.Test.YtgkhgbjfpmhbgaaLive
import Derived.Test.YtgkhgbjfpmhbgaaCons
import Derived.Test.YtgkhgbjfpmhbgaaRDecD
namespace Go.Proofs.Ytgkhgbjfpmhbgaa.wireDecodeMatchesSpec
open Go.ChangeShapes Go.WideShapes Go.ChangeAt Go.RowKit
set_option linter.unusedVariables false

theorem len_getN {α : Type} {one : List UInt8 → α × Int × Int} (l : List UInt8) : ∀ (k : Nat) (acc : List α) (used : Int), (wp.getN one l k acc used).1.length ≤ acc.length + k
  | 0, acc, used => by simp [wp.getN]
  | k + 1, acc, used => by
    rw [wp.getN]
    split
    · simp
    · have := len_getN (one := one) l k (acc ++ [(one (l.drop used.toNat)).1]) (used + (one (l.drop used.toNat)).2.1)
      rw [List.length_append] at this
      simp only [List.length_cons, List.length_nil] at this
      omega
theorem len_getL {α : Type} {one : List UInt8 → α × Int × Int} (least : Nat) (h : 1 ≤ least) (l : List UInt8) : (wp.getL one least l).1.length ≤ l.length := by
  have hf := wp.getC_facts l least h
  unfold wp.getL
  split
  · simp
  · have := len_getN (one := one) l (wp.getC l least).1.toNat [] (wp.getC l least).2.1
    simp only [List.length_nil] at this
    omega

set_option maxRecDepth 100000 in
set_option maxHeartbeats 4000000 in
theorem walk (w : World) {A : Option Addr} {n c : Nat} {l : List UInt8} (w1 : wo.IsB w A n c l) :
    Calls Try.prog 4 #[.slice A n c] w fun e w' => e = .returned (.bool true) ∧ Below w.heap.size w w' := by
  obtain ⟨hl, hnc, hc, hr⟩ := w1
  by_cases hm : 2000 < n
  · clear hl hr
    go_enter Try.func4, Try.ntmps4
    go_wp2_with fail
    refine (wi.sanity_true _).mono ?_
    rintro e w1 ⟨rfl, hb⟩
    go_wp2_with fail
    go_ret
    exact ⟨rfl, hb⟩
  · have L0 : wp.LiveL w [(A, wp.bc l)] := wp.LiveL.nil.add hr.rc
    have d16 : ∀ d ∈ (wp.getL wp.getD1 16 l).1, d.length = 16 := by
      by_cases h : (wp.getL wp.getD1 16 l).2.2 = 0
      · exact (wp.getL_D_canon l h).2.2.2
      · rw [wp.getL_err 16 l h]; simp
    have D16 := Lib.hid d16
    have n3 : (wp.getL wp.getI 1 l).1.length ≤ 2000 := by have := len_getL (one := wp.getI) 1 (by decide) l; omega
    have n4 : (wp.getL wp.getB 1 l).1.length ≤ 2000 := by have := len_getL (one := wp.getB) 1 (by decide) l; omega
    have n5 : (wp.getL wp.getD1 16 l).1.length ≤ 2000 := by have := len_getL (one := wp.getD1) 16 (by decide) l; omega
    have C1 := Lib.hid (fun w h => wi.getInt_any A n c l w hnc hc hl h)
    have C2 := Lib.hid (fun w h => wi.getBytes_any A n c l w hnc hc hl h)
    have C3 := Lib.hid (fun w h => wi.getInts_any A n c l w hnc hc hl h (by omega))
    have C4 := Lib.hid (fun w h => wi.getStrings_any A n c l w hnc hc hl h (by omega))
    have C5 := Lib.hid (fun w h => wi.getDigests_any A n c l w hnc hc hl h (by omega))
    have R1 := Lib.hid (fun w h => wi.refGetInt_any A n c l w hnc hc hl h)
    have R2 := Lib.hid (fun w h => wi.refGetBytes_any A n c l w hnc hc hl h)
    have R3 := Lib.hid (fun w h => wi.refGetInts_any A n c l w hnc hc hl h (by omega))
    have R4 := Lib.hid (fun w h => wi.refGetStrings_any A n c l w hnc hc hl h (by omega))
    have R5 := Lib.hid (fun w h => wi.refGetDigests_any A n c l w hnc hc hl h (by omega))
    have ES : Hid ((wp.getL wp.getB 1 l).1.map (fun s => Value.string ⟨s.toArray⟩) = ((wp.getL wp.getB 1 l).1.map fun s => (⟨s.toArray⟩ : ByteArray)).map Value.string) := by show _ = _; simp
    clear d16 hl hr
    generalize wp.getI l = r1 at *
    generalize wp.getB l = r2 at *
    generalize wp.getL wp.getI 1 l = r3 at *
    generalize wp.getL wp.getB 1 l = r4 at *
    generalize wp.getL wp.getD1 16 l = r5 at *
    obtain ⟨r1a, r1b, r1c⟩ := r1
    obtain ⟨r2a, r2b, r2c⟩ := r2
    obtain ⟨r3a, r3b, r3c⟩ := r3
    obtain ⟨r4a, r4b, r4c⟩ := r4
    obtain ⟨r5a, r5b, r5c⟩ := r5
    dsimp only at *
    obtain ⟨k3, hk3⟩ : ∃ k, k = r3a.length := ⟨_, rfl⟩
    obtain ⟨k4, hk4⟩ : ∃ k, k = r4a.length := ⟨_, rfl⟩
    obtain ⟨k5, hk5⟩ : ∃ k, k = r5a.length := ⟨_, rfl⟩
    rw [← hk3] at n3
    rw [← hk4] at n4
    rw [← hk5] at n5
    have K3 := Lib.hid hk3
    have K4 := Lib.hid hk4
    have K5 := Lib.hid hk5
    clear hk3 hk4 hk5
    go_enter Try.func4, Try.ntmps4
    go_wp2_with fail
    refine (C1.out w (L0.get 0 rfl).rb).mono ?_
    rintro e w1 ⟨rfl, rfl⟩
    go_wp2_with fail
    refine (R1.out w (L0.get 0 rfl).rb).mono ?_
    rintro e w1 ⟨rfl, rfl⟩
    go_wp2_with fail
    refine (C2.out w (L0.get 0 rfl).rb).mono ?_
    rintro e w1 ⟨rfl, rfl⟩
    go_wp2_with fail
    refine (R2.out w (L0.get 0 rfl).rb).mono ?_
    rintro e w1 ⟨rfl, rfl⟩
    go_wp2_with fail
    refine (C3.out w (L0.get 0 rfl).rb).mono ?_
    rintro e w1 ⟨v1, rfl, hown, hb⟩
    obtain ⟨A1, c1, rfl, hc1, _, hR⟩ := wp.RC.of_own hown
    rw [← K3.out] at hc1 ⊢
    have L1 := (L0.below hb).add hR
    have B1 : Below w.heap.size w w1 := hb
    clear hown hb hR L0
    go_wp2_with fail
    refine (R3.out w1 (L1.get 1 rfl).rb).mono ?_
    rintro e w2 ⟨v2, rfl, hown, hb⟩
    obtain ⟨A2, c2, rfl, hc2, _, hR⟩ := wp.RC.of_own hown
    rw [← K3.out] at hc2 ⊢
    have L2 := (L1.below hb).add hR
    have B2 := B1.trans (hb.mono B1.size)
    clear hown hb hR L1 B1
    go_wp2_with fail
    refine (wi.sameInts_true A1 A2 k3 c1 c2 r3a w2 K3.out.symm (by omega) (L2.get 1 rfl) (L2.get 0 rfl)).mono ?_
    rintro e w3 ⟨rfl, q3, rfl⟩
    have L3 := L2.drewN q3
    have B3 := wi.below_drewN B2 q3
    generalize hW3 : w2.drewN q3 = w3 at *
    clear hW3 L2 B2
    go_wp2_with fail
    refine (C4.out w3 (L3.get 2 rfl).rb).mono ?_
    rintro e w4 ⟨v4, rfl, hown, hb⟩
    obtain ⟨A4, c4, rfl, hc4, _, hR⟩ := wp.RC.of_own hown
    rw [← K4.out] at hc4 ⊢
    have L4 := (L3.below hb).add hR
    have B4 := B3.trans (hb.mono B3.size)
    clear hown hb hR L3 B3
    go_wp2_with fail
    refine (R4.out w4 (L4.get 3 rfl).rb).mono ?_
    rintro e w5 ⟨v5, rfl, hown, hb⟩
    obtain ⟨A5, c5, rfl, hc5, _, hR⟩ := wp.RC.of_own hown
    rw [← K4.out] at hc5 ⊢
    have L5 := (L4.below hb).add hR
    have B5 := B4.trans (hb.mono B4.size)
    clear hown hb hR L4 B4
    go_wp2_with fail
    refine (wi.sameTexts_true A4 A5 k4 c4 c5 (r4a.map fun s => (⟨s.toArray⟩ : ByteArray)) w5 (by rw [List.length_map]; exact K4.out.symm) (by omega) (by rw [← ES.out]; exact L5.get 1 rfl) (by rw [← ES.out]; exact L5.get 0 rfl)).mono ?_
    rintro e w6 ⟨rfl, q6, rfl⟩
    have L6 := L5.drewN q6
    have B6 := wi.below_drewN B5 q6
    generalize hW6 : w5.drewN q6 = w6 at *
    clear hW6 L5 B5
    go_wp2_with fail
    refine (C5.out w6 (L6.get 4 rfl).rb).mono ?_
    rintro e w7 ⟨v7, rfl, hown, hb⟩
    obtain ⟨A7, c7, rfl, hc7, _, hR⟩ := wp.RC.of_own hown
    rw [← K5.out] at hc7 ⊢
    have L7 := (L6.below hb).add hR
    have B7 := B6.trans (hb.mono B6.size)
    clear hown hb hR L6 B6
    go_wp2_with fail
    refine (R5.out w7 (L7.get 5 rfl).rb).mono ?_
    rintro e w8 ⟨v8, rfl, hown, hb⟩
    obtain ⟨A8, c8, rfl, hc8, _, hR⟩ := wp.RC.of_own hown
    rw [← K5.out] at hc8 ⊢
    have L8 := (L7.below hb).add hR
    have B8 := B7.trans (hb.mono B7.size)
    clear hown hb hR L7 B7
    go_wp2_with fail
    refine (wi.sanity_true _).mono ?_
    rintro e w9 ⟨rfl, hb⟩
    have L9 := L8.below hb
    have B9 := B8.trans (hb.mono B8.size)
    clear hb L8 B8
    go_wp2_with fail
    refine (wi.sameDigests_true A7 A8 k5 c7 c8 r5a w9 K5.out.symm (by omega) (L9.get 1 rfl) (L9.get 0 rfl) D16.out).mono ?_
    rintro e w10 ⟨rfl, q10, rfl⟩
    go_wp2_with fail
    go_ret
    exact ⟨rfl, wi.below_drewN B9 _⟩
end Go.Proofs.Ytgkhgbjfpmhbgaa.wireDecodeMatchesSpec
