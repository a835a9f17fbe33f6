import Derived.Test.YtgkhgbjfpmhbgaaCons
namespace Go.Proofs.Ytgkhgbjfpmhbgaa.wireCanonical
open Go.ChangeShapes Go.WideShapes Go.ChangeAt Go.RowKit
set_option linter.unusedVariables false

/-- what is carried on -/
structure Live (w : World) (A : Option Addr) (n c : Nat) (l : List UInt8) (AI : Option Addr) (li : List Int) (AS : Option Addr) (ls : List (List UInt8)) (AD : Option Addr) (ld : List (List UInt8)) : Prop where
  b : wo.IsB w A n c l
  i : wp.RC w AI (li.map (Value.int .i64))
  s : wp.RC w AS (ls.map fun s => Value.string ⟨s.toArray⟩)
  d : wp.RC w AD (ld.flatMap wp.bc)
theorem Live.below {w w' : World} {A : Option Addr} {n c : Nat} {l : List UInt8} {AI : Option Addr} {li : List Int} {AS : Option Addr} {ls : List (List UInt8)} {AD : Option Addr} {ld : List (List UInt8)}
    (h : Live w A n c l AI li AS ls AD ld) (hb : Below w.heap.size w w') : Live w' A n c l AI li AS ls AD ld := ⟨h.b.below hb, h.i.below hb, h.s.below hb, h.d.below hb⟩

set_option maxRecDepth 100000 in
set_option maxHeartbeats 1000000 in
theorem walk (w : World) {A : Option Addr} {n c : Nat} {l : List UInt8} (w1 : wo.IsB w A n c l) :
    Calls Try.prog 7 #[.slice A n c] w fun e w' => e = .returned (.bool true) ∧ Below w.heap.size w w' := by
  have HB := Lib.hid w1
  obtain ⟨hl, hnc, hc, hr⟩ := w1
  clear hr
  by_cases hm : 2000 < n
  · clear hl
    go_enter Try.func7, Try.ntmps7
    go_wp2_with fail
    refine (wi.sanity_true _).mono ?_
    rintro e w1 ⟨rfl, hb⟩
    go_wp2_with fail
    go_ret
    exact ⟨rfl, hb⟩
  · have hsz : l.length ≤ 2000 := by omega
    have f1 := wp.getI_facts l
    have f2 := wp.getB_facts l
    have o1 := Lib.hid (fun h => wp.getI_one l h)
    have o2 := Lib.hid (fun h => wp.getB_one l h)
    have o3 := Lib.hid (fun h => wp.getL_canon wp.getI_one 1 (by decide) l h)
    have o4 := Lib.hid (fun h => wp.getL_canon wp.getB_one 1 (by decide) l h)
    have o5 := Lib.hid (fun h => wp.getL_D_canon l h)
    have n3 := wp.getL_nonneg (fun l => (wp.getI_facts l).2.2.2.2.2.1) 1 (by decide) l
    have n4 := wp.getL_nonneg (fun l => (wp.getB_facts l).2.2.1) 1 (by decide) l
    have n5 := wp.getL_nonneg (one := wp.getD1) (fun l => Int.le_refl 0) 16 (by decide) l
    have e3 := wp.getL_err (one := wp.getI) 1 l
    have e4 := wp.getL_err (one := wp.getB) 1 l
    have e5 := wp.getL_err (one := wp.getD1) 16 l
    have b3 := Lib.hid (wp.getL_all (one := wp.getI) (p := fun x => -9223372036854775808 ≤ x ∧ x ≤ 9223372036854775807) (fun l => (⟨(wp.getI_facts l).1, (wp.getI_facts l).2.1⟩ : -9223372036854775808 ≤ (wp.getI l).1 ∧ (wp.getI l).1 ≤ 9223372036854775807)) 1 l)
    have s2 : (wp.encB (wp.getB l).1).length ≤ l.length + 1 := wp.small_of (l := l) (e := (wp.getB l).2.2) (u := (wp.getB l).2.1) (fun h => by rw [(f2.2.2.2.2.2 h).1]; simp [wp.encB, wp.one_zero]) (fun h => (o2.out h).2.2)
    have s3 : (wp.encIs (wp.getL wp.getI 1 l).1).length ≤ l.length + 1 := wp.small_of (l := l) (fun h => by rw [e3 h]; simp [wp.encIs, wp.one_zero]) (fun h => (o3.out h).1)
    have s4 : (wp.encI ((wp.getL wp.getB 1 l).1.length : Int) ++ (wp.getL wp.getB 1 l).1.flatMap wp.encB).length ≤ l.length + 1 := wp.small_of (l := l) (fun h => by rw [e4 h]; simp [wp.one_zero]) (fun h => (o4.out h).1)
    have s5 : (wp.encDs (wp.getL wp.getD1 16 l).1).length ≤ l.length + 1 := wp.small_of (l := l) (fun h => by rw [e5 h]; simp [wp.encDs, wp.one_zero]) (fun h => (o5.out h).1)
    have d16 : ∀ d ∈ (wp.getL wp.getD1 16 l).1, d.length = 16 := by
      by_cases h : (wp.getL wp.getD1 16 l).2.2 = 0
      · exact (o5.out h).2.2.2
      · rw [e5 h]; simp
    have es : (wp.getL wp.getB 1 l).1.map (fun s => Value.string ⟨s.toArray⟩) = ((wp.getL wp.getB 1 l).1.map fun s => (⟨s.toArray⟩ : ByteArray)).map Value.string := by simp
    have es2 : wp.encSs ((wp.getL wp.getB 1 l).1.map fun s => (⟨s.toArray⟩ : ByteArray)) = wp.encI ((wp.getL wp.getB 1 l).1.length : Int) ++ (wp.getL wp.getB 1 l).1.flatMap wp.encB := by simp [wp.encSs, List.flatMap_map]
    have C1 := Lib.hid (fun w h => wi.getInt_any A n c l w hnc hc hl h)
    have C2 := Lib.hid (fun w h => wi.getBytes_any A n c l w hnc hc hl h)
    have C3 := Lib.hid (fun w h => wi.getInts_any A n c l w hnc hc hl h (by omega))
    have C4 := Lib.hid (fun w h => wi.getStrings_any A n c l w hnc hc hl h (by omega))
    have C5 := Lib.hid (fun w h => wi.getDigests_any A n c l w hnc hc hl h (by omega))
    have E1 := Lib.hid (fun w => wi.int_out (wp.getI l).1 w f1.1 f1.2.1)
    have E2 := Lib.hid (fun w => wi.bytes_out ⟨(wp.getB l).1.toArray⟩ w (by have : (⟨(wp.getB l).1.toArray⟩ : ByteArray).size = (wp.getB l).1.length := rfl; rw [this]; have h := s2; unfold wp.encB at h; rw [List.length_append] at h; omega))
    have E3 := Lib.hid (fun A c w h1 h2 h3 => wi.ints_out A _ c (wp.getL wp.getI 1 l).1 w rfl h1 h2 h3 b3.out (by omega))
    have E4 := Lib.hid (fun A n c w hn h1 h2 h3 => wi.strings_out A n c ((wp.getL wp.getB 1 l).1.map fun s => (⟨s.toArray⟩ : ByteArray)) w hn h1 h2 h3 (by rw [es2]; omega))
    have E5 := Lib.hid (fun A c w h1 h2 h3 => wi.digests_out A _ c (wp.getL wp.getD1 16 l).1 w rfl h1 h2 h3 d16 (by omega))
    rw [es2] at E4
    have K1 : Hid ((wp.getI l).2.2 = 0 → 0 ≤ (wp.getI l).2.1 ∧ (wp.getI l).2.1 ≤ n ∧ l.take (wp.getI l).2.1.toNat = wp.encI (wp.getI l).1) := fun h => ⟨(o1.out h).1, by have := (o1.out h).2.1; omega, (o1.out h).2.2⟩
    have K2 : Hid ((wp.getB l).2.2 = 0 → 0 ≤ (wp.getB l).2.1 ∧ (wp.getB l).2.1 ≤ n ∧ l.take (wp.getB l).2.1.toNat = wp.encB (wp.getB l).1) := fun h => ⟨(o2.out h).1, by have := (o2.out h).2.1; omega, (o2.out h).2.2⟩
    have K3 : Hid ((wp.getL wp.getI 1 l).2.2 = 0 → 0 ≤ (wp.getL wp.getI 1 l).2.1 ∧ (wp.getL wp.getI 1 l).2.1 ≤ n ∧ l.take (wp.getL wp.getI 1 l).2.1.toNat = wp.encIs (wp.getL wp.getI 1 l).1) := fun h => ⟨(o3.out h).2.1, by have := (o3.out h).2.2; omega, (o3.out h).1⟩
    have K4 : Hid ((wp.getL wp.getB 1 l).2.2 = 0 → 0 ≤ (wp.getL wp.getB 1 l).2.1 ∧ (wp.getL wp.getB 1 l).2.1 ≤ n ∧ l.take (wp.getL wp.getB 1 l).2.1.toNat = wp.encI ((wp.getL wp.getB 1 l).1.length : Int) ++ (wp.getL wp.getB 1 l).1.flatMap wp.encB) := fun h => ⟨(o4.out h).2.1, by have := (o4.out h).2.2; omega, (o4.out h).1⟩
    have K5 : Hid ((wp.getL wp.getD1 16 l).2.2 = 0 → 0 ≤ (wp.getL wp.getD1 16 l).2.1 ∧ (wp.getL wp.getD1 16 l).2.1 ≤ n ∧ l.take (wp.getL wp.getD1 16 l).2.1.toNat = wp.encDs (wp.getL wp.getD1 16 l).1) := fun h => ⟨(o5.out h).2.1, by have := (o5.out h).2.2.1; omega, (o5.out h).1⟩
    have N1 := Lib.hid f1.2.2.2.2.2.1
    have N2 := Lib.hid f2.2.2.1
    have N3 := Lib.hid n3
    have N4 := Lib.hid n4
    have N5 := Lib.hid n5
    have ES := Lib.hid es
    clear o1 o2 o3 o4 o5 n3 n4 n5 e3 e4 e5 b3 s2 s3 s4 s5 d16 es es2 f1 f2 hl hsz
    generalize hTI : wp.encI (wp.getI l).1 = TI at *
    clear hTI
    generalize hTB : wp.encB (wp.getB l).1 = TB at *
    clear hTB
    generalize hTIs : wp.encIs (wp.getL wp.getI 1 l).1 = TIs at *
    clear hTIs
    generalize hTS : wp.encI ((wp.getL wp.getB 1 l).1.length : Int) ++ (wp.getL wp.getB 1 l).1.flatMap wp.encB = TS at *
    clear hTS
    generalize hTD : wp.encDs (wp.getL wp.getD1 16 l).1 = TD at *
    clear hTD
    generalize wp.getI l = r1 at *
    generalize wp.getB l = r2 at *
    generalize wp.getL wp.getI 1 l = r3 at *
    generalize wp.getL wp.getB 1 l = r4 at *
    generalize wp.getL wp.getD1 16 l = r5 at *
    obtain ⟨r1a, r1b, r1c⟩ := r1
    obtain ⟨r2a, r2b, r2c⟩ := r2
    obtain ⟨r3a, r3b, r3c⟩ := r3
    obtain ⟨r4a, r4b, r4c⟩ := r4
    obtain ⟨r5a, r5b, r5c⟩ := r5
    dsimp only at *
    go_enter Try.func7, Try.ntmps7
    go_wp2_with fail
    refine (C1.out w HB.out.2.2.2).mono ?_
    rintro e w1 ⟨rfl, rfl⟩
    go_wp2_with fail
    refine (C2.out w HB.out.2.2.2).mono ?_
    rintro e w1 ⟨rfl, rfl⟩
    go_wp2_with fail
    refine (C3.out w HB.out.2.2.2).mono ?_
    rintro e w1 ⟨v1, rfl, hown1, hb1⟩
    obtain ⟨AI, cI, rfl, hI1, hI2, hRI⟩ := wp.RC.of_own hown1
    have HB1 := Lib.hid (HB.out.below hb1)
    clear hown1
    go_wp2_with fail
    refine (C4.out w1 HB1.out.2.2.2).mono ?_
    rintro e w2 ⟨v2, rfl, hown2, hb2⟩
    obtain ⟨AS, cS, rfl, hS1, hS2, hRS⟩ := wp.RC.of_own hown2
    have HB2 := Lib.hid (HB1.out.below hb2)
    have hRI2 := hRI.below hb2
    clear hown2 hRI
    go_wp2_with fail
    refine (C5.out w2 HB2.out.2.2.2).mono ?_
    rintro e w3 ⟨v3, rfl, hown3, hb3⟩
    obtain ⟨AD, cD, rfl, hD1, hD2, hRD⟩ := wp.RC.of_own hown3
    have L3 : Live w3 A n c l AI r3a AS r4a AD r5a := ⟨HB2.out.below hb3, hRI2.below hb3, hRS.below hb3, hRD⟩
    have B3 : Below w.heap.size w w3 := (hb1.trans (hb2.mono hb1.size)).trans (hb3.mono (Nat.le_trans hb1.size hb2.size))
    clear hown3 hRI2 hRS hRD hb1 hb2 hb3 HB HB1 HB2 C1 C2 C3 C4 C5
    go_wp2_with fail
    refine (wi.sanity_true _).mono ?_
    rintro e w4 ⟨rfl, hb⟩
    have L4 := L3.below hb
    have B4 := B3.trans (hb.mono B3.size)
    clear L3 B3 hb
    go_wp2_with fail
    refine (E1.out w4).mono ?_
    rintro e w5 ⟨v5, rfl, hown5, hb⟩
    obtain ⟨A5, c5, rfl, _, _, hR5⟩ := wp.RC.of_own hown5
    have L5 := L4.below hb
    have B5 := B4.trans (hb.mono B4.size)
    clear L4 B4 hb hown5
    go_wp2_with fail
    refine (wi.consumed_any A A5 n c _ c5 l TI r1b r1c w5 L5.b N1.out rfl hR5.rb K1.out).mono ?_
    rintro e w6 ⟨rfl, rfl⟩
    clear hR5
    go_wp2_with fail
    refine (E2.out w5).mono ?_
    rintro e w6 ⟨v6, rfl, hown6, hb⟩
    obtain ⟨A6, c6, rfl, _, _, hR6⟩ := wp.RC.of_own hown6
    have L6 := L5.below hb
    have B6 := B5.trans (hb.mono B5.size)
    clear L5 B5 hb hown6
    go_wp2_with fail
    refine (wi.consumed_any A A6 n c _ c6 l TB r2b r2c w6 L6.b N2.out rfl hR6.rb K2.out).mono ?_
    rintro e w7 ⟨rfl, rfl⟩
    clear hR6
    go_wp2_with fail
    refine (E3.out AI cI w6 hI1 hI2 L6.i).mono ?_
    rintro e w7 ⟨v7, rfl, hown7, hb⟩
    obtain ⟨A7, c7, rfl, _, _, hR7⟩ := wp.RC.of_own hown7
    have L7 := L6.below hb
    have B7 := B6.trans (hb.mono B6.size)
    clear L6 B6 hb hown7
    go_wp2_with fail
    refine (wi.consumed_any A A7 n c _ c7 l TIs r3b r3c w7 L7.b N3.out rfl hR7.rb K3.out).mono ?_
    rintro e w8 ⟨rfl, rfl⟩
    clear hR7
    go_wp2_with fail
    refine (E4.out AS _ cS w7 (by rw [List.length_map]) hS1 hS2 (by rw [← ES.out]; exact L7.s)).mono ?_
    rintro e w8 ⟨v8, rfl, hown8, hb⟩
    obtain ⟨A8, c8, rfl, _, _, hR8⟩ := wp.RC.of_own hown8
    have L8 := L7.below hb
    have B8 := B7.trans (hb.mono B7.size)
    clear L7 B7 hb hown8
    go_wp2_with fail
    refine (wi.consumed_any A A8 n c _ c8 l TS r4b r4c w8 L8.b N4.out rfl hR8.rb K4.out).mono ?_
    rintro e w9 ⟨rfl, rfl⟩
    clear hR8
    go_wp2_with fail
    refine (E5.out AD cD w8 hD1 hD2 L8.d).mono ?_
    rintro e w9 ⟨v9, rfl, hown9, hb⟩
    obtain ⟨A9, c9, rfl, _, _, hR9⟩ := wp.RC.of_own hown9
    have L9 := L8.below hb
    have B9 := B8.trans (hb.mono B8.size)
    clear L8 B8 hb hown9
    go_wp2_with fail
    refine (wi.consumed_any A A9 n c _ c9 l TD r5b r5c w9 L9.b N5.out rfl hR9.rb K5.out).mono ?_
    rintro e w10 ⟨rfl, rfl⟩
    go_wp2_with fail
    go_ret
    exact ⟨rfl, B9⟩
end Go.Proofs.Ytgkhgbjfpmhbgaa.wireCanonical
