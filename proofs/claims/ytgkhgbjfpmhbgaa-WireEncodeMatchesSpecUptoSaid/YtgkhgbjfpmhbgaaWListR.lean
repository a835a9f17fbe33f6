import Derived.Test.YtgkhgbjfpmhbgaaLive
namespace Go.Proofs.Ytgkhgbjfpmhbgaa.wireListRoundTrip
open Go.ChangeShapes Go.WideShapes Go.ChangeAt Go.RowKit
set_option linter.unusedVariables false

/-- a row of the call's own, cut to its length -/
theorem cut_own {w1 : World} {A : Option Addr} {l : List UInt8} {k c : Nat} (hr : wp.RB w1 A l) (hk : k = l.length) (hp : 1 ≤ k) (hc : k ≤ c) :
    ∃ ad, A = some ad ∧ ∀ w', (Instr.slice 28 (.slice (some ad) k c) none (some (.int .i64 (k : Int))) (some (.int .i64 (k : Int)))).run Try.prog w' = .ok (.slice (some ad) k k) w' := by
  obtain ⟨b, o, rfl, _, _⟩ := hr (by omega)
  exact ⟨_, rfl, fun w' => wk.run_cut_full (P := Try.prog) w' 28 5 Try.underlying28 wi.size5 ⟨b, o, none⟩ k c hc⟩

theorem len_ints (l : List Int) (h : ∀ x ∈ l, -9223372036854775808 ≤ x ∧ x ≤ 9223372036854775807) (hl : l.length ≤ 9223372036854775807) : (wp.encIs l).length ≤ 10 + 10 * l.length := by
  have key : ∀ l : List Int, (∀ x ∈ l, -9223372036854775808 ≤ x ∧ x ≤ 9223372036854775807) → (l.flatMap wp.encI).length ≤ 10 * l.length := by
    intro l
    induction l with
    | nil => intro _; simp
    | cons x r ih =>
      intro hx
      have h1 := ih fun y hy => hx y (List.mem_cons_of_mem _ hy)
      have h2 := wp.encI_length (hx x List.mem_cons_self).1 (hx x List.mem_cons_self).2
      simp only [List.flatMap_cons, List.length_append, List.length_cons]
      omega
  have h1 := key l h
  have h2 := wp.encI_length (n := (l.length : Int)) (by omega) (by omega)
  unfold wp.encIs
  rw [List.length_append]
  omega
theorem len_digs (l : List (List UInt8)) (h : ∀ d ∈ l, d.length = 16) (hl : l.length ≤ 9223372036854775807) : (wp.encDs l).length ≤ 10 + 16 * l.length := by
  have key : ∀ l : List (List UInt8), (∀ d ∈ l, d.length = 16) → (l.flatMap id).length = 16 * l.length := by
    intro l
    induction l with
    | nil => intro _; simp
    | cons x r ih =>
      intro hx
      have h1 := ih fun y hy => hx y (List.mem_cons_of_mem _ hy)
      have h2 := hx x List.mem_cons_self
      simp only [List.flatMap_cons, List.length_append, List.length_cons, h1, id]
      omega
  have h1 := key l h
  have h2 := wp.encI_length (n := (l.length : Int)) (by omega) (by omega)
  unfold wp.encDs
  rw [List.length_append]
  omega

theorem round_ints (l : List Int) (h : ∀ x ∈ l, -9223372036854775808 ≤ x ∧ x ≤ 9223372036854775807) (hl : l.length ≤ 9223372036854775807) (t : List UInt8) : wp.getL wp.getI 1 (wp.encIs l ++ t) = (l, ((wp.encIs l).length : Int), 0) :=
  wp.getL_round l 1 (by decide) hl (fun x _ => wp.encI_pos x) (fun x hx t => wp.getI_encI (h x hx).1 (h x hx).2 t) t
theorem encB_pos (s : List UInt8) : 1 ≤ (wp.encB s).length := by
  unfold wp.encB; rw [List.length_append]; have := wp.encI_pos (s.length : Int); omega
theorem round_strs (l : List ByteArray) (h : ∀ s ∈ l, s.size ≤ 9223372036854775807) (hl : l.length ≤ 9223372036854775807) (t : List UInt8) : wp.getL wp.getB 1 (wp.encSs l ++ t) = (l.map fun s => s.data.toList, ((wp.encSs l).length : Int), 0) := by
  rw [wp.encSs_eq]
  have hl' : (l.map fun s => s.data.toList).length ≤ 9223372036854775807 := by rw [List.length_map]; exact hl
  have h' : ∀ x ∈ (l.map fun s => s.data.toList), x.length ≤ 9223372036854775807 := fun x hx => by
    obtain ⟨s, hs, rfl⟩ := List.mem_map.1 hx
    have := h s hs
    have h5 : s.data.toList.length = s.size := by rw [Array.length_toList]; rfl
    omega
  generalize (l.map fun s => s.data.toList) = xs at *
  exact wp.getL_round (one := wp.getB) (enc := wp.encB) xs 1 (by decide) hl' (fun x _ => encB_pos x) (fun x hx t => wp.getB_round x t (h' x hx)) t
theorem round_digs (l : List (List UInt8)) (h : ∀ d ∈ l, d.length = 16) (hl : l.length ≤ 9223372036854775807) (t : List UInt8) : wp.getL wp.getD1 16 (wp.encDs l ++ t) = (l, ((wp.encDs l).length : Int), 0) :=
  wp.getL_round l 16 (by decide) hl (fun x hx => by rw [id, h x hx]; exact Nat.le_refl _) (fun x hx t => wp.getD1_round x t (h x hx)) t

set_option maxRecDepth 100000 in
set_option maxHeartbeats 4000000 in
theorem walk (w : World) {s : ByteArray} {A1 : Option Addr} {n1 c1 : Nat} {li : List Int} {A2 : Option Addr} {n2 c2 : Nat} {ls : List ByteArray} {A3 : Option Addr} {n3 c3 : Nat} {ld : List (List UInt8)} {A4 : Option Addr} {n4 c4 : Nat} {t : List UInt8}
    (_w0 : s.size ≤ maxLen) (m0 : s.size ≤ 1048576) (w1 : wo.IsI w A1 n1 c1 li) (m1 : n1 ≤ 1048576) (w2 : wo.IsS w A2 n2 c2 ls) (t2 : wp.total ls ≤ 1048576) (m2 : n2 ≤ 1048576) (w3 : wo.IsD w A3 n3 c3 ld) (m3 : n3 ≤ 1048576) (w4 : wo.IsB w A4 n4 c4 t) (m4 : n4 ≤ 1048576) :
    Calls Try.prog 8 #[.string s, .slice A1 n1 c1, .slice A2 n2 c2, .slice A3 n3 c3, .slice A4 n4 c4] w fun e w' => e = .returned (.bool true) ∧ Below w.heap.size w w' := by
  have HF := Lib.hid (wi.few_any A2 n2 c2 ls w w2 (by omega))
  obtain ⟨hl1, hn1, hc1, hr1, hwf⟩ := w1
  obtain ⟨hl2, hn2, hc2, hr2, hss⟩ := w2
  obtain ⟨hl3, hn3, hc3, hr3, h16⟩ := w3
  obtain ⟨hl4, hn4, hc4, hr4⟩ := w4
  by_cases hb : 2000 < s.size + n1 + n3 + n4
  · clear hl1 hl2 hl3 hl4 hr1 hr2 hr3 hr4 hwf hss h16 t2 HF
    go_enter Try.func8, Try.ntmps8
    go_wp2_with fail
    refine (wi.sanity_true _).mono ?_
    rintro e w5 ⟨rfl, hbl⟩
    go_wp2_with fail
    go_ret
    exact ⟨rfl, hbl⟩
  · by_cases hf : wp.total ls ≤ 2000
    · have hff : decide ((wp.total ls : Int) ≤ 2000) = true := by simp; omega
      rw [hff] at HF
      have hs1 : ∀ s ∈ ls, s.size ≤ 9223372036854775807 := fun s hs => by have := hss s hs; unfold maxLen at this; exact this
      have b0 := congrArg List.length (wp.encB_eq s)
      have b0' := wp.encI_length (n := (s.size : Int)) (by omega) (by omega)
      have b0'' : s.data.toList.length = s.size := by rw [Array.length_toList]; rfl
      rw [List.length_append, b0''] at b0
      have b1 := len_ints li hwf (by omega)
      have b3 := len_digs ld h16 (by omega)
      have b2 : (wp.encSs ls).length ≤ 10 + 10 * ls.length + wp.total ls := by
        rcases wp.total_flat ls with h | ⟨s, hs, h⟩
        · exact h
        · have := hs1 s hs; omega
      have p0 := encB_pos s.data.toList
      have p1 : 1 ≤ (wp.encIs li).length := by unfold wp.encIs; rw [List.length_append]; have := wp.encI_pos (li.length : Int); omega
      have p2 : 1 ≤ (wp.encSs ls).length := by unfold wp.encSs; rw [List.length_append]; have := wp.encI_pos (ls.length : Int); omega
      have p3 : 1 ≤ (wp.encDs ld).length := by unfold wp.encDs; rw [List.length_append]; have := wp.encI_pos (ld.length : Int); omega
      have R0 := Lib.hid (wp.getB_round s.data.toList t (by omega))
      have R1 := Lib.hid (round_ints li hwf (by omega) t)
      have R2 := Lib.hid (round_strs ls hs1 (by omega) t)
      have R3 := Lib.hid (round_digs ld h16 (by omega) t)
      have E0 := Lib.hid (fun w => wi.bytes_out s w (by omega))
      have E1 := Lib.hid (fun w h => wi.ints_out A1 n1 c1 li w hl1 hn1 hc1 h hwf (by omega))
      have E2 := Lib.hid (fun w h => wi.strings_out A2 n2 c2 ls w hl2 hn2 hc2 h (by omega))
      have E3 := Lib.hid (fun w h => wi.digests_out A3 n3 c3 ld w hl3 hn3 hc3 h h16 (by omega))
      have L0 : wp.LiveL w [(A1, li.map (Value.int .i64)), (A2, ls.map Value.string), (A3, ld.flatMap wp.bc), (A4, wp.bc t)] := (((wp.LiveL.nil.add hr4.rc).add hr3).add hr2).add hr1
      have HL1 := Lib.hid hl1
      have HL2 := Lib.hid hl2
      have HL3 := Lib.hid hl3
      have HL4 := Lib.hid hl4
      have H16 := Lib.hid h16
      have hsum : s.size + n1 + n3 + n4 ≤ 2000 := by omega
      have hn2' : n2 ≤ 2000 := by unfold wp.total at hf; omega
      obtain ⟨k0, hk0⟩ : ∃ k, k = (wp.encB s.data.toList).length := ⟨_, rfl⟩
      obtain ⟨k1, hk1⟩ : ∃ k, k = (wp.encIs li).length := ⟨_, rfl⟩
      obtain ⟨k2, hk2⟩ : ∃ k, k = (wp.encSs ls).length := ⟨_, rfl⟩
      obtain ⟨k3, hk3⟩ : ∃ k, k = (wp.encDs ld).length := ⟨_, rfl⟩
      have q0 : 1 ≤ k0 ∧ k0 ≤ 50000 := by omega
      have q1 : 1 ≤ k1 ∧ k1 ≤ 50000 := by omega
      have q2 : 1 ≤ k2 ∧ k2 ≤ 50000 := by omega
      have q3 : 1 ≤ k3 ∧ k3 ≤ 50000 := by omega
      have K0 := Lib.hid hk0
      have K1 := Lib.hid hk1
      have K2 := Lib.hid hk2
      have K3 := Lib.hid hk3
      clear hff hs1 b0 b0' b0'' b1 b2 b3 p0 p1 p2 p3 hl1 hl2 hl3 hl4 hr1 hr2 hr3 hr4 hwf hss h16 t2 hf hk0 hk1 hk2 hk3 m0 m1 m2 m3 m4 hb
      generalize wp.encB s.data.toList = T0 at *
      generalize wp.encIs li = T1 at *
      generalize wp.encSs ls = T2 at *
      generalize wp.encDs ld = T3 at *
      go_enter Try.func8, Try.ntmps8
      go_wp2_with fail
      refine HF.out.mono ?_
      rintro e w5 ⟨rfl, rfl⟩
      go_wp2_with fail
      refine (E0.out w).mono ?_
      rintro e w5 ⟨v5, rfl, hown, hbl⟩
      obtain ⟨A5, c5, rfl, hc5, _, hR⟩ := wp.RC.of_own hown
      rw [← K0.out] at hc5 ⊢
      have L5 := (L0.below hbl).add hR
      have B5 : Below w.heap.size w w5 := hbl
      clear hown hbl hR L0 E0
      go_wp2_with fail
      refine (E1.out w5 (L5.get 1 rfl)).mono ?_
      rintro e w6 ⟨v6, rfl, hown, hbl⟩
      obtain ⟨A6, c6, rfl, hc6, _, hR⟩ := wp.RC.of_own hown
      rw [← K1.out] at hc6 ⊢
      have L6 := (L5.below hbl).add hR
      have B6 := B5.trans (hbl.mono B5.size)
      clear hown hbl hR L5 B5 E1
      go_wp2_with fail
      refine (E3.out w6 (L6.get 4 rfl)).mono ?_
      rintro e w7 ⟨v7, rfl, hown, hbl⟩
      obtain ⟨A7, c7, rfl, hc7, _, hR⟩ := wp.RC.of_own hown
      rw [← K3.out] at hc7 ⊢
      have L7 := (L6.below hbl).add hR
      have B7 := B6.trans (hbl.mono B6.size)
      clear hown hbl hR L6 B6 E3
      go_wp2_with fail
      refine (E2.out w7 (L7.get 4 rfl)).mono ?_
      rintro e w8 ⟨v8, rfl, hown, hbl⟩
      obtain ⟨A8, c8, rfl, hc8, _, hR⟩ := wp.RC.of_own hown
      rw [← K2.out] at hc8 ⊢
      have L8 := (L7.below hbl).add hR
      have B8 := B7.trans (hbl.mono B7.size)
      clear hown hbl hR L7 B7 E2
      obtain ⟨a8, rfl, hcut8⟩ := cut_own (L8.get 0 rfl).rb K2.out q2.1 hc8
      obtain ⟨a7, rfl, hcut7⟩ := cut_own (L8.get 1 rfl).rb K3.out q3.1 hc7
      obtain ⟨a6, rfl, hcut6⟩ := cut_own (L8.get 2 rfl).rb K1.out q1.1 hc6
      obtain ⟨a5, rfl, hcut5⟩ := cut_own (L8.get 3 rfl).rb K0.out q0.1 hc5
      clear hcut6 hcut7 hcut8
      go_wp2_with (at_builtin; refine wk.append_full _ rfl _ _ 28 rfl 5 Try.underlying28 wi.info5 _ _ k0 n4 c4 T0 t rfl rfl K0.out.symm HL4.out (L8.get 3 rfl).rb (L8.get 7 rfl).rb ?_ ?_)
      · omega
      intro A9 c9 w9 hc91 hc92 hR9 hbl
      have L9 := L8.below hbl
      have B9 := B8.trans (hbl.mono B8.size)
      have HC := Lib.hid (wi.getBytes_any A9 (k0 + n4) c9 (T0 ++ t) w9 hc91 hc92 (by rw [List.length_append, ← K0.out, HL4.out]) hR9)
      rw [R0.out, ← K0.out] at HC
      clear hcut5 hR9 L8 B8 hbl
      go_wp2_with fail
      refine HC.out.mono ?_
      rintro e w10 ⟨rfl, rfl⟩
      clear HC R0
      obtain ⟨a6', ha6, hcut6⟩ := cut_own (L9.get 2 rfl).rb K1.out q1.1 hc6
      cases ha6
      go_wp2_with (at_builtin; refine wk.append_full _ rfl _ _ 28 rfl 5 Try.underlying28 wi.info5 _ _ k1 n4 c4 T1 t rfl rfl K1.out.symm HL4.out (L9.get 2 rfl).rb (L9.get 7 rfl).rb ?_ ?_)
      · omega
      intro A10 c10 w10 hc101 hc102 hR10 hbl
      have L10 := L9.below hbl
      have B10 := B9.trans (hbl.mono B9.size)
      have HC := Lib.hid (wi.getInts_any A10 (k1 + n4) c10 (T1 ++ t) w10 hc101 hc102 (by rw [List.length_append, ← K1.out, HL4.out]) hR10 (by omega))
      rw [R1.out, ← K1.out] at HC
      clear hcut6 hR10 L9 B9 hbl
      go_wp2_with fail
      refine HC.out.mono ?_
      rintro e w11 ⟨v11, rfl, hown, hbl⟩
      obtain ⟨A11, c11, rfl, hc111, _, hR⟩ := wp.RC.of_own hown
      have L11 := (L10.below hbl).add hR
      have B11 := B10.trans (hbl.mono B10.size)
      dsimp only at hc111 ⊢
      rw [HL1.out] at hc111 ⊢
      clear HC R1 hown hbl hR L10 B10
      obtain ⟨a7', ha7, hcut7⟩ := cut_own (L11.get 2 rfl).rb K3.out q3.1 hc7
      cases ha7
      go_wp2_with (at_builtin; refine wk.append_full _ rfl _ _ 28 rfl 5 Try.underlying28 wi.info5 _ _ k3 n4 c4 T3 t rfl rfl K3.out.symm HL4.out (L11.get 2 rfl).rb (L11.get 8 rfl).rb ?_ ?_)
      · omega
      intro A12 c12 w12 hc121 hc122 hR12 hbl
      have L12 := L11.below hbl
      have B12 := B11.trans (hbl.mono B11.size)
      have HC := Lib.hid (wi.getDigests_any A12 (k3 + n4) c12 (T3 ++ t) w12 hc121 hc122 (by rw [List.length_append, ← K3.out, HL4.out]) hR12 (by omega))
      rw [R3.out, ← K3.out] at HC
      clear hcut7 hR12 L11 B11 hbl
      go_wp2_with fail
      refine HC.out.mono ?_
      rintro e w13 ⟨v13, rfl, hown, hbl⟩
      obtain ⟨A13, c13, rfl, hc131, _, hR⟩ := wp.RC.of_own hown
      have L13 := (L12.below hbl).add hR
      have B13 := B12.trans (hbl.mono B12.size)
      dsimp only at hc131 ⊢
      rw [HL3.out] at hc131 ⊢
      clear HC R3 hown hbl hR L12 B12
      obtain ⟨a8', ha8, hcut8⟩ := cut_own (L13.get 2 rfl).rb K2.out q2.1 hc8
      cases ha8
      go_wp2_with (at_builtin; refine wk.append_full _ rfl _ _ 28 rfl 5 Try.underlying28 wi.info5 _ _ k2 n4 c4 T2 t rfl rfl K2.out.symm HL4.out (L13.get 2 rfl).rb (L13.get 9 rfl).rb ?_ ?_)
      · omega
      intro A14 c14 w14 hc141 hc142 hR14 hbl
      have L14 := L13.below hbl
      have B14 := B13.trans (hbl.mono B13.size)
      have HC := Lib.hid (wi.getStrings_any A14 (k2 + n4) c14 (T2 ++ t) w14 hc141 hc142 (by rw [List.length_append, ← K2.out, HL4.out]) hR14 (by omega))
      rw [R2.out, ← K2.out] at HC
      clear hcut8 hR14 L13 B13 hbl
      go_wp2_with fail
      refine HC.out.mono ?_
      rintro e w15 ⟨v15, rfl, hown, hbl⟩
      obtain ⟨A15, c15, rfl, hc151, _, hR⟩ := wp.RC.of_own hown
      dsimp only at hR hc151 ⊢
      rw [wp.strs_eq] at hR
      rw [List.length_map, HL2.out] at hc151 ⊢
      have L15 := (L14.below hbl).add hR
      have B15 := B14.trans (hbl.mono B14.size)
      clear HC R2 hown hbl hR L14 B14
      go_wp2_with fail
      refine (wi.sanity_true _).mono ?_
      rintro e w16 ⟨rfl, hbl⟩
      have L16 := L15.below hbl
      have B16 := B15.trans (hbl.mono B15.size)
      clear hbl L15 B15
      go_wp2_with fail
      refine (wi.sameTexts_true A15 A2 n2 c15 c2 ls w16 HL2.out (by omega) (L16.get 0 rfl) (L16.get 8 rfl)).mono ?_
      rintro e w17 ⟨rfl, q17, rfl⟩
      go_wp2_with fail
      refine (wi.sameInts_true A11 A1 n1 c11 c1 li _ HL1.out (by omega) ((L16.drewN q17).get 2 rfl) ((L16.drewN q17).get 7 rfl)).mono ?_
      rintro e w18 ⟨rfl, q18, rfl⟩
      go_wp2_with fail
      refine (wi.sameDigests_true A13 A3 n3 c13 c3 ld _ HL3.out (by omega) ((L16.drewN (q17 + q18)).get 1 rfl) ((L16.drewN (q17 + q18)).get 9 rfl) H16.out).mono ?_
      rintro e w19 ⟨rfl, q19, rfl⟩
      go_wp2_with fail
      go_ret
      exact ⟨rfl, wi.below_drewN B16 _⟩
    · have hff : decide ((wp.total ls : Int) ≤ 2000) = false := by simp; omega
      rw [hff] at HF
      clear hl1 hl2 hl3 hl4 hr1 hr2 hr3 hr4 hwf hss h16 t2 hf hff
      go_enter Try.func8, Try.ntmps8
      go_wp2_with fail
      refine HF.out.mono ?_
      rintro e w5 ⟨rfl, rfl⟩
      go_wp2_with fail
      refine (wi.sanity_true _).mono ?_
      rintro e w5 ⟨rfl, hbl⟩
      go_wp2_with fail
      go_ret
      exact ⟨rfl, hbl⟩
end Go.Proofs.Ytgkhgbjfpmhbgaa.wireListRoundTrip
