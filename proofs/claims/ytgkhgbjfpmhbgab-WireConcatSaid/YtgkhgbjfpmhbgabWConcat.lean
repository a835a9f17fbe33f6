import Derived.Test.YtgkhgbjfpmhbgabLive
namespace Go.Proofs.Ytgkhgbjfpmhbgab.wireConcat
open Go.ChangeShapes Go.WideShapes Go.ChangeAt Go.RowKit
set_option linter.unusedVariables false

theorem len_ints (l : List Int) (h : ∀ x ∈ l, -9223372036854775808 ≤ x ∧ x ≤ 9223372036854775807) (hl : l.length ≤ 9223372036854775807) : (wp.encIs l).length ≤ 10 + 10 * l.length := by
  have key : ∀ l : List Int, (∀ x ∈ l, -9223372036854775808 ≤ x ∧ x ≤ 9223372036854775807) → (l.flatMap wp.encI).length ≤ 10 * l.length := by
    intro l
    induction l with
    | nil => intro _; simp
    | cons x r ih =>
      intro hx
      have h1 := ih fun y hy => hx y (List.mem_cons_of_mem _ hy)
      have h2 := wp.encI_length (hx x List.mem_cons_self).1 (hx x List.mem_cons_self).2
      simp only [List.flatMap_cons, List.length_append, List.length_cons]
      omega
  have h1 := key l h
  have h2 := wp.encI_length (n := (l.length : Int)) (by omega) (by omega)
  unfold wp.encIs
  rw [List.length_append]
  omega
theorem round_ints (l : List Int) (h : ∀ x ∈ l, -9223372036854775808 ≤ x ∧ x ≤ 9223372036854775807) (hl : l.length ≤ 9223372036854775807) (t : List UInt8) : wp.getL wp.getI 1 (wp.encIs l ++ t) = (l, ((wp.encIs l).length : Int), 0) :=
  wp.getL_round l 1 (by decide) hl (fun x _ => wp.encI_pos x) (fun x hx t => wp.getI_encI (h x hx).1 (h x hx).2 t) t

set_option maxRecDepth 100000 in
set_option maxHeartbeats 2000000 in
theorem walk (w : World) {s : ByteArray} {A1 : Option Addr} {n1 c1 : Nat} {li : List Int} (_w0 : s.size ≤ maxLen) (m0 : s.size ≤ 140737488351232) (w1 : wo.IsI w A1 n1 c1 li) (m1 : n1 ≤ 140737488351232) :
    Calls Try.prog 4 #[.string s, .slice A1 n1 c1] w fun e w' => e = .returned (.bool true) ∧ Below w.heap.size w w' := by
  obtain ⟨hl1, hn1, hc1, hr1, hwf⟩ := w1
  by_cases hb : 2000 < s.size + n1
  · clear hl1 hr1 hwf
    go_enter Try.func4, Try.ntmps4
    go_wp2_with fail
    refine (wi.sanity_true _).mono ?_
    rintro e w5 ⟨rfl, hbl⟩
    go_wp2_with fail
    go_ret
    exact ⟨rfl, hbl⟩
  · obtain ⟨i0, hi, hz0, hz1, hz2⟩ := info_parts wi.info5
    have b0 := congrArg List.length (wp.encB_eq s)
    have b0' := wp.encI_length (n := (s.size : Int)) (by omega) (by omega)
    have b0'' : s.data.toList.length = s.size := by rw [Array.length_toList]; rfl
    rw [List.length_append, b0''] at b0
    have b1 := len_ints li hwf (by omega)
    have p0 : 1 ≤ (wp.encB s.data.toList).length := by have := wp.encI_pos (s.size : Int); omega
    have p1 : 1 ≤ (wp.encIs li).length := by unfold wp.encIs; rw [List.length_append]; have := wp.encI_pos (li.length : Int); omega
    have R0 := Lib.hid (wp.getB_round s.data.toList (wp.encIs li) (by omega))
    have R1 : Hid (wp.getL wp.getI 1 (wp.encIs li) = (li, ((wp.encIs li).length : Int), 0)) := by
      have := round_ints li hwf (by omega) []
      rw [List.append_nil] at this
      exact this
    have E0 := Lib.hid (fun w => wi.bytes_out s w (by omega))
    have E1 := Lib.hid (fun w h => wi.ints_out A1 n1 c1 li w hl1 hn1 hc1 h hwf (by omega))
    have L0 : wp.LiveL w [(A1, li.map (Value.int .i64))] := wp.LiveL.nil.add hr1
    have HL1 := Lib.hid hl1
    obtain ⟨k0, hk0⟩ : ∃ k, k = (wp.encB s.data.toList).length := ⟨_, rfl⟩
    obtain ⟨k1, hk1⟩ : ∃ k, k = (wp.encIs li).length := ⟨_, rfl⟩
    have q0 : 1 ≤ k0 ∧ k0 ≤ 50000 := by omega
    have q1 : 1 ≤ k1 ∧ k1 ≤ 50000 := by omega
    have hsum : n1 ≤ 2000 := by omega
    have K0 := Lib.hid hk0
    have K1 := Lib.hid hk1
    clear b0 b0' b0'' b1 p0 p1 hl1 hr1 hwf hk0 hk1 m0 m1
    generalize wp.encB s.data.toList = T0 at *
    generalize wp.encIs li = T1 at *
    go_enter Try.func4, Try.ntmps4
    go_wp2_with fail
    refine (E0.out w).mono ?_
    rintro e w5 ⟨v5, rfl, hown5, hbl⟩
    have L5 := L0.below hbl
    have B5 : Below w.heap.size w w5 := hbl
    rw [← K0.out] at hown5
    clear hbl E0
    go_wp2_with fail
    refine (E1.out w5 (L5.get 0 rfl)).mono ?_
    rintro e w6 ⟨v6, rfl, hown, hbl⟩
    obtain ⟨A6, c6, rfl, hc6, _, hR⟩ := wp.RC.of_own hown
    rw [← K1.out] at hc6 ⊢
    obtain ⟨b6, o6, rfl, _, _⟩ := hR.rb (by have := K1.out; omega)
    have B6 := B5.trans (hbl.mono B5.size)
    have hown6 := wk.ownsRow_below hown5 hbl
    have HC6 := Lib.hid (wk.RB.cells hR.rb)
    have HB6 := Lib.hid B6.size
    clear hown hown5 hbl hR L5 B5 E1
    go_wp2_with (at_builtin; refine wpList_append_own _ rfl _ _ 27 rfl w.heap.size 5 i0 (.int .u8 0) 1 1 Try.underlying27 hi hz0 hz1 hz2 rfl (by decide) _ _ _ rfl hown6 ⟨b6, o6, none⟩ k1 c6 (wp.bc T1) rfl ?c0 HC6.out wp.bc_one ?c3 ?c4 ?c5 ?_)
    case c0 => rw [wp.bc_length, Nat.mul_one, K1.out]
    case c3 => unfold maxLen; omega
    case c4 => omega
    case c5 => exact HB6.out
    intro v7 w7 hown7 hgrow _
    obtain ⟨A7, c7, rfl, hc7, hc7', hR7⟩ := wp.RC.of_own hown7
    rw [← wp.bc_append] at hR7
    have B7 := B6.grown hgrow HB6.out (fun q hq => (hown6.lt q hq).1)
    have HC7 := Lib.hid (wi.getBytes_any A7 (k0 + k1) c7 (T0 ++ T1) w7 hc7 (by unfold maxLen at hc7'; omega) (by rw [List.length_append, ← K0.out, ← K1.out]) hR7.rb)
    rw [R0.out, ← K0.out] at HC7
    obtain ⟨A8, m8, c8, hcut, hm8, hc8, hlen8, hrb8⟩ := wk.cut_l (P := Try.prog) w7 27 5 Try.underlying27 wi.size5 A7 (k0 + k1) c7 (T0 ++ T1) (by rw [List.length_append, ← K0.out, ← K1.out]) hc7 hR7.rb (k0 : Int) (by omega) (by omega)
    have hdr : (T0 ++ T1).drop ((k0 : Int)).toNat = T1 := by rw [Int.toNat_natCast, K0.out, List.drop_left]
    rw [hdr] at hlen8 hrb8
    have hm8' : m8 ≤ 50000 := by rw [← hlen8, ← K1.out]; exact q1.2
    have HC8 := Lib.hid (wi.getInts_any A8 m8 c8 T1 w7 hm8 (by unfold maxLen at hc7'; omega) hlen8 hrb8 (by omega))
    rw [R1.out, ← K1.out] at HC8
    have L7 := L0.below B7
    clear hR7 hrb8 hdr hlen8 hown7 hgrow hown6 HC6 R0 R1 L0 B6
    go_wp2_with fail
    refine HC7.out.mono ?_
    rintro e w8 ⟨rfl, rfl⟩
    clear HC7
    go_wp2_with fail
    refine HC8.out.mono ?_
    rintro e w9 ⟨v9, rfl, hown, hbl⟩
    obtain ⟨A9, c9, rfl, hc9, _, hR9⟩ := wp.RC.of_own hown
    dsimp only at hc9 hR9 ⊢
    rw [HL1.out] at hc9 ⊢
    have L9 := (L7.below hbl).add hR9
    have B9 := B7.trans (hbl.mono B7.size)
    clear HC8 hown hbl hR9 L7 B7 hcut
    go_wp2_with fail
    refine (wi.sanity_true _).mono ?_
    rintro e w10 ⟨rfl, hbl⟩
    have L10 := L9.below hbl
    have B10 := B9.trans (hbl.mono B9.size)
    clear hbl L9 B9
    go_wp2_with fail
    refine (wi.sameInts_true A9 A1 n1 c9 c1 li w10 HL1.out (by omega) (L10.get 0 rfl) (L10.get 1 rfl)).mono ?_
    rintro e w11 ⟨rfl, q11, rfl⟩
    go_wp2_with fail
    go_ret
    exact ⟨rfl, wi.below_drewN B10 _⟩
end Go.Proofs.Ytgkhgbjfpmhbgab.wireConcat
