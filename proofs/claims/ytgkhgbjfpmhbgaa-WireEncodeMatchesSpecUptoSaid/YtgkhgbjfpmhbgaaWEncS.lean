import Derived.Test.YtgkhgbjfpmhbgaaWListR
import Derived.Test.YtgkhgbjfpmhbgaaREnc
namespace Go.Proofs.Ytgkhgbjfpmhbgaa.wireEncodeMatchesSpec
open Go.ChangeShapes Go.WideShapes Go.ChangeAt Go.RowKit
set_option linter.unusedVariables false

set_option maxRecDepth 100000 in
set_option maxHeartbeats 4000000 in
theorem walk (w : World) {n : Int} {s : ByteArray} {A1 : Option Addr} {n1 c1 : Nat} {li : List Int} {A2 : Option Addr} {n2 c2 : Nat} {ls : List ByteArray} {A3 : Option Addr} {n3 c3 : Nat} {ld : List (List UInt8)}
    (wn : (Lit.int .i64 n).wf = true) (_w0 : s.size ≤ maxLen) (m0 : s.size ≤ 1048576) (w1 : wo.IsI w A1 n1 c1 li) (m1 : n1 ≤ 1048576) (w2 : wo.IsS w A2 n2 c2 ls) (t2 : wp.total ls ≤ 1048576) (m2 : n2 ≤ 1048576) (w3 : wo.IsD w A3 n3 c3 ld) (m3 : n3 ≤ 1048576) :
    Calls Try.prog 3 #[.int .i64 n, .string s, .slice A1 n1 c1, .slice A2 n2 c2, .slice A3 n3 c3] w fun e w' => e = .returned (.bool true) ∧ Below w.heap.size w w' := by
  have hn : -9223372036854775808 ≤ n ∧ n ≤ 9223372036854775807 := by simpa [Lit.wf, IntKind.min, IntKind.max, IntKind.signed, IntKind.bits] using wn
  have HF := Lib.hid (wi.few_any A2 n2 c2 ls w w2 (by omega))
  obtain ⟨hl1, hn1, hc1, hr1, hwf⟩ := w1
  obtain ⟨hl2, hn2, hc2, hr2, hss⟩ := w2
  obtain ⟨hl3, hn3, hc3, hr3, h16⟩ := w3
  clear wn _w0
  by_cases hb : 2000 < s.size + n1 + n3
  · clear hl1 hl2 hl3 hr1 hr2 hr3 hwf hss h16 t2 HF
    go_enter Try.func3, Try.ntmps3
    go_wp2_with fail
    refine (wi.sanity_true _).mono ?_
    rintro e w5 ⟨rfl, hbl⟩
    go_wp2_with fail
    go_ret
    exact ⟨rfl, hbl⟩
  · by_cases hf : wp.total ls ≤ 2000
    · have hff : decide ((wp.total ls : Int) ≤ 2000) = true := by simp; omega
      rw [hff] at HF
      have hs1 : ∀ s ∈ ls, s.size ≤ 9223372036854775807 := fun s hs => by have := hss s hs; unfold maxLen at this; exact this
      have b1 := wireListRoundTrip.len_ints li hwf (by omega)
      have b3 := wireListRoundTrip.len_digs ld h16 (by omega)
      have b2 : (wp.encSs ls).length ≤ 10 + 10 * ls.length + wp.total ls := by
        rcases wp.total_flat ls with h | ⟨s, hs, h⟩
        · exact h
        · have := hs1 s hs; omega
      have EN := Lib.hid (fun w => wi.int_out n w hn.1 hn.2)
      have FN := Lib.hid (fun w => wi.refInt_out n w hn.1 hn.2)
      have E0 := Lib.hid (fun w => wi.bytes_out s w (by omega))
      have F0 := Lib.hid (fun w => wi.refBytes_out s w (by omega))
      have E1 := Lib.hid (fun w h => wi.ints_out A1 n1 c1 li w hl1 hn1 hc1 h hwf (by omega))
      have F1 := Lib.hid (fun w h => wi.refInts_out A1 n1 c1 li w hl1 hn1 hc1 h hwf (by omega))
      have E2 := Lib.hid (fun w h => wi.strings_out A2 n2 c2 ls w hl2 hn2 hc2 h (by omega))
      have F2 := Lib.hid (fun w h => wi.refStrings_out A2 n2 c2 ls w hl2 hn2 hc2 h (by omega))
      have E3 := Lib.hid (fun w h => wi.digests_out A3 n3 c3 ld w hl3 hn3 hc3 h h16 (by omega))
      have F3 := Lib.hid (fun w h => wi.refDigests_out A3 n3 c3 ld w hl3 hn3 hc3 h h16 (by omega))
      have L0 : wp.LiveL w [(A1, li.map (Value.int .i64)), (A2, ls.map Value.string), (A3, ld.flatMap wp.bc)] := ((wp.LiveL.nil.add hr3).add hr2).add hr1
      have hsum : s.size + n1 + n3 ≤ 2000 := by omega
      clear hff hs1 b1 b2 b3 hl1 hl2 hl3 hr1 hr2 hr3 hwf hss h16 t2 hf m0 m1 m2 m3 hb hn
      generalize wp.encB s.data.toList = T0 at *
      generalize wp.encIs li = T1 at *
      generalize wp.encSs ls = T2 at *
      generalize wp.encDs ld = T3 at *
      generalize wp.encI n = TN at *
      go_enter Try.func3, Try.ntmps3
      go_wp2_with fail
      refine HF.out.mono ?_
      rintro e w5 ⟨rfl, rfl⟩
      go_wp2_with fail
      refine (wi.sanity_true _).mono ?_
      rintro e w5 ⟨rfl, hbl⟩
      have L5 := L0.below hbl
      have B5 : Below w.heap.size w w5 := hbl
      clear hbl L0
      go_wp2_with fail
      refine (EN.out w5).mono ?_
      rintro e w6 ⟨v6, rfl, hown, hbl⟩
      obtain ⟨P6, d6, rfl, _, _, hR⟩ := wp.RC.of_own hown
      have L6 := (L5.below hbl).add hR
      have B6 := B5.trans (hbl.mono B5.size)
      clear hown hbl hR
      go_wp2_with fail
      refine (FN.out w6).mono ?_
      rintro e w7 ⟨v7, rfl, hown, hbl⟩
      obtain ⟨P7, d7, rfl, _, _, hR⟩ := wp.RC.of_own hown
      have M7 := L6.below hbl
      have B7 := B6.trans (hbl.mono B6.size)
      go_wp2_with fail
      refine (wi.same_true P6 P7 _ d6 _ d7 TN w7 rfl rfl (M7.get 0 rfl).rb hR.rb).mono ?_
      rintro e w0 ⟨rfl, rfl⟩
      have L7 : wp.LiveL w7 [(A1, li.map (Value.int .i64)), (A2, ls.map Value.string), (A3, ld.flatMap wp.bc)] := fun p hp => M7 p (List.mem_cons_of_mem _ hp)
      clear hown hbl hR M7 L5 B5 L6 B6
      go_wp2_with fail
      refine (E0.out w7).mono ?_
      rintro e w8 ⟨v8, rfl, hown, hbl⟩
      obtain ⟨P8, d8, rfl, _, _, hR⟩ := wp.RC.of_own hown
      have L8 := (L7.below hbl).add hR
      have B8 := B7.trans (hbl.mono B7.size)
      clear hown hbl hR
      go_wp2_with fail
      refine (F0.out w8).mono ?_
      rintro e w9 ⟨v9, rfl, hown, hbl⟩
      obtain ⟨P9, d9, rfl, _, _, hR⟩ := wp.RC.of_own hown
      have M9 := L8.below hbl
      have B9 := B8.trans (hbl.mono B8.size)
      go_wp2_with fail
      refine (wi.same_true P8 P9 _ d8 _ d9 T0 w9 rfl rfl (M9.get 0 rfl).rb hR.rb).mono ?_
      rintro e w0 ⟨rfl, rfl⟩
      have L9 : wp.LiveL w9 [(A1, li.map (Value.int .i64)), (A2, ls.map Value.string), (A3, ld.flatMap wp.bc)] := fun p hp => M9 p (List.mem_cons_of_mem _ hp)
      clear hown hbl hR M9 L7 B7 L8 B8
      go_wp2_with fail
      refine (E1.out w9 (L9.get 0 rfl)).mono ?_
      rintro e w10 ⟨v10, rfl, hown, hbl⟩
      obtain ⟨P10, d10, rfl, _, _, hR⟩ := wp.RC.of_own hown
      have L10 := (L9.below hbl).add hR
      have B10 := B9.trans (hbl.mono B9.size)
      clear hown hbl hR
      go_wp2_with fail
      refine (F1.out w10 (L10.get 1 rfl)).mono ?_
      rintro e w11 ⟨v11, rfl, hown, hbl⟩
      obtain ⟨P11, d11, rfl, _, _, hR⟩ := wp.RC.of_own hown
      have M11 := L10.below hbl
      have B11 := B10.trans (hbl.mono B10.size)
      go_wp2_with fail
      refine (wi.same_true P10 P11 _ d10 _ d11 T1 w11 rfl rfl (M11.get 0 rfl).rb hR.rb).mono ?_
      rintro e w0 ⟨rfl, rfl⟩
      have L11 : wp.LiveL w11 [(A1, li.map (Value.int .i64)), (A2, ls.map Value.string), (A3, ld.flatMap wp.bc)] := fun p hp => M11 p (List.mem_cons_of_mem _ hp)
      clear hown hbl hR M11 L9 B9 L10 B10
      go_wp2_with fail
      refine (E2.out w11 (L11.get 1 rfl)).mono ?_
      rintro e w12 ⟨v12, rfl, hown, hbl⟩
      obtain ⟨P12, d12, rfl, _, _, hR⟩ := wp.RC.of_own hown
      have L12 := (L11.below hbl).add hR
      have B12 := B11.trans (hbl.mono B11.size)
      clear hown hbl hR
      go_wp2_with fail
      refine (F2.out w12 (L12.get 2 rfl)).mono ?_
      rintro e w13 ⟨v13, rfl, hown, hbl⟩
      obtain ⟨P13, d13, rfl, _, _, hR⟩ := wp.RC.of_own hown
      have M13 := L12.below hbl
      have B13 := B12.trans (hbl.mono B12.size)
      go_wp2_with fail
      refine (wi.same_true P12 P13 _ d12 _ d13 T2 w13 rfl rfl (M13.get 0 rfl).rb hR.rb).mono ?_
      rintro e w0 ⟨rfl, rfl⟩
      have L13 : wp.LiveL w13 [(A1, li.map (Value.int .i64)), (A2, ls.map Value.string), (A3, ld.flatMap wp.bc)] := fun p hp => M13 p (List.mem_cons_of_mem _ hp)
      clear hown hbl hR M13 L11 B11 L12 B12
      go_wp2_with fail
      refine (E3.out w13 (L13.get 2 rfl)).mono ?_
      rintro e w14 ⟨v14, rfl, hown, hbl⟩
      obtain ⟨P14, d14, rfl, _, _, hR⟩ := wp.RC.of_own hown
      have L14 := (L13.below hbl).add hR
      have B14 := B13.trans (hbl.mono B13.size)
      clear hown hbl hR
      go_wp2_with fail
      refine (F3.out w14 (L14.get 3 rfl)).mono ?_
      rintro e w15 ⟨v15, rfl, hown, hbl⟩
      obtain ⟨P15, d15, rfl, _, _, hR⟩ := wp.RC.of_own hown
      have M15 := L14.below hbl
      have B15 := B14.trans (hbl.mono B14.size)
      go_wp2_with fail
      refine (wi.same_true P14 P15 _ d14 _ d15 T3 w15 rfl rfl (M15.get 0 rfl).rb hR.rb).mono ?_
      rintro e w0 ⟨rfl, rfl⟩
      have L15 : wp.LiveL w15 [(A1, li.map (Value.int .i64)), (A2, ls.map Value.string), (A3, ld.flatMap wp.bc)] := fun p hp => M15 p (List.mem_cons_of_mem _ hp)
      clear hown hbl hR M15 L13 B13 L14 B14
      go_wp2_with fail
      go_ret
      exact ⟨rfl, B15⟩
    · have hff : decide ((wp.total ls : Int) ≤ 2000) = false := by simp; omega
      rw [hff] at HF
      clear hl1 hl2 hl3 hr1 hr2 hr3 hwf hss h16 t2 hf hff
      go_enter Try.func3, Try.ntmps3
      go_wp2_with fail
      refine HF.out.mono ?_
      rintro e w5 ⟨rfl, rfl⟩
      go_wp2_with fail
      refine (wi.sanity_true _).mono ?_
      rintro e w5 ⟨rfl, hbl⟩
      go_wp2_with fail
      go_ret
      exact ⟨rfl, hbl⟩
end Go.Proofs.Ytgkhgbjfpmhbgaa.wireEncodeMatchesSpec
