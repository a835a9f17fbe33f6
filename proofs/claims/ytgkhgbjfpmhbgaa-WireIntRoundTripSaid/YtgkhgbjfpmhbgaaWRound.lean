import Derived.Test.YtgkhgbjfpmhbgaaSan
import Derived.Test.YtgkhgbjfpmhbgaaPl2
import Derived.Test.YtgkhgbjfpmhbgaaOpen
namespace Go.Proofs.Ytgkhgbjfpmhbgaa.wireIntRoundTrip
open Go.ChangeShapes Go.WideShapes Go.ChangeAt Go.RowKit
set_option linter.unusedVariables false

theorem sanity_any (w : World) : Calls Try.prog 10 #[] w fun e w' => e = .returned (.bool true) ∧ Below w.heap.size w w' := wi.sanity_true w

set_option maxRecDepth 100000 in
theorem walk (w : World) {n : Int} {A : Option Addr} {m c : Nat} {t : List UInt8} (w0 : (Lit.int .i64 n).wf = true) (w1 : wo.IsB w A m c t) :
    Calls Try.prog 6 #[.int .i64 n, .slice A m c] w fun e w' => e = .returned (.bool true) ∧ Below w.heap.size w w' := by
  have hn : -9223372036854775808 ≤ n ∧ n ≤ 9223372036854775807 := by simpa [Lit.wf, IntKind.min, IntKind.max, IntKind.signed, IntKind.bits] using w0
  obtain ⟨hl, hmc, hc, hr⟩ := w1
  have HR := Lib.hid hr
  have HL := Lib.hid hl
  clear hr hl w0
  by_cases hm : 2000 < m
  · go_enter Try.func6, Try.ntmps6
    go_wp2_with fail
    refine (sanity_any _).mono ?_
    rintro e w1 ⟨rfl, hb⟩
    go_wp2_with fail
    go_ret
    exact ⟨rfl, hb⟩
  · have HG := Lib.hid (wp.getI_encI hn.1 hn.2 t)
    have hk1 := wp.encI_length hn.1 hn.2
    have hk2 := wp.encI_pos n
    have HI := Lib.hid (fun w => wi.int_out n w hn.1 hn.2)
    generalize hE : wp.encI n = E at *
    clear hE
    go_enter Try.func6, Try.ntmps6
    go_wp2_with fail
    refine (HI.out w).mono ?_
    rintro e w1 ⟨v1, rfl, hown1, hbel1⟩
    obtain ⟨A1, c1, rfl, hc1, hc2, hR1⟩ := wp.RC.of_own hown1
    have HR1 : Hid (wp.RB w1 A1 E) := hR1.rb
    have HR2 : Hid (wp.RB w1 A t) := wk.RB.below HR.out hbel1
    obtain ⟨b1, o1, rfl, _, _⟩ := hR1.rb (by omega)
    clear hown1 hR1
    obtain ⟨k, hk⟩ : ∃ k, k = E.length := ⟨_, rfl⟩
    rw [← hk] at hk1 hk2 hc1 ⊢
    have HK := Lib.hid hk
    clear hk
    have hcut := fun w' => wk.run_cut_full (P := Try.prog) w' 28 5 Try.underlying28 wi.size5 ⟨b1, o1, none⟩ k c1 hc1
    go_wp2_with (at_builtin; refine wk.append_full _ rfl _ _ 28 rfl 5 Try.underlying28 wi.info5 _ _ k m c E t rfl rfl HK.out.symm HL.out HR1.out HR2.out ?_ ?_)
    · omega
    intro A2 c2 w2 hc21 hc22 hR3 hbel2
    have HC := Lib.hid (wi.getInt_any A2 (k + m) c2 (E ++ t) w2 hc21 hc22 (by rw [List.length_append, HK.out, HL.out]) hR3)
    rw [HG.out] at HC
    clear hcut hR3
    go_wp2_with fail
    refine HC.out.mono ?_
    rintro e w3 ⟨rfl, rfl⟩
    have hb2 := hbel1.trans (hbel2.mono hbel1.size)
    clear HC HG HR1 HR2 HI
    rw [← HK.out]
    go_wp2_with fail
    refine (sanity_any _).mono ?_
    rintro e w4 ⟨rfl, hb⟩
    have hb3 := hb2.trans (hb.mono hb2.size)
    clear hb2 hb hbel1 hbel2
    go_wp2_with fail
    go_ret
    exact ⟨wp.ret_bool (by simp; omega), hb3⟩
end Go.Proofs.Ytgkhgbjfpmhbgaa.wireIntRoundTrip
