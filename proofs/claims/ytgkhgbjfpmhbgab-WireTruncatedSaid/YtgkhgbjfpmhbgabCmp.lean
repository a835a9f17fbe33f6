import Derived.Test.YtgkhgbjfpmhbgabKit2
import Derived.Test.YtgkhgbjfpmhbgabDecD
import Derived.Deep.QuietTactic
import Derived.BigQuiet
namespace Go.Proofs.Ytgkhgbjfpmhbgab.wi
open Go.ChangeShapes Go.WideShapes Go.ChangeAt Go.RowKit
set_option linter.unusedVariables false

theorem same_true (A A' : Option Addr) (n c n' c' : Nat) (l : List UInt8) (w : World) (hn : l.length = n) (hn' : l.length = n') (h : wp.RB w A l) (h' : wp.RB w A' l) :
    Calls Try.prog 19 #[.slice A n c, .slice A' n' c'] w fun e w' => e = .returned (.bool true) ∧ w = w' := by
  have h1 := wk.conv_str (P := Try.prog) w 27 5 9 Try.underlying27 Try.underlying5 Try.underlying9 A n c _ hn h
  have h2 := wk.conv_str (P := Try.prog) w 27 5 9 Try.underlying27 Try.underlying5 Try.underlying9 A' n' c' _ hn' h'
  clear hn hn' h h'
  go_enter Try.func19, Try.ntmps19
  go_wp2
  go_ret
  exact ⟨by simp, rfl⟩

/-- cells that one-cell reading gives -/
theorem RC_at {w : World} {A : Option Addr} {xs : List Value} (h : wp.RC w A xs) {k : Nat} {u : Value} (hk : xs[k]? = some u) : ∃ b o, A = some ⟨b, o, none⟩ ∧ w.cell? ⟨b, o + k, none⟩ = some u := by
  have hl : k < xs.length := by
    rcases Nat.lt_or_ge k xs.length with h' | h'
    · exact h'
    · rw [List.getElem?_eq_none h'] at hk; cases hk
  obtain ⟨b, o, hA, _, hc⟩ := h (by omega)
  exact ⟨b, o, hA, hc k u hk⟩

set_option maxRecDepth 100000 in
theorem sameInts_true (A A' : Option Addr) (n c c' : Nat) (l : List Int) (w : World) (hn : l.length = n) (hnc : n ≤ 9223372036854775806) (h : wp.RC w A (l.map (Value.int .i64))) (h' : wp.RC w A' (l.map (Value.int .i64))) :
    Calls Try.prog 17 #[.slice A n c, .slice A' n c'] w fun e w' => e = .returned (.bool true) ∧ ∃ q, w' = w.drewN q := by
  have HN := Lib.hid hn
  have H := Lib.hid h
  have H' := Lib.hid h'
  clear hn h h'
  go_enter Try.func17, Try.ntmps17
  go_wp2_with fail
  go_loopg [5] n (fun g x wr => ∃ (k q : Nat), k + g = n ∧ x = .int .i64 (k : Int) ∧ wr = w.drewN q)
  case atStart => exact ⟨0, 0, by omega, rfl, rfl⟩
  case round =>
    obtain ⟨k, q, hk, rfl, rfl⟩ := hrel
    have HK := Lib.hid hk
    have hkn : k ≤ n := by omega
    clear hk
    by_cases hlt : k < n
    · have hkl : k < l.length := by have := HN.out; omega
      obtain ⟨b, o, rfl, hc1⟩ := RC_at H.out (k := k) (u := .int .i64 l[k]) (by simp [List.getElem?_eq_getElem hkl])
      obtain ⟨b', o', rfl, hc2⟩ := RC_at H'.out (k := k) (u := .int .i64 l[k]) (by simp [List.getElem?_eq_getElem hkl])
      generalize l[k] = x at *
      go_wp2_with fail
      go_quiet (fail)
      go_wp2_with fail
      go_roundg (gk - 1)
      case measure => have := HK.out; omega
      case rel => exact ⟨k + 1, _, by have := HK.out; omega, by go_num, rfl⟩
    · go_wp2_with fail
      go_ret
      exact ⟨rfl, q, rfl⟩
set_option maxRecDepth 100000 in
theorem sameTexts_true (A A' : Option Addr) (n c c' : Nat) (l : List ByteArray) (w : World) (hn : l.length = n) (hnc : n ≤ 9223372036854775806) (h : wp.RC w A (l.map (Value.string))) (h' : wp.RC w A' (l.map (Value.string))) :
    Calls Try.prog 18 #[.slice A n c, .slice A' n c'] w fun e w' => e = .returned (.bool true) ∧ ∃ q, w' = w.drewN q := by
  have HN := Lib.hid hn
  have H := Lib.hid h
  have H' := Lib.hid h'
  clear hn h h'
  go_enter Try.func18, Try.ntmps18
  go_wp2_with fail
  go_loopg [5] n (fun g x wr => ∃ (k q : Nat), k + g = n ∧ x = .int .i64 (k : Int) ∧ wr = w.drewN q)
  case atStart => exact ⟨0, 0, by omega, rfl, rfl⟩
  case round =>
    obtain ⟨k, q, hk, rfl, rfl⟩ := hrel
    have HK := Lib.hid hk
    have hkn : k ≤ n := by omega
    clear hk
    by_cases hlt : k < n
    · have hkl : k < l.length := by have := HN.out; omega
      obtain ⟨b, o, rfl, hc1⟩ := RC_at H.out (k := k) (u := .string l[k]) (by simp [List.getElem?_eq_getElem hkl])
      obtain ⟨b', o', rfl, hc2⟩ := RC_at H'.out (k := k) (u := .string l[k]) (by simp [List.getElem?_eq_getElem hkl])
      generalize l[k] = x at *
      go_wp2_with fail
      go_quiet (fail)
      go_wp2_with fail
      go_roundg (gk - 1)
      case measure => have := HK.out; omega
      case rel => exact ⟨k + 1, _, by have := HK.out; omega, by go_num, rfl⟩
    · go_wp2_with fail
      go_ret
      exact ⟨rfl, q, rfl⟩
set_option maxRecDepth 100000 in
theorem sameDigests_true (A A' : Option Addr) (n c c' : Nat) (l : List (List UInt8)) (w : World) (hn : l.length = n) (hnc : n ≤ 9223372036854775806) (h : wp.RC w A (l.flatMap wp.bc)) (h' : wp.RC w A' (l.flatMap wp.bc)) (h16 : ∀ d ∈ l, d.length = 16) :
    Calls Try.prog 20 #[.slice A n c, .slice A' n c'] w fun e w' => e = .returned (.bool true) ∧ ∃ q, w' = w.drewN q := by
  have HN := Lib.hid hn
  have H := Lib.hid h
  have H' := Lib.hid h'
  have H16 := Lib.hid h16
  clear hn h h' h16
  go_enter Try.func20, Try.ntmps20
  go_wp2_with fail
  go_loopg [5] n (fun g x wr => ∃ (k q : Nat), k + g = n ∧ x = .int .i64 (k : Int) ∧ wr = w.drewN q)
  case atStart => exact ⟨0, 0, by omega, rfl, rfl⟩
  case round =>
    obtain ⟨k, q, hk, rfl, rfl⟩ := hrel
    have HK := Lib.hid hk
    have hkn : k ≤ n := by omega
    clear hk
    by_cases hlt : k < n
    · have hkl : k < l.length := by have := HN.out; omega
      obtain ⟨b, o, rfl, _, hc1⟩ := H.out (by rw [wp.flat_bc_length H16.out]; omega)
      obtain ⟨b', o', rfl, _, hc2⟩ := H'.out (by rw [wp.flat_bc_length H16.out]; omega)
      have hlk : l[k]? = some l[k] := List.getElem?_eq_getElem hkl
      have hx : l[k].length = 16 := H16.out _ (List.getElem_mem hkl)
      have HI16 : Hid ((Try.prog.info? 49).map (·.size) = some (wp.bc l[k]).length) := by show _ = _; rw [info55, wp.bc_length, hx]
      have HC1 : Hid (∀ j u, (wp.bc l[k])[j]? = some u → w.cell? ((⟨b, o + k * 16, none⟩ : Addr).add j) = some u) := fun j u hu => by rw [wk.add_at, Nat.add_assoc, Nat.mul_comm k 16]; exact hc1 _ u (wp.flat_bc_at H16.out hlk hu)
      have HC2 : Hid (∀ j u, (wp.bc l[k])[j]? = some u → w.cell? ((⟨b', o' + k * 16, none⟩ : Addr).add j) = some u) := fun j u hu => by rw [wk.add_at, Nat.add_assoc, Nat.mul_comm k 16]; exact hc2 _ u (wp.flat_bc_at H16.out hlk hu)
      have hne : ∀ w', (binOp .neq 49 (.agg (wp.bc l[k]).toArray) (.agg (wp.bc l[k]).toArray)).run Try.prog w' = .ok (.bool false) w' := fun w' =>
        wk.run_ne_arr_same 49 5 16 Try.underlying49 Try.underlying5 size5 l[k] hx w'
      clear hc1 hc2 hlk hx
      generalize l[k] = x at *
      go_wp2_with fail
      refine wp_region_quiet_lit (by kernel_rfl) (by kernel_rfl) ?_
      repeat (first | refine wk.quiet_load_agg rfl 49 (.tmp 19) rfl _ rfl (wp.bc x) _ (by rintro w' ⟨n, rfl⟩; exact HC1.out) Try.underlying49 rfl HI16.out ?_ | refine wk.quiet_load_agg rfl 49 (.tmp 23) rfl _ rfl (wp.bc x) _ (by rintro w' ⟨n, rfl⟩; exact HC2.out) Try.underlying49 rfl HI16.out ?_ | quiet_step (fail))
      refine wpQuiet_nil ?_
      intro _ hw'
      obtain ⟨nq, hw''⟩ := hw'
      subst hw''
      go_wp2_with fail
      go_roundg (gk - 1)
      case measure => have := HK.out; omega
      case rel => exact ⟨k + 1, _, by have := HK.out; omega, by go_num, rfl⟩
    · go_wp2_with fail
      go_ret
      exact ⟨rfl, q, rfl⟩
end Go.Proofs.Ytgkhgbjfpmhbgab.wi
