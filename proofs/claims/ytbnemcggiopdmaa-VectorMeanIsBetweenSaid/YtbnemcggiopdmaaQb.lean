/- The generic fold: by an invariant of the closure. -/
import Derived.Test.YtbnemcggiopdmaaCmp

import Derived.Test.YtbnemcggiopdmaaQa

namespace Go.Proofs.Ytbnemcggiopdmaa.vk

open Go.ChangeShapes Go.WideShapes Go.ChangeAt Go.RowKit

set_option linter.unusedVariables false
set_option maxRecDepth 100000 in
theorem fold_bool (c : FuncId) (cap : Array Value) (hcf : ∀ args w', (callFunc c args).run Try.prog w' = .ok (.enter c args) w') (n : Nat) (hn : n ≤ 9223372036854775806) (Inv : Nat → Value → World → Prop) (w : World) (v0 : Value)
    (hs : ∀ k v w', k < n → Inv k v w' → Calls Try.prog c (#[v, .int .i64 k] ++ cap) w' fun e w'' => ∃ v', e = .returned v' ∧ Inv (k + 1) v' w'') (h0 : Inv 0 v0 w) :
    Calls Try.prog 36 #[.int .i64 n, v0, .func (.func c) #[] cap] w fun e w' => ∃ v, e = .returned v ∧ Inv n v w' := by
  have HS := Lib.hid hs
  have H0 := Lib.hid h0
  clear hs h0
  go_enter Try.func36, Try.ntmps36
  go_wp2_with fail
  go_loopg [1, 9] n (fun g v x wr => ∃ k : Nat, k + g = n ∧ x = .int .i64 (k : Int) ∧ Inv k v wr)
  case atStart => exact ⟨0, by omega, rfl, H0.out⟩
  case round =>
    obtain ⟨k, hk, rfl, hI⟩ := hrel
    have HK := Lib.hid hk
    have HI := Lib.hid hI
    have hkn : k ≤ n := by omega
    clear hk hI
    by_cases hlt : k < n
    · have HC := Lib.hid (HS.out k _ _ hlt HI.out)
      go_wp2_with fail
      refine HC.out.mono ?_
      rintro e w' ⟨v', rfl, hI'⟩
      have HI' := Lib.hid hI'
      clear hI'
      go_wp2_with fail
      go_roundg (gk - 1)
      case measure => have := HK.out; omega
      case rel => exact ⟨k + 1, by have := HK.out; omega, by go_num, HI'.out⟩
    · go_wp2_with fail
      go_ret
      have hkn' : k = n := by omega
      subst hkn'
      exact ⟨_, rfl, HI.out⟩
set_option maxRecDepth 100000 in
theorem fold_int (c : FuncId) (cap : Array Value) (hcf : ∀ args w', (callFunc c args).run Try.prog w' = .ok (.enter c args) w') (n : Nat) (hn : n ≤ 9223372036854775806) (Inv : Nat → Value → World → Prop) (w : World) (v0 : Value)
    (hs : ∀ k v w', k < n → Inv k v w' → Calls Try.prog c (#[v, .int .i64 k] ++ cap) w' fun e w'' => ∃ v', e = .returned v' ∧ Inv (k + 1) v' w'') (h0 : Inv 0 v0 w) :
    Calls Try.prog 44 #[.int .i64 n, v0, .func (.func c) #[] cap] w fun e w' => ∃ v, e = .returned v ∧ Inv n v w' := by
  have HS := Lib.hid hs
  have H0 := Lib.hid h0
  clear hs h0
  go_enter Try.func44, Try.ntmps44
  go_wp2_with fail
  go_loopg [1, 9] n (fun g v x wr => ∃ k : Nat, k + g = n ∧ x = .int .i64 (k : Int) ∧ Inv k v wr)
  case atStart => exact ⟨0, by omega, rfl, H0.out⟩
  case round =>
    obtain ⟨k, hk, rfl, hI⟩ := hrel
    have HK := Lib.hid hk
    have HI := Lib.hid hI
    have hkn : k ≤ n := by omega
    clear hk hI
    by_cases hlt : k < n
    · have HC := Lib.hid (HS.out k _ _ hlt HI.out)
      go_wp2_with fail
      refine HC.out.mono ?_
      rintro e w' ⟨v', rfl, hI'⟩
      have HI' := Lib.hid hI'
      clear hI'
      go_wp2_with fail
      go_roundg (gk - 1)
      case measure => have := HK.out; omega
      case rel => exact ⟨k + 1, by have := HK.out; omega, by go_num, HI'.out⟩
    · go_wp2_with fail
      go_ret
      have hkn' : k = n := by omega
      subst hkn'
      exact ⟨_, rfl, HI.out⟩
set_option maxRecDepth 100000 in
theorem fold_ints (c : FuncId) (cap : Array Value) (hcf : ∀ args w', (callFunc c args).run Try.prog w' = .ok (.enter c args) w') (n : Nat) (hn : n ≤ 9223372036854775806) (Inv : Nat → Value → World → Prop) (w : World) (v0 : Value)
    (hs : ∀ k v w', k < n → Inv k v w' → Calls Try.prog c (#[v, .int .i64 k] ++ cap) w' fun e w'' => ∃ v', e = .returned v' ∧ Inv (k + 1) v' w'') (h0 : Inv 0 v0 w) :
    Calls Try.prog 42 #[.int .i64 n, v0, .func (.func c) #[] cap] w fun e w' => ∃ v, e = .returned v ∧ Inv n v w' := by
  have HS := Lib.hid hs
  have H0 := Lib.hid h0
  clear hs h0
  go_enter Try.func42, Try.ntmps42
  go_wp2_with fail
  go_loopg [1, 9] n (fun g v x wr => ∃ k : Nat, k + g = n ∧ x = .int .i64 (k : Int) ∧ Inv k v wr)
  case atStart => exact ⟨0, by omega, rfl, H0.out⟩
  case round =>
    obtain ⟨k, hk, rfl, hI⟩ := hrel
    have HK := Lib.hid hk
    have HI := Lib.hid hI
    have hkn : k ≤ n := by omega
    clear hk hI
    by_cases hlt : k < n
    · have HC := Lib.hid (HS.out k _ _ hlt HI.out)
      go_wp2_with fail
      refine HC.out.mono ?_
      rintro e w' ⟨v', rfl, hI'⟩
      have HI' := Lib.hid hI'
      clear hI'
      go_wp2_with fail
      go_roundg (gk - 1)
      case measure => have := HK.out; omega
      case rel => exact ⟨k + 1, by have := HK.out; omega, by go_num, HI'.out⟩
    · go_wp2_with fail
      go_ret
      have hkn' : k = n := by omega
      subst hkn'
      exact ⟨_, rfl, HI.out⟩
end Go.Proofs.Ytbnemcggiopdmaa.vk
