
import Derived.Test.YtbnemcggiopdmaaPl3

import Derived.Test.YtbnemcggiopdmaaDec

import Derived.Test.YtbnemcggiopdmaaKit2

namespace Go.Proofs.Ytbnemcggiopdmaa.wp

open Go.RowKit
theorem gv_drop (l : List UInt8) : ∀ j : Nat, gv (l.drop j) ≤ gv l := by
  induction l with
  | nil => intro j; simp
  | cons c r ih =>
    intro j
    cases j with
    | zero => simp
    | succ j =>
      have := ih j
      simp only [List.drop_succ_cons, gv]
      omega
theorem gv_drop_step {l : List UInt8} {j : Nat} {c : UInt8} (h : l[j]? = some c) : gv (l.drop j) = c.toNat % 128 + 128 * gv (l.drop (j + 1)) := by
  have hj : j < l.length := by
    rcases Nat.lt_or_ge j l.length with h' | h'
    · exact h'
    · rw [List.getElem?_eq_none h'] at h; cases h
  have hc : l[j] = c := by rw [List.getElem?_eq_getElem hj] at h; cases h; rfl
  rw [List.drop_eq_getElem_cons hj, gv, hc]
end Go.Proofs.Ytbnemcggiopdmaa.wp

namespace Go.Proofs.Ytbnemcggiopdmaa.wi

open Go.ChangeShapes Go.WideShapes Go.ChangeAt Go.RowKit

set_option linter.unusedVariables false

set_option maxRecDepth 100000 in
set_option maxHeartbeats 2000000 in
theorem refGetInt_any (A : Option Addr) (n c : Nat) (l : List UInt8) (w : World) (hn : n ≤ c) (hc : c ≤ 9223372036854775807) (hln : l.length = n) (hl : wp.RB w A l) :
    Calls Try.prog 65 #[.slice A n c] w fun e w' => e = .returned (.tuple #[.int .i64 (wp.getI l).1, .int .i64 (wp.getI l).2.1, .int .i64 (wp.getI l).2.2]) ∧ w = w' := by
  have HLN := Lib.hid hln
  have HL := Lib.hid hl
  have HCS := Lib.hid (wp.getI_cases l)
  clear hln hl
  go_enter Try.func65, Try.ntmps65
  go_wp2_with fail
  go_loopg [5] 10 (fun g x wr => ∃ k : Nat, k + g = 10 ∧ k ≤ n ∧ wp.High l k ∧ x = .int .i64 (k : Int) ∧ w = wr)
  case atStart => exact ⟨0, by omega, by omega, wp.High.zero _, rfl, rfl⟩
  case round =>
    obtain ⟨k, hk, hkn, hh, rfl, rfl⟩ := hrel
    have HK := Lib.hid hk
    have HH := Lib.hid hh
    have hk10 : k ≤ 10 := by omega
    clear hk hh
    by_cases h10 : 10 ≤ k
    · have hb : ((k : Int) == 10) = true := by rw [beq_iff_eq]; omega
      by_cases hkn' : k < n
      all_goals
        go_wp2_with fail
        go_ret3
        exact ⟨by rw [wp.getI_none HH.out (by have := HLN.out; omega), if_pos (by have := HLN.out; omega)]; rfl, rfl⟩
    · have hb : ((k : Int) == 10) = false := by rw [beq_eq_false_iff_ne]; omega
      by_cases hlt : k < n
      · have hb2 : ((k : Int) == (n : Int)) = false := by rw [beq_eq_false_iff_ne]; omega
        obtain ⟨b, o, rfl, hbw, hcell⟩ := HL.out (by have := HLN.out; omega)
        have hkl : k < l.length := by have := HLN.out; omega
        have hlk : l[k]? = some l[k] := List.getElem?_eq_getElem hkl
        have hck := hcell k l[k] hlk
        have HLK := Lib.hid hlk
        have HS := Lib.hid (fun h8 => wp.getI_some HH.out (by omega) hlk h8)
        have HC8 : Hid (128 ≤ l[k].toNat → wp.High l (k + 1)) := fun h => HH.out.succ hlk h
        have HCE := Lib.hid hcell
        have hb' : (l[k].toNat : Int) < 256 := by have := l[k].toNat_lt; omega
        clear hcell hlk
        generalize hgk : l[k].toNat = ck at *
        have HGK := Lib.hid hgk
        clear hgk
        by_cases hc8 : 128 ≤ ck
        · go_wp2_with fail
          go_roundg (gk - 1)
          case measure => have := HK.out; omega
          case rel => exact ⟨k + 1, by have := HK.out; omega, by omega, HC8.out hc8, by go_num, rfl⟩
        · have hcs : (9 ≤ k ∧ 1 < ck ∨ 0 < k ∧ ck ≤ 0) ∨ (k ≤ 8 ∧ 0 < ck ∨ k ≤ 0 ∨ 9 ≤ k ∧ 1 ≤ ck ∧ ck ≤ 1) := by omega
          rcases hcs with hE | hO
          · have hEE := hE
            rcases hE with ⟨hx1, hx2⟩ | ⟨hx1, hx2⟩
            · have hk9 : ((k : Int) == 9) = true := by rw [beq_iff_eq]; omega
              go_wp2_with fail
              go_ret3
              exact ⟨by rw [HS.out (by omega), if_pos (by omega)]; rfl, rfl⟩
            · have hc0 : ((ck : Int) == 0) = true := by rw [beq_iff_eq]; omega
              by_cases h9 : k = 9
              · have hk9 : ((k : Int) == 9) = true := by rw [beq_iff_eq]; omega
                clear h9
                have hd1 : decide ((1 : Int) < (ck : Int)) = false := by simp; omega
                go_wp2_with fail
                go_ret3
                exact ⟨by rw [HS.out (by omega), if_pos (by omega)]; rfl, rfl⟩
              · have hk9 : ((k : Int) == 9) = false := by rw [beq_eq_false_iff_ne]; omega
                clear h9
                go_wp2_with fail
                go_ret3
                exact ⟨by rw [HS.out (by omega), if_pos (by omega)]; rfl, rfl⟩
          · have hG : wp.getI l = (wp.unz (wp.gv (l.take (k + 1))), ((k + 1 : Nat) : Int), 0) := by rw [HS.out (by omega), if_neg (by omega)]
            have hg64 : wp.gv (l.take (k + 1)) < 18446744073709551616 := by
              rcases HCS.out with (h | h) | ⟨k', _, _, hg, h⟩
              · rw [hG] at h; simp at h
              · rw [hG] at h; simp at h
              · rw [hG] at h
                have : k = k' := by have := (Prod.mk.inj (Prod.mk.inj h).2).1; omega
                rw [this]; exact hg
            have HGG := Lib.hid hG
            have HG64 := Lib.hid hg64
            have htl : (l.take (k + 1)).length = k + 1 := by rw [List.length_take]; omega
            have htc : ∀ j u, (l.take (k + 1))[j]? = some u → w.cell? ⟨b, o + j, none⟩ = some (.int .u8 (u.toNat : Int)) := fun j u hu => HCE.out j u (by
              rw [List.getElem?_take] at hu
              split at hu
              · exact hu
              · cases hu)
            have HTL := Lib.hid htl
            have HTC := Lib.hid htc
            clear hG hg64 htl htc HCE HCS HS
            generalize l.take (k + 1) = T at *
            have fin : (k ≤ 8 ∧ ((ck : Int) == 0) = false ∧ ((k : Int) == 9) = false) ∨ (k ≤ 0 ∧ True ∧ ((k : Int) == 9) = false) ∨ (((k : Int) == 9) = true ∧ ((ck : Int) == 0) = false ∧ decide ((1 : Int) < (ck : Int)) = false) := by
              rcases hO with ⟨h1, h2⟩ | h1 | ⟨h1, h2, h3⟩
              · exact .inl ⟨h1, by rw [beq_eq_false_iff_ne]; omega, by rw [beq_eq_false_iff_ne]; omega⟩
              · exact .inr (.inl ⟨h1, trivial, by rw [beq_eq_false_iff_ne]; omega⟩)
              · exact .inr (.inr ⟨by rw [beq_iff_eq]; omega, by rw [beq_eq_false_iff_ne]; omega, by simp; omega⟩)
            clear hO
            rcases fin with ⟨h1, h2, h3⟩ | ⟨h1, h2, h3⟩ | ⟨h1, h2, h3⟩
            all_goals
              go_wp2_with fail
              all_goals
                clear h1 h2 h3
                go_loopg [6, 7] (k + 1) (fun g z x wr => g ≤ k + 1 ∧ x = .int .i64 ((g : Int) - 1) ∧ z = .int .u64 (wp.gv (T.drop g) : Nat) ∧ w = wr)
                case atStart => exact ⟨Nat.le_refl _, by go_num, by rw [List.drop_eq_nil_of_le (by rw [HTL.out]; exact Nat.le_refl _)]; rfl, rfl⟩
                case round =>
                  obtain ⟨hgk, rfl, rfl, rfl⟩ := hrel
                  rcases Nat.eq_zero_or_pos gk with h0 | h0
                  · subst h0
                    rw [List.drop_zero]
                    have hz : (wp.gv T : Int) ≤ 18446744073709551615 := by have := HG64.out; omega
                    by_cases h2 : wp.gv T % 2 = 1
                    · have hb3 : ((wp.gv T : Int) % 2 == 1) = true := by rw [beq_iff_eq]; omega
                      have HU : Hid (wp.unz (wp.gv T) = -1 - ((wp.gv T : Int) / 2)) := by show _ = _; unfold wp.unz; rw [if_pos h2]; omega
                      generalize wp.gv T = z at *
                      go_wp2_with fail
                      go_ret3
                      exact ⟨by rw [HGG.out, HU.out]; push_cast; rfl, rfl⟩
                    · have hb3 : ((wp.gv T : Int) % 2 == 1) = false := by rw [beq_eq_false_iff_ne]; omega
                      have HU : Hid (wp.unz (wp.gv T) = ((wp.gv T : Int) / 2)) := by show _ = _; unfold wp.unz; rw [if_neg h2]; omega
                      generalize wp.gv T = z at *
                      go_wp2_with fail
                      go_ret3
                      exact ⟨by rw [HGG.out, HU.out]; push_cast; rfl, rfl⟩
                  · obtain ⟨j, rfl⟩ : ∃ j, gk = j + 1 := ⟨gk - 1, by omega⟩
                    have hjl : j < T.length := by rw [HTL.out]; omega
                    have hjt : T[j]? = some T[j] := List.getElem?_eq_getElem hjl
                    have hcj := HTC.out j T[j] hjt
                    have HST := Lib.hid (wp.gv_drop_step hjt)
                    have hdd := wp.gv_drop T j
                    have hbj : (T[j].toNat : Int) < 256 := by have := T[j].toNat_lt; omega
                    have hz : (128 * wp.gv (T.drop (j + 1)) + T[j].toNat % 128 : Int) ≤ 18446744073709551615 := by have := HG64.out; have := HST.out; omega
                    have hjn : j < n := by omega
                    have he : ((j + 1 : Nat) : Int) - 1 = (j : Int) := by omega
                    rw [he]
                    clear he hdd hjt
                    generalize wp.gv (T.drop (j + 1)) = z at *
                    generalize T[j].toNat = tj at *
                    go_wp2_with fail
                    go_roundg j
                    case measure => omega
                    case rel => exact ⟨by omega, by go_num, by rw [HST.out]; congr 1; push_cast; omega, rfl⟩
      · have hb2 : ((k : Int) == (n : Int)) = true := by rw [beq_iff_eq]; omega
        go_wp2_with fail
        go_ret3
        exact ⟨by rw [wp.getI_none HH.out (by have := HLN.out; omega), if_neg (by have := HLN.out; omega)]; rfl, rfl⟩
end Go.Proofs.Ytbnemcggiopdmaa.wi
