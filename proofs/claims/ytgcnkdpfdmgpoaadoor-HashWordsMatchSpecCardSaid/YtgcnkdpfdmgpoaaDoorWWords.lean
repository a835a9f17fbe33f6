
import Derived.Test.YtgcnkdpfdmgpoaaDoorSn

import Derived.Test.YtgcnkdpfdmgpoaaDoorOpen

import Derived.Test.YtgcnkdpfdmgpoaaDoorBit2

namespace Go.Proofs.YtgcnkdpfdmgpoaaDoor.hashWordsMatchSpec

open Go.ChangeShapes Go.WideShapes Go.ChangeAt Go.RowKit

set_option linter.unusedVariables false

theorem pw (n : Int) (s : Nat) (hs : s ≤ 32) : n / 2 ^ s % 256 = (n % 1099511627776) / 2 ^ s % 256 := by
  have e : n = 1099511627776 * (n / 1099511627776) + n % 1099511627776 := (Int.mul_ediv_add_emod n 1099511627776).symm
  have hp : (1099511627776 : Int) = 2 ^ s * (256 * 2 ^ (32 - s)) := by
    have h1 : (2 : Int) ^ s * 2 ^ (32 - s) = 2 ^ 32 := by rw [← Int.pow_add]; congr 1; omega
    rw [← Int.mul_assoc, Int.mul_comm (2 ^ s) 256, Int.mul_assoc, h1]; rfl
  generalize n % 1099511627776 = r at *
  generalize n / 1099511627776 = q at *
  rw [e, hp, Int.mul_assoc, Int.add_comm, Int.add_mul_ediv_left _ _ (by exact_mod_cast Nat.ne_of_gt (Nat.pow_pos (by decide))), Int.mul_assoc, Int.add_mul_emod_self_left]
theorem five_low (n : Int) : hp.five ((hi.low n : Nat) : Int) = hp.five n := by
  have h : ∀ j, hp.fiveAt ((hi.low n : Nat) : Int) j = hp.fiveAt n j := fun j => by
    unfold hp.fiveAt
    rw [pw n _ (by omega), pw ((hi.low n : Nat) : Int) _ (by omega)]
    have : ((hi.low n : Nat) : Int) % 1099511627776 = n % 1099511627776 := by unfold hi.low; omega
    rw [this]
  unfold hp.five
  rw [h, h, h, h, h]
/-- the words' lowest bits -/
def lows (l : List Int) : List Int := l.map fun n => ((hi.low n : Nat) : Int)
theorem lows_five (l : List Int) : (lows l).flatMap hp.five = l.flatMap hp.five := by
  unfold lows
  rw [List.flatMap_map]
  congr 1
  funext n
  exact five_low n
theorem lows_wf (l : List Int) : ∀ x ∈ lows l, -9223372036854775808 ≤ x ∧ x ≤ 9223372036854775807 := fun x hx => by
  obtain ⟨n, _, rfl⟩ := List.mem_map.1 hx
  have := hi.low_lt n
  omega
theorem info3 : (Tryd.prog.info? 3).map (fun i => (i.zero, i.size, i.bytes)) = some (some (.int .i64 0), 1, 8) := by kernel_rfl

set_option maxRecDepth 100000 in
set_option maxHeartbeats 1000000 in
theorem walk (w : World) (hT : hi.TabK w) {A : Option Addr} {n c : Nat} {l : List Int} (w0 : wo.IsI w A n c l) :
    Calls Tryd.prog 5 #[.slice A n c] w fun e w' => e = .returned (.bool true) ∧ Below w.heap.size w w' := by
  obtain ⟨hl, hnc, hc, hr, hwf⟩ := w0
  obtain ⟨i0, hi0, hz0, hz1, hz2⟩ := info_parts info3
  have HS := Lib.hid (hi.sanity_true w hT)
  have HR := Lib.hid hr
  have HL := Lib.hid hl
  have HWF := Lib.hid hwf
  clear hT hr hl hwf
  by_cases h8 : 80 < n
  · go_enter Tryd.func5, Tryd.ntmps5
    go_wp2_with fail
    refine HS.out.mono ?_
    rintro e w1 ⟨rfl, hb⟩
    go_wp2_with fail
    go_ret
    exact ⟨rfl, hb⟩
  · go_enter Tryd.func5, Tryd.ntmps5
    go_wp2_with fail
    refine HS.out.mono ?_
    rintro e w1 ⟨rfl, hb⟩
    have HB1 := Lib.hid hb
    have HR1 := Lib.hid (wp.RC.below HR.out hb)
    clear hb
    generalize hB : w.heap.size = B at *
    have HB := Lib.hid hB
    clear hB
    go_wp2_with fail
    generalize hB2 : w1.heap.size = B2 at *
    have HB2 := Lib.hid hB2
    clear hB2
    go_loopg [4, 5] n (fun g v x wr => ∃ k : Nat, k + g = n ∧ x = .int .i64 (k : Int) ∧ wr.ownsRow B2 3 1 v k (((lows l).take k).map (Value.int .i64)) ∧ Below B2 w1 wr)
    case atStart => exact ⟨0, by omega, rfl, World.ownsRow_nil _ _ _ _, by rw [← HB2.out]; exact Below.refl _ _⟩
    case round =>
      obtain ⟨k, hk, rfl, hown, hbel⟩ := hrel
      have HK := Lib.hid hk
      have HOWN := Lib.hid hown
      have HBEL := Lib.hid hbel
      have hkn : k ≤ n := by omega
      have HBW : Hid (B2 ≤ wr.heap.size) := by have := hbel.size; have := HB2.out; show _ ≤ _; omega
      clear hk hown hbel
      by_cases hlt : k < n
      · have hkl : k < l.length := by have := HL.out; omega
        have hlk : l[k]? = some l[k] := List.getElem?_eq_getElem hkl
        obtain ⟨b, o, rfl, hbw, hcell⟩ := HR1.out (by simp; omega)
        have hck : wr.cell? ⟨b, o + k, none⟩ = some (.int .i64 l[k]) := by
          rw [HBEL.out.cell (p := ⟨b, o + k, none⟩) (by rw [← HB2.out]; exact hbw)]
          exact hcell k _ (by simp [hlk])
        have HT : Hid ((lows l).take (k + 1) = (lows l).take k ++ [((hi.low l[k] : Nat) : Int)]) := by
          show _ = _
          rw [List.take_add_one]
          unfold lows
          rw [List.getElem?_map, hlk]
          rfl
        have e1 := hb.and40 l[k]
        clear hcell hlk
        generalize l[k] = x at *
        have hxl := hi.low_lt x
        generalize hi.low x = y at *
        go_wp2_with (at_builtin; refine wpList_append_own _ rfl _ _ 36 rfl B2 3 i0 (.int .i64 0) 1 8 Tryd.underlying36 hi0 hz0 hz1 hz2 rfl (by decide) _ _ _ rfl (HOWN.out.alloc _) ⟨wr.heap.size, 0, none⟩ 1 1 [.int .i64 (y : Int)] rfl rfl ?c1 ?c2 ?c3 ?c4 ?c5 ?_)
        case c1 => exact cell_one_new _ _ _
        case c2 => simp [Value.oneCell']
        case c3 => unfold maxLen; omega
        case c4 => omega
        case c5 => have := HBW.out; simp; omega
        intro v' w2 hown' hgrow _
        go_wp2_with fail
        go_roundg (gk - 1)
        case measure => have := HK.out; omega
        case rel =>
          refine ⟨k + 1, by have := HK.out; omega, by go_num, ?_, (HBEL.out.alloc HBW.out _).grown hgrow (by have := HBW.out; simp; omega) (fun g hg => (HOWN.out.lt g hg).1)⟩
          rw [HT.out, List.map_append, List.map_take]
          exact hown'
      · obtain rfl : k = n := by omega
        have hlen : (lows l).length = k := by unfold lows; rw [List.length_map]; exact HL.out
        have hkl : (lows l).take k = lows l := List.take_of_length_le (by omega)
        have h := HOWN.out
        rw [hkl] at h
        obtain ⟨A2, c2, rfl, h21, h22, hRC⟩ := wp.RC.of_own h
        have HRC := Lib.hid hRC
        have HLEN := Lib.hid hlen
        have HLF := Lib.hid (lows_five l)
        have hq := hp.crc_lt (l.flatMap hp.five)
        have HW1 := Lib.hid (hi.words_calls A k c l wr HL.out hnc hc (wp.RC.below HR1.out (by rw [HB2.out]; exact HBEL.out)) HWF.out)
        have HBY := Lib.hid (hp.flat_five l)
        clear h hRC hkl hlen
        go_wp2_with fail
        refine HW1.out.mono ?_
        rintro e w3 ⟨rfl, hb3⟩
        have HB3 : Hid (Below B2 w1 w3) := HBEL.out.trans (hb3.mono HBW.out)
        have HRC3 := Lib.hid (wp.RC.below HRC.out hb3)
        have HW2 := Lib.hid (hi.rwords_calls A k c l w3 HL.out hnc hc (wp.RC.below HR1.out (by rw [HB2.out]; exact HB3.out)) HWF.out (by omega))
        clear hb3 HW1
        go_wp2_with fail
        refine HW2.out.mono ?_
        rintro e w4 ⟨rfl, hb4⟩
        have HB4 : Hid (Below B2 w1 w4) := HB3.out.trans (hb4.mono (by have := HB3.out.size; have := HB2.out; omega))
        have HRC4 := Lib.hid (wp.RC.below HRC3.out hb4)
        have HW3 := Lib.hid (hi.words_calls A2 k c2 (lows l) w4 HLEN.out h21 (by unfold maxLen at h22; omega) HRC4.out (lows_wf l))
        rw [HLF.out] at HW3
        clear hb4 HW2
        go_wp2_with fail
        refine HW3.out.mono ?_
        rintro e w5 ⟨rfl, hb5⟩
        have HB5 : Hid (Below B2 w1 w5) := HB4.out.trans (hb5.mono (by have := HB4.out.size; have := HB2.out; omega))
        have HW4 := Lib.hid (hi.rbytes_calls A k c l w5 HL.out hnc hc (wp.RC.below HR1.out (by rw [HB2.out]; exact HB5.out)) HWF.out (by omega))
        clear hb5 HW3
        generalize l.flatMap hp.five = M at *
        go_wp2_with fail
        refine HW4.out.mono ?_
        rintro e w6 ⟨v6, rfl, hown6, hb6⟩
        obtain ⟨A6, c6, rfl, h61, h62, hR6⟩ := wp.RC.of_own hown6
        have HB6 : Hid (Below B2 w1 w6) := HB5.out.trans (hb6.mono (by have := HB5.out.size; have := HB2.out; omega))
        have HW5 := Lib.hid (hi.crc40 A6 _ c6 M w6 rfl h61 (by unfold maxLen at h62; omega) hR6.rb)
        clear hb6 HW4 hR6 hown6
        go_wp2_with fail
        refine HW5.out.mono ?_
        rintro e w7 ⟨rfl, hb7⟩
        have HB7 : Hid (Below B2 w1 w7) := HB6.out.trans (hb7.mono (by have := HB6.out.size; have := HB2.out; omega))
        clear hb7
        go_wp2_with fail
        go_ret
        refine ⟨rfl, ?_⟩
        rw [HB.out]
        exact HB1.out.trans (HB7.out.mono (by have := HB1.out.size; have := HB2.out; have := HB.out; omega))
end Go.Proofs.YtgcnkdpfdmgpoaaDoor.hashWordsMatchSpec
