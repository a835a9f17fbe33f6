
import Derived.Test.YtgcnkdpfdmgpoaaDoorSn

import Derived.Test.YtgcnkdpfdmgpoaaDoorOpen

import Derived.Test.YtgcnkdpfdmgpoaaDoorBit2

import Derived.Test.YtgcnkdpfdmgpoaaDoorHbu

import Derived.Test.YtgcnkdpfdmgpoaaDoorWJoins

import Derived.StillTailTactics

namespace Go.Proofs.YtgcnkdpfdmgpoaaDoor.hashCrcBursts

open Go.ChangeShapes Go.WideShapes Go.ChangeAt Go.RowKit

set_option linter.unusedVariables false

theorem own_set {w : World} {base g n cap : Nat} {e : TypeId} {o : List UInt8} (h : w.ownsRow base e 1 (.slice (some ⟨g, 0, none⟩) n cap) n (wp.bc o)) {i : Nat} (hi : i < n) (x : UInt8) :
    (w.setCell ⟨g, i, none⟩ (.int .u8 (x.toNat : Int))).ownsRow base e 1 (.slice (some ⟨g, 0, none⟩) n cap) n (wp.bc (o.set i x)) ∧ w.frozen? ⟨g, i, none⟩ = false ∧ base ≤ g := by
  rcases h.2 with ⟨hv, _⟩ | ⟨g', cap', cur, hv, hg, hh, hr1, hr2, hr3, hr4⟩
  · cases hv
  · simp only [Value.slice.injEq, Option.some.injEq, Addr.mk.injEq, and_true, true_and] at hv
    obtain ⟨rfl, rfl⟩ := hv
    have h0 := h.1
    rw [wp.bc_length] at h0
    refine ⟨⟨by rw [wp.bc_length, List.length_set]; exact h0, .inr ⟨g, cap, cur.setIfInBounds i (.int .u8 (x.toNat : Int)), rfl, hg, heap_setCell_same _ _ _ _ _ _ hh, hr1, hr2, by simpa using hr3, ?_⟩⟩, frozen_of_row _ _ _ _ _ hh, hg⟩
    rw [Array.toList_setIfInBounds, List.take_set, hr4]
    simp [wp.bc, List.map_set]
theorem own_cell {w : World} {base g n cap : Nat} {e : TypeId} {o : List UInt8} (h : w.ownsRow base e 1 (.slice (some ⟨g, 0, none⟩) n cap) n (wp.bc o)) {i : Nat} {c : UInt8} (hc : o[i]? = some c) : w.cell? ⟨g, i, none⟩ = some (.int .u8 (c.toNat : Int)) := by
  have := h.cells (g := g) rfl i (.int .u8 (c.toNat : Int)) (by simp [wp.bc, hc])
  rw [wk.add_at, Nat.zero_add] at this
  exact this

set_option maxRecDepth 100000 in
set_option maxHeartbeats 2000000 in
theorem walk (w : World) (hT : hi.TabK w) {A1 : Option Addr} {n c1 : Nat} {l : List UInt8} (w0 : wo.IsB w A1 n c1 l) {at' pat : Int} (w1 : (Lit.int .u16 at').wf = true) (w2 : (Lit.int .u64 pat).wf = true) :
    Calls Tryd.prog 10 #[.slice A1 n c1, .int .u16 at', .int .u64 pat] w fun e w' => e = .returned (.bool true) ∧ Below w.heap.size w w' := by
  obtain ⟨hl1, hnc1, hc1, hr1⟩ := w0
  have hat : 0 ≤ at' ∧ at' ≤ 65535 := by simpa [Lit.wf, IntKind.min, IntKind.max, IntKind.signed, IntKind.bits] using w1
  have hpat : 0 ≤ pat ∧ pat ≤ 18446744073709551615 := by simpa [Lit.wf, IntKind.min, IntKind.max, IntKind.signed, IntKind.bits] using w2
  have HS := Lib.hid (hi.sanity_true w hT)
  have HR := Lib.hid hr1
  have HL := Lib.hid hl1
  clear hT hr1 hl1 w1 w2
  by_cases g0 : n = 0
  · subst g0
    go_enter Tryd.func10, Tryd.ntmps10
    go_wp2_with fail
    refine HS.out.mono ?_
    rintro e w1 ⟨rfl, hb⟩
    go_wp2_with fail
    go_ret
    exact ⟨rfl, hb⟩
  · have h0 : 0 < n := by omega
    have h0b : ((n : Int) == 0) = false := by simpa using (by omega : (n : Int) ≠ 0)
    by_cases g4 : 400 < n
    · go_enter Tryd.func10, Tryd.ntmps10
      go_wp2_with fail
      refine HS.out.mono ?_
      rintro e w1 ⟨rfl, hb⟩
      go_wp2_with fail
      go_ret
      exact ⟨rfl, hb⟩
    · obtain ⟨a0, rfl⟩ := Int.eq_ofNat_of_zero_le hat.1
      obtain ⟨p0, rfl⟩ := Int.eq_ofNat_of_zero_le hpat.1
      go_enter Tryd.func10, Tryd.ntmps10
      go_wp2_with fail
      refine HS.out.mono ?_
      rintro e w1 ⟨rfl, hb⟩
      have HB1 := Lib.hid hb
      have K1 := Lib.hid (wk.RB.below HR.out (hb.alloc hb.size (.cells #[] 5)))
      have hb9 := hb.alloc hb.size (.cells #[] 5)
      have hown0 : (w1.alloc (.cells #[] 5)).ownsRow w1.heap.size 5 1 (.slice (some ⟨w1.heap.size, 0, none⟩) 0 0) 0 [] := hi.own_new w1 [] 5 (Nat.zero_le _)
      have HO := Lib.hid hown0
      clear hb hown0
      go_wp2_with (at_builtin; refine hashCrcJoins.append_any _ rfl _ _ 22 rfl w1.heap.size 5 Tryd.underlying22 wi.info5 _ 0 [] rfl HO.out ?a1 A1 n c1 l rfl HL.out K1.out ?a2 ?_)
      case a1 => simp
      case a2 => omega
      intro v2 w2 hown2 hb2
      have HB2 : Hid (Below w1.heap.size w1 w2) := ((Below.refl _ _).alloc (Nat.le_refl _) (.cells #[] 5)).trans hb2
      obtain ⟨g, cap, rfl, hcap⟩ : ∃ g cap, v2 = .slice (some ⟨g, 0, none⟩) n cap ∧ n ≤ cap ∧ cap ≤ maxLen := by
        rcases hown2.2 with ⟨_, hn0⟩ | ⟨g', cap', cur, hv, hg, hh, hr1, hr2, hr3, hr4⟩
        · omega
        · exact ⟨g', cap', hv, hr1, hr2⟩
      generalize hB2 : w1.heap.size = B2 at *
      have HB22 := Lib.hid hB2
      have HOWN2 := Lib.hid hown2
      have HCAP := Lib.hid hcap
      clear hown2 hb2 hb9 hB2 hcap HO
      have hn8 : (0 : Int) < 8 * (n : Int) := by omega
      obtain ⟨first, hfirst⟩ : ∃ first, first = a0 % (8 * n) := ⟨_, rfl⟩
      have hfl : first < 8 * n := by rw [hfirst]; exact Nat.mod_lt _ (by omega)
      have hmod : (a0 : Int) % (8 * (n : Int)) = (first : Int) := by rw [hfirst, Int.natCast_emod, Int.natCast_mul]; rfl
      have hne8 : (8 * (n : Int) == 0) = false := by simpa using (by omega : 8 * (n : Int) ≠ 0)
      clear hfirst
      go_wp2_with fail
      rw [hmod]
      have HMOD := Lib.hid hmod
      clear hmod hne8
      go_loopg [10, 11] 40 (fun gg x y wr => ∃ (k V : Nat) (s : Bool) (o : List UInt8), k + gg = 40 ∧ y = .int .i64 (k : Int) ∧ x = .bool s ∧ hbu.Burst first l o k V s ∧ wr.ownsRow B2 5 1 (.slice (some ⟨g, 0, none⟩) n cap) n (wp.bc o) ∧ Below B2 w1 wr)
      case atStart => exact ⟨0, 0, false, l, rfl, rfl, rfl, hbu.burst_zero first l, HOWN2.out, HB2.out⟩
      case round =>
        obtain ⟨k, V, s, o, hk, rfl, rfl, hbur, hown, hbel⟩ := hrel
        have HK := Lib.hid hk
        have HBUR := Lib.hid hbur
        have HOWN := Lib.hid hown
        have HBEL := Lib.hid hbel
        have hk40 : k ≤ 40 := by omega
        clear hk hbur hown hbel
        by_cases hlt : k < 40
        · by_cases hin : first + k < 8 * n
          · have hin' : (first : Int) + (k : Int) < 8 * (n : Int) := by omega
            have hand : bits .and .u64 ((p0 : Int) / 2 ^ k) 1 = (p0 : Int) / 2 ^ k % 2 := by
              have := hb.bit0_u64 (p0 / 2 ^ k) (Nat.lt_of_le_of_lt (Nat.div_le_self _ _) (by omega))
              rw [Int.natCast_emod, Int.natCast_ediv, Int.natCast_pow] at this
              exact this
            by_cases hp1 : ((p0 : Int) / 2 ^ k % 2 == 1) = true
            · obtain ⟨q, hq⟩ : ∃ q, q = (first + k) / 8 := ⟨_, rfl⟩
              obtain ⟨j, hj⟩ : ∃ j, j = (first + k) % 8 := ⟨_, rfl⟩
              have hqn : q < n := by omega
              have hqi : ((first : Int) + (k : Int)) / 8 = (q : Int) := by omega
              have hji : ((first : Int) + (k : Int)) % 8 = (j : Int) := by omega
              have hj8 : j < 8 := by omega
              have h7 : (7 : Int) - (j : Int) = ((7 - j : Nat) : Int) := by omega
              have hlo : o.length = n := by rw [HBUR.out.len, HL.out]
              obtain ⟨c, hc⟩ : ∃ c, o[q]? = some c := ⟨_, List.getElem?_eq_getElem (by omega)⟩
              have hcell := own_cell HOWN.out hc
              have HFL := Lib.hid (HBUR.out.flip hlt (by rw [HL.out]; exact hin) (c := c) (by rw [← hq]; exact hc))
              rw [← hq, ← hj] at HFL
              have hmv := hbu.mask_val j hj8
              obtain ⟨hown3, hfro, hbg⟩ := own_set HOWN.out hqn (c ^^^ hbu.mask j)
              have HO3 := Lib.hid hown3
              have HBG := Lib.hid hbg
              obtain ⟨s7, hs7⟩ : ∃ s7, s7 = 7 - j := ⟨_, rfl⟩
              rw [← hs7] at h7
              rw [← hs7] at hmv
              have hsh : IntKind.u8.wrap (2 ^ s7) = ((hbu.mask j).toNat : Int) := by
                have h2 : (2 : Nat) ^ s7 < 256 := by rw [← hmv]; exact (hbu.mask j).toNat_lt
                have e : (2 : Int) ^ s7 = ((2 ^ s7 : Nat) : Int) := by simp
                rw [e, hmv, IntKind.wrap_u8]
                generalize (2 : Nat) ^ s7 = z at *
                omega
              have hqt : Int.tdiv ((first : Int) + (k : Int)) 8 = (q : Int) := by rw [Int.tdiv_eq_ediv_of_nonneg (by omega)]; exact hqi
              have hjt : Int.tmod ((first : Int) + (k : Int)) 8 = (j : Int) := by rw [Int.tmod_eq_emod_of_nonneg (by omega)]; exact hji
              have hqw : IntKind.i64.wrap (q : Int) = (q : Int) := by rw [IntKind.wrap_i64]; omega
              have h7w : IntKind.i64.wrap (s7 : Int) = (s7 : Int) := by rw [IntKind.wrap_i64]; omega
              have hjw : IntKind.i64.wrap (j : Int) = (j : Int) := by rw [IntKind.wrap_i64]; omega
              have hx8 := hi.xor8 c (hbu.mask j)
              have hcl := c.toNat_lt
              clear hq hj hc hown3 hbg hs7 hlo hmv
              go_wp2_with fail
              go_still_tail 14, (by kernel_rfl)
              change wpList _ _ _ _ _ wr.drew
              clear hqi hji h7 hsh hqt hjt hqw h7w hjw
              go_wp2_with fail
              go_roundg (gk - 1)
              case measure => have := HK.out; omega
              case rel =>
                refine ⟨k + 1, V ^^^ 2 ^ (39 - k), true, o.set q (c ^^^ hbu.mask j), by have := HK.out; omega, by go_num, rfl, HFL.out, ?_, (HBEL.out.drew).setCell (p := ⟨g, q, none⟩) HBG.out _⟩
                rw [show c.toNat ^^^ (hbu.mask j).toNat = (c ^^^ hbu.mask j).toNat from (UInt8.toNat_xor _ _).symm]
                exact HO3.out.drew
            · have hp2 : ((p0 : Int) / 2 ^ k % 2 == 1) = false := by simpa using hp1
              clear hp1
              go_wp2_with fail
              go_roundg (gk - 1)
              case measure => have := HK.out; omega
              case rel => exact ⟨k + 1, V, s, o, by have := HK.out; omega, by go_num, rfl, HBUR.out.skip, HOWN.out, HBEL.out⟩
          · have hin' : ¬ (first : Int) + (k : Int) < 8 * (n : Int) := by omega
            have hend := HBUR.out.crc
            have hlo : o.length = n := by rw [HBUR.out.len, HL.out]
            have HLO := Lib.hid hlo
            obtain ⟨AO, cO, eO, hO1, hO2, hRO⟩ := wp.RC.of_own HOWN.out
            simp only [Value.slice.injEq, true_and] at eO
            obtain ⟨rfl, rfl⟩ := eO
            have KO := Lib.hid hRO.rb
            have K1 : Hid (wp.RB wr A1 l) := fun hlen => by
              obtain ⟨b, o2, e, hlt2, hcell⟩ := HR.out hlen
              refine ⟨b, o2, e, by have := HBEL.out.size; have := HB1.out.size; omega, fun jj u hu => ?_⟩
              rw [HBEL.out.cell (p := ⟨b, o2 + jj, none⟩) (by show b < B2; have := HB22.out; have := HB1.out.size; omega), HB1.out.cell (p := ⟨b, o2 + jj, none⟩) hlt2]
              exact hcell jj u hu
            have hsz : B2 ≤ wr.heap.size := by have := HBEL.out.size; have := HB22.out; omega
            have HSZ := Lib.hid hsz
            have hcr := hp.crc_lt l
            have hcr2 := hp.crc_lt o
            obtain ⟨z1, hz1⟩ : ∃ z1 : Int, ((hp.crc l : Nat) : Int) = z1 := ⟨_, rfl⟩
            obtain ⟨z2, hz2⟩ : ∃ z2 : Int, ((hp.crc o : Nat) : Int) = z2 := ⟨_, rfl⟩
            have hz12 : (z1 == z2) = !s := by
              rw [← hend, Bool.eq_iff_iff, beq_iff_eq, beq_iff_eq, ← hz1, ← hz2]
              omega
            have HZ1 := Lib.hid hz1
            have HZ2 := Lib.hid hz2
            have HC1 := Lib.hid (hi.crc40 A1 n c1 l wr HL.out hnc1 hc1 K1.out)
            rw [HZ1.out] at HC1
            clear hend hlo hRO hsz hcr hcr2 hz1 hz2 HOWN
            go_wp2_with fail
            refine HC1.out.mono ?_
            rintro e w5 ⟨rfl, hb5⟩
            have KO := Lib.hid (wk.RB.below KO.out hb5)
            have HB5 := Lib.hid (HBEL.out.trans (hb5.mono HSZ.out))
            have G5 : Hid (B2 ≤ w5.heap.size) := Nat.le_trans HSZ.out hb5.size
            have HC2 := Lib.hid (hi.crc40 (some ⟨g, 0, none⟩) n cap o w5 HLO.out hO1 (by unfold maxLen at hO2; omega) KO.out)
            rw [HZ2.out] at HC2
            clear hb5
            go_wp2_with fail
            refine HC2.out.mono ?_
            rintro e w6 ⟨rfl, hb6⟩
            have HB6 := Lib.hid (HB5.out.trans (hb6.mono G5.out))
            clear hb6
            cases s
            all_goals
              go_wp2_with fail
              go_ret
              exact ⟨rfl, HB1.out.trans (HB6.out.mono (by have := HB1.out.size; have := HB22.out; omega))⟩
        · obtain rfl : k = 40 := by omega
          have hend := HBUR.out.crc
          have hlo : o.length = n := by rw [HBUR.out.len, HL.out]
          have HLO := Lib.hid hlo
          obtain ⟨AO, cO, eO, hO1, hO2, hRO⟩ := wp.RC.of_own HOWN.out
          simp only [Value.slice.injEq, true_and] at eO
          obtain ⟨rfl, rfl⟩ := eO
          have KO := Lib.hid hRO.rb
          have K1 : Hid (wp.RB wr A1 l) := fun hlen => by
            obtain ⟨b, o2, e, hlt2, hcell⟩ := HR.out hlen
            refine ⟨b, o2, e, by have := HBEL.out.size; have := HB1.out.size; omega, fun jj u hu => ?_⟩
            rw [HBEL.out.cell (p := ⟨b, o2 + jj, none⟩) (by show b < B2; have := HB22.out; have := HB1.out.size; omega), HB1.out.cell (p := ⟨b, o2 + jj, none⟩) hlt2]
            exact hcell jj u hu
          have hsz : B2 ≤ wr.heap.size := by have := HBEL.out.size; have := HB22.out; omega
          have HSZ := Lib.hid hsz
          have hcr := hp.crc_lt l
          have hcr2 := hp.crc_lt o
          obtain ⟨z1, hz1⟩ : ∃ z1 : Int, ((hp.crc l : Nat) : Int) = z1 := ⟨_, rfl⟩
          obtain ⟨z2, hz2⟩ : ∃ z2 : Int, ((hp.crc o : Nat) : Int) = z2 := ⟨_, rfl⟩
          have hz12 : (z1 == z2) = !s := by
            rw [← hend, Bool.eq_iff_iff, beq_iff_eq, beq_iff_eq, ← hz1, ← hz2]
            omega
          have HZ1 := Lib.hid hz1
          have HZ2 := Lib.hid hz2
          have HC1 := Lib.hid (hi.crc40 A1 n c1 l wr HL.out hnc1 hc1 K1.out)
          rw [HZ1.out] at HC1
          clear hend hlo hRO hsz hcr hcr2 hz1 hz2 HOWN
          go_wp2_with fail
          refine HC1.out.mono ?_
          rintro e w5 ⟨rfl, hb5⟩
          have KO := Lib.hid (wk.RB.below KO.out hb5)
          have HB5 := Lib.hid (HBEL.out.trans (hb5.mono HSZ.out))
          have G5 : Hid (B2 ≤ w5.heap.size) := Nat.le_trans HSZ.out hb5.size
          have HC2 := Lib.hid (hi.crc40 (some ⟨g, 0, none⟩) n cap o w5 HLO.out hO1 (by unfold maxLen at hO2; omega) KO.out)
          rw [HZ2.out] at HC2
          clear hb5
          go_wp2_with fail
          refine HC2.out.mono ?_
          rintro e w6 ⟨rfl, hb6⟩
          have HB6 := Lib.hid (HB5.out.trans (hb6.mono G5.out))
          clear hb6
          cases s
          all_goals
            go_wp2_with fail
            go_ret
            exact ⟨rfl, HB1.out.trans (HB6.out.mono (by have := HB1.out.size; have := HB22.out; omega))⟩
end Go.Proofs.YtgcnkdpfdmgpoaaDoor.hashCrcBursts
