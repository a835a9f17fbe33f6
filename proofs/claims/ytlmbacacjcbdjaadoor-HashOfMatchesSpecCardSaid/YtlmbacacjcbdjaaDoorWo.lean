
import Derived.Test.YtlmbacacjcbdjaaDoorRc

import Derived.Deep.DeepCutAuto

namespace Go.Proofs.YtlmbacacjcbdjaaDoor.hi

open Go.ChangeShapes Go.WideShapes Go.ChangeAt Go.RowKit

set_option linter.unusedVariables false

set_option maxRecDepth 100000 in
set_option maxHeartbeats 1000000 in
theorem words_calls (A : Option Addr) (n c : Nat) (l : List Int) (w : World) (hn : l.length = n) (hnc : n ≤ c) (hc : c ≤ 9223372036854775807) (hl : wp.RC w A (l.map (Value.int .i64))) (hwf : ∀ x ∈ l, -9223372036854775808 ≤ x ∧ x ≤ 9223372036854775807) :
    Calls Tryd.prog 70 #[.slice A n c] w fun e w' => e = .returned (.int .i64 (hp.crc (l.flatMap hp.five) : Nat)) ∧ Below w.heap.size w w' := by
  have HL := Lib.hid hl
  have HN := Lib.hid hn
  have HWF := Lib.hid hwf
  clear hl hn hwf
  go_enter Tryd.func70, Tryd.ntmps70
  go_wp2_with fail
  refine (begin_crc _).mono ?_
  rintro e w1 ⟨rfl, hb1⟩
  go_upto_region 2 with (refine wk.store_new rfl 107 (.tmp 3) (.tmp 7) rfl 107 _ [.int .u64 (hp.FULL : Nat)] rfl rfl crc_size rfl (wk.ones_one _ _) ?_)
  have q3 : (w1.alloc (.cells [Value.int .u64 (hp.FULL : Nat)].toArray 107)).heap[w1.heap.size]? = some (.cells #[.int .u64 (hp.FULL : Nat)] 107 (0, 0)) := heap_alloc_new _ _
  have qb : Below w.heap.size w (w1.alloc (.cells [Value.int .u64 (hp.FULL : Nat)].toArray 107)) := hb1.alloc hb1.size _
  generalize w1.alloc (.cells [Value.int .u64 (hp.FULL : Nat)].toArray 107) = w2 at *
  have hG := hb1.size
  generalize w1.heap.size = G at *
  generalize hB : w.heap.size = B at *
  have HB := Lib.hid hB
  have Q3 := Lib.hid q3
  have QB := Lib.hid qb
  clear hB q3 qb hb1
  go_wp2_with fail
  go_loopg [10] n (fun g x wr => ∃ (k q : Nat), k + g = n ∧ x = .int .i64 (k : Int) ∧ q < 1099511627776 ∧ hp.reg q ((l.drop k).flatMap hp.five) = hp.reg hp.FULL (l.flatMap hp.five) ∧ wr.heap[G]? = some (.cells #[.int .u64 (q : Int)] 107 (0, 0)) ∧ Below B w wr)
  case atStart => exact ⟨0, hp.FULL, by omega, rfl, by decide, by rw [List.drop_zero], Q3.out, QB.out⟩
  case round =>
    obtain ⟨k, q, hk, rfl, hq, hreg, h3, hbel⟩ := hrel
    have HK := Lib.hid hk
    have HREG := Lib.hid hreg
    have H3 := Lib.hid h3
    have HBEL := Lib.hid hbel
    have hkn : k ≤ n := by omega
    clear hk hreg h3 hbel
    by_cases hlt : k < n
    · have hkl : k < l.length := by have := HN.out; omega
      have hlk : l[k]? = some l[k] := List.getElem?_eq_getElem hkl
      obtain ⟨b, o, rfl, hbw, hcell⟩ := HL.out (by simp; omega)
      have hck : wr.cell? ⟨b, o + k, none⟩ = some (.int .i64 l[k]) := by
        rw [HBEL.out.cell (p := ⟨b, o + k, none⟩) (by rw [← HB.out]; exact hbw)]
        exact hcell k _ (by simp [hlk])
      have HX := Lib.hid (HWF.out l[k] (List.getElem_mem hkl))
      have HD := Lib.hid (List.drop_eq_getElem_cons hkl)
      clear hcell hlk
      generalize l[k] = x at *
      have hx1 := HX.out.1
      have hx2 := HX.out.2
      go_wp2_with fail
      go_loopg [6] 5 (fun g y ww => ∃ (j p : Nat), j + g = 5 ∧ y = .int .i64 (32 - 8 * (j : Int)) ∧ p < 1099511627776 ∧ hp.reg p ((hp.five x).drop j) = hp.reg q (hp.five x) ∧ ww.heap[G]? = some (.cells #[.int .u64 (p : Int)] 107 (0, 0)) ∧ Below B w ww)
      case atStart => exact ⟨0, q, rfl, rfl, hq, by rw [List.drop_zero], H3.out, HBEL.out⟩
      case round =>
        obtain ⟨j, p, hj, rfl, hp2, hreg2, h4, hbel2⟩ := hrel
        have HJ := Lib.hid hj
        have HREG2 := Lib.hid hreg2
        have H4 := Lib.hid h4
        have HBEL2 := Lib.hid hbel2
        have hjle : j ≤ 5 := by omega
        have hc4 : wr.cell? ⟨G, 0, none⟩ = some (.int .u64 (p : Int)) := by rw [cell_of_row _ _ _ _ _ _ h4]; rfl
        clear hj hreg2 h4 hbel2
        by_cases hj5 : j < 5
        · obtain ⟨s, hsh⟩ : ∃ s, s = 32 - 8 * j := ⟨_, rfl⟩
          have hsi : (32 : Int) - 8 * (j : Int) = (s : Int) := by omega
          have hval := hp.fiveAt_val x j
          rw [← hsh] at hval
          have HA := Lib.hid (fun w' => addByte p (hp.fiveAt x j) w' hp2)
          have HFD := Lib.hid (hp.five_drop x hj5)
          have HS := Lib.hid hsh
          have hconv : IntKind.u8.wrap (x / 2 ^ s) = ((hp.fiveAt x j).toNat : Int) := by rw [IntKind.wrap_u8, hval]
          have HV := Lib.hid hval
          rw [hsi]
          clear hsh hval
          go_wp2_with fail
          go_still_tail 5, (by kernel_rfl)
          change wpList _ _ _ _ _ wr.drew
          go_wp2_with fail
          have hA := HA.out wr.drew
          unfold crcV at hA
          refine hA.mono ?_
          rintro e w5 ⟨rfl, hb5⟩
          have hb6 : Below wr.heap.size wr w5 := (Below.refl _ _).drew.trans hb5
          have h0 := wk.row_below H4.out hb6
          have hyl : hp.Tn 8 (p ^^^ (hp.fiveAt x j).toNat * 4294967296) < 1099511627776 := hp.Tn_lt 8 (Nat.xor_lt_two_pow (n := 40) hp2 (hp.byte_lt _))
          have HR1 : Hid (hp.reg (hp.Tn 8 (p ^^^ (hp.fiveAt x j).toNat * 4294967296)) ((hp.five x).drop (j + 1)) = hp.reg q (hp.five x)) := by
            show _ = _
            rw [← HREG2.out, HFD.out]; rfl
          have HB6 := Lib.hid (HBEL2.out.trans (hb6.mono (by have := HBEL2.out.size; have := HB.out; omega)))
          clear hA hb5 hb6
          generalize hp.Tn 8 (p ^^^ (hp.fiveAt x j).toNat * 4294967296) = y at *
          go_wp2_with (refine wk.store_row rfl 107 (.tmp 3) (.tmp 23) rfl G [.int .u64 (y : Int)] rfl rfl 107 _ h0 crc_size rfl (wk.ones_one _ _) ?_)
          go_roundg (gk - 1)
          case measure => have := HJ.out; omega
          case rel =>
            refine ⟨j + 1, y, by have := HJ.out; omega, ?_, hyl, HR1.out, setRow_heap _ _ _ _ _ _ h0, wk.below_setRow HB6.out (by have := HB.out; omega) _⟩
            have h := HS.out
            rw [show (s : Int) - 8 = 32 - 8 * ((j + 1 : Nat) : Int) by omega]
        · obtain rfl : j = 5 := by omega
          go_wp2_with fail
          go_roundg (n - (k + 1))
          case measure => have := HK.out; omega
          case rel =>
            refine ⟨k + 1, p, by have := HK.out; omega, by go_num, hp2, ?_, H4.out, HBEL2.out⟩
            have h := HREG2.out
            have h2 : p = hp.reg q (hp.five x) := h
            rw [h2, ← hp.reg_append, ← HREG.out, HD.out]
            rfl
    · have hd : l.drop k = [] := List.drop_eq_nil_of_le (by have := HN.out; omega)
      have hr := HREG.out
      rw [hd] at hr
      have hr2 : q = hp.reg hp.FULL (l.flatMap hp.five) := hr
      have HR2 := Lib.hid hr2
      have HV := Lib.hid (fun w' => crc_value q w' hq)
      have h3 := H3.out
      clear hd hr hr2
      go_wp2_with (refine wpList_load_row rfl 107 (.tmp 3) rfl G rfl 107 #[.int .u64 (q : Int)] (0, 0) _ h3 Tryd.underlying107 rfl crc_size ?_)
      have hV := HV.out wr
      unfold crcV at hV
      refine hV.mono ?_
      rintro e w6 ⟨rfl, hb6⟩
      clear hV
      go_wp2_with fail
      go_ret
      refine ⟨?_, ?_⟩
      · unfold hp.crc
        rw [← HR2.out]
        rfl
      · rw [HB.out]
        exact HBEL.out.trans (hb6.mono (by have := HBEL.out.size; have := HB.out; omega))
end Go.Proofs.YtlmbacacjcbdjaaDoor.hi
