
import Derived.Test.YtjhagfggelhpkaaDoorRs

import Derived.Test.YtjhagfggelhpkaaDoorREnc

import Derived.Test.YtjhagfggelhpkaaDoorHx

import Derived.Test.YtjhagfggelhpkaaDoorG8

namespace Go.Proofs.YtjhagfggelhpkaaDoor.hi

open Go.ChangeShapes Go.WideShapes Go.ChangeAt Go.RowKit

set_option linter.unusedVariables false

theorem xor8 (c d : UInt8) : bits .xor .u8 (c.toNat : Int) (d.toNat : Int) = ((c ^^^ d).toNat : Int) := by
  rw [UInt8.toNat_xor]
  exact hb.bits_xor_nat .u8 8 (by decide) hb.w8 c.toNat d.toNat c.toNat_lt d.toNat_lt

theorem own_new (w : World) (xs : List Value) (e : TypeId) (h : xs.length ≤ maxLen) : (w.alloc (.cells xs.toArray e)).ownsRow w.heap.size e 1 (.slice (some ⟨w.heap.size, 0, none⟩) xs.length xs.length) xs.length xs :=
  ⟨by rw [Nat.mul_one], .inr ⟨w.heap.size, xs.length, xs.toArray, rfl, Nat.le_refl _, heap_alloc_new _ _, Nat.le_refl _, h, by simp, by simp⟩⟩

set_option maxRecDepth 100000 in
set_option maxHeartbeats 1000000 in
theorem input_calls (tag : Int) (A : Option Addr) (n c : Nat) (l : List ByteArray) (w : World) (hn : l.length = n) (hnc : n ≤ c) (hc : c ≤ 9223372036854775807) (hl : wp.RC w A (l.map Value.string)) (htag : -9223372036854775808 ≤ tag ∧ tag ≤ 9223372036854775807)
    (htot : 1 + (l.flatMap fun s => wp.encB s.data.toList).length ≤ 140737488355318) :
    Calls Tryd.prog 90 #[.int .i64 tag, .slice A n c] w (wi.OutB (tagB tag :: l.flatMap fun s => wp.encB s.data.toList) w) := by
  obtain ⟨i0, hi, hz0, hz1, hz2⟩ := info_parts wi.info5
  have HL := Lib.hid hl
  have HN := Lib.hid hn
  have HT := Lib.hid htot
  clear hl hn htot
  have htg := tagB_eq tag
  generalize tagB tag = tb at *
  go_enter Tryd.func90, Tryd.ntmps90
  go_upto_region 2 with fail
  have hown0 : (w.alloc (.cells #[.int .u8 (tb.toNat : Int)] 5)).ownsRow w.heap.size 5 1 (.slice (some ⟨w.heap.size, 0, none⟩) 1 1) 1 (wp.bc [tb]) := own_new w (wp.bc [tb]) 5 (by rw [wp.bc_length]; show 1 ≤ maxLen; decide)
  have hbel0 : Below w.heap.size w (w.alloc (.cells #[.int .u8 (tb.toNat : Int)] 5)) := (Below.refl _ _).alloc (Nat.le_refl _) _
  generalize w.alloc (.cells #[.int .u8 (tb.toNat : Int)] 5) = w1 at *
  generalize (Value.slice (some ⟨w.heap.size, 0, none⟩) 1 1) = v0 at *
  generalize hB : w.heap.size = B at *
  have HB := Lib.hid hB
  have HO := Lib.hid hown0
  have HBL := Lib.hid hbel0
  clear hB hown0 hbel0
  go_wp2_with fail
  go_loopg [5, 6] n (fun g v x wr => ∃ k : Nat, k + g = n ∧ x = .int .i64 (k : Int) ∧ wr.ownsRow B 5 1 v (1 + ((l.take k).flatMap (fun s => wp.encB s.data.toList)).length) (wp.bc (tb :: (l.take k).flatMap (fun s => wp.encB s.data.toList))) ∧ Below B w wr)
  case atStart => exact ⟨0, by omega, rfl, HO.out, HBL.out⟩
  case round =>
    obtain ⟨k, hk, rfl, hown, hbel⟩ := hrel
    have HK := Lib.hid hk
    have hkn : k ≤ n := by omega
    have HBW : Hid (B ≤ wr.heap.size) := by have := hbel.size; have := HB.out; show _ ≤ _; omega
    have HBEL := Lib.hid hbel
    have HOWN := Lib.hid hown
    clear hk hown hbel
    by_cases hlt : k < n
    · have hkl : k < l.length := by have := HN.out; omega
      have hlk : l[k]? = some l[k] := List.getElem?_eq_getElem hkl
      obtain ⟨b, o, rfl, hbw, hcell⟩ := HL.out (by simp; omega)
      have hck : wr.cell? ⟨b, o + k, none⟩ = some (.string l[k]) := by
        rw [HBEL.out.cell (p := ⟨b, o + k, none⟩) (by rw [← HB.out]; exact hbw)]
        exact hcell k _ (by simp [hlk])
      have HS := Lib.hid (wp.flat_snoc (fun s => wp.encB s.data.toList) hlk)
      have hfl := wp.flat_le (fun s => wp.encB s.data.toList) l (k + 1)
      rw [HS.out, List.length_append] at hfl
      have htt := HT.out
      have HFL : Hid (1 + ((l.take k).flatMap (fun s => wp.encB s.data.toList)).length + (wp.encB l[k].data.toList).length ≤ 140737488355318) := by show _ ≤ _; omega
      clear hcell hlk hfl htt
      generalize l[k] = x at *
      generalize (l.take k).flatMap (fun s => wp.encB s.data.toList) = Pk at *
      go_wp2_with fail
      refine (wi.refBytes_out x wr (by have := HFL.out; have h3 := congrArg List.length (wp.encB_eq x); rw [List.length_append] at h3; have h4 : x.data.toList.length = x.size := by (rw [Array.length_toList]; rfl)
                                       omega)).mono ?_
      rintro e w2 ⟨v2, rfl, hown2, hbel2⟩
      obtain ⟨A2, c2, rfl, hc21, _, hR2⟩ := wp.RC.of_own hown2
      have hpos : 1 ≤ (wp.encB x.data.toList).length := by rw [wp.encB_eq, List.length_append]; have := wp.encI_pos (x.size : Int); omega
      obtain ⟨b2, o2, rfl, _, _⟩ := hR2.rb (by omega)
      have HR2 := Lib.hid (wk.RB.cells hR2.rb)
      have hownW := wk.ownsRow_below HOWN.out hbel2
      have HBW2 : Hid (B ≤ w2.heap.size) := by have := HBW.out; have := hbel2.size; show _ ≤ _; omega
      clear hown2 hR2 hpos
      go_wp2_with (at_builtin; refine wpList_append_own _ rfl _ _ 67 rfl B 5 i0 (.int .u8 0) 1 1 Tryd.underlying67 hi hz0 hz1 hz2 rfl (by decide) _ _ _ rfl hownW ⟨b2, o2, none⟩ _ _ (wp.bc (wp.encB x.data.toList)) rfl ?c0 HR2.out wp.bc_one ?c3 ?c4 ?c5 ?_)
      case c0 => rw [wp.bc_length, Nat.mul_one]
      case c3 => have := HFL.out; unfold maxLen; omega
      case c4 => have := HFL.out; omega
      case c5 => exact HBW2.out
      intro v3 w3 hown3 hgrow _
      go_wp2_with fail
      go_roundg (gk - 1)
      case measure => have := HK.out; omega
      case rel =>
        refine ⟨k + 1, by have := HK.out; omega, by go_num, ?_, (HBEL.out.trans (hbel2.mono HBW.out)).grown hgrow HBW2.out (fun q hq => (hownW.lt q hq).1)⟩
        rw [HS.out, ← List.cons_append, wp.bc_append, List.length_append, ← Nat.add_assoc]
        exact hown3
    · obtain rfl : k = n := by omega
      have hkl : l.take k = l := by rw [← HN.out]; exact List.take_length
      have h := HOWN.out
      rw [hkl] at h
      have H := Lib.hid h
      clear h hkl
      go_wp2_with fail
      go_ret
      refine ⟨_, rfl, ?_, by rw [HB.out]; exact HBEL.out⟩
      rw [List.length_cons, Nat.add_comm, HB.out]
      exact H.out
end Go.Proofs.YtjhagfggelhpkaaDoor.hi
