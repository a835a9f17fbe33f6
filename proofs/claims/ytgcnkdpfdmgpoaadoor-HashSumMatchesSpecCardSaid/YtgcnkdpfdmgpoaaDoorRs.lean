
import Derived.Test.YtgcnkdpfdmgpoaaDoorWo

import Derived.Test.YtgcnkdpfdmgpoaaDoorKit4

namespace Go.Proofs.YtgcnkdpfdmgpoaaDoor.hi

open Go.ChangeShapes Go.WideShapes Go.ChangeAt Go.RowKit

set_option linter.unusedVariables false

set_option maxRecDepth 100000 in
set_option maxHeartbeats 1000000 in
theorem five_calls (n : Int) (w : World) (h1 : -9223372036854775808 ≤ n) (h2 : n ≤ 9223372036854775807) :
    Calls Tryd.prog 42 #[.int .i64 n] w (wi.OutB (hp.five n) w) := by
  obtain ⟨i0, hi, hz0, hz1, hz2⟩ := info_parts wi.info5
  go_enter Tryd.func42, Tryd.ntmps42
  go_wp2_with fail
  generalize hB : w.heap.size = B at *
  have HB := Lib.hid hB
  clear hB
  go_loopg [3, 4] 5 (fun g v x wr => ∃ k : Nat, k + g = 5 ∧ x = .int .i64 (k : Int) ∧ wr.ownsRow B 5 1 v k (wp.bc ((hp.five n).take k)) ∧ Below B w wr)
  case atStart => exact ⟨0, rfl, rfl, World.ownsRow_nil _ _ _ _, by rw [← HB.out]; exact Below.refl _ _⟩
  case round =>
    obtain ⟨k, hk, rfl, hown, hbel⟩ := hrel
    have HK := Lib.hid hk
    have HOWN := Lib.hid hown
    have HBEL := Lib.hid hbel
    have hkle : k ≤ 5 := by omega
    clear hk hown hbel
    by_cases hlt : k < 5
    · obtain ⟨s, hsh⟩ : ∃ s, s = 32 - 8 * k := ⟨_, rfl⟩
      have hsi : (32 : Int) - 8 * (k : Int) = (s : Int) := by omega
      have hval := hp.fiveAt_val n k
      rw [← hsh] at hval
      have hconv : IntKind.u8.wrap (n / 2 ^ s) = ((hp.fiveAt n k).toNat : Int) := by rw [IntKind.wrap_u8, hval]
      have HT : Hid ((hp.five n).take (k + 1) = (hp.five n).take k ++ [hp.fiveAt n k]) := by show _ = _; rw [List.take_add_one, hp.five_at n hlt]; rfl
      have hv := hval.symm
      have HV := Lib.hid hval
      generalize hp.fiveAt n k = y at *
      clear hsh hval
      go_wp2_with (at_builtin; refine wpList_append_own _ rfl _ _ 22 rfl B 5 i0 (.int .u8 0) 1 1 Tryd.underlying22 hi hz0 hz1 hz2 rfl (by decide) _ _ _ rfl (HOWN.out.alloc _) ⟨wr.heap.size, 0, none⟩ 1 1 [.int .u8 (y.toNat : Int)] rfl rfl ?c1 ?c2 ?c3 ?c4 ?c5 ?_)
      case c1 => exact cell_one_new _ _ _
      case c2 => simp [Value.oneCell']
      case c3 => unfold maxLen; omega
      case c4 => omega
      case c5 => have := HBEL.out.size; have := HB.out; simp; omega
      intro v' w1 hown' hgrow _
      go_wp2_with fail
      go_roundg (gk - 1)
      case measure => have := HK.out; omega
      case rel =>
        refine ⟨k + 1, by have := HK.out; omega, by go_num, ?_, (HBEL.out.alloc (by have := HBEL.out.size; have := HB.out; omega) _).grown hgrow (by have := HBEL.out.size; have := HB.out; simp; omega) (fun g hg => (HOWN.out.lt g hg).1)⟩
        rw [HT.out, wp.bc_append]
        exact hown'
    · obtain rfl : k = 5 := by omega
      go_wp2_with fail
      go_ret
      exact ⟨_, rfl, by rw [HB.out]; exact HOWN.out, by rw [HB.out]; exact HBEL.out⟩

set_option maxRecDepth 100000 in
set_option maxHeartbeats 1000000 in
theorem rbytes_calls (A : Option Addr) (n c : Nat) (l : List Int) (w : World) (hn : l.length = n) (hnc : n ≤ c) (hc : c ≤ 9223372036854775807)
    (hl : wp.RC w A (l.map (Value.int .i64))) (hwf : ∀ x ∈ l, -9223372036854775808 ≤ x ∧ x ≤ 9223372036854775807) (hsm : n ≤ 1000000) :
    Calls Tryd.prog 25 #[.slice A n c] w (wi.OutB (l.flatMap hp.five) w) := by
  obtain ⟨i0, hi, hz0, hz1, hz2⟩ := info_parts wi.info5
  have HL := Lib.hid hl
  have HN := Lib.hid hn
  have HW := Lib.hid hwf
  clear hl hn hwf
  go_enter Tryd.func25, Tryd.ntmps25
  go_wp2_with fail
  generalize hB : w.heap.size = B at *
  have HB := Lib.hid hB
  clear hB
  go_loopg [3, 4] n (fun g v x wr => ∃ k : Nat, k + g = n ∧ x = .int .i64 (k : Int) ∧ wr.ownsRow B 5 1 v (5 * k) (wp.bc ((l.take k).flatMap hp.five)) ∧ Below B w wr)
  case atStart => exact ⟨0, by omega, rfl, World.ownsRow_nil _ _ _ _, by rw [← HB.out]; exact Below.refl _ _⟩
  case round =>
    obtain ⟨k, hk, rfl, hown, hbel⟩ := hrel
    have HK := Lib.hid hk
    have HOWN := Lib.hid hown
    have HBEL := Lib.hid hbel
    have hkn : k ≤ n := by omega
    have HBW : Hid (B ≤ wr.heap.size) := by have := hbel.size; have := HB.out; show _ ≤ _; omega
    clear hk hown hbel
    by_cases hlt : k < n
    · have hkl : k < l.length := by have := HN.out; omega
      have hlk : l[k]? = some l[k] := List.getElem?_eq_getElem hkl
      obtain ⟨b, o, rfl, hbw, hcell⟩ := HL.out (by simp; omega)
      have hck : wr.cell? ⟨b, o + k, none⟩ = some (.int .i64 l[k]) := by
        rw [HBEL.out.cell (p := ⟨b, o + k, none⟩) (by rw [← HB.out]; exact hbw)]
        exact hcell k _ (by simp [hlk])
      have HX := Lib.hid (HW.out l[k] (List.getElem_mem hkl))
      have HS := Lib.hid (wp.flat_snoc hp.five hlk)
      clear hcell hlk
      generalize l[k] = x at *
      go_wp2_with fail
      refine (five_calls x wr HX.out.1 HX.out.2).mono ?_
      rintro e w2 ⟨v2, rfl, hown2, hbel2⟩
      obtain ⟨A2, c2, rfl, hc21, _, hR2⟩ := wp.RC.of_own hown2
      obtain ⟨b2, o2, rfl, _, _⟩ := hR2.rb (by rw [hp.five_length]; decide)
      have HR2 := Lib.hid (wk.RB.cells hR2.rb)
      have hownW := wk.ownsRow_below HOWN.out hbel2
      have HBW2 : Hid (B ≤ w2.heap.size) := by have := HBW.out; have := hbel2.size; show _ ≤ _; omega
      clear hown2 hR2
      go_wp2_with (at_builtin; refine wpList_append_own _ rfl _ _ 22 rfl B 5 i0 (.int .u8 0) 1 1 Tryd.underlying22 hi hz0 hz1 hz2 rfl (by decide) _ _ _ rfl hownW ⟨b2, o2, none⟩ _ _ (wp.bc (hp.five x)) rfl ?c0 HR2.out wp.bc_one ?c3 ?c4 ?c5 ?_)
      case c0 => rw [wp.bc_length, Nat.mul_one]
      case c3 => rw [hp.five_length]; unfold maxLen; omega
      case c4 => rw [hp.five_length]; omega
      case c5 => exact HBW2.out
      intro v3 w3 hown3 hgrow _
      go_wp2_with fail
      go_roundg (gk - 1)
      case measure => have := HK.out; omega
      case rel =>
        refine ⟨k + 1, by have := HK.out; omega, by go_num, ?_, (HBEL.out.trans (hbel2.mono HBW.out)).grown hgrow HBW2.out (fun q hq => (hownW.lt q hq).1)⟩
        rw [HS.out, wp.bc_append, Nat.mul_add]
        exact hown3
    · obtain rfl : k = n := by omega
      go_wp2_with fail
      go_ret
      have hkl : l.take k = l := by rw [← HN.out]; exact List.take_length
      have h := HOWN.out
      rw [hkl] at h
      refine ⟨_, rfl, ?_, by rw [HB.out]; exact HBEL.out⟩
      rw [hp.flat_five, HN.out, HB.out]
      exact h

set_option maxRecDepth 100000 in
theorem rwords_calls (A : Option Addr) (n c : Nat) (l : List Int) (w : World) (hn : l.length = n) (hnc : n ≤ c) (hc : c ≤ 9223372036854775807)
    (hl : wp.RC w A (l.map (Value.int .i64))) (hwf : ∀ x ∈ l, -9223372036854775808 ≤ x ∧ x ≤ 9223372036854775807) (hsm : n ≤ 1000000) :
    Calls Tryd.prog 24 #[.slice A n c] w fun e w' => e = .returned (.int .i64 (hp.crc (l.flatMap hp.five) : Nat)) ∧ Below w.heap.size w w' := by
  have H := Lib.hid (rbytes_calls A n c l w hn hnc hc hl hwf hsm)
  clear hn hl hwf
  generalize l.flatMap hp.five = M at *
  go_enter Tryd.func24, Tryd.ntmps24
  go_wp2_with fail
  refine H.out.mono ?_
  rintro e w2 ⟨v2, rfl, hown2, hbel2⟩
  obtain ⟨A2, c2, rfl, hc21, hc22, hR2⟩ := wp.RC.of_own hown2
  have HC := Lib.hid (rcrc_calls A2 _ c2 M w2 rfl hc21 (by unfold maxLen at hc22; exact hc22) hR2.rb)
  clear hR2 hown2
  go_wp2_with fail
  refine HC.out.mono ?_
  rintro e w3 ⟨rfl, rfl⟩
  go_wp2_with fail
  go_ret
  exact ⟨rfl, hbel2⟩

/-- texts that lie one after the other -/
def cat (l : List ByteArray) : List UInt8 := l.flatMap fun s => s.data.toList
theorem cat_snoc {l : List ByteArray} {k : Nat} {x : ByteArray} (h : l[k]? = some x) : cat (l.take (k + 1)) = cat (l.take k) ++ x.data.toList := by
  unfold cat; rw [List.take_add_one, h]; simp
theorem str_append (a : List UInt8) (x : ByteArray) : (⟨a.toArray⟩ : ByteArray) ++ x = ⟨(a ++ x.data.toList).toArray⟩ := by
  apply ByteArray.ext
  rw [ByteArray.data_append]
  apply Array.toList_inj.1
  simp
theorem cat_le (l : List ByteArray) (k : Nat) : (cat (l.take k)).length ≤ (cat l).length := wp.flat_le _ l k
theorem str_size (a : List UInt8) : (⟨a.toArray⟩ : ByteArray).size = a.length := by show a.toArray.size = _; simp
/-- at most 12 texts of at most 400 bytes -/
def fewB (l : List ByteArray) : Bool := decide (l.length ≤ 12) && l.all fun s => decide (s.size ≤ 400)

set_option maxRecDepth 100000 in
theorem joined_calls (A : Option Addr) (n c : Nat) (l : List ByteArray) (w : World) (hn : l.length = n) (hnc : n ≤ c) (hc : c ≤ 9223372036854775807)
    (hl : wp.RC w A (l.map Value.string)) (htot : (cat l).length ≤ 1000000) :
    Calls Tryd.prog 21 #[.slice A n c] w fun e w' => e = .returned (.string ⟨(cat l).toArray⟩) ∧ w = w' := by
  have HL := Lib.hid hl
  have HN := Lib.hid hn
  clear hl hn
  go_enter Tryd.func21, Tryd.ntmps21
  go_wp2_with fail
  go_loopg [3, 4] n (fun g v x wr => ∃ k : Nat, k + g = n ∧ x = .int .i64 (k : Int) ∧ v = .string ⟨(cat (l.take k)).toArray⟩ ∧ w = wr)
  case atStart => exact ⟨0, by omega, rfl, rfl, rfl⟩
  case round =>
    obtain ⟨k, hk, rfl, rfl, rfl⟩ := hrel
    have HK := Lib.hid hk
    have hkn : k ≤ n := by omega
    clear hk
    by_cases hlt : k < n
    · have hkl : k < l.length := by have := HN.out; omega
      have hlk : l[k]? = some l[k] := List.getElem?_eq_getElem hkl
      obtain ⟨b, o, rfl, hbw, hcell⟩ := HL.out (by simp; omega)
      have hck : w.cell? ⟨b, o + k, none⟩ = some (.string l[k]) := hcell k _ (by simp [hlk])
      have HS := Lib.hid (cat_snoc hlk)
      have hle := cat_le l (k + 1)
      rw [HS.out, List.length_append] at hle
      have hxs : l[k].data.toList.length = l[k].size := by rw [Array.length_toList]; rfl
      clear hcell hlk
      generalize l[k] = x at *
      have hps := str_size (cat (l.take k))
      have HAP := Lib.hid (str_append (cat (l.take k)) x)
      generalize hp0 : (⟨(cat (l.take k)).toArray⟩ : ByteArray) = p at *
      have hsum : p.size + x.size ≤ 1000000 := by omega
      clear hps hle hxs hp0
      go_wp2_with fail
      go_roundg (gk - 1)
      case measure => have := HK.out; omega
      case rel => exact ⟨k + 1, by have := HK.out; omega, by go_num, by rw [HAP.out, HS.out], rfl⟩
    · obtain rfl : k = n := by omega
      go_wp2_with fail
      go_ret
      have hkl : l.take k = l := by rw [← HN.out]; exact List.take_length
      rw [hkl]
      exact ⟨rfl, rfl⟩

set_option maxRecDepth 100000 in
theorem few_calls (A : Option Addr) (n c : Nat) (l : List ByteArray) (w : World) (hn : l.length = n) (hnc : n ≤ c) (hc : c ≤ 9223372036854775807)
    (hl : wp.RC w A (l.map Value.string)) (hsz : ∀ s ∈ l, s.size ≤ 9223372036854775807) :
    Calls Tryd.prog 18 #[.slice A n c] w fun e w' => e = .returned (.bool (fewB l)) ∧ w = w' := by
  have HL := Lib.hid hl
  have HN := Lib.hid hn
  have HSZ := Lib.hid hsz
  by_cases h12 : 12 < n
  · have HF : Hid (fewB l = false) := by show _ = _; unfold fewB; rw [decide_eq_false (by omega)]; rfl
    clear hl hn hsz
    go_enter Tryd.func18, Tryd.ntmps18
    go_wp2_with fail
    go_ret
    exact ⟨by rw [HF.out]; rfl, rfl⟩
  · have HF : Hid (fewB l = l.all fun s => decide (s.size ≤ 400)) := by show _ = _; unfold fewB; rw [decide_eq_true (by omega)]; rfl
    clear hl hn hsz
    go_enter Tryd.func18, Tryd.ntmps18
    go_wp2_with fail
    go_loopg [3] n (fun g x wr => ∃ k : Nat, k + g = n ∧ x = .int .i64 (k : Int) ∧ ((l.take k).all fun s => decide (s.size ≤ 400)) = true ∧ w = wr)
    case atStart => exact ⟨0, by omega, rfl, rfl, rfl⟩
    case round =>
      obtain ⟨k, hk, rfl, hall, rfl⟩ := hrel
      have HK := Lib.hid hk
      have HALL := Lib.hid hall
      have hkn : k ≤ n := by omega
      clear hk hall
      by_cases hlt : k < n
      · have hkl : k < l.length := by have := HN.out; omega
        have hlk : l[k]? = some l[k] := List.getElem?_eq_getElem hkl
        obtain ⟨b, o, rfl, hbw, hcell⟩ := HL.out (by simp; omega)
        have hck : w.cell? ⟨b, o + k, none⟩ = some (.string l[k]) := hcell k _ (by simp [hlk])
        have hxs := HSZ.out l[k] (List.getElem_mem hkl)
        have HT : Hid (l.take (k + 1) = l.take k ++ [l[k]]) := by show _ = _; rw [List.take_add_one, hlk]; rfl
        have HMEM := Lib.hid (List.getElem_mem hkl)
        clear hcell hlk
        generalize l[k] = x at *
        by_cases h4 : 400 < x.size
        · have HF2 : Hid ((l.all fun s => decide (s.size ≤ 400)) = false) := List.all_eq_false.2 ⟨x, HMEM.out, by simp; omega⟩
          go_wp2_with fail
          go_ret
          exact ⟨by rw [HF.out, HF2.out]; rfl, rfl⟩
        · go_wp2_with fail
          go_roundg (gk - 1)
          case measure => have := HK.out; omega
          case rel =>
            refine ⟨k + 1, by have := HK.out; omega, by go_num, ?_, rfl⟩
            rw [HT.out, List.all_append, HALL.out]
            simp
            omega
      · obtain rfl : k = n := by omega
        have hkl : l.take k = l := by rw [← HN.out]; exact List.take_length
        have hall := HALL.out
        rw [hkl] at hall
        have HA := Lib.hid hall
        clear hall hkl
        go_wp2_with fail
        go_ret
        exact ⟨by rw [HF.out, HA.out]; rfl, rfl⟩
end Go.Proofs.YtgcnkdpfdmgpoaaDoor.hi
