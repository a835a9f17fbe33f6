
import Derived.Test.YtjhagfggelhpkaaDoorRInt

namespace Go.Proofs.YtjhagfggelhpkaaDoor.wi

open Go.ChangeShapes Go.WideShapes Go.ChangeAt Go.RowKit

set_option linter.unusedVariables false

set_option maxRecDepth 100000 in
theorem refBytes_out (s : ByteArray) (w : World) (hs : s.size ≤ 140737488355318) :
    Calls Tryd.prog 95 #[.string s] w (OutB (wp.encB s.data.toList) w) := by
  obtain ⟨i0, hi, hz0, hz1, hz2⟩ := info_parts info5
  have hs1 : (s.size : Int) ≤ 9223372036854775807 := by omega
  have hlen := wp.encI_length (n := (s.size : Int)) (by omega) hs1
  have HE : Hid (wp.encB s.data.toList = wp.encI (s.size : Int) ++ s.data.toList) := wp.encB_eq s
  go_enter Tryd.func95, Tryd.ntmps95
  go_wp2_with fail
  refine (refInt_out (s.size : Int) w (by omega) hs1).mono ?_
  rintro e w1 ⟨v1, rfl, hown1, hbel1⟩
  generalize wp.encI (s.size : Int) = t at *
  go_wp2_with (at_builtin; refine Lib.wpList_append_own_string _ rfl _ _ 67 9 rfl w.heap.size 5 i0 Tryd.underlying67 Tryd.underlying9 hi hz0 hz1 hz2 _ _ _ rfl hown1 s rfl ?c1 ?c2 ?c3 ?_)
  case c1 => unfold maxLen; omega
  case c2 => omega
  case c3 => exact hbel1.size
  intro v2 w2 hown2 hgrow _
  go_wp2
  go_ret
  refine ⟨v2, rfl, ?_, hbel1.grown hgrow hbel1.size (fun g hg => (hown1.lt g hg).1)⟩
  rw [HE.out, wp.bc_append, List.length_append]
  have hz : s.data.toList.length = s.size := by rw [Array.length_toList]; rfl
  rw [hz]
  exact hown2

set_option maxRecDepth 100000 in
set_option maxHeartbeats 1000000 in
theorem refInts_out (A : Option Addr) (n c : Nat) (l : List Int) (w : World) (hn : l.length = n) (hnc : n ≤ c) (hc : c ≤ 9223372036854775807)
    (hl : wp.RC w A (l.map (Value.int .i64))) (hwf : ∀ x ∈ l, -9223372036854775808 ≤ x ∧ x ≤ 9223372036854775807) (htot : (wp.encIs l).length + 10 ≤ 140737488355328) :
    Calls Tryd.prog 81 #[.slice A n c] w (OutB (wp.encIs l) w) := by
  obtain ⟨i0, hi, hz0, hz1, hz2⟩ := info_parts info5
  have HL := Lib.hid hl
  have HN := Lib.hid hn
  have HT := Lib.hid htot
  have HW := Lib.hid hwf
  clear hwf
  clear hl hn htot
  have hint : ∀ (n : Nat) (w : World), n ≤ 9223372036854775807 → Calls Tryd.prog 91 #[.int .i64 (n : Int)] w (OutB (wp.encI (n : Int)) w) := fun n w h => refInt_out (n : Int) w (by omega) (by omega)
  have HI := Lib.hid hint
  clear hint
  go_enter Tryd.func81, Tryd.ntmps81
  go_wp2_with fail
  refine (HI.out n w (by omega)).mono ?_
  rintro e w1 ⟨v1, rfl, hown1, hbel1⟩
  go_wp2_with fail
  generalize hB : w.heap.size = B at *
  have HB := Lib.hid hB
  clear hB
  go_loopg [3, 4] n (fun g v x wr => ∃ k : Nat, k + g = n ∧ x = .int .i64 (k : Int) ∧ wr.ownsRow B 5 1 v ((wp.encI (n : Int)).length + ((l.take k).flatMap wp.encI).length) (wp.bc (wp.encI (n : Int)) ++ wp.bc ((l.take k).flatMap wp.encI)) ∧ Below B w wr)
  case atStart => exact ⟨0, by omega, rfl, by simpa [wp.bc] using hown1, hbel1⟩
  case round =>
    obtain ⟨k, hk, rfl, hown, hbel⟩ := hrel
    have HK := Lib.hid hk
    have hkn : k ≤ n := by omega
    have HBW : Hid (B ≤ wr.heap.size) := by have := hbel.size; have := HB.out; show _ ≤ _; omega
    clear hk hown1 hbel1
    by_cases hlt : k < n
    · have hkl : k < l.length := by have := HN.out; omega
      have hlk : l[k]? = some l[k] := List.getElem?_eq_getElem hkl
      obtain ⟨b, o, rfl, hbw, hcell⟩ := HL.out (by simp; omega)
      have hck : wr.cell? ⟨b, o + k, none⟩ = some (.int .i64 l[k]) := by
        rw [hbel.cell (p := ⟨b, o + k, none⟩) (by rw [← HB.out]; exact hbw)]
        exact hcell k _ (by simp [hlk])
      have HX := Lib.hid (HW.out l[k] (List.getElem_mem hkl))
      have HS := Lib.hid (wp.flat_snoc wp.encI hlk)
      have hfl := wp.flat_le wp.encI l (k + 1)
      rw [HS.out, List.length_append] at hfl
      have htt := HT.out
      unfold wp.encIs at htt
      rw [List.length_append, HN.out] at htt
      have HFL : Hid ((wp.encI (n : Int)).length + ((l.take k).flatMap wp.encI).length + (wp.encI l[k]).length ≤ 140737488355318) := by show _ ≤ _; omega
      clear hcell hlk hfl htt
      generalize l[k] = x at *
      generalize (l.take k).flatMap wp.encI = Pk at *
      go_wp2_with fail
      refine (refInt_out x wr HX.out.1 HX.out.2).mono ?_
      rintro e w2 ⟨v2, rfl, hown2, hbel2⟩
      obtain ⟨A2, c2, rfl, hc21, _, hR2⟩ := wp.RC.of_own hown2
      have hpos : 1 ≤ (wp.encI x).length := wp.encI_pos x
      obtain ⟨b2, o2, rfl, _, _⟩ := hR2.rb (by omega)
      have HR2 := Lib.hid (wk.RB.cells hR2.rb)
      have hownW := wk.ownsRow_below hown hbel2
      have HBW2 : Hid (B ≤ w2.heap.size) := by have := HBW.out; have := hbel2.size; show _ ≤ _; omega
      clear hown2 hR2 hpos
      go_wp2_with (at_builtin; refine wpList_append_own _ rfl _ _ 67 rfl B 5 i0 (.int .u8 0) 1 1 Tryd.underlying67 hi hz0 hz1 hz2 rfl (by decide) _ _ _ rfl hownW ⟨b2, o2, none⟩ _ _ (wp.bc (wp.encI x)) rfl ?c0 HR2.out wp.bc_one ?c3 ?c4 ?c5 ?_)
      case c0 => rw [wp.bc_length, Nat.mul_one]
      case c3 => have := HFL.out; unfold maxLen; omega
      case c4 => have := HFL.out; omega
      case c5 => exact HBW2.out
      intro v3 w3 hown3 hgrow _
      go_wp2_with fail
      go_roundg (gk - 1)
      case measure => have := HK.out; omega
      case rel =>
        refine ⟨k + 1, by have := HK.out; omega, by go_num, ?_, (hbel.trans (hbel2.mono HBW.out)).grown hgrow HBW2.out (fun q hq => (hownW.lt q hq).1)⟩
        rw [HS.out, wp.bc_append, List.length_append, ← Nat.add_assoc]
        exact hown3
    · go_wp2_with fail
      go_ret
      have hkl : k = l.length := by have := HN.out; omega
      refine ⟨_, rfl, ?_, by rw [HB.out]; exact hbel⟩
      unfold wp.encIs
      rw [HB.out, wp.bc_append, List.length_append, HN.out]
      have : l.take k = l := by rw [hkl]; exact List.take_length
      rw [this] at hown
      exact hown

end Go.Proofs.YtjhagfggelhpkaaDoor.wi
