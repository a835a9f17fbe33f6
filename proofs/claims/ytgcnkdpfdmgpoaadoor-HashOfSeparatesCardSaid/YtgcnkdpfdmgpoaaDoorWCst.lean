
import Derived.Test.YtgcnkdpfdmgpoaaDoorVc

import Derived.Test.YtgcnkdpfdmgpoaaDoorOpen

import Derived.Test.YtgcnkdpfdmgpoaaDoorKit8

import Derived.Deep.DeepCutAuto

import Derived.StillTailTactics

namespace Go.Proofs.YtgcnkdpfdmgpoaaDoor.hashCrcStreams

open Go.ChangeShapes Go.WideShapes Go.ChangeAt Go.RowKit

set_option linter.unusedVariables false
theorem cat_le_few {l : List ByteArray} (h : hi.fewB l = true) : (hi.cat l).length ≤ 4800 ∧ l.length ≤ 12 := by
  unfold hi.fewB at h
  rw [Bool.and_eq_true, decide_eq_true_iff] at h
  obtain ⟨h1, h2⟩ := h
  have key : ∀ l : List ByteArray, (l.all fun s => decide (s.size ≤ 400)) = true → (hi.cat l).length ≤ 400 * l.length := by
    intro l
    induction l with
    | nil => intro _; simp [hi.cat]
    | cons s r ih =>
      intro h
      rw [List.all_cons, Bool.and_eq_true, decide_eq_true_iff] at h
      have := ih h.2
      have hs : s.data.toList.length = s.size := by rw [Array.length_toList]; rfl
      show (s.data.toList ++ hi.cat r).length ≤ _
      rw [List.length_append, List.length_cons]
      omega
  have := key l h2
  exact ⟨by omega, h1⟩
theorem few_size {l : List ByteArray} (h : hi.fewB l = true) {s : ByteArray} (hs : s ∈ l) : s.size ≤ 400 := by
  unfold hi.fewB at h
  rw [Bool.and_eq_true] at h
  exact of_decide_eq_true (List.all_eq_true.1 h.2 s hs)

def vrow (w : World) (g : Nat) (m : List UInt8) : Prop := w.heap[g]? = some (.cells (vc.cs m).toArray 30 (0, 0))
theorem vrow.below {w w' : World} {g : Nat} {m : List UInt8} (h : vrow w g m) (hb : Below w.heap.size w w') : vrow w' g m := wk.row_below h hb
set_option maxRecDepth 100000 in
set_option maxHeartbeats 4000000 in
theorem walk (w : World) (hT : hi.TabK w) {A : Option Addr} {n c : Nat} {l : List ByteArray} (w0 : wo.IsS w A n c l) {oth : ByteArray} (w1 : oth.size ≤ maxLen) {at' : Int} (w2 : (Lit.int .u8 at').wf = true) :
    Calls Tryd.prog 4 #[.slice A n c, .string oth, .int .u8 at'] w fun e w' => e = .returned (.bool true) ∧ Below w.heap.size w w' := by
  obtain ⟨hl, hnc, hc, hr, hsz⟩ := w0
  have hat : 0 ≤ at' ∧ at' ≤ 255 := by simpa [Lit.wf, IntKind.min, IntKind.max, IntKind.signed, IntKind.bits] using w2
  have HS := Lib.hid (hi.sanity_true w hT)
  have HT := Lib.hid hT
  have HR := Lib.hid hr
  have HL := Lib.hid hl
  have hsz2 : ∀ s ∈ l, s.size ≤ 9223372036854775807 := fun s hs => by have := hsz s hs; unfold maxLen at this; omega
  have HSZ := Lib.hid hsz2
  have hoth : oth.size ≤ 9223372036854775807 := by unfold maxLen at w1; omega
  clear hT hr hl w1 w2 hsz hsz2
  have HFC : Hid (∀ w', Below w.heap.size w w' → Calls Tryd.prog 18 #[.slice A n c] w' fun e w2 => e = .returned (.bool (hi.fewB l)) ∧ w' = w2) := fun w' hb => hi.few_calls A n c l w' HL.out hnc hc (wp.RC.below HR.out hb) HSZ.out
  cases hf : hi.fewB l
  · rw [hf] at HFC
    clear hf
    go_enter Tryd.func4, Tryd.ntmps4
    go_wp2_with fail
    refine HS.out.mono ?_
    rintro e w1 ⟨rfl, hb⟩
    go_wp2_with fail
    refine (HFC.out w1 hb).mono ?_
    rintro e w' ⟨rfl, rfl⟩
    go_wp2_with fail
    go_ret
    exact ⟨rfl, hb⟩
  · obtain ⟨hcat, h12⟩ := hashCrcStreams.cat_le_few hf
    rw [hf] at HFC
    have HF := Lib.hid hf
    have HCAT := Lib.hid hcat
    rw [HL.out] at h12
    clear hf hcat
    by_cases ho : 400 < oth.size
    · go_enter Tryd.func4, Tryd.ntmps4
      go_wp2_with fail
      refine HS.out.mono ?_
      rintro e w1 ⟨rfl, hb⟩
      go_wp2_with fail
      refine (HFC.out w1 hb).mono ?_
      rintro e w' ⟨rfl, rfl⟩
      go_wp2_with fail
      go_ret
      exact ⟨rfl, hb⟩
    · obtain ⟨a0, rfl⟩ := Int.eq_ofNat_of_zero_le hat.1
      obtain ⟨k0, hk0⟩ : ∃ k0, k0 = a0 % (n + 1) := ⟨_, rfl⟩
      have hkn0 : k0 ≤ n := by rw [hk0]; have := Nat.mod_lt a0 (show 0 < n + 1 by omega); omega
      have hmod : (a0 : Int) % ((n : Int) + 1) = (k0 : Int) := by rw [hk0, Int.natCast_emod]; rfl
      have HMOD := Lib.hid hmod
      clear hk0 hmod
      go_enter Tryd.func4, Tryd.ntmps4
      go_wp2_with fail
      refine HS.out.mono ?_
      rintro e w1 ⟨rfl, hb⟩
      have HB1 := Lib.hid hb
      go_wp2_with fail
      refine (HFC.out w1 hb).mono ?_
      rintro e w' ⟨rfl, rfl⟩
      clear hb HFC
      go_upto_region 5 with fail
      rw [HMOD.out]
      go_wp2_with fail
      refine (vc.begins w1).mono ?_
      rintro e w2 ⟨rfl, hb2⟩
      have HB2 := Lib.hid (HB1.out.trans (hb2.mono HB1.out.size))
      clear hb2
      have s0 := vc.cs_size []
      have o0 := vc.cs_ones []
      go_upto_region 6 with (refine wk.store_new rfl 30 (.tmp 9) (.tmp 32) rfl 30 _ (vc.cs []) rfl rfl s0 rfl o0 ?_)
      have q1 : vrow (w2.alloc (.cells (vc.cs []).toArray 30)) w2.heap.size [] := heap_alloc_new _ _
      have hB3 := HB2.out.alloc HB2.out.size (.cells (vc.cs []).toArray 30)
      have hg : w.heap.size ≤ w2.heap.size := HB2.out.size
      generalize w2.alloc (.cells (vc.cs []).toArray 30) = w3 at *
      generalize w2.heap.size = G at *
      have Q1 := Lib.hid q1
      have HB3 := Lib.hid hB3
      have HGG := Lib.hid hg
      clear q1 hB3 s0 o0 hg
      generalize hB : w.heap.size = B at *
      have HB := Lib.hid hB
      clear hB
      go_wp2_with fail
      go_loopg [10] k0 (fun gg y wr => ∃ (k : Nat), k + gg = k0 ∧ y = .int .i64 (k : Int) ∧ vrow wr G (hi.cat (l.take k)) ∧ Below B w wr)
      case atStart => exact ⟨0, by omega, rfl, Q1.out, HB3.out⟩
      case round =>
        obtain ⟨k, hk, rfl, hrow, hbel⟩ := hrel
        have HK := Lib.hid hk
        have HROW := Lib.hid hrow
        have HBEL := Lib.hid hbel
        have hkn : k ≤ k0 := by omega
        clear hk hrow hbel
        by_cases hlt : k < k0
        ·
          have hkl : k < l.length := by have := HL.out; omega
          have hlk : l[k]? = some l[k] := List.getElem?_eq_getElem hkl
          obtain ⟨b, o, rfl, hbw, hcell⟩ := HR.out (by simp; omega)
          have hck : wr.cell? ⟨b, o + k, none⟩ = some (.string l[k]) := by
            rw [HBEL.out.cell (p := ⟨b, o + k, none⟩) (by rw [← HB.out]; exact hbw)]
            exact hcell k _ (by simp [hlk])
          have HSN := Lib.hid (hi.cat_snoc hlk)
          have hxs := hashCrcStreams.few_size HF.out (List.getElem_mem hkl)
          have hle := hi.cat_le l k
          have hT9 := HT.out.below HT.out.1 (by have := HBEL.out; rw [← HB.out] at this; exact this)
          have HAD := Lib.hid (fun w' hT => vc.adds (hi.cat (l.take k)) l[k] w' hT (by have := HCAT.out; omega))
          rw [← HSN.out] at HAD
          have hrow := HROW.out
          unfold vrow at hrow
          have s1 := vc.cs_size (hi.cat (l.take (k + 1)))
          have s2 : (vc.cs (hi.cat (l.take k))).toArray.size = (vc.cs (hi.cat (l.take (k + 1)))).length := by rw [List.size_toArray, vc.cs_length, vc.cs_length]
          have o1 := vc.cs_ones (hi.cat (l.take (k + 1)))
          have hcl : ∀ j u, (vc.cs (hi.cat (l.take k)))[j]? = some u → wr.cell? ((⟨G, 0, none⟩ : Addr).add j) = some u := fun j u hu => by rw [wk.add_at, Nat.zero_add, cell_of_row _ _ _ _ _ _ hrow, List.getElem?_toArray]; exact hu
          have HCLL := Lib.hid hcl
          have hib : ((k : Nat) : Int) < ((n : Nat) : Int) := by omega
          have s3 := vc.cs_size (hi.cat (l.take k))
          clear hcell hlk hle hcl
          generalize l[k] = x at *
          go_wp2_with fail
          refine wp_region_still_tail 5 (by kernel_rfl) (by kernel_rfl) ?_
          simp only [List.take_succ_cons, List.take_zero, List.drop_succ_cons, List.drop_zero]
          refine wk.still_load rfl 30 (.tmp 9) rfl ⟨G, 0, none⟩ rfl (vc.cs (hi.cat (l.take k))) _ HCLL.out Tryd.underlying30 rfl s3 ?_
          repeat still_step
          try refine wpStill_nil ?_
          change wpList _ _ _ _ _ wr.drew
          clear s3
          go_wp2_with fail
          refine (HAD.out wr.drew hT9).mono ?_
          rintro e w5 ⟨rfl, hb5⟩
          have hb6 : Below wr.heap.size wr w5 := (Below.refl _ _).drew.trans hb5
          have h0 := wk.row_below hrow hb6
          skip
          have HB6 := Lib.hid (HBEL.out.trans (hb6.mono (by have := HBEL.out.size; have := HB.out; omega)))
          clear hb5 hb6 hrow
          go_wp2_with (refine wk.store_row rfl 30 (.tmp 9) (.tmp 43) rfl G (vc.cs (hi.cat (l.take (k + 1)))) rfl rfl 30 _ h0 s1 s2 o1 ?_)
          go_roundg (gk - 1)
          case measure => have := HK.out; omega
          case rel =>
            refine ⟨k + 1, by have := HK.out; omega, by go_num, setRow_heap _ _ _ _ _ _ h0, wk.below_setRow HB6.out HGG.out _⟩
        · obtain rfl : k = k0 := by omega
          have q1 := HROW.out
          unfold vrow at q1
          have s1 := vc.cs_sizeA (hi.cat (l.take k))
          have s2 := vc.cs_size (hi.cat (l.take k))
          have o1 := vc.cs_ones (hi.cat (l.take k))
          have z1 : (#[.int .u64 0] : Array Value).size = (vc.cs (hi.cat (l.take k))).length := by rw [vc.cs_length]; rfl
          go_upto_region 11 with (first | refine wpList_load_row rfl 30 (.tmp 9) rfl G rfl 30 (vc.cs (hi.cat (l.take k))).toArray (0, 0) _ q1 Tryd.underlying30 rfl s1 ?_ | refine wk.store_new rfl 30 (.tmp 11) (.tmp 44) rfl 30 _ (vc.cs (hi.cat (l.take k))) rfl rfl s2 z1 o1 ?_)
          have q2 : vrow (wr.alloc (.cells (vc.cs (hi.cat (l.take k))).toArray 30)) wr.heap.size (hi.cat (l.take k)) := heap_alloc_new _ _
          have q3 : vrow (wr.alloc (.cells (vc.cs (hi.cat (l.take k))).toArray 30)) G (hi.cat (l.take k)) := wk.row_below q1 ((Below.refl _ _).alloc (Nat.le_refl _) _)
          have hB4 := HBEL.out.alloc (by have := HBEL.out.size; have := HB.out; omega) (.cells (vc.cs (hi.cat (l.take k))).toArray 30)
          have hge : G < wr.heap.size := wk.row_lt q1
          generalize wr.alloc (.cells (vc.cs (hi.cat (l.take k))).toArray 30) = w4 at *
          generalize wr.heap.size = E at *
          have Q2 := Lib.hid q2
          have Q3 := Lib.hid q3
          have HB4 := Lib.hid hB4
          have HGE := Lib.hid hge
          clear q1 q2 q3 hB4 s1 s2 o1 z1 hge
          go_wp2_with fail
          go_loopg [12] (n - k) (fun gg y wr => ∃ (i : Nat), i + gg = n ∧ k ≤ i ∧ y = .int .i64 (i : Int) ∧ vrow wr G (hi.cat (l.take i)) ∧ vrow wr E (hi.cat (l.take k)) ∧ Below B w wr)
          case atStart => exact ⟨k, by omega, Nat.le_refl _, rfl, Q3.out, Q2.out, HB4.out⟩
          case round =>
            obtain ⟨i, hi2, hki, rfl, hrow, hrowE, hbel⟩ := hrel
            have HI := Lib.hid hi2
            have HROW := Lib.hid hrow
            have HROWE := Lib.hid hrowE
            have HBEL := Lib.hid hbel
            have hin : i ≤ n := by omega
            clear hi2 hrow hrowE hbel
            by_cases hlt2 : i < n
            ·
              have hkl : i < l.length := by have := HL.out; omega
              have hlk : l[i]? = some l[i] := List.getElem?_eq_getElem hkl
              obtain ⟨b, o, rfl, hbw, hcell⟩ := HR.out (by simp; omega)
              have hck : wr.cell? ⟨b, o + i, none⟩ = some (.string l[i]) := by
                rw [HBEL.out.cell (p := ⟨b, o + i, none⟩) (by rw [← HB.out]; exact hbw)]
                exact hcell i _ (by simp [hlk])
              have HSN := Lib.hid (hi.cat_snoc hlk)
              have hxs := hashCrcStreams.few_size HF.out (List.getElem_mem hkl)
              have hle := hi.cat_le l i
              have hT9 := HT.out.below HT.out.1 (by have := HBEL.out; rw [← HB.out] at this; exact this)
              have HAD := Lib.hid (fun w' hT => vc.adds (hi.cat (l.take i)) l[i] w' hT (by have := HCAT.out; omega))
              rw [← HSN.out] at HAD
              have hrow := HROW.out
              unfold vrow at hrow
              have s1 := vc.cs_size (hi.cat (l.take (i + 1)))
              have s2 : (vc.cs (hi.cat (l.take i))).toArray.size = (vc.cs (hi.cat (l.take (i + 1)))).length := by rw [List.size_toArray, vc.cs_length, vc.cs_length]
              have o1 := vc.cs_ones (hi.cat (l.take (i + 1)))
              have hcl : ∀ j u, (vc.cs (hi.cat (l.take i)))[j]? = some u → wr.cell? ((⟨G, 0, none⟩ : Addr).add j) = some u := fun j u hu => by rw [wk.add_at, Nat.zero_add, cell_of_row _ _ _ _ _ _ hrow, List.getElem?_toArray]; exact hu
              have HCLL := Lib.hid hcl
              have hib : ((i : Nat) : Int) < ((n : Nat) : Int) := by omega
              have s3 := vc.cs_size (hi.cat (l.take i))
              clear hcell hlk hle hcl
              generalize l[i] = x at *
              go_wp2_with fail
              refine wp_region_still_tail 5 (by kernel_rfl) (by kernel_rfl) ?_
              simp only [List.take_succ_cons, List.take_zero, List.drop_succ_cons, List.drop_zero]
              refine wk.still_load rfl 30 (.tmp 9) rfl ⟨G, 0, none⟩ rfl (vc.cs (hi.cat (l.take i))) _ HCLL.out Tryd.underlying30 rfl s3 ?_
              repeat still_step
              try refine wpStill_nil ?_
              change wpList _ _ _ _ _ wr.drew
              clear s3
              go_wp2_with fail
              refine (HAD.out wr.drew hT9).mono ?_
              rintro e w5 ⟨rfl, hb5⟩
              have hb6 : Below wr.heap.size wr w5 := (Below.refl _ _).drew.trans hb5
              have h0 := wk.row_below hrow hb6
              have HE5 := Lib.hid (HROWE.out.below hb6)
              have HB6 := Lib.hid (HBEL.out.trans (hb6.mono (by have := HBEL.out.size; have := HB.out; omega)))
              clear hb5 hb6 hrow
              go_wp2_with (refine wk.store_row rfl 30 (.tmp 9) (.tmp 57) rfl G (vc.cs (hi.cat (l.take (i + 1)))) rfl rfl 30 _ h0 s1 s2 o1 ?_)
              go_roundg (gk - 1)
              case measure => have := HI.out; omega
              case rel =>
                refine ⟨i + 1, by have := HI.out; omega, by omega, by go_num, setRow_heap _ _ _ _ _ _ h0, ?_, wk.below_setRow HB6.out HGG.out _⟩
                unfold vrow
                rw [setRow_other _ _ _ _ (by have := HGE.out; omega)]
                exact HE5.out
            · obtain rfl : i = n := by omega
              have hall : l.take i = l := by rw [← HL.out]; exact List.take_length
              have hrw := HROW.out
              rw [hall] at hrw
              have HROW := Lib.hid hrw
              have HTK := Lib.hid (HT.out.below HT.out.1 (by have := HBEL.out; rw [← HB.out] at this; exact this))
              clear hrw hall
              have q1 := HROWE.out
              unfold vrow at q1
              have s1 := vc.cs_sizeA (hi.cat (l.take k))
              have hck := hi.cat_le l k
              have HAD := Lib.hid (vc.adds (hi.cat (l.take k)) oth wr HTK.out (by have := HCAT.out; omega))
              go_wp2_with (refine wpList_load_row rfl 30 (.tmp 11) rfl E rfl 30 (vc.cs (hi.cat (l.take k))).toArray (0, 0) _ q1 Tryd.underlying30 rfl s1 ?_)
              refine HAD.out.mono ?_
              rintro e w5 ⟨rfl, hb5⟩
              have HROW := Lib.hid (HROW.out.below hb5)
              have HROWE := Lib.hid (HROWE.out.below hb5)
              have HBEL := Lib.hid (HBEL.out.trans (hb5.mono (by have := HBEL.out.size; have := HB.out; omega)))
              have s2 := vc.cs_size (hi.cat (l.take k) ++ oth.data.toList)
              have o2 := vc.cs_ones (hi.cat (l.take k) ++ oth.data.toList)
              have z2 : (#[.int .u64 0] : Array Value).size = (vc.cs (hi.cat (l.take k) ++ oth.data.toList)).length := by rw [vc.cs_length]; rfl
              clear hb5 q1 s1 HAD HTK
              go_upto_region 16 with (refine wk.store_new rfl 30 (.tmp 13) (.tmp 60) rfl 30 _ (vc.cs (hi.cat (l.take k) ++ oth.data.toList)) rfl rfl s2 z2 o2 ?_)
              have q2 : vrow (w5.alloc (.cells (vc.cs (hi.cat (l.take k) ++ oth.data.toList)).toArray 30)) w5.heap.size (hi.cat (l.take k) ++ oth.data.toList) := heap_alloc_new _ _
              have hbn : Below w5.heap.size w5 (w5.alloc (.cells (vc.cs (hi.cat (l.take k) ++ oth.data.toList)).toArray 30)) := (Below.refl _ _).alloc (Nat.le_refl _) _
              generalize w5.alloc (.cells (vc.cs (hi.cat (l.take k) ++ oth.data.toList)).toArray 30) = w6 at *
              have HROW := Lib.hid (HROW.out.below hbn)
              have HROWE := Lib.hid (HROWE.out.below hbn)
              have HBEL := Lib.hid (HBEL.out.trans (hbn.mono (by have := HBEL.out.size; have := HB.out; omega)))
              generalize w5.heap.size = D at *
              have HROWD := Lib.hid q2
              clear q2 hbn s2 o2 z2
              have hRC6 : wp.RC w6 A (l.map Value.string) := wp.RC.below HR.out (by have := HBEL.out; rw [← HB.out] at this; exact this)
              have hRC7 : wp.RC w6 A ((l.take k).map Value.string) := fun hlen => by
                have hl0 : 0 < (l.map Value.string).length := by simp at hlen ⊢; omega
                obtain ⟨b, o, e, hlt, hcell⟩ := hRC6 hl0
                refine ⟨b, o, e, hlt, fun j u hu => hcell j u ?_⟩
                rw [List.map_take, List.getElem?_take] at hu
                split at hu
                · exact hu
                · cases hu
              have HJ1 := Lib.hid (hi.joined_calls A i c l w6 HL.out hnc hc hRC6 (by have := HCAT.out; omega))
              have HJ2 := Lib.hid (hi.joined_calls A k c (l.take k) w6 (by rw [List.length_take, HL.out]; omega) (by omega) hc hRC7 (by have := HCAT.out; omega))
              obtain ⟨p1, hp1⟩ : ∃ p : ByteArray, (⟨(hi.cat l).toArray⟩ : ByteArray) = p := ⟨_, rfl⟩
              obtain ⟨p2, hp2⟩ : ∃ p : ByteArray, (⟨(hi.cat (l.take k)).toArray⟩ : ByteArray) = p := ⟨_, rfl⟩
              have hd1 : p1.data.toList = hi.cat l := by rw [← hp1]
              have hd2 : p2.data.toList = hi.cat (l.take k) := by rw [← hp2]
              have hz1 : p1.size = (hi.cat l).length := by rw [← hp1]; exact hi.str_size _
              have hz2 : p2.size = (hi.cat (l.take k)).length := by rw [← hp2]; exact hi.str_size _
              have hpd : (p2 ++ oth).data.toList = hi.cat (l.take k) ++ oth.data.toList := by rw [← hp2, hi.str_append]
              have hpz : (p2 ++ oth).size = p2.size + oth.size := by simp
              have hle1 : p1.size ≤ 4800 := by have := HCAT.out; omega
              have hle2 : p2.size ≤ 4800 := by have := HCAT.out; omega
              rw [hp1] at HJ1
              rw [hp2] at HJ2
              have D1 := Lib.hid hd1
              have D2 := Lib.hid hd2
              have D3 := Lib.hid hpd
              have Z1 := Lib.hid hz1
              have Z2 := Lib.hid hz2
              have Z3 := Lib.hid hpz
              clear hRC6 hRC7 hd1 hd2 hz1 hz2 hpd hpz hp1 hp2 hck
              have HTB : Hid (∀ w', Below B w w' → hi.TabK w') := fun w' h => HT.out.below HT.out.1 (by rw [HB.out]; exact h)
              go_wp2_with fail
              refine HJ1.out.mono ?_
              rintro e w' ⟨rfl, rfl⟩
              go_wp2_with fail
              refine HJ2.out.mono ?_
              rintro e w' ⟨rfl, rfl⟩
              have e1 := fun w' => vc.eqs (hi.cat l) w'
              have e2 := fun w' => vc.eqs (hi.cat (l.take k)) w'
              have e3 := fun w' => vc.eqs (hi.cat (l.take k) ++ oth.data.toList) w'
              clear HJ1 HJ2
              have q1 := HROW.out
              unfold vrow at q1
              have s1 := vc.cs_sizeA (hi.cat l)
              have HF1 := Lib.hid (vc.fins (hi.cat l) w6 (HTB.out _ HBEL.out) (by have := HCAT.out; omega))
              go_wp2_with (refine wk.load_due (by rfl) 30 (.tmp 9) rfl G rfl 30 (vc.cs (hi.cat l)).toArray (0, 0) _ q1 Tryd.underlying30 rfl s1 ?_)
              refine HF1.out.mono ?_
              rintro e wA ⟨rfl, hbA⟩
              clear q1 s1 HF1
              have HROW := Lib.hid (HROW.out.below hbA)
              have HROWE := Lib.hid (HROWE.out.below hbA)
              have HROWD := Lib.hid (HROWD.out.below hbA)
              have HBEL := Lib.hid (HBEL.out.trans (hbA.mono (by have := HBEL.out.size; have := HB.out; omega)))
              clear hbA
              obtain ⟨A3, c3, wB, hrun, hc31, hc32, hR3, hbB⟩ := wk.conv_bytes (P := Tryd.prog) wA 9 22 5 p1 Tryd.underlying9 Tryd.underlying22 Tryd.underlying5 (by unfold maxLen; omega)
              have HROW := Lib.hid (HROW.out.below hbB)
              have HROWE := Lib.hid (HROWE.out.below hbB)
              have HROWD := Lib.hid (HROWD.out.below hbB)
              have HBEL := Lib.hid (HBEL.out.trans (hbB.mono (by have := HBEL.out.size; have := HB.out; omega)))
              skip
              have hdl : p1.data.toList.length = p1.size := by rw [Array.length_toList]; exact rfl
              have HWH := Lib.hid (vc.wholes A3 p1.size c3 p1.data.toList wB (HTB.out _ HBEL.out) hdl hc31 hc32 hR3 (by omega))
              rw [D1.out] at HWH
              clear hbB hR3 hc31 hc32 hdl
              go_wp2_with fail
              refine HWH.out.mono ?_
              rintro e w7 ⟨rfl, hbA⟩
              have HROW := Lib.hid (HROW.out.below hbA)
              have HROWE := Lib.hid (HROWE.out.below hbA)
              have HROWD := Lib.hid (HROWD.out.below hbA)
              have HBEL := Lib.hid (HBEL.out.trans (hbA.mono (by have := HBEL.out.size; have := HB.out; omega)))
              clear hbA hrun HWH
              have q1 := HROWE.out
              unfold vrow at q1
              have s1 := vc.cs_sizeA (hi.cat (l.take k))
              have HF1 := Lib.hid (vc.fins (hi.cat (l.take k)) w7 (HTB.out _ HBEL.out) (by have := HCAT.out; have := hi.cat_le l k; omega))
              go_wp2_with (refine wk.load_due (by rfl) 30 (.tmp 11) rfl E rfl 30 (vc.cs (hi.cat (l.take k))).toArray (0, 0) _ q1 Tryd.underlying30 rfl s1 ?_)
              refine HF1.out.mono ?_
              rintro e wA ⟨rfl, hbA⟩
              clear q1 s1 HF1
              have HROW := Lib.hid (HROW.out.below hbA)
              have HROWE := Lib.hid (HROWE.out.below hbA)
              have HROWD := Lib.hid (HROWD.out.below hbA)
              have HBEL := Lib.hid (HBEL.out.trans (hbA.mono (by have := HBEL.out.size; have := HB.out; omega)))
              clear hbA
              obtain ⟨A3, c3, wB, hrun, hc31, hc32, hR3, hbB⟩ := wk.conv_bytes (P := Tryd.prog) wA 9 22 5 p2 Tryd.underlying9 Tryd.underlying22 Tryd.underlying5 (by unfold maxLen; omega)
              have HROW := Lib.hid (HROW.out.below hbB)
              have HROWE := Lib.hid (HROWE.out.below hbB)
              have HROWD := Lib.hid (HROWD.out.below hbB)
              have HBEL := Lib.hid (HBEL.out.trans (hbB.mono (by have := HBEL.out.size; have := HB.out; omega)))
              skip
              have hdl : p2.data.toList.length = p2.size := by rw [Array.length_toList]; exact rfl
              have HWH := Lib.hid (vc.wholes A3 p2.size c3 p2.data.toList wB (HTB.out _ HBEL.out) hdl hc31 hc32 hR3 (by omega))
              rw [D2.out] at HWH
              clear hbB hR3 hc31 hc32 hdl
              go_wp2_with fail
              refine HWH.out.mono ?_
              rintro e w8 ⟨rfl, hbA⟩
              have HROW := Lib.hid (HROW.out.below hbA)
              have HROWE := Lib.hid (HROWE.out.below hbA)
              have HROWD := Lib.hid (HROWD.out.below hbA)
              have HBEL := Lib.hid (HBEL.out.trans (hbA.mono (by have := HBEL.out.size; have := HB.out; omega)))
              clear hbA hrun HWH
              have q1 := HROWD.out
              unfold vrow at q1
              have s1 := vc.cs_sizeA (hi.cat (l.take k) ++ oth.data.toList)
              have HF1 := Lib.hid (vc.fins (hi.cat (l.take k) ++ oth.data.toList) w8 (HTB.out _ HBEL.out) (by rw [List.length_append]; have := HCAT.out; have := hi.cat_le l k; have hq : oth.data.toList.length = oth.size := (by rw [Array.length_toList]; rfl); omega))
              go_wp2_with (refine wk.load_due (by rfl) 30 (.tmp 13) rfl D rfl 30 (vc.cs (hi.cat (l.take k) ++ oth.data.toList)).toArray (0, 0) _ q1 Tryd.underlying30 rfl s1 ?_)
              refine HF1.out.mono ?_
              rintro e wA ⟨rfl, hbA⟩
              clear q1 s1 HF1
              have HROW := Lib.hid (HROW.out.below hbA)
              have HROWE := Lib.hid (HROWE.out.below hbA)
              have HROWD := Lib.hid (HROWD.out.below hbA)
              have HBEL := Lib.hid (HBEL.out.trans (hbA.mono (by have := HBEL.out.size; have := HB.out; omega)))
              clear hbA
              obtain ⟨A3, c3, wB, hrun, hc31, hc32, hR3, hbB⟩ := wk.conv_bytes (P := Tryd.prog) wA 9 22 5 (p2 ++ oth) Tryd.underlying9 Tryd.underlying22 Tryd.underlying5 (by unfold maxLen; rw [Z3.out]; omega)
              have HROW := Lib.hid (HROW.out.below hbB)
              have HROWE := Lib.hid (HROWE.out.below hbB)
              have HROWD := Lib.hid (HROWD.out.below hbB)
              have HBEL := Lib.hid (HBEL.out.trans (hbB.mono (by have := HBEL.out.size; have := HB.out; omega)))
              rw [Z3.out] at hrun hc31
              have hdl : (p2 ++ oth).data.toList.length = (p2.size + oth.size) := by rw [Array.length_toList]; exact Z3.out
              have HWH := Lib.hid (vc.wholes A3 (p2.size + oth.size) c3 (p2 ++ oth).data.toList wB (HTB.out _ HBEL.out) hdl hc31 hc32 hR3 (by omega))
              rw [D3.out] at HWH
              clear hbB hR3 hc31 hc32 hdl
              go_wp2_with fail
              refine HWH.out.mono ?_
              rintro e w9 ⟨rfl, hbA⟩
              have HROW := Lib.hid (HROW.out.below hbA)
              have HROWE := Lib.hid (HROWE.out.below hbA)
              have HROWD := Lib.hid (HROWD.out.below hbA)
              have HBEL := Lib.hid (HBEL.out.trans (hbA.mono (by have := HBEL.out.size; have := HB.out; omega)))
              clear hbA hrun HWH
              go_wp2_with fail
              go_ret
              refine ⟨rfl, ?_⟩
              rw [HB.out]
              exact HBEL.out
end Go.Proofs.YtgcnkdpfdmgpoaaDoor.hashCrcStreams
