/- Joined: U3 U4 Uy U5 Vlen Vb Vc. -/
import Derived.Test.YtiodjepjbooniaaG8

import Derived.Lib.BitFns

import Derived.Lib.Walk

import Derived.Lib.Strings

import Derived.Lib.Slices

import Derived.Lib.Small

import Derived.Lib.MinMax

import Derived.Deep.QuietTactic

import Derived.BigQuiet

import Derived.Laws.EntriesVeiled
/- The reference: Check. -/
namespace Go.Proofs.Ytiodjepjbooniaa.uk

open Go.ChangeShapes Go.WideShapes Go.ChangeAt Go.RowKit

open Go.Proofs.Ytiodjepjbooniaa.cq Go.Proofs.Ytiodjepjbooniaa.vk Go.Proofs.Ytiodjepjbooniaa.bk Go.Proofs.Ytiodjepjbooniaa.wk

set_option linter.unusedVariables false
def walls1 (b : Bk) (k : Nat) : Bool := (List.range k).all (wat b)
theorem walls1_succ (b : Bk) (k : Nat) : walls1 b (k + 1) = (walls1 b k && wat b k) := by unfold walls1; rw [List.range_succ, List.all_append]; simp
theorem walls_of1 {b : Bk} (hl : b.W.length = b.cuts.length) (h : walls1 b b.cuts.length = true) : walls b = true :=
  walls_all hl fun k hk => (List.all_eq_true.1 h) k (List.mem_range.2 hk)
def okw (n : Int) (w : List Int) : Bool := decide ((w.length : Int) = n) && vq.valid w
theorem areWords_okw (l : VV) (n : Int) : areWords l n = (decide (1 ≤ l.length) && decide (l.length ≤ 256) && l.all (okw n)) := rfl
theorem wat_at {b : Bk} {k : Nat} {l : VV} {y : Int} (hl : b.W[k]? = some l) (hy : b.cuts[k]? = some y) : wat b k = areWords l (endAt b.cuts b.d k - y) := by
  unfold wat
  rw [List.getD_eq_getElem?_getD, hl, spa_of (sp_at hy)]; rfl
theorem all_take_succ {α : Type} {p : α → Bool} {l : List α} {k : Nat} {x : α} (h : l[k]? = some x) : (l.take (k + 1)).all p = ((l.take k).all p && p x) := by
  rw [List.take_add_one, h, List.all_append]; simp
theorem all_not {α : Type} {p : α → Bool} {l : List α} {k : Nat} {x : α} (h : l[k]? = some x) (hp : p x = false) : l.all p = false := by
  rw [List.all_eq_false]
  exact ⟨x, List.mem_of_getElem? h, by rw [hp]; simp⟩
set_option maxRecDepth 100000 in
set_option maxHeartbeats 4000000 in
theorem rcheck_calls (v : Value) (b : Bk) (w : World) (h : IsBk w v b) :
    Calls Try.prog 13 #[v] w fun e w' => e = .returned (errB (check b)) ∧ Below w.heap.size w w' := by
  obtain ⟨A0, n0, c0, AW, nW, cW, rfl, hi, hW, hd⟩ := h
  have hT0 := Three.new w (.int .i64 b.d) (.slice A0 n0 c0) (.slice AW nW cW)
  have hb0 := below_new w (.cells #[.int .i64 b.d, .slice A0 n0 c0, .slice AW nW cW] 25)
  have hm := hi.2.2.1
  have hnc := hi.2.1
  have hm2 := hW.2.2.1
  have hnc2 := hW.2.1
  have hW0 := isW_below hW hb0
  have hi0 := isI_below hi hb0
  have HE : Hid (check b = (divided b.d b.cuts && decide (nW = n0) && walls b)) := by show _ = _; unfold check walls; rw [hi.1, hW.1]
  have HIL : Hid (b.cuts.length = n0) := hi.1
  have HWL : Hid (b.W.length = nW) := hW.1
  have HB0 := Lib.hid hb0
  have HT := Lib.hid hT0
  have HDI : Hid (divided b.d b.cuts = true → Div b.d b.cuts) := fun h => div_of h
  clear hi hW hd
  go_enter Try.func13, Try.ntmps13
  have hc0 := hT0.c0
  have hc1 := hT0.c1
  have hc2 := hT0.c2
  generalize hwE : w.alloc (.cells #[.int .i64 b.d, .slice A0 n0 c0, .slice AW nW cW] 25) = wE at *
  have HC := Lib.hid (rcut_calls A0 n0 c0 b.cuts b.d wE hi0)
  have HW := Lib.hid hW0
  have HI := Lib.hid hi0
  have HTE := Lib.hid hT0
  clear hW0 hi0 hb0
  go_wp2_with fail
  refine HC.out.mono ?_
  rintro e w1 ⟨rfl, hb1⟩
  have HB1 := Lib.hid hb1
  have hT1 := HTE.out.below hb1
  clear hc0 hc1 hc2 hT0 HC
  have hc0 := hT1.c0
  have hc1 := hT1.c1
  have hc2 := hT1.c2
  have HBW := Lib.hid (HB0.out.trans (hb1.mono HB0.out.size))
  clear hb1
  cases hdv : divided b.d b.cuts
  · have HE2 : Hid (check b = false) := by show _ = _; rw [HE.out, hdv]; rfl
    go_wp2_with fail
    go_ret
    exact ⟨by rw [HE2.out]; rfl, HBW.out⟩
  by_cases hlen : nW = n0
  · subst hlen
    have HE2 : Hid (check b = walls b) := by show _ = _; rw [HE.out, hdv]; simp
    have HV := Lib.hid (HDI.out hdv)
    have HWA : Hid (∀ k, k < nW → wat b k = false → check b = false) := fun k hk hh => by
      rw [HE2.out]; exact walls_not (by rw [HWL.out, HIL.out]) (by rw [HIL.out]; exact hk) hh
    have HWO : Hid (walls1 b nW = true → check b = true) := fun hh => by
      rw [HE2.out]; exact walls_of1 (by rw [HWL.out, HIL.out]) (by rw [HIL.out]; exact hh)
    clear HE HDI hdv
    have HT1 := Lib.hid hT1
    go_wp2_with fail
    clear hc0 hc1 hc2 hT1
    go_loopg [4] nW (fun g x wr => ∃ k : Nat, k + g = nW ∧ x = .int .i64 (k : Int) ∧ Below w1.heap.size w1 wr ∧ walls1 b k = true)
    case atStart => exact ⟨0, by omega, rfl, Below.refl _ _, rfl⟩
    case round =>
      obtain ⟨k, hk, rfl, hbel, hr⟩ := hrel
      have HK := Lib.hid hk
      have HR := Lib.hid hr
      have HBEL := Lib.hid hbel
      have hkn : k ≤ nW := by omega
      have hth := HT1.out.below hbel
      have hc0 := hth.c0
      have hc1 := hth.c1
      have hc2 := hth.c2
      have hbw : Below wE.heap.size wE wr := HB1.out.trans (hbel.mono HB1.out.size)
      have HBR : Hid (Below w.heap.size w wr) := HBW.out.trans (hbel.mono HBW.out.size)
      clear hk hr
      by_cases hlt : k < nW
      · obtain ⟨b1, o1, A1, n1, c1, l1, rfl, hb1, hcc1, hI1, hX1⟩ := isW_get (isW_below HW.out hbw) hlt
        obtain ⟨b2, o2, rfl, hby, -⟩ := (isI_below HI.out hbw).2.2.2.1 (by have := HIL.out; simp; omega)
        obtain ⟨b2', o2', y, eA, hcy, hY, -, -⟩ := isI_at (isI_below HI.out hbw) hlt
        cases eA
        have hlt0 : (k : Int) < (nW : Int) := by omega
        have hm3 := hI1.2.2.1
        have hnc3 := hI1.2.1
        have hl1 := hI1.1
        have HWT : Hid (wat b k = (decide (1 ≤ n1) && decide (n1 ≤ 256) && l1.all (okw (endAt b.cuts b.d k - y)))) := by show _ = _; rw [wat_at hX1 hY, areWords_okw, hl1]
        have hDA := HV.out.at hY
        have d32 := HV.out.d32
        have HI1 := Lib.hid hI1
        have HHY := Lib.hid hcy
        have HTR := Lib.hid hth
        have HCW := Lib.hid hcc1
        have HBLT := Lib.hid hb1
        have HBLY := Lib.hid hby
        clear hI1 hX1 hY hbel hbw hl1 hcy
        by_cases h3 : n1 < 1
        · have HN : Hid (check b = false) := HWA.out k hlt (by rw [HWT.out, decide_eq_false (by omega)]; rfl)
          go_wp2_with fail
          go_ret
          exact ⟨by rw [HN.out]; rfl, HBR.out⟩
        by_cases h4 : n1 > 256
        · have HN : Hid (check b = false) := HWA.out k hlt (by rw [HWT.out, decide_eq_false (show ¬ n1 ≤ 256 by omega)]; simp)
          go_wp2_with fail
          go_ret
          exact ⟨by rw [HN.out]; rfl, HBR.out⟩
        have HWT2 : Hid (wat b k = l1.all (okw (endAt b.cuts b.d k - y))) := by show _ = _; rw [HWT.out, decide_eq_true (by omega), decide_eq_true (show n1 ≤ 256 by omega)]; simp
        have HEN := Lib.hid (fun w' (hb : Below wE.heap.size wE w') => rend_calls _ nW c0 b.cuts b.d k w' (isI_below HI.out hb) hlt)
        generalize hz : endAt b.cuts b.d k = z at *
        clear HWT hz
        go_wp2_with fail
        obtain ⟨w0, hw0⟩ : ∃ u, u = wr := ⟨_, rfl⟩
        clear hc0 hc1 hc2 hcc1 hth hb1
        go_loopg [5] n1 (fun g x wr => ∃ j : Nat, j + g = n1 ∧ x = .int .i64 (j : Int) ∧ Below w0.heap.size w0 wr ∧ (l1.take j).all (okw (z - y)) = true)
        case atStart => exact ⟨0, by omega, rfl, by rw [hw0]; exact Below.refl _ _, by simp⟩
        case round =>
          obtain ⟨j, hj, rfl, hbel2, hr2⟩ := hrel
          subst hw0
          have HJ := Lib.hid hj
          have HR2 := Lib.hid hr2
          have HB2 := Lib.hid hbel2
          have hjn : j ≤ n1 := by omega
          have HBR2 : Hid (Below w.heap.size w wr) := HBR.out.trans (hbel2.mono HBR.out.size)
          have hth := HTR.out.below hbel2
          have hc0 := hth.c0
          have hc1 := hth.c1
          have hc2 := hth.c2
          clear hj hr2
          by_cases hlt2 : j < n1
          · obtain ⟨b3, o3, A3, n3, c3, l3, rfl, hb3, hcc3, hI3, hX3⟩ := isVV_get (isVV_below HI1.out hbel2) hlt2
            have hlt3 : (j : Int) < (n1 : Int) := by omega
            have hm5 := hI3.2.2.1
            have hnc5 := hI3.2.1
            have hl3 := hI3.1
            have HAS : Hid ((l1.take (j + 1)).all (okw (z - y)) = ((l1.take j).all (okw (z - y)) && okw (z - y) l3)) := all_take_succ hX3
            have HAN : Hid (okw (z - y) l3 = false → check b = false) := fun hh => HWA.out k hlt (by rw [HWT2.out]; exact all_not hX3 hh)
            have HOK : Hid (okw (z - y) l3 = (decide ((n3 : Int) = z - y) && vq.valid l3)) := by show _ = _; unfold okw; rw [hl3]
            have HVC := Lib.hid (rvalid_calls A3 n3 c3 l3 wr hI3)
            have HTE2 := Lib.hid hth
            have hcc1 : wr.cell? ⟨b1, o1 + k, none⟩ = some (.slice (some ⟨b3, o3, none⟩) n1 c1) := by
              have := HCW.out
              exact (hbel2.cell (p := ⟨b1, o1 + k, none⟩) HBLT.out).trans this
            have HCC1 := Lib.hid hcc1
            have HCC3 := Lib.hid hcc3
            have HB33 := Lib.hid hb3
            have hcy : wr.cell? ⟨b2, o2 + k, none⟩ = some (.int .i64 y) := (hbel2.cell (p := ⟨b2, o2 + k, none⟩) HBLY.out).trans HHY.out
            have HCY := Lib.hid hcy
            have HSZ := Lib.hid hbel2.size
            have HBE : Hid (Below wE.heap.size wE wr) := HB1.out.trans ((HBEL.out.trans (hbel2.mono HBEL.out.size)).mono HB1.out.size)
            clear hI3 hX3 hl3 hbel2 hcy
            go_wp2_with fail
            refine HVC.out.mono ?_
            rintro e w' ⟨rfl, rfl⟩
            go_wp2_with fail
            cases hval : vq.valid l3
            · have HN : Hid (check b = false) := HAN.out (by rw [HOK.out, hval]; simp)
              refine wk.region_tailS 26 [.is (.bool false), .is (.bool true), .is (.bool true), .is undef, .is undef, .is undef, .is undef, .is undef, .is undef, .is undef, .is undef, .is undef, .is undef, .is undef, .is undef, .is undef, .is undef, .is undef, .is undef, .is undef, .is undef, .is undef, .is undef, .is undef, .is undef, .is (.bool true)] [some 65, some 66, some 67, some 68, some 69, some 70, some 71, some 72, some 73, some 74, some 75, some 76, some 77, some 78, some 79, some 80, some 81, some 82, some 83, some 84, some 85, some 86, some 87, some 88, some 89, some 90] (by kernel_rfl) (by kernel_rfl) (by kernel_rfl) (by kernel_rfl) [3, 4, 5, 6, 7, 8, 9, 10, 11, 12, 13, 14, 15, 16, 17, 18, 19, 20, 21, 22, 23, 24] (by kernel_rfl) (by intro p hp; simp only [List.mem_cons, List.not_mem_nil, or_false] at hp; rcases hp with rfl | rfl | rfl | rfl | rfl | rfl | rfl | rfl | rfl | rfl | rfl | rfl | rfl | rfl | rfl | rfl | rfl | rfl | rfl | rfl | rfl | rfl <;> rfl) (by kernel_rfl) (by kernel_rfl) ?hstep ?hdone
              case hstep =>
                intro i o ho hi hns E w4 hb4 D
                have hi2 : i = 0 ∨ i = 1 ∨ i = 2 ∨ i = 3 ∨ i = 4 ∨ i = 5 ∨ i = 6 ∨ i = 7 ∨ i = 8 ∨ i = 9 ∨ i = 10 ∨ i = 11 ∨ i = 12 ∨ i = 13 ∨ i = 14 ∨ i = 15 ∨ i = 16 ∨ i = 17 ∨ i = 18 ∨ i = 19 ∨ i = 20 ∨ i = 21 ∨ i = 22 ∨ i = 23 ∨ i = 24 ∨ i = 25 := by omega
                clear hi
                rcases hi2 with rfl | rfl | rfl | rfl | rfl | rfl | rfl | rfl | rfl | rfl | rfl | rfl | rfl | rfl | rfl | rfl | rfl | rfl | rfl | rfl | rfl | rfl | rfl | rfl | rfl | rfl
                ·
                  have ho2 := (Array.getElem?_eq_some_iff.1 ho).2
                  simp only [List.getElem_toArray, List.getElem_cons_zero] at ho2
                  subst ho2
                  clear ho
                  have e6 := D.old 6 (by kernel_rfl)
                  exact wk.does_move rfl (by rw [e6]; rfl)
                ·
                  have ho2 := (Array.getElem?_eq_some_iff.1 ho).2
                  simp only [List.getElem_toArray, List.getElem_cons_succ, List.getElem_cons_zero] at ho2
                  subst ho2
                  clear ho
                  have e65 := D.is { on := 0, ground := .data } (by simp) rfl rfl 65 rfl
                  exact wk.does_un rfl (by rw [show E (.tmp 65) = _ from e65]; go_simp) rfl
                ·
                  have ho2 := (Array.getElem?_eq_some_iff.1 ho).2
                  simp only [List.getElem_toArray, List.getElem_cons_succ, List.getElem_cons_zero] at ho2
                  subst ho2
                  clear ho
                  have e66 := D.is { on := 1, ground := .data } (by simp) rfl rfl 66 rfl
                  exact wk.does_move rfl e66
                · cases (show false = true from hns.symm.trans (by kernel_rfl))
                · cases (show false = true from hns.symm.trans (by kernel_rfl))
                · cases (show false = true from hns.symm.trans (by kernel_rfl))
                · cases (show false = true from hns.symm.trans (by kernel_rfl))
                · cases (show false = true from hns.symm.trans (by kernel_rfl))
                · cases (show false = true from hns.symm.trans (by kernel_rfl))
                · cases (show false = true from hns.symm.trans (by kernel_rfl))
                · cases (show false = true from hns.symm.trans (by kernel_rfl))
                · cases (show false = true from hns.symm.trans (by kernel_rfl))
                · cases (show false = true from hns.symm.trans (by kernel_rfl))
                · cases (show false = true from hns.symm.trans (by kernel_rfl))
                · cases (show false = true from hns.symm.trans (by kernel_rfl))
                · cases (show false = true from hns.symm.trans (by kernel_rfl))
                · cases (show false = true from hns.symm.trans (by kernel_rfl))
                · cases (show false = true from hns.symm.trans (by kernel_rfl))
                · cases (show false = true from hns.symm.trans (by kernel_rfl))
                · cases (show false = true from hns.symm.trans (by kernel_rfl))
                · cases (show false = true from hns.symm.trans (by kernel_rfl))
                · cases (show false = true from hns.symm.trans (by kernel_rfl))
                · cases (show false = true from hns.symm.trans (by kernel_rfl))
                · cases (show false = true from hns.symm.trans (by kernel_rfl))
                · cases (show false = true from hns.symm.trans (by kernel_rfl))
                ·
                  have ho2 := (Array.getElem?_eq_some_iff.1 ho).2
                  simp only [List.getElem_toArray, List.getElem_cons_succ, List.getElem_cons_zero] at ho2
                  subst ho2
                  clear ho
                  have e67 := D.is { on := 2, ground := .data } (by simp) rfl rfl 67 rfl
                  have e89 := D.is { on := 24, ground := .data } (by simp) rfl rfl 89 rfl
                  exact wk.does_pick rfl e67 (D.con _)
              case hdone =>
                intro vals w4 hb4 hv
                have h25 := hv 25 (by omega)
                clear hv
                replace h25 : vals 25 = (.bool true) := h25
                simp only [List.drop_succ_cons, List.drop_zero, wpList, wk.setL, List.setIfInBounds_toArray, List.set_cons_zero, List.set_cons_succ, Nat.zero_add, Nat.reduceAdd, h25]
                generalize vals 0 = x0
                generalize vals 1 = x1
                generalize vals 2 = x2
                generalize vals 3 = x3
                generalize vals 4 = x4
                generalize vals 5 = x5
                generalize vals 6 = x6
                generalize vals 7 = x7
                generalize vals 8 = x8
                generalize vals 9 = x9
                generalize vals 10 = x10
                generalize vals 11 = x11
                generalize vals 12 = x12
                generalize vals 13 = x13
                generalize vals 14 = x14
                generalize vals 15 = x15
                generalize vals 16 = x16
                generalize vals 17 = x17
                generalize vals 18 = x18
                generalize vals 19 = x19
                generalize vals 20 = x20
                generalize vals 21 = x21
                generalize vals 22 = x22
                generalize vals 23 = x23
                generalize vals 24 = x24
                have HB9 : Hid (Below w.heap.size w w4) := HBR2.out.trans (((Below.refl _ _).drew.trans hb4).mono HBR2.out.size)
                go_wp2_with fail
                go_ret
                exact ⟨by rw [HN.out]; rfl, HB9.out⟩
            · by_cases hlen2 : (n3 : Int) = z - y
              · have HN : Hid ((l1.take (j + 1)).all (okw (z - y)) = true) := by show _ = _; rw [HAS.out, HR2.out, HOK.out, hval, decide_eq_true hlen2]; rfl
                refine wk.region_tailS 26 [.is (.bool true), .is (.bool false), .is (.bool false), .is (.pointer (some ⟨w.heap.size, 2, none⟩)), .is (.slice (some ⟨b1, o1, none⟩) nW cW), .is (.int .i64 (k : Int)), .is (.pointer (some ⟨b1, o1 + k, none⟩)), .is (.slice (some ⟨b3, o3, none⟩) n1 c1), .is (.int .i64 (j : Int)), .is (.pointer (some ⟨b3, o3 + j, none⟩)), .is (.slice A3 n3 c3), .is (.int .i64 (n3 : Int)), .is (.pointer (some ⟨w.heap.size, 1, none⟩)), .is (.slice (some ⟨b2, o2, none⟩) nW c0), .is (.pointer (some ⟨w.heap.size, 0, none⟩)), .is (.int .i64 b.d), .is (.int .i64 (k : Int)), .is (.int .i64 z), .is (.pointer (some ⟨w.heap.size, 1, none⟩)), .is (.slice (some ⟨b2, o2, none⟩) nW c0), .is (.int .i64 (k : Int)), .is (.pointer (some ⟨b2, o2 + k, none⟩)), .is (.int .i64 y), .is (.int .i64 (z - y)), .is (.bool false), .is (.bool false)] [some 65, some 66, some 67, some 68, some 69, some 70, some 71, some 72, some 73, some 74, some 75, some 76, some 77, some 78, some 79, some 80, some 81, some 82, some 83, some 84, some 85, some 86, some 87, some 88, some 89, some 90] (by kernel_rfl) (by kernel_rfl) (by kernel_rfl) (by kernel_rfl) [] (by kernel_rfl) (by intro p hp; cases hp) (by kernel_rfl) (by kernel_rfl) ?hstep ?hdone
                case hstep =>
                  intro i o ho hi hns E w4 hb4 D
                  have hi2 : i = 0 ∨ i = 1 ∨ i = 2 ∨ i = 3 ∨ i = 4 ∨ i = 5 ∨ i = 6 ∨ i = 7 ∨ i = 8 ∨ i = 9 ∨ i = 10 ∨ i = 11 ∨ i = 12 ∨ i = 13 ∨ i = 14 ∨ i = 15 ∨ i = 16 ∨ i = 17 ∨ i = 18 ∨ i = 19 ∨ i = 20 ∨ i = 21 ∨ i = 22 ∨ i = 23 ∨ i = 24 ∨ i = 25 := by omega
                  clear hi
                  rcases hi2 with rfl | rfl | rfl | rfl | rfl | rfl | rfl | rfl | rfl | rfl | rfl | rfl | rfl | rfl | rfl | rfl | rfl | rfl | rfl | rfl | rfl | rfl | rfl | rfl | rfl | rfl
                  ·
                    have ho2 := (Array.getElem?_eq_some_iff.1 ho).2
                    simp only [List.getElem_toArray, List.getElem_cons_zero] at ho2
                    subst ho2
                    clear ho
                    have e6 := D.old 6 (by kernel_rfl)
                    exact wk.does_move rfl (by rw [e6]; rfl)
                  ·
                    have ho2 := (Array.getElem?_eq_some_iff.1 ho).2
                    simp only [List.getElem_toArray, List.getElem_cons_succ, List.getElem_cons_zero] at ho2
                    subst ho2
                    clear ho
                    have e65 := D.is { on := 0, ground := .data } (by simp) rfl rfl 65 rfl
                    exact wk.does_un rfl (by rw [show E (.tmp 65) = _ from e65]; go_simp) rfl
                  ·
                    have ho2 := (Array.getElem?_eq_some_iff.1 ho).2
                    simp only [List.getElem_toArray, List.getElem_cons_succ, List.getElem_cons_zero] at ho2
                    subst ho2
                    clear ho
                    have e66 := D.is { on := 1, ground := .data } (by simp) rfl rfl 66 rfl
                    exact wk.does_move rfl e66
                  ·
                    have ho2 := (Array.getElem?_eq_some_iff.1 ho).2
                    simp only [List.getElem_toArray, List.getElem_cons_succ, List.getElem_cons_zero] at ho2
                    subst ho2
                    clear ho
                    have e1 := D.old 1 (by kernel_rfl)
                    exact wk.does_run (by simp only [execOp]; rw [show E (.tmp 1) = .pointer (some ⟨w.heap.size, 0, none⟩) by rw [e1]; rfl]; go_simp) rfl
                  ·
                    have ho2 := (Array.getElem?_eq_some_iff.1 ho).2
                    simp only [List.getElem_toArray, List.getElem_cons_succ, List.getElem_cons_zero] at ho2
                    subst ho2
                    clear ho
                    have e68 := D.is { on := 3, ground := .data } (by simp) rfl rfl 68 rfl
                    exact wk.does_load1 rfl e68 ((HTE2.out.below ((Below.refl _ _).drew.trans hb4)).c2) Try.underlying23 rfl rfl
                  ·
                    have ho2 := (Array.getElem?_eq_some_iff.1 ho).2
                    simp only [List.getElem_toArray, List.getElem_cons_succ, List.getElem_cons_zero] at ho2
                    subst ho2
                    clear ho
                    have e4 := D.old 4 (by kernel_rfl)
                    exact wk.does_move rfl (by rw [e4]; rfl)
                  ·
                    have ho2 := (Array.getElem?_eq_some_iff.1 ho).2
                    simp only [List.getElem_toArray, List.getElem_cons_succ, List.getElem_cons_zero] at ho2
                    subst ho2
                    clear ho
                    have e69 := D.is { on := 4, ground := .data } (by simp) rfl rfl 69 rfl
                    have e70 := D.is { on := 5, ground := .data } (by simp) rfl rfl 70 rfl
                    exact wk.does_run (by simp only [execOp]; rw [show E (.tmp 69) = _ from e69, show E (.tmp 70) = _ from e70]; go_simp) rfl
                  ·
                    have ho2 := (Array.getElem?_eq_some_iff.1 ho).2
                    simp only [List.getElem_toArray, List.getElem_cons_succ, List.getElem_cons_zero] at ho2
                    subst ho2
                    clear ho
                    have e71 := D.is { on := 6, ground := .data } (by simp) rfl rfl 71 rfl
                    exact wk.does_load1 rfl e71 ((((Below.refl _ _).drew.trans hb4).cell (p := ⟨_, _, none⟩) (Nat.lt_of_lt_of_le HBLT.out HSZ.out)).trans HCC1.out) Try.underlying39 rfl rfl
                  ·
                    have ho2 := (Array.getElem?_eq_some_iff.1 ho).2
                    simp only [List.getElem_toArray, List.getElem_cons_succ, List.getElem_cons_zero] at ho2
                    subst ho2
                    clear ho
                    have e5 := D.old 5 (by kernel_rfl)
                    exact wk.does_move rfl (by rw [e5]; rfl)
                  ·
                    have ho2 := (Array.getElem?_eq_some_iff.1 ho).2
                    simp only [List.getElem_toArray, List.getElem_cons_succ, List.getElem_cons_zero] at ho2
                    subst ho2
                    clear ho
                    have e72 := D.is { on := 7, ground := .data } (by simp) rfl rfl 72 rfl
                    have e73 := D.is { on := 8, ground := .data } (by simp) rfl rfl 73 rfl
                    exact wk.does_run (by simp only [execOp]; rw [show E (.tmp 72) = _ from e72, show E (.tmp 73) = _ from e73]; go_simp) rfl
                  ·
                    have ho2 := (Array.getElem?_eq_some_iff.1 ho).2
                    simp only [List.getElem_toArray, List.getElem_cons_succ, List.getElem_cons_zero] at ho2
                    subst ho2
                    clear ho
                    have e74 := D.is { on := 9, ground := .data } (by simp) rfl rfl 74 rfl
                    exact wk.does_load1 rfl e74 ((((Below.refl _ _).drew.trans hb4).cell (p := ⟨_, _, none⟩) HB33.out).trans HCC3.out) Try.underlying22 rfl rfl
                  ·
                    have ho2 := (Array.getElem?_eq_some_iff.1 ho).2
                    simp only [List.getElem_toArray, List.getElem_cons_succ, List.getElem_cons_zero] at ho2
                    subst ho2
                    clear ho
                    have e75 := D.is { on := 10, ground := .data } (by simp) rfl rfl 75 rfl
                    exact wk.does_run (by simp only [execOp, resolve, invoke, builtin, Sem.run_bind, Sem.run_pure, Result.andThen_ok, List.map_toArray, List.map_cons, List.map_nil]; rw [show E (.tmp 75) = _ from e75]; go_simp) rfl
                  ·
                    have ho2 := (Array.getElem?_eq_some_iff.1 ho).2
                    simp only [List.getElem_toArray, List.getElem_cons_succ, List.getElem_cons_zero] at ho2
                    subst ho2
                    clear ho
                    have e1 := D.old 1 (by kernel_rfl)
                    exact wk.does_run (by simp only [execOp]; rw [show E (.tmp 1) = .pointer (some ⟨w.heap.size, 0, none⟩) by rw [e1]; rfl]; go_simp) rfl
                  ·
                    have ho2 := (Array.getElem?_eq_some_iff.1 ho).2
                    simp only [List.getElem_toArray, List.getElem_cons_succ, List.getElem_cons_zero] at ho2
                    subst ho2
                    clear ho
                    have e77 := D.is { on := 12, ground := .data } (by simp) rfl rfl 77 rfl
                    exact wk.does_load1 rfl e77 ((HTE2.out.below ((Below.refl _ _).drew.trans hb4)).c1) Try.underlying22 rfl rfl
                  ·
                    have ho2 := (Array.getElem?_eq_some_iff.1 ho).2
                    simp only [List.getElem_toArray, List.getElem_cons_succ, List.getElem_cons_zero] at ho2
                    subst ho2
                    clear ho
                    have e1 := D.old 1 (by kernel_rfl)
                    exact wk.does_run (by simp only [execOp]; rw [show E (.tmp 1) = .pointer (some ⟨w.heap.size, 0, none⟩) by rw [e1]; rfl]; go_simp) rfl
                  ·
                    have ho2 := (Array.getElem?_eq_some_iff.1 ho).2
                    simp only [List.getElem_toArray, List.getElem_cons_succ, List.getElem_cons_zero] at ho2
                    subst ho2
                    clear ho
                    have e79 := D.is { on := 14, ground := .data } (by simp) rfl rfl 79 rfl
                    exact wk.does_load1 rfl e79 ((HTE2.out.below ((Below.refl _ _).drew.trans hb4)).c0) Try.underlying3 rfl rfl
                  ·
                    have ho2 := (Array.getElem?_eq_some_iff.1 ho).2
                    simp only [List.getElem_toArray, List.getElem_cons_succ, List.getElem_cons_zero] at ho2
                    subst ho2
                    clear ho
                    have e4 := D.old 4 (by kernel_rfl)
                    exact wk.does_move rfl (by rw [e4]; rfl)
                  ·
                    have ho2 := (Array.getElem?_eq_some_iff.1 ho).2
                    simp only [List.getElem_toArray, List.getElem_cons_succ, List.getElem_cons_zero] at ho2
                    subst ho2
                    clear ho
                    have e78 := D.is { on := 13, ground := .data } (by simp) rfl rfl 78 rfl
                    have e80 := D.is { on := 15, ground := .data } (by simp) rfl rfl 80 rfl
                    have e81 := D.is { on := 16, ground := .data } (by simp) rfl rfl 81 rfl
                    refine wk.does_fn (f := 43) (vs := #[.slice (some ⟨b2, o2, none⟩) nW c0, .int .i64 b.d, .int .i64 (k : Int)]) rfl (D.fn _) (by simp [e78, e80, e81]) (by go_simp) ?_
                    refine (HEN.out w4 (HBE.out.trans (((Below.refl _ _).drew.trans hb4).mono HBE.out.size))).mono ?_
                    rintro e w7 ⟨rfl, rfl⟩
                    exact ⟨_, rfl, Below.refl _ _, rfl⟩
                  ·
                    have ho2 := (Array.getElem?_eq_some_iff.1 ho).2
                    simp only [List.getElem_toArray, List.getElem_cons_succ, List.getElem_cons_zero] at ho2
                    subst ho2
                    clear ho
                    have e1 := D.old 1 (by kernel_rfl)
                    exact wk.does_run (by simp only [execOp]; rw [show E (.tmp 1) = .pointer (some ⟨w.heap.size, 0, none⟩) by rw [e1]; rfl]; go_simp) rfl
                  ·
                    have ho2 := (Array.getElem?_eq_some_iff.1 ho).2
                    simp only [List.getElem_toArray, List.getElem_cons_succ, List.getElem_cons_zero] at ho2
                    subst ho2
                    clear ho
                    have e83 := D.is { on := 18, ground := .data } (by simp) rfl rfl 83 rfl
                    exact wk.does_load1 rfl e83 ((HTE2.out.below ((Below.refl _ _).drew.trans hb4)).c1) Try.underlying22 rfl rfl
                  ·
                    have ho2 := (Array.getElem?_eq_some_iff.1 ho).2
                    simp only [List.getElem_toArray, List.getElem_cons_succ, List.getElem_cons_zero] at ho2
                    subst ho2
                    clear ho
                    have e4 := D.old 4 (by kernel_rfl)
                    exact wk.does_move rfl (by rw [e4]; rfl)
                  ·
                    have ho2 := (Array.getElem?_eq_some_iff.1 ho).2
                    simp only [List.getElem_toArray, List.getElem_cons_succ, List.getElem_cons_zero] at ho2
                    subst ho2
                    clear ho
                    have e84 := D.is { on := 19, ground := .data } (by simp) rfl rfl 84 rfl
                    have e85 := D.is { on := 20, ground := .data } (by simp) rfl rfl 85 rfl
                    exact wk.does_run (by simp only [execOp]; rw [show E (.tmp 84) = _ from e84, show E (.tmp 85) = _ from e85]; go_simp) rfl
                  ·
                    have ho2 := (Array.getElem?_eq_some_iff.1 ho).2
                    simp only [List.getElem_toArray, List.getElem_cons_succ, List.getElem_cons_zero] at ho2
                    subst ho2
                    clear ho
                    have e86 := D.is { on := 21, ground := .data } (by simp) rfl rfl 86 rfl
                    exact wk.does_load1 rfl e86 ((((Below.refl _ _).drew.trans hb4).cell (p := ⟨_, _, none⟩) (Nat.lt_of_lt_of_le HBLY.out HSZ.out)).trans HCY.out) Try.underlying3 rfl rfl
                  ·
                    have ho2 := (Array.getElem?_eq_some_iff.1 ho).2
                    simp only [List.getElem_toArray, List.getElem_cons_succ, List.getElem_cons_zero] at ho2
                    subst ho2
                    clear ho
                    have e82 := D.is { on := 17, ground := .data } (by simp) rfl rfl 82 rfl
                    have e87 := D.is { on := 22, ground := .data } (by simp) rfl rfl 87 rfl
                    have hw1 : IntKind.i64.wrap (z - y) = z - y := by rw [IntKind.wrap_i64]; omega
                    exact wk.does_run (by simp only [execOp]; rw [show E (.tmp 82) = _ from e82, show E (.tmp 87) = _ from e87]; go_simp) rfl
                  ·
                    have ho2 := (Array.getElem?_eq_some_iff.1 ho).2
                    simp only [List.getElem_toArray, List.getElem_cons_succ, List.getElem_cons_zero] at ho2
                    subst ho2
                    clear ho
                    have e76 := D.is { on := 11, ground := .data } (by simp) rfl rfl 76 rfl
                    have e88 := D.is { on := 23, ground := .data } (by simp) rfl rfl 88 rfl
                    exact wk.does_run (by simp only [execOp]; rw [show E (.tmp 76) = _ from e76, show E (.tmp 88) = _ from e88]; go_simp) rfl
                  ·
                    have ho2 := (Array.getElem?_eq_some_iff.1 ho).2
                    simp only [List.getElem_toArray, List.getElem_cons_succ, List.getElem_cons_zero] at ho2
                    subst ho2
                    clear ho
                    have e67 := D.is { on := 2, ground := .data } (by simp) rfl rfl 67 rfl
                    have e89 := D.is { on := 24, ground := .data } (by simp) rfl rfl 89 rfl
                    exact wk.does_pick rfl e67 e89
                case hdone =>
                  intro vals w4 hb4 hv
                  have h25 := hv 25 (by omega)
                  clear hv
                  replace h25 : vals 25 = (.bool false) := h25
                  simp only [List.drop_succ_cons, List.drop_zero, wpList, wk.setL, List.setIfInBounds_toArray, List.set_cons_zero, List.set_cons_succ, Nat.zero_add, Nat.reduceAdd, h25]
                  generalize vals 0 = x0
                  generalize vals 1 = x1
                  generalize vals 2 = x2
                  generalize vals 3 = x3
                  generalize vals 4 = x4
                  generalize vals 5 = x5
                  generalize vals 6 = x6
                  generalize vals 7 = x7
                  generalize vals 8 = x8
                  generalize vals 9 = x9
                  generalize vals 10 = x10
                  generalize vals 11 = x11
                  generalize vals 12 = x12
                  generalize vals 13 = x13
                  generalize vals 14 = x14
                  generalize vals 15 = x15
                  generalize vals 16 = x16
                  generalize vals 17 = x17
                  generalize vals 18 = x18
                  generalize vals 19 = x19
                  generalize vals 20 = x20
                  generalize vals 21 = x21
                  generalize vals 22 = x22
                  generalize vals 23 = x23
                  generalize vals 24 = x24
                  have HB9 : Hid (Below w0.heap.size w0 w4) := HB2.out.trans (((Below.refl _ _).drew.trans hb4).mono HB2.out.size)
                  go_wp2_with fail
                  go_roundg (gk - 1)
                  case measure => have := HJ.out; omega
                  case rel => exact ⟨j + 1, by have := HJ.out; omega, by go_num, HB9.out, HN.out⟩
              · have HN : Hid (check b = false) := HAN.out (by rw [HOK.out, decide_eq_false hlen2]; rfl)
                refine wk.region_tailS 26 [.is (.bool true), .is (.bool false), .is (.bool false), .is (.pointer (some ⟨w.heap.size, 2, none⟩)), .is (.slice (some ⟨b1, o1, none⟩) nW cW), .is (.int .i64 (k : Int)), .is (.pointer (some ⟨b1, o1 + k, none⟩)), .is (.slice (some ⟨b3, o3, none⟩) n1 c1), .is (.int .i64 (j : Int)), .is (.pointer (some ⟨b3, o3 + j, none⟩)), .is (.slice A3 n3 c3), .is (.int .i64 (n3 : Int)), .is (.pointer (some ⟨w.heap.size, 1, none⟩)), .is (.slice (some ⟨b2, o2, none⟩) nW c0), .is (.pointer (some ⟨w.heap.size, 0, none⟩)), .is (.int .i64 b.d), .is (.int .i64 (k : Int)), .is (.int .i64 z), .is (.pointer (some ⟨w.heap.size, 1, none⟩)), .is (.slice (some ⟨b2, o2, none⟩) nW c0), .is (.int .i64 (k : Int)), .is (.pointer (some ⟨b2, o2 + k, none⟩)), .is (.int .i64 y), .is (.int .i64 (z - y)), .is (.bool true), .is (.bool true)] [some 65, some 66, some 67, some 68, some 69, some 70, some 71, some 72, some 73, some 74, some 75, some 76, some 77, some 78, some 79, some 80, some 81, some 82, some 83, some 84, some 85, some 86, some 87, some 88, some 89, some 90] (by kernel_rfl) (by kernel_rfl) (by kernel_rfl) (by kernel_rfl) [] (by kernel_rfl) (by intro p hp; cases hp) (by kernel_rfl) (by kernel_rfl) ?hstep ?hdone
                case hstep =>
                  intro i o ho hi hns E w4 hb4 D
                  have hi2 : i = 0 ∨ i = 1 ∨ i = 2 ∨ i = 3 ∨ i = 4 ∨ i = 5 ∨ i = 6 ∨ i = 7 ∨ i = 8 ∨ i = 9 ∨ i = 10 ∨ i = 11 ∨ i = 12 ∨ i = 13 ∨ i = 14 ∨ i = 15 ∨ i = 16 ∨ i = 17 ∨ i = 18 ∨ i = 19 ∨ i = 20 ∨ i = 21 ∨ i = 22 ∨ i = 23 ∨ i = 24 ∨ i = 25 := by omega
                  clear hi
                  rcases hi2 with rfl | rfl | rfl | rfl | rfl | rfl | rfl | rfl | rfl | rfl | rfl | rfl | rfl | rfl | rfl | rfl | rfl | rfl | rfl | rfl | rfl | rfl | rfl | rfl | rfl | rfl
                  ·
                    have ho2 := (Array.getElem?_eq_some_iff.1 ho).2
                    simp only [List.getElem_toArray, List.getElem_cons_zero] at ho2
                    subst ho2
                    clear ho
                    have e6 := D.old 6 (by kernel_rfl)
                    exact wk.does_move rfl (by rw [e6]; rfl)
                  ·
                    have ho2 := (Array.getElem?_eq_some_iff.1 ho).2
                    simp only [List.getElem_toArray, List.getElem_cons_succ, List.getElem_cons_zero] at ho2
                    subst ho2
                    clear ho
                    have e65 := D.is { on := 0, ground := .data } (by simp) rfl rfl 65 rfl
                    exact wk.does_un rfl (by rw [show E (.tmp 65) = _ from e65]; go_simp) rfl
                  ·
                    have ho2 := (Array.getElem?_eq_some_iff.1 ho).2
                    simp only [List.getElem_toArray, List.getElem_cons_succ, List.getElem_cons_zero] at ho2
                    subst ho2
                    clear ho
                    have e66 := D.is { on := 1, ground := .data } (by simp) rfl rfl 66 rfl
                    exact wk.does_move rfl e66
                  ·
                    have ho2 := (Array.getElem?_eq_some_iff.1 ho).2
                    simp only [List.getElem_toArray, List.getElem_cons_succ, List.getElem_cons_zero] at ho2
                    subst ho2
                    clear ho
                    have e1 := D.old 1 (by kernel_rfl)
                    exact wk.does_run (by simp only [execOp]; rw [show E (.tmp 1) = .pointer (some ⟨w.heap.size, 0, none⟩) by rw [e1]; rfl]; go_simp) rfl
                  ·
                    have ho2 := (Array.getElem?_eq_some_iff.1 ho).2
                    simp only [List.getElem_toArray, List.getElem_cons_succ, List.getElem_cons_zero] at ho2
                    subst ho2
                    clear ho
                    have e68 := D.is { on := 3, ground := .data } (by simp) rfl rfl 68 rfl
                    exact wk.does_load1 rfl e68 ((HTE2.out.below ((Below.refl _ _).drew.trans hb4)).c2) Try.underlying23 rfl rfl
                  ·
                    have ho2 := (Array.getElem?_eq_some_iff.1 ho).2
                    simp only [List.getElem_toArray, List.getElem_cons_succ, List.getElem_cons_zero] at ho2
                    subst ho2
                    clear ho
                    have e4 := D.old 4 (by kernel_rfl)
                    exact wk.does_move rfl (by rw [e4]; rfl)
                  ·
                    have ho2 := (Array.getElem?_eq_some_iff.1 ho).2
                    simp only [List.getElem_toArray, List.getElem_cons_succ, List.getElem_cons_zero] at ho2
                    subst ho2
                    clear ho
                    have e69 := D.is { on := 4, ground := .data } (by simp) rfl rfl 69 rfl
                    have e70 := D.is { on := 5, ground := .data } (by simp) rfl rfl 70 rfl
                    exact wk.does_run (by simp only [execOp]; rw [show E (.tmp 69) = _ from e69, show E (.tmp 70) = _ from e70]; go_simp) rfl
                  ·
                    have ho2 := (Array.getElem?_eq_some_iff.1 ho).2
                    simp only [List.getElem_toArray, List.getElem_cons_succ, List.getElem_cons_zero] at ho2
                    subst ho2
                    clear ho
                    have e71 := D.is { on := 6, ground := .data } (by simp) rfl rfl 71 rfl
                    exact wk.does_load1 rfl e71 ((((Below.refl _ _).drew.trans hb4).cell (p := ⟨_, _, none⟩) (Nat.lt_of_lt_of_le HBLT.out HSZ.out)).trans HCC1.out) Try.underlying39 rfl rfl
                  ·
                    have ho2 := (Array.getElem?_eq_some_iff.1 ho).2
                    simp only [List.getElem_toArray, List.getElem_cons_succ, List.getElem_cons_zero] at ho2
                    subst ho2
                    clear ho
                    have e5 := D.old 5 (by kernel_rfl)
                    exact wk.does_move rfl (by rw [e5]; rfl)
                  ·
                    have ho2 := (Array.getElem?_eq_some_iff.1 ho).2
                    simp only [List.getElem_toArray, List.getElem_cons_succ, List.getElem_cons_zero] at ho2
                    subst ho2
                    clear ho
                    have e72 := D.is { on := 7, ground := .data } (by simp) rfl rfl 72 rfl
                    have e73 := D.is { on := 8, ground := .data } (by simp) rfl rfl 73 rfl
                    exact wk.does_run (by simp only [execOp]; rw [show E (.tmp 72) = _ from e72, show E (.tmp 73) = _ from e73]; go_simp) rfl
                  ·
                    have ho2 := (Array.getElem?_eq_some_iff.1 ho).2
                    simp only [List.getElem_toArray, List.getElem_cons_succ, List.getElem_cons_zero] at ho2
                    subst ho2
                    clear ho
                    have e74 := D.is { on := 9, ground := .data } (by simp) rfl rfl 74 rfl
                    exact wk.does_load1 rfl e74 ((((Below.refl _ _).drew.trans hb4).cell (p := ⟨_, _, none⟩) HB33.out).trans HCC3.out) Try.underlying22 rfl rfl
                  ·
                    have ho2 := (Array.getElem?_eq_some_iff.1 ho).2
                    simp only [List.getElem_toArray, List.getElem_cons_succ, List.getElem_cons_zero] at ho2
                    subst ho2
                    clear ho
                    have e75 := D.is { on := 10, ground := .data } (by simp) rfl rfl 75 rfl
                    exact wk.does_run (by simp only [execOp, resolve, invoke, builtin, Sem.run_bind, Sem.run_pure, Result.andThen_ok, List.map_toArray, List.map_cons, List.map_nil]; rw [show E (.tmp 75) = _ from e75]; go_simp) rfl
                  ·
                    have ho2 := (Array.getElem?_eq_some_iff.1 ho).2
                    simp only [List.getElem_toArray, List.getElem_cons_succ, List.getElem_cons_zero] at ho2
                    subst ho2
                    clear ho
                    have e1 := D.old 1 (by kernel_rfl)
                    exact wk.does_run (by simp only [execOp]; rw [show E (.tmp 1) = .pointer (some ⟨w.heap.size, 0, none⟩) by rw [e1]; rfl]; go_simp) rfl
                  ·
                    have ho2 := (Array.getElem?_eq_some_iff.1 ho).2
                    simp only [List.getElem_toArray, List.getElem_cons_succ, List.getElem_cons_zero] at ho2
                    subst ho2
                    clear ho
                    have e77 := D.is { on := 12, ground := .data } (by simp) rfl rfl 77 rfl
                    exact wk.does_load1 rfl e77 ((HTE2.out.below ((Below.refl _ _).drew.trans hb4)).c1) Try.underlying22 rfl rfl
                  ·
                    have ho2 := (Array.getElem?_eq_some_iff.1 ho).2
                    simp only [List.getElem_toArray, List.getElem_cons_succ, List.getElem_cons_zero] at ho2
                    subst ho2
                    clear ho
                    have e1 := D.old 1 (by kernel_rfl)
                    exact wk.does_run (by simp only [execOp]; rw [show E (.tmp 1) = .pointer (some ⟨w.heap.size, 0, none⟩) by rw [e1]; rfl]; go_simp) rfl
                  ·
                    have ho2 := (Array.getElem?_eq_some_iff.1 ho).2
                    simp only [List.getElem_toArray, List.getElem_cons_succ, List.getElem_cons_zero] at ho2
                    subst ho2
                    clear ho
                    have e79 := D.is { on := 14, ground := .data } (by simp) rfl rfl 79 rfl
                    exact wk.does_load1 rfl e79 ((HTE2.out.below ((Below.refl _ _).drew.trans hb4)).c0) Try.underlying3 rfl rfl
                  ·
                    have ho2 := (Array.getElem?_eq_some_iff.1 ho).2
                    simp only [List.getElem_toArray, List.getElem_cons_succ, List.getElem_cons_zero] at ho2
                    subst ho2
                    clear ho
                    have e4 := D.old 4 (by kernel_rfl)
                    exact wk.does_move rfl (by rw [e4]; rfl)
                  ·
                    have ho2 := (Array.getElem?_eq_some_iff.1 ho).2
                    simp only [List.getElem_toArray, List.getElem_cons_succ, List.getElem_cons_zero] at ho2
                    subst ho2
                    clear ho
                    have e78 := D.is { on := 13, ground := .data } (by simp) rfl rfl 78 rfl
                    have e80 := D.is { on := 15, ground := .data } (by simp) rfl rfl 80 rfl
                    have e81 := D.is { on := 16, ground := .data } (by simp) rfl rfl 81 rfl
                    refine wk.does_fn (f := 43) (vs := #[.slice (some ⟨b2, o2, none⟩) nW c0, .int .i64 b.d, .int .i64 (k : Int)]) rfl (D.fn _) (by simp [e78, e80, e81]) (by go_simp) ?_
                    refine (HEN.out w4 (HBE.out.trans (((Below.refl _ _).drew.trans hb4).mono HBE.out.size))).mono ?_
                    rintro e w7 ⟨rfl, rfl⟩
                    exact ⟨_, rfl, Below.refl _ _, rfl⟩
                  ·
                    have ho2 := (Array.getElem?_eq_some_iff.1 ho).2
                    simp only [List.getElem_toArray, List.getElem_cons_succ, List.getElem_cons_zero] at ho2
                    subst ho2
                    clear ho
                    have e1 := D.old 1 (by kernel_rfl)
                    exact wk.does_run (by simp only [execOp]; rw [show E (.tmp 1) = .pointer (some ⟨w.heap.size, 0, none⟩) by rw [e1]; rfl]; go_simp) rfl
                  ·
                    have ho2 := (Array.getElem?_eq_some_iff.1 ho).2
                    simp only [List.getElem_toArray, List.getElem_cons_succ, List.getElem_cons_zero] at ho2
                    subst ho2
                    clear ho
                    have e83 := D.is { on := 18, ground := .data } (by simp) rfl rfl 83 rfl
                    exact wk.does_load1 rfl e83 ((HTE2.out.below ((Below.refl _ _).drew.trans hb4)).c1) Try.underlying22 rfl rfl
                  ·
                    have ho2 := (Array.getElem?_eq_some_iff.1 ho).2
                    simp only [List.getElem_toArray, List.getElem_cons_succ, List.getElem_cons_zero] at ho2
                    subst ho2
                    clear ho
                    have e4 := D.old 4 (by kernel_rfl)
                    exact wk.does_move rfl (by rw [e4]; rfl)
                  ·
                    have ho2 := (Array.getElem?_eq_some_iff.1 ho).2
                    simp only [List.getElem_toArray, List.getElem_cons_succ, List.getElem_cons_zero] at ho2
                    subst ho2
                    clear ho
                    have e84 := D.is { on := 19, ground := .data } (by simp) rfl rfl 84 rfl
                    have e85 := D.is { on := 20, ground := .data } (by simp) rfl rfl 85 rfl
                    exact wk.does_run (by simp only [execOp]; rw [show E (.tmp 84) = _ from e84, show E (.tmp 85) = _ from e85]; go_simp) rfl
                  ·
                    have ho2 := (Array.getElem?_eq_some_iff.1 ho).2
                    simp only [List.getElem_toArray, List.getElem_cons_succ, List.getElem_cons_zero] at ho2
                    subst ho2
                    clear ho
                    have e86 := D.is { on := 21, ground := .data } (by simp) rfl rfl 86 rfl
                    exact wk.does_load1 rfl e86 ((((Below.refl _ _).drew.trans hb4).cell (p := ⟨_, _, none⟩) (Nat.lt_of_lt_of_le HBLY.out HSZ.out)).trans HCY.out) Try.underlying3 rfl rfl
                  ·
                    have ho2 := (Array.getElem?_eq_some_iff.1 ho).2
                    simp only [List.getElem_toArray, List.getElem_cons_succ, List.getElem_cons_zero] at ho2
                    subst ho2
                    clear ho
                    have e82 := D.is { on := 17, ground := .data } (by simp) rfl rfl 82 rfl
                    have e87 := D.is { on := 22, ground := .data } (by simp) rfl rfl 87 rfl
                    have hw1 : IntKind.i64.wrap (z - y) = z - y := by rw [IntKind.wrap_i64]; omega
                    exact wk.does_run (by simp only [execOp]; rw [show E (.tmp 82) = _ from e82, show E (.tmp 87) = _ from e87]; go_simp) rfl
                  ·
                    have ho2 := (Array.getElem?_eq_some_iff.1 ho).2
                    simp only [List.getElem_toArray, List.getElem_cons_succ, List.getElem_cons_zero] at ho2
                    subst ho2
                    clear ho
                    have e76 := D.is { on := 11, ground := .data } (by simp) rfl rfl 76 rfl
                    have e88 := D.is { on := 23, ground := .data } (by simp) rfl rfl 88 rfl
                    exact wk.does_run (by simp only [execOp]; rw [show E (.tmp 76) = _ from e76, show E (.tmp 88) = _ from e88]; go_simp) rfl
                  ·
                    have ho2 := (Array.getElem?_eq_some_iff.1 ho).2
                    simp only [List.getElem_toArray, List.getElem_cons_succ, List.getElem_cons_zero] at ho2
                    subst ho2
                    clear ho
                    have e67 := D.is { on := 2, ground := .data } (by simp) rfl rfl 67 rfl
                    have e89 := D.is { on := 24, ground := .data } (by simp) rfl rfl 89 rfl
                    exact wk.does_pick rfl e67 e89
                case hdone =>
                  intro vals w4 hb4 hv
                  have h25 := hv 25 (by omega)
                  clear hv
                  replace h25 : vals 25 = (.bool true) := h25
                  simp only [List.drop_succ_cons, List.drop_zero, wpList, wk.setL, List.setIfInBounds_toArray, List.set_cons_zero, List.set_cons_succ, Nat.zero_add, Nat.reduceAdd, h25]
                  generalize vals 0 = x0
                  generalize vals 1 = x1
                  generalize vals 2 = x2
                  generalize vals 3 = x3
                  generalize vals 4 = x4
                  generalize vals 5 = x5
                  generalize vals 6 = x6
                  generalize vals 7 = x7
                  generalize vals 8 = x8
                  generalize vals 9 = x9
                  generalize vals 10 = x10
                  generalize vals 11 = x11
                  generalize vals 12 = x12
                  generalize vals 13 = x13
                  generalize vals 14 = x14
                  generalize vals 15 = x15
                  generalize vals 16 = x16
                  generalize vals 17 = x17
                  generalize vals 18 = x18
                  generalize vals 19 = x19
                  generalize vals 20 = x20
                  generalize vals 21 = x21
                  generalize vals 22 = x22
                  generalize vals 23 = x23
                  generalize vals 24 = x24
                  have HB9 : Hid (Below w.heap.size w w4) := HBR2.out.trans (((Below.refl _ _).drew.trans hb4).mono HBR2.out.size)
                  go_wp2_with fail
                  go_ret
                  exact ⟨by rw [HN.out]; rfl, HB9.out⟩
          · obtain rfl : j = n1 := by omega
            have HN : Hid (walls1 b (k + 1) = true) := by
              have := HR2.out
              rw [List.take_of_length_le (by have := HI1.out.1; omega)] at this
              show _ = _
              rw [walls1_succ, HR.out, HWT2.out, this]; rfl
            have hcc1 : wr.cell? ⟨b1, o1 + k, none⟩ = some (.slice A1 j c1) := (hbel2.cell (p := ⟨b1, o1 + k, none⟩) HBLT.out).trans HCW.out
            have hb0 : Below w1.heap.size w1 wr := HBEL.out.trans (hbel2.mono HBEL.out.size)
            have HB0' := Lib.hid hb0
            clear hbel2 hb0
            go_wp2_with fail
            go_roundg (nW - (k + 1))
            case measure => have := HK.out; omega
            case rel => exact ⟨k + 1, by omega, by go_num, HB0'.out, HN.out⟩
      · obtain rfl : k = nW := by omega
        have HN := Lib.hid (HWO.out HR.out)
        go_wp2_with fail
        go_ret
        exact ⟨by rw [HN.out]; rfl, HBR.out⟩
  · have hlen' : ((nW : Int) != (n0 : Int)) = true := by simp; omega
    have HE2 : Hid (check b = false) := by show _ = _; rw [HE.out, decide_eq_false hlen]; simp
    go_wp2_with fail
    go_ret
    exact ⟨by rw [HE2.out]; rfl, HBW.out⟩
end Go.Proofs.Ytiodjepjbooniaa.uk
/- The laws: right. -/
namespace Go.Proofs.Ytiodjepjbooniaa.uk

open Go.ChangeShapes Go.WideShapes Go.ChangeAt Go.RowKit

open Go.Proofs.Ytiodjepjbooniaa.cq Go.Proofs.Ytiodjepjbooniaa.vk Go.Proofs.Ytiodjepjbooniaa.bk Go.Proofs.Ytiodjepjbooniaa.wk

set_option linter.unusedVariables false
structure Rg (b : Bk) (m : Int) (q q2 : List Int) : Prop where
  rt : Rt b
  m1 : 1 ≤ m
  m3 : m ≤ 3
  v1 : vq.Vec q
  v2 : vq.Vec q2
  d : (q.length : Int) = b.d
  d2 : (q2.length : Int) = b.d
def RightE (e : Ending) (b : Bk) (m : Int) (q q2 : List Int) : Prop := ∃ r, e = .returned (.bool r) ∧ (r = true → Rg b m q q2)
theorem RightE.no {b : Bk} {m : Int} {q q2 : List Int} : RightE (.returned (.bool false)) b m q q2 := ⟨false, rfl, fun h => by cases h⟩
set_option maxRecDepth 100000 in
set_option maxHeartbeats 4000000 in
theorem right_calls (v : Value) (b : Bk) (m : Int) (A A2 : Option Addr) (n c n2 c2 : Nat) (q q2 : List Int) (w : World) (h : IsBk w v b) (h2 : wo.IsI w A n c q) (h3 : wo.IsI w A2 n2 c2 q2) :
    Calls Try.prog 14 #[v, .int .i64 m, .slice A n c, .slice A2 n2 c2] w fun e w' => RightE e b m q q2 ∧ Below w.heap.size w w' := by
  have HBK := Lib.hid h
  obtain ⟨A0, n0, c0, AW, nW, cW, rfl, hi, hW, hd⟩ := h
  have hT0 := Three.new w (.int .i64 b.d) (.slice A0 n0 c0) (.slice AW nW cW)
  have hb0 := below_new w (.cells #[.int .i64 b.d, .slice A0 n0 c0, .slice AW nW cW] 25)
  have hm := h2.2.2.1
  have hnc := h2.2.1
  have hm2 := h3.2.2.1
  have hnc2 := h3.2.1
  have HQ := Lib.hid h2
  have HQ2 := Lib.hid h3
  have HL := Lib.hid h2.1
  have HL2 := Lib.hid h3.1
  clear hi hW hd h2 h3
  go_enter Try.func14, Try.ntmps14
  have HF := Lib.hid (rfew_calls _ b _ (HBK.out.below hb0))
  have HB := Lib.hid hb0
  have HT := Lib.hid hT0
  have hc0 := hT0.c0
  have hc1 := hT0.c1
  have hc2 := hT0.c2
  generalize hwE : w.alloc (.cells #[.int .i64 b.d, .slice A0 n0 c0, .slice AW nW cW] 25) = wE at *
  clear hb0 hT0
  go_wp2_with fail
  refine HF.out.mono ?_
  rintro e w1 ⟨⟨r, rfl⟩, hb1⟩
  replace HB : Hid (Below w.heap.size w w1) := HB.out.trans (hb1.mono HB.out.size)
  replace HT := Lib.hid (HT.out.below hb1)
  clear hc0 hc1 hc2 HF hb1 hwE
  have hc0 := HT.out.c0
  have hc1 := HT.out.c1
  have hc2 := HT.out.c2
  cases r
  · go_wp2_with fail
    go_ret
    exact ⟨RightE.no, HB.out⟩
  have HC := Lib.hid (rcheck_calls _ b _ (HBK.out.below HB.out))
  go_wp2_with fail
  refine HC.out.mono ?_
  rintro e w2 ⟨rfl, hb2⟩
  replace HB : Hid (Below w.heap.size w w2) := HB.out.trans (hb2.mono HB.out.size)
  replace HT := Lib.hid (HT.out.below hb2)
  clear hc0 hc1 hc2 HC hb2
  have hc0 := HT.out.c0
  have hc1 := HT.out.c1
  have hc2 := HT.out.c2
  unfold errB
  cases hck : check b
  · rw [if_neg (by simp)]
    go_wp2_with fail
    go_ret
    exact ⟨RightE.no, HB.out⟩
  have HRT := Lib.hid (rt_of hck)
  clear hck
  rw [if_pos rfl]
  have HM := Lib.hid (metric_calls m w2)
  go_wp2_with fail
  refine HM.out.mono ?_
  rintro e w3 ⟨rfl, rfl⟩
  by_cases hmm : 1 ≤ m ∧ m ≤ 3
  · rw [decide_eq_true hmm]
    have HMM := Lib.hid hmm
    clear hmm HM
    have HV1 := Lib.hid (rvalid_calls A n c q w3 (isI_below HQ.out HB.out))
    have HV2 := Lib.hid (rvalid_calls A2 n2 c2 q2 w3 (isI_below HQ2.out HB.out))
    go_wp2_with fail
    refine HV1.out.mono ?_
    rintro e w4 ⟨rfl, rfl⟩
    go_wp2_with fail
    refine HV2.out.mono ?_
    rintro e w5 ⟨rfl, rfl⟩
    clear HV1 HV2
    cases hv1 : vq.valid q
    · go_wp2_with fail
      go_ret
      exact ⟨RightE.no, HB.out⟩
    cases hv2 : vq.valid q2
    · go_wp2_with fail
      go_ret
      exact ⟨RightE.no, HB.out⟩
    by_cases hn1 : (n : Int) = b.d
    · have HN1 : Hid ((q.length : Int) = b.d) := by show _ = _; rw [HL.out, hn1]
      by_cases hn2 : (n2 : Int) = b.d
      · have HN2 : Hid ((q2.length : Int) = b.d) := by show _ = _; rw [HL2.out, hn2]
        have HV1 := Lib.hid hv1
        have HV2 := Lib.hid hv2
        clear hv1 hv2
        go_wp2_with fail
        go_ret
        exact ⟨⟨_, rfl, fun _ => ⟨HRT.out, HMM.out.1, HMM.out.2, vq.valid_iff.1 HV1.out, vq.valid_iff.1 HV2.out, HN1.out, HN2.out⟩⟩, HB.out⟩
      · go_wp2_with fail
        go_ret
        exact ⟨⟨_, rfl, fun hh => absurd (by simpa using hh) hn2⟩, HB.out⟩
    · go_wp2_with fail
      go_ret
      exact ⟨RightE.no, HB.out⟩
  · rw [decide_eq_false hmm]
    go_wp2_with fail
    go_ret
    exact ⟨RightE.no, HB.out⟩
end Go.Proofs.Ytiodjepjbooniaa.uk
/- Words that lie far apart, plainly. No program here. -/
namespace Go.Proofs.Ytiodjepjbooniaa.cq

open Go.Proofs.Ytiodjepjbooniaa.vq

set_option linter.unusedVariables false
def keyMost : Int := 134217728
/-- the least key to the words -/
def ap1 (ws : VV) (v : List Int) : Int := ws.foldl (fun x w => min x (key 2 v w)) keyMost
def apw (ws l : VV) : List Int := l.map (ap1 ws)
def sprN : Nat → VV → VV → VV
  | 0, ws, _ => ws
  | f + 1, ws, l => if 0 < (apw ws l).getD (gst (apw ws l)) 0 then sprN f (ws ++ [l.getD (gst (apw ws l)) []]) l else ws
def spread (n : Nat) (l : VV) : VV := sprN n [] l
theorem ap1_snoc (ws : VV) (v w : List Int) : ap1 (ws ++ [w]) v = min (ap1 ws v) (key 2 v w) := by
  unfold ap1; rw [List.foldl_append]; rfl
theorem ap1_le : ∀ (ws : VV) (v : List Int) (a : Int), ws.foldl (fun x w => min x (key 2 v w)) a ≤ a
  | [], v, a => Int.le_refl _
  | w :: ws, v, a => by
    have := ap1_le ws v (min a (key 2 v w))
    simp only [List.foldl_cons]
    omega
theorem ap1_mem : ∀ (ws : VV) (v w : List Int) (a : Int), w ∈ ws → ws.foldl (fun x w => min x (key 2 v w)) a ≤ key 2 v w
  | u :: ws, v, w, a, h => by
    simp only [List.foldl_cons]
    rcases List.mem_cons.1 h with rfl | h
    · have := ap1_le ws v (min a (key 2 v w)); omega
    · exact ap1_mem ws v w _ h
theorem ap1_nonneg : ∀ (ws : VV) (v : List Int) (a : Int), 0 ≤ a → 0 ≤ ws.foldl (fun x w => min x (key 2 v w)) a
  | [], v, a, h => h
  | w :: ws, v, a, h => by
    simp only [List.foldl_cons]
    refine ap1_nonneg ws v _ ?_
    have := norm_nonneg 2 (sub v w)
    unfold key
    omega
theorem ap1_bd (ws : VV) (v : List Int) : 0 ≤ ap1 ws v ∧ ap1 ws v ≤ 134217728 := ⟨ap1_nonneg ws v _ (by unfold keyMost; omega), ap1_le ws v _⟩
theorem apw_len (ws l : VV) : (apw ws l).length = l.length := by simp [apw]
theorem apw_at {ws l : VV} {k : Nat} {v : List Int} (h : l[k]? = some v) : (apw ws l)[k]? = some (ap1 ws v) := by simp [apw, h]
theorem apw_nil (l : VV) : apw [] l = List.replicate l.length 134217728 := by
  unfold apw ap1 keyMost
  simp only [List.foldl_nil]
  exact List.map_const'
theorem gst_rep (n : Nat) (x : Int) : gst (List.replicate n x) = 0 := by
  unfold gst
  have : ∀ k, k ≤ n → gstk (List.replicate n x) k = 0 := by
    intro k
    induction k with
    | zero => intro _; rfl
    | succ k ih =>
      intro hk
      rw [gstk_succ, ih (by omega)]
      unfold gstep
      split
      · rename_i h
        exfalso
        have h0 : 0 < n := by omega
        have h1 : k < n := by omega
        simp [List.getD_eq_getElem?_getD, h1, h0] at h
      · rfl
  exact this _ (by simp)
theorem getD_rep {n : Nat} {x : Int} (h : 1 ≤ n) : (List.replicate n x).getD 0 0 = x := by
  rw [List.getD_eq_getElem?_getD, List.getElem?_replicate, if_pos (by omega)]; rfl
theorem spread_first {n : Nat} {l : VV} (h : 1 ≤ l.length) : spread (n + 1) l = sprN n [l.headD []] l := by
  unfold spread
  rw [sprN, apw_nil, gst_rep, if_pos (by rw [getD_rep h]; omega)]
  cases l with
  | nil => simp at h
  | cons a l => rfl
theorem sprN_mem : ∀ (f : Nat) (ws l : VV) (w : List Int), 1 ≤ l.length → w ∈ sprN f ws l → w ∈ ws ∨ w ∈ l
  | 0, ws, l, w, hl, h => .inl h
  | f + 1, ws, l, w, hl, h => by
    rw [sprN] at h
    split at h
    · rcases sprN_mem f _ l w hl h with h | h
      · rcases List.mem_append.1 h with h | h
        · exact .inl h
        · rw [List.mem_singleton] at h
          subst h
          refine .inr (List.mem_of_getElem? (getD_at (d := []) ?_))
          have := gst_lt (l := apw ws l) (by rw [apw_len]; exact hl)
          rw [apw_len] at this
          exact this
      · exact .inr h
    · exact .inl h
theorem sprN_len : ∀ (f : Nat) (ws l : VV), ws.length ≤ (sprN f ws l).length ∧ (sprN f ws l).length ≤ ws.length + f
  | 0, ws, l => ⟨Nat.le_refl _, Nat.le_refl _⟩
  | f + 1, ws, l => by
    rw [sprN]
    split
    · have := sprN_len f (ws ++ [l.getD (gst (apw ws l)) []]) l
      rw [List.length_append] at this
      simp only [List.length_cons, List.length_nil] at this
      omega
    · omega
theorem sprN_prefix : ∀ (f k : Nat) (ws l : VV), sprN f ws l <+: sprN (f + k) ws l
  | 0, 0, ws, l => List.prefix_refl _
  | 0, k + 1, ws, l => by
    rw [Nat.zero_add, sprN, sprN]
    split
    · have h1 : ws <+: ws ++ [l.getD (gst (apw ws l)) []] := List.prefix_append _ _
      have h2 := sprN_prefix 0 k (ws ++ [l.getD (gst (apw ws l)) []]) l
      rw [Nat.zero_add, sprN] at h2
      exact h1.trans h2
    · exact List.prefix_refl _
  | f + 1, k, ws, l => by
    rw [show f + 1 + k = (f + k) + 1 by omega, sprN, sprN]
    split
    · exact sprN_prefix f k _ l
    · exact List.prefix_refl _
def cnt (ws l : VV) : Nat := (l.filter fun v => decide (0 < ap1 ws v)).length
theorem filter_lt {α : Type} (p q : α → Bool) : ∀ (l : List α) (g : Nat) (x : α), (∀ a ∈ l, p a = true → q a = true) → l[g]? = some x → q x = true → p x = false → (l.filter p).length < (l.filter q).length
  | [], g, x, _, h, _, _ => by simp at h
  | a :: l, g, x, hpq, h, hq, hp => by
    have hle : ∀ (l : List α), (∀ a ∈ l, p a = true → q a = true) → (l.filter p).length ≤ (l.filter q).length := by
      intro l
      induction l with
      | nil => intro _; exact Nat.le_refl _
      | cons b l ih =>
        intro hh
        have := ih fun c hc => hh c (by simp [hc])
        have hb := hh b (by simp)
        simp only [List.filter_cons]
        cases hpb : p b
        · cases q b
          · simpa using this
          · simp; omega
        · rw [hb hpb]; simpa using this
    match g, h with
    | 0, h =>
      simp at h
      subst h
      have := hle l fun c hc => hpq c (by simp [hc])
      simp only [List.filter_cons, hp, hq, if_true, if_false, Bool.false_eq_true, List.length_cons]
      omega
    | g + 1, h =>
      have := filter_lt p q l g x (fun c hc => hpq c (by simp [hc])) (by simpa using h) hq hp
      have hb := hpq a (by simp)
      simp only [List.filter_cons]
      cases hpb : p a
      · cases q a
        · simpa using this
        · simp; omega
      · rw [hb hpb]; simpa using this
theorem sprN_covers : ∀ (f : Nat) (ws l : VV), 1 ≤ l.length → cnt ws l ≤ f → ∀ v ∈ l, ap1 (sprN f ws l) v = 0
  | 0, ws, l, hl, h, v, hv => by
    rw [sprN]
    have h0 : l.filter (fun v => decide (0 < ap1 ws v)) = [] := List.length_eq_zero_iff.1 (by unfold cnt at h; omega)
    rw [List.filter_eq_nil_iff] at h0
    have := h0 v hv
    have := (ap1_bd ws v).1
    simp at *
    omega
  | f + 1, ws, l, hl, h, v, hv => by
    rw [sprN]
    have hg := gst_lt (l := apw ws l) (by rw [apw_len]; exact hl)
    rw [apw_len] at hg
    have hx := getD_at (d := []) hg
    split
    · rename_i hpos
      refine sprN_covers f _ l hl ?_ v hv
      have hlt := filter_lt (fun v => decide (0 < ap1 (ws ++ [l.getD (gst (apw ws l)) []]) v)) (fun v => decide (0 < ap1 ws v)) l _ _ (fun a _ ha => by
        rw [ap1_snoc] at ha
        simp at ha ⊢
        omega) hx (by
        have ha := apw_at (ws := ws) hx
        rw [List.getD_eq_getElem?_getD, ha] at hpos
        simpa using hpos) (by
        rw [ap1_snoc, norm_self]
        simp only [decide_eq_false_iff_not]
        omega)
      unfold cnt at h ⊢
      omega
    · rename_i hpos
      obtain ⟨k, hk, rfl⟩ := List.mem_iff_getElem.1 hv
      have h1 := gst_ge (l := apw ws l) (i := k) (by rw [apw_len]; exact hk)
      have h2 := apw_at (ws := ws) (List.getElem?_eq_getElem hk)
      have h3 : (apw ws l).getD k 0 = ap1 ws l[k] := by rw [List.getD_eq_getElem?_getD, h2]; rfl
      have := (ap1_bd ws l[k]).1
      omega
theorem cnt_le (ws l : VV) : cnt ws l ≤ l.length := List.length_filter_le _ _
theorem ap1_zero : ∀ (ws : VV) (v : List Int) (a : Int), 0 < a → ws.foldl (fun x w => min x (key 2 v w)) a = 0 → ∃ w ∈ ws, key 2 v w = 0
  | [], v, a, h, h0 => by simp at h0; omega
  | w :: ws, v, a, h, h0 => by
    simp only [List.foldl_cons] at h0
    have hk := norm_nonneg 2 (sub v w)
    by_cases hw : key 2 v w = 0
    · exact ⟨w, by simp, hw⟩
    · obtain ⟨u, hu, h1⟩ := ap1_zero ws v (min a (key 2 v w)) (by unfold key at *; omega) h0
      exact ⟨u, by simp [hu], h1⟩
/-- with words enough each one is a word -/
theorem spread_all {n : Nat} {l : VV} {d : Nat} (hl : 1 ≤ l.length) (hn : l.length ≤ n) (hd : ∀ v ∈ l, v.length = d) {v : List Int} (hv : v ∈ l) : v ∈ spread n l := by
  have h0 := sprN_covers n [] l hl (Nat.le_trans (cnt_le _ _) hn) v hv
  obtain ⟨w, hw, hk⟩ := ap1_zero _ v keyMost (by unfold keyMost; omega) h0
  have hw' : w ∈ l := by
    rcases sprN_mem n [] l w hl hw with h | h
    · cases h
    · exact h
  have e : v = w := (key_zero (m := 2) (by omega) (by omega) (by rw [hd v hv, hd w hw'])).1 hk
  rw [e]; exact hw
def trained (n : Nat) (cuts : List Int) (l : VV) : Bk := ⟨((l.headD []).length : Int), cuts, (sp cuts ((l.headD []).length : Int)).map fun p => spread n (l.map fun v => pt v p)⟩
def noBk : Bk := ⟨0, [], []⟩
def train (l : VV) (cuts : List Int) (words : Int) : Bk × Int :=
  if words < 1 then (noBk, 1) else if 256 < words then (noBk, 2) else if divided ((l.headD []).length : Int) cuts then (trained words.toNat cuts l, 0) else (noBk, 80)
/-- vectors that are alike -/
structure Al (l : VV) : Prop where
  pos : 1 ≤ l.length
  vec : ∀ v ∈ l, Vec v
  len : ∀ v ∈ l, v.length = (l.headD []).length
theorem trained_at {n : Nat} {cuts : List Int} {l : VV} {k : Nat} {x : Int} (hx : cuts[k]? = some x) : (trained n cuts l).W[k]? = some (spread n (l.map fun v => pt v (x, endAt cuts ((l.headD []).length : Int) k))) := by
  unfold trained
  dsimp only
  rw [List.getElem?_map, sp_at hx]; rfl
theorem spread_len {n : Nat} {l : VV} (h1 : 1 ≤ n) (hl : 1 ≤ l.length) : 1 ≤ (spread n l).length ∧ (spread n l).length ≤ n := by
  obtain ⟨k, rfl⟩ : ∃ k, n = k + 1 := ⟨n - 1, by omega⟩
  rw [spread_first hl]
  have := sprN_len k [l.headD []] l
  simp only [List.length_cons, List.length_nil] at this
  omega
theorem spread_mem {n : Nat} {l : VV} (hl : 1 ≤ l.length) {w : List Int} (h : w ∈ spread n l) : w ∈ l := by
  rcases sprN_mem n [] l w hl h with h | h
  · cases h
  · exact h
theorem trained_rt {n : Nat} {cuts : List Int} {l : VV} (hl : Al l) (h1 : 1 ≤ n) (h2 : n ≤ 256) (hd : divided ((l.headD []).length : Int) cuts = true) : Rt (trained n cuts l) := by
  have hD := div_of hd
  refine ⟨hD, by unfold trained; simp [sp_len], fun k ws x hw hx => ?_, hd⟩
  replace hx : cuts[k]? = some x := hx
  rw [trained_at hx] at hw
  injection hw with hw
  subst hw
  have hl2 : 1 ≤ (l.map fun v => pt v (x, endAt cuts ((l.headD []).length : Int) k)).length := by rw [List.length_map]; exact hl.pos
  have hat := hD.at hx
  have hn := spread_len h1 hl2
  refine ⟨by omega, fun w hw => ?_⟩
  obtain ⟨v, hv, rfl⟩ := List.mem_map.1 (spread_mem hl2 hw)
  have hvl := hl.len v hv
  exact ⟨pt_len hat.1 (Int.le_of_lt hat.2.1) (by rw [hvl]; exact hat.2.2), vec_part (hl.vec v hv) hat.1 hat.2.1 (by rw [hvl]; exact hat.2.2)⟩
end Go.Proofs.Ytiodjepjbooniaa.cq
/- The laws: the example. -/
namespace Go.Proofs.Ytiodjepjbooniaa.uk

open Go.ChangeShapes Go.WideShapes Go.ChangeAt Go.RowKit

open Go.Proofs.Ytiodjepjbooniaa.cq Go.Proofs.Ytiodjepjbooniaa.vk Go.Proofs.Ytiodjepjbooniaa.bk Go.Proofs.Ytiodjepjbooniaa.wk

set_option linter.unusedVariables false
def exBk : Bk := ⟨3, [0, 2], [[[0, 0], [3, 4]], [[5], [-5]]]⟩
def noBk' : Bk := ⟨0, [], []⟩
theorem ex_check : check exBk = true := by decide
theorem no_check : check noBk' = false := by decide
theorem ex_rt : Rt exBk := rt_of ex_check
theorem ex_cok : cok exBk [1, 1] = true := by decide
theorem ex_dec : dec exBk [1, 1] = [3, 4, -5] := by decide
theorem ex_tbl : tbl 2 exBk [0, 0, 0] = [[0, 25], [25, 25]] := by decide
theorem ex_enc : enc 2 exBk [1, 1, 4] = [0, 0] := by decide
theorem ex_res : res 2 exBk [1, 1, 4] = 3 := by decide
theorem ex_sum : sumc 2 [[0, 25], [25, 25]] [1, 1] = 50 := by decide
theorem ex_train : train [[0, 0, 5], [3, 4, 5], [3, 4, -5]] [0, 2] 9 = (exBk, 0) := by kernel_rfl
theorem ex_low : me.low 2 50 3 = 29 := by kernel_rfl
theorem ex_high : me.high 2 50 3 = 77 := by kernel_rfl
theorem vec3 {a b c : Int} (ha : -1000 ≤ a ∧ a ≤ 1000) (hb : -1000 ≤ b ∧ b ≤ 1000) (hc : -1000 ≤ c ∧ c ≤ 1000) : vq.Vec [a, b, c] :=
  ⟨by simp, by simp, fun x hx => by simp at hx; rcases hx with rfl | rfl | rfl <;> omega, fun x hx => by simp at hx; rcases hx with rfl | rfl | rfl <;> omega⟩
theorem isI_new (w : World) (g : Nat) (hg : w.heap.size = g) (l : List Int) (h : ∀ x ∈ l, -1000 ≤ x ∧ x ≤ 1000) (hl : l.length ≤ 1000) : wo.IsI (w.alloc (.cells (l.map (Value.int .i64)).toArray 3)) (some ⟨g, 0, none⟩) l.length l.length l := by
  subst hg
  refine ⟨rfl, Nat.le_refl _, by omega, fun _ => ⟨w.heap.size, 0, rfl, by rw [size_new]; omega, fun j u hu => ?_⟩, fun x hx => by have := h x hx; omega⟩
  rw [cell_of_row _ _ _ _ _ _ (heap_alloc_new w _), Nat.zero_add]
  simpa using hu
theorem isVV_new (w : World) (g : Nat) (hg : w.heap.size = g) (vs : List Value) (L : VV) (hl : vs.length = L.length) (hn : L.length ≤ 1000) (h : ∀ (k : Nat) (l : List Int), L[k]? = some l → ∃ A n c, vs[k]? = some (.slice A n c) ∧ wo.IsI w A n c l) :
    IsVV (w.alloc (.cells vs.toArray 22)) (some ⟨g, 0, none⟩) L.length L.length L := by
  subst hg
  refine ⟨rfl, Nat.le_refl _, by omega, fun k l hk => ?_⟩
  obtain ⟨A, n, c, h1, h2⟩ := h k l hk
  refine ⟨w.heap.size, 0, A, n, c, rfl, by rw [size_new]; omega, ?_, isI_below h2 (below_new _ _)⟩
  rw [cell_of_row _ _ _ _ _ _ (heap_alloc_new w _), Nat.zero_add]
  simpa using h1
theorem isW_new (w : World) (g : Nat) (hg : w.heap.size = g) (vs : List Value) (L : List VV) (hl : vs.length = L.length) (hn : L.length ≤ 1000) (h : ∀ (k : Nat) (l : VV), L[k]? = some l → ∃ A n c, vs[k]? = some (.slice A n c) ∧ IsVV w A n c l) :
    IsW (w.alloc (.cells vs.toArray 39)) (some ⟨g, 0, none⟩) L.length L.length L := by
  subst hg
  refine ⟨rfl, Nat.le_refl _, by omega, fun k l hk => ?_⟩
  obtain ⟨A, n, c, h1, h2⟩ := h k l hk
  refine ⟨w.heap.size, 0, A, n, c, rfl, by rw [size_new]; omega, ?_, isVV_below h2 (below_new _ _)⟩
  rw [cell_of_row _ _ _ _ _ _ (heap_alloc_new w _), Nat.zero_add]
  simpa using h1
theorem two_at {α : Type} {P : Nat → α → Prop} {a b : α} (h0 : P 0 a) (h1 : P 1 b) : ∀ (k : Nat) (l : α), [a, b][k]? = some l → P k l
  | 0, l, h => by simp at h; subst h; exact h0
  | 1, l, h => by simp at h; subst h; exact h1
  | k + 2, l, h => by simp at h
theorem three_at {α : Type} {P : Nat → α → Prop} {a b c : α} (h0 : P 0 a) (h1 : P 1 b) (h2 : P 2 c) : ∀ (k : Nat) (l : α), [a, b, c][k]? = some l → P k l
  | 0, l, h => by simp at h; subst h; exact h0
  | 1, l, h => by simp at h; subst h; exact h1
  | 2, l, h => by simp at h; subst h; exact h2
  | k + 3, l, h => by simp at h
/-- two rows of two, and the slice of them -/
theorem isVV_two (w : World) (g : Nat) (hg : w.heap.size = g) (a b : List Int) (ha : ∀ x ∈ a, -1000 ≤ x ∧ x ≤ 1000) (hb : ∀ x ∈ b, -1000 ≤ x ∧ x ≤ 1000) (ha2 : a.length ≤ 1000) (hb2 : b.length ≤ 1000) :
    IsVV (((w.alloc (.cells (a.map (Value.int .i64)).toArray 3)).alloc (.cells (b.map (Value.int .i64)).toArray 3)).alloc (.cells #[.slice (some ⟨g, 0, none⟩) a.length a.length, .slice (some ⟨g + 1, 0, none⟩) b.length b.length] 22)) (some ⟨g + 1 + 1, 0, none⟩) 2 2 [a, b] := by
  refine isVV_new _ _ (by simp only [size_new, hg]) [.slice (some ⟨g, 0, none⟩) a.length a.length, .slice (some ⟨g + 1, 0, none⟩) b.length b.length] [a, b] rfl (by simp) (two_at ?_ ?_)
  · exact ⟨_, _, _, rfl, isI_below (isI_new w g hg a ha ha2) (below_new _ _)⟩
  · exact ⟨_, _, _, rfl, isI_new _ (g + 1) (by simp only [size_new, hg]) b hb hb2⟩
theorem isVV_three (w : World) (g : Nat) (hg : w.heap.size = g) (a b c : List Int) (ha : ∀ x ∈ a, -1000 ≤ x ∧ x ≤ 1000) (hb : ∀ x ∈ b, -1000 ≤ x ∧ x ≤ 1000) (hc : ∀ x ∈ c, -1000 ≤ x ∧ x ≤ 1000) (ha2 : a.length ≤ 1000) (hb2 : b.length ≤ 1000) (hc2 : c.length ≤ 1000) :
    IsVV ((((w.alloc (.cells (a.map (Value.int .i64)).toArray 3)).alloc (.cells (b.map (Value.int .i64)).toArray 3)).alloc (.cells (c.map (Value.int .i64)).toArray 3)).alloc (.cells #[.slice (some ⟨g, 0, none⟩) a.length a.length, .slice (some ⟨g + 1, 0, none⟩) b.length b.length, .slice (some ⟨g + 1 + 1, 0, none⟩) c.length c.length] 22)) (some ⟨g + 1 + 1 + 1, 0, none⟩) 3 3 [a, b, c] := by
  refine isVV_new _ _ (by simp only [size_new, hg]) [.slice (some ⟨g, 0, none⟩) a.length a.length, .slice (some ⟨g + 1, 0, none⟩) b.length b.length, .slice (some ⟨g + 1 + 1, 0, none⟩) c.length c.length] [a, b, c] rfl (by simp) (three_at ?_ ?_ ?_)
  · exact ⟨_, _, _, rfl, isI_below (isI_below (isI_new w g hg a ha ha2) (below_new _ _)) (below_new _ _)⟩
  · exact ⟨_, _, _, rfl, isI_below (isI_new _ (g + 1) (by simp only [size_new, hg]) b hb hb2) (below_new _ _)⟩
  · exact ⟨_, _, _, rfl, isI_new _ (g + 1 + 1) (by simp only [size_new, hg]) c hc hc2⟩
theorem exB_isBk (w : World) (g : Nat) (hg : w.heap.size = g) (o : Obj) : IsBk (((((((((w.alloc o).alloc (.cells #[.int .i64 0, .int .i64 2] 3)).alloc (.cells #[.int .i64 0, .int .i64 0] 3)).alloc (.cells #[.int .i64 3, .int .i64 4] 3)).alloc (.cells #[.slice (some ⟨g + 1 + 1, 0, none⟩) 2 2, .slice (some ⟨g + 1 + 1 + 1, 0, none⟩) 2 2] 22)).alloc (.cells #[.int .i64 5] 3)).alloc (.cells #[.int .i64 (-5)] 3)).alloc (.cells #[.slice (some ⟨g + 1 + 1 + 1 + 1 + 1, 0, none⟩) 1 1, .slice (some ⟨g + 1 + 1 + 1 + 1 + 1 + 1, 0, none⟩) 1 1] 22)).alloc (.cells #[.slice (some ⟨g + 1 + 1 + 1 + 1, 0, none⟩) 2 2, .slice (some ⟨g + 1 + 1 + 1 + 1 + 1 + 1 + 1, 0, none⟩) 2 2] 39))
    (.agg #[.int .i64 3, .slice (some ⟨g + 1, 0, none⟩) 2 2, .slice (some ⟨g + 1 + 1 + 1 + 1 + 1 + 1 + 1 + 1, 0, none⟩) 2 2]) exBk := by
  have i1 := isI_new (w.alloc o) (g + 1) (by simp only [size_new, hg]) [0, 2] (by decide) (by decide)
  have v4 := isVV_two ((w.alloc o).alloc (.cells #[.int .i64 0, .int .i64 2] 3)) (g + 1 + 1) (by simp only [size_new, hg]) [0, 0] [3, 4] (by decide) (by decide) (by decide) (by decide)
  have v7 := isVV_two (((((w.alloc o).alloc (.cells #[.int .i64 0, .int .i64 2] 3)).alloc (.cells #[.int .i64 0, .int .i64 0] 3)).alloc (.cells #[.int .i64 3, .int .i64 4] 3)).alloc (.cells #[.slice (some ⟨g + 1 + 1, 0, none⟩) 2 2, .slice (some ⟨g + 1 + 1 + 1, 0, none⟩) 2 2] 22)) (g + 1 + 1 + 1 + 1 + 1) (by simp only [size_new, hg]) [5] [-5] (by decide) (by decide) (by decide) (by decide)
  have W8 := isW_new (((((((((w.alloc o).alloc (.cells #[.int .i64 0, .int .i64 2] 3)).alloc (.cells #[.int .i64 0, .int .i64 0] 3)).alloc (.cells #[.int .i64 3, .int .i64 4] 3)).alloc (.cells #[.slice (some ⟨g + 1 + 1, 0, none⟩) 2 2, .slice (some ⟨g + 1 + 1 + 1, 0, none⟩) 2 2] 22)).alloc (.cells #[.int .i64 5] 3)).alloc (.cells #[.int .i64 (-5)] 3)).alloc (.cells #[.slice (some ⟨g + 1 + 1 + 1 + 1 + 1, 0, none⟩) 1 1, .slice (some ⟨g + 1 + 1 + 1 + 1 + 1 + 1, 0, none⟩) 1 1] 22))) (g + 1 + 1 + 1 + 1 + 1 + 1 + 1 + 1) (by simp only [size_new, hg]) [.slice (some ⟨g + 1 + 1 + 1 + 1, 0, none⟩) 2 2, .slice (some ⟨g + 1 + 1 + 1 + 1 + 1 + 1 + 1, 0, none⟩) 2 2] [[[0, 0], [3, 4]], [[5], [-5]]] rfl (by decide)
    (two_at ⟨_, _, _, rfl, isVV_below v4 (Below.andThen (Below.andThen (below_new _ _) (below_new _ _)) (below_new _ _))⟩ ⟨_, _, _, rfl, v7⟩)
  exact ⟨_, _, _, _, _, _, rfl, isI_below i1 (Below.andThen (Below.andThen (Below.andThen (Below.andThen (Below.andThen (Below.andThen (below_new _ _) (below_new _ _)) (below_new _ _)) (below_new _ _)) (below_new _ _)) (below_new _ _)) (below_new _ _)), W8, by unfold I64; decide⟩
set_option maxRecDepth 100000 in
set_option maxHeartbeats 4000000 in
theorem example_calls (w : World) :
    Calls Try.prog 37 #[] w fun e w' => ∃ v, e = .returned v ∧ IsBk w' v exBk ∧ Below w.heap.size w w' := by
  have HX := fun o => Lib.hid (exB_isBk w w.heap.size rfl o)
  have HXX := Lib.hid HX
  clear HX
  go_enter Try.func37, Try.ntmps37
  go_wp2_with fail
  refine bodyPost_ret (v := .agg #[.int .i64 3, .slice (some ⟨w.heap.size + 1, 0, none⟩) 2 2, .slice (some ⟨w.heap.size + 1 + 1 + 1 + 1 + 1 + 1 + 1 + 1, 0, none⟩) 2 2]) (results_cell_row (fn := Try.f37) rfl _ _ w.heap.size 25 #[.int .i64 3, .slice (some ⟨w.heap.size + 1, 0, none⟩) 2 2, .slice (some ⟨w.heap.size + 1 + 1 + 1 + 1 + 1 + 1 + 1 + 1, 0, none⟩) 2 2] (0, 0) _ rfl ?_ Try.underlying25 rfl (by kernel_rfl)) rfl ⟨_, rfl, (HXX.out _).out, ?_⟩
  · exact (Below.block ((Below.andThen (Below.andThen (Below.andThen (Below.andThen (Below.andThen (Below.andThen (Below.andThen (below_new _ _) (below_new _ _)) (below_new _ _)) (below_new _ _)) (below_new _ _)) (below_new _ _)) (below_new _ _)) (below_new _ _))) w.heap.size (by simp only [size_new]; omega)).trans (heap_alloc_new _ _)
  · exact (Below.andThen (Below.andThen (Below.andThen (Below.andThen (Below.andThen (Below.andThen (Below.andThen (Below.andThen (below_new _ _) (below_new _ _)) (below_new _ _)) (below_new _ _)) (below_new _ _)) (below_new _ _)) (below_new _ _)) (below_new _ _)) (below_new _ _))
end Go.Proofs.Ytiodjepjbooniaa.uk
/- Lengths in bits. -/
namespace Go.Proofs.Ytiodjepjbooniaa.mk

open Go.ChangeShapes Go.WideShapes Go.ChangeAt Go.RowKit

set_option linter.unusedVariables false
theorem tab_all : ∀ j : Fin 256, ((Lib.len8tab.data[j.val]?).map UInt8.toNat) = some (Lib.bitLen j.val) := by decide +kernel
theorem tab_at (n : Nat) (h : n < Lib.len8tab.size) (hn : n < 256) : ((Lib.len8tab[n]'h).toNat : Int) = Lib.bitLen n := by
  have h2 := tab_all ⟨n, hn⟩
  rw [Array.getElem?_eq_getElem (show n < Lib.len8tab.data.size from h), Option.map_some, Option.some.injEq] at h2
  exact congrArg _ h2
theorem wrap_small (k b : Nat) (hk : k ≤ 64) (hb : b ≤ 8) : wrap64 (k + wrap64 (b : Int)) = ((k + b : Nat) : Int) := by
  unfold wrap64
  omega
theorem len_fin (k : Nat) (x b v : Int) (hx : x.toNat < 2 ^ 64) (hk : k ≤ 64) (hb : b.toNat = x.toNat / 2 ^ k) (hge : 2 ^ k ≤ x.toNat) (h8 : b.toNat < 256) (hv : v = Lib.bitLen b.toNat) :
    wrap64 (k + wrap64 v) = (Lib.bitLen x.toNat : Int) := by
  rw [hv, Lib.bitLen_shift k x.toNat hge hx, ← hb]
  exact wrap_small k _ hk (Lib.bitLen_le8 ⟨b.toNat, h8⟩)
set_option maxRecDepth 100000 in
set_option maxHeartbeats 4000000 in
theorem len64_calls (x : Int) (w : World) (h0 : 0 ≤ x) (h1 : x ≤ 18446744073709551615) :
    Calls Try.prog 99 #[.int .u64 x] w fun e w' => e = .returned (.int .i64 (Lib.bitLen x.toNat)) ∧ w' = w := by
  go_enter Try.func99, Try.ntmps99
  have hsz : Lib.len8tab.size = 256 := by kernel_rfl
  go_wp2
  all_goals first
    | (exfalso; omega)
    | (go_ret; refine ⟨congrArg Ending.returned (congrArg (Value.int IntKind.i64) ?_), rfl⟩)
  · exact len_fin 56 x _ _ (by omega) (by omega) (by omega) (by omega) (by omega) (tab_at _ _ (by omega))
  · exact len_fin 48 x _ _ (by omega) (by omega) (by omega) (by omega) (by omega) (tab_at _ _ (by omega))
  · exact len_fin 40 x _ _ (by omega) (by omega) (by omega) (by omega) (by omega) (tab_at _ _ (by omega))
  · exact len_fin 32 x _ _ (by omega) (by omega) (by omega) (by omega) (by omega) (tab_at _ _ (by omega))
  · exact len_fin 24 x _ _ (by omega) (by omega) (by omega) (by omega) (by omega) (tab_at _ _ (by omega))
  · exact len_fin 16 x _ _ (by omega) (by omega) (by omega) (by omega) (by omega) (tab_at _ _ (by omega))
  · exact len_fin 8 x _ _ (by omega) (by omega) (by omega) (by omega) (by omega) (tab_at _ _ (by omega))
  · rw [tab_at _ _ (by omega)]
    have l := Lib.bitLen_le8 ⟨x.toNat, by omega⟩
    simp only at l
    unfold wrap64
    omega
theorem bitLen_log {n : Nat} (h : 0 < n) (hn : n < 2 ^ 64) : Lib.bitLen n = n.log2 + 1 := by
  have h1 := Nat.log2_self_le (n := n) (by omega)
  have h2 := Nat.lt_log2_self (n := n)
  have hl : n.log2 < 64 := (Nat.log2_lt (by omega)).2 hn
  have s := Lib.bitLen_shift n.log2 n h1 hn
  have e : n / 2 ^ n.log2 = 1 := by
    have hp := Nat.two_pow_pos n.log2
    refine Nat.div_eq_of_lt_le (by omega) ?_
    rw [Nat.pow_succ] at h2; omega
  rw [s, e]
  rfl
set_option maxRecDepth 100000 in
set_option maxHeartbeats 4000000 in
theorem len_calls (x : Int) (w : World) (h0 : 0 ≤ x) (h1 : x ≤ 18446744073709551615) :
    Calls Try.prog 95 #[.int .u64 x] w fun e w' => e = .returned (.int .i64 (Lib.bitLen x.toNat)) ∧ w' = w := by
  go_enter Try.func95, Try.ntmps95
  go_wp2_with (go_at_call 99; refine (len64_calls _ _ (by omega) (by omega)).mono ?_; rintro e w' ⟨rfl, rfl⟩)
  go_ret
  exact ⟨rfl, rfl⟩
theorem shl_one (k : Nat) (hk : k < 63) (P : Program) (w : World) : (Op.shift BinOp.shl IntKind.i64 1 IntKind.i64 (k : Int)).run P w = .ok (.int .i64 ((2 ^ k : Nat) : Int)) w := by
  have h1 : ¬ (k : Int) < 0 := by omega
  have hm : min (k : Int).toNat (IntKind.i64).bits = k := by show min _ 64 = k; omega
  have hp : (2 : Nat) ^ k ≤ 2 ^ 62 := Nat.pow_le_pow_right (by omega) (by omega)
  have he : IntKind.i64.wrap (1 * 2 ^ k) = ((2 ^ k : Nat) : Int) := by
    rw [IntKind.wrap_i64, Int.one_mul]
    have e : (2 : Int) ^ k = ((2 ^ k : Nat) : Int) := by push_cast; rfl
    rw [e]
    generalize (2 ^ k : Nat) = y at *
    omega
  simp only [Op.shift, if_neg h1, hm, he, Sem.run_pure]
end Go.Proofs.Ytiodjepjbooniaa.mk
/- The program's roots. -/
namespace Go.Proofs.Ytiodjepjbooniaa.me

open Go.ChangeShapes Go.WideShapes Go.ChangeAt Go.RowKit

open Go.Proofs.Ytiodjepjbooniaa.mk

set_option linter.unusedVariables false
theorem first_ge {n : Int} (h0 : 0 < n) (h1 : n ≤ 1152921504606846976) : ∃ h : Nat, h < 63 ∧ (Lib.bitLen n.toNat + 1) / 2 = h ∧ rt n ≤ ((2 ^ h : Nat) : Int) ∧ (2 ^ h : Nat) ≤ 2147483648 ∧ Lib.bitLen n.toNat ≤ 64 := by
  obtain ⟨k, rfl⟩ := Int.eq_ofNat_of_zero_le (show 0 ≤ n by omega)
  simp only [Int.toNat_natCast]
  have hk : 0 < k := by omega
  have hk1 : k ≤ 1152921504606846976 := by omega
  have hb := bitLen_log hk (by omega)
  have h2 := Nat.lt_log2_self (n := k)
  have hl : k.log2 < 61 := (Nat.log2_lt (by omega)).2 (by omega)
  refine ⟨(k.log2 + 2) / 2, by omega, by omega, ?_, ?_, by omega⟩
  · have hr := (rt_sq (x := (k : Int)) (by omega)).1
    have hp : k < 2 ^ ((k.log2 + 2) / 2) * 2 ^ ((k.log2 + 2) / 2) := by
      rw [← Nat.pow_add]
      exact Nat.lt_of_lt_of_le h2 (Nat.pow_le_pow_right (by omega) (by omega))
    generalize 2 ^ ((k.log2 + 2) / 2) = p at *
    have hp' : (k : Int) < (p : Int) * (p : Int) := by exact_mod_cast hp
    have := sq_lt (a := rt k) (b := (p : Int)) (by omega) (by omega)
    omega
  · exact Nat.le_trans (Nat.pow_le_pow_right (by omega) (show (k.log2 + 2) / 2 ≤ 31 by omega)) (by omega)
theorem wrap_two (k : Nat) (hk : k < 63) : wrap64 (2 ^ k) = ((2 ^ k : Nat) : Int) := by
  have hp : (2 : Nat) ^ k ≤ 2 ^ 62 := Nat.pow_le_pow_right (by omega) (by omega)
  have e : (2 : Int) ^ k = ((2 ^ k : Nat) : Int) := by push_cast; rfl
  rw [e]
  generalize (2 ^ k : Nat) = y at *
  unfold wrap64
  omega
set_option maxRecDepth 100000 in
set_option maxHeartbeats 4000000 in
theorem isqrt_small (n : Int) (w : World) (h0 : 0 < n) (h1 : n ≤ 1152921504606846976) (N : Int) (hN : min N 1152921504606846976 = n) (hN0 : 0 < N) :
    Calls Try.prog 90 #[.int .i64 N] w fun e w' => e = .returned (.int .i64 (rt n)) ∧ w' = w := by
  obtain ⟨h, hh, hl, hr, hp, hb⟩ := first_ge h0 h1
  have hpos := Nat.two_pow_pos h
  have hs := wrap_two h hh
  have hq : ((Lib.bitLen n.toNat : Int) + 1) / 2 = (h : Int) := by omega
  have HS := Lib.hid hs
  clear hl hs
  go_enter Try.func90, Try.ntmps90
  go_wp2_with (go_at_call 95; refine (len_calls _ _ (by omega) (by omega)).mono ?_; rintro e w' ⟨rfl, rfl⟩)
  go_loop [3] (fun x => ∃ r : Int, x = .int .i64 r ∧ rt n ≤ r ∧ 0 < r ∧ r ≤ 2147483648) (fun x => (intOf x).toNat)
  case atStart => exact ⟨_, by rw [HS.out], hr, by omega, by omega⟩
  case round =>
    obtain ⟨r, rfl, hr1, hr2, hr3⟩ := hrel
    have hg := newton_ge (n := n) (by omega) hr2
    have hst := newton_stop (n := n) (by omega) hr2
    have hd0 : 0 ≤ n / r := Int.ediv_nonneg (by omega) (by omega)
    have hd1 : n / r ≤ n := Int.ediv_le_self _ (by omega)
    clear hq hr
    have h0' : 1 ≤ rt n := (le_rt (by omega) 1).2 (.inr (by omega))
    by_cases hge : r ≤ (r + n / r) / 2
    · have he : r = rt n := by have := hst hge; omega
      have HE := Lib.hid he
      clear he hst hg
      go_wp2
      go_ret
      exact ⟨by rw [← HE.out]; rfl, rfl⟩
    · clear hst
      go_wp2
      go_round
      case rel => exact ⟨_, rfl, hg, by omega, by omega⟩
      case measure => simp [intOf]; omega
set_option maxRecDepth 100000 in
theorem isqrt_calls (N : Int) (w : World) : Calls Try.prog 90 #[.int .i64 N] w fun e w' => e = .returned (.int .i64 (rt (min N 1152921504606846976))) ∧ w' = w := by
  by_cases h : N ≤ 0
  · have hz : rt (min N 1152921504606846976) = 0 := by
      unfold rt
      rw [show (min N 1152921504606846976).toNat = 0 by omega]
      rfl
    rw [hz]
    clear hz
    go_enter Try.func90, Try.ntmps90
    go_wp2
    go_ret
    exact ⟨rfl, rfl⟩
  · exact isqrt_small _ w (by omega) (by omega) N rfl (by omega)
theorem isqrt_calls' (N : Int) (w : World) (h : N ≤ 1152921504606846976) : Calls Try.prog 90 #[.int .i64 N] w fun e w' => e = .returned (.int .i64 (rt N)) ∧ w' = w := by
  have := isqrt_calls N w
  rw [Int.min_eq_left h] at this
  exact this
/-- the bounds' functions -/
theorem four_le {a b : Int} (ha : 0 ≤ a) (hb : 0 ≤ b) (ha2 : a ≤ 134217728) (hb2 : b ≤ 134217728) : 0 ≤ 4 * a * b ∧ 4 * a * b ≤ 72057594037927936 := by
  refine ⟨four_nonneg ha hb, ?_⟩
  have h1 := Int.mul_le_mul_of_nonneg_left hb2 (show 0 ≤ 4 * a by omega)
  omega
set_option maxRecDepth 100000 in
theorem low1_calls (m a b : Int) (w : World) (hm : m ≠ 2) (ha : 0 ≤ a) (hb : 0 ≤ b) (ha2 : a ≤ 134217728) (hb2 : b ≤ 134217728) :
    Calls Try.prog 87 #[.int .i64 a, .int .i64 b] w fun e w' => e = .returned (.int .i64 (low m a b)) ∧ w' = w := by
  rw [low, if_neg hm]
  obtain ⟨x, hx⟩ : ∃ x, max (a - b) (b - a) = x := ⟨_, rfl⟩
  rw [hx]
  go_enter Try.func87, Try.ntmps87
  go_wp2
  go_ret
  exact ⟨rfl, rfl⟩
set_option maxRecDepth 100000 in
theorem high1_calls (m a b : Int) (w : World) (hm : m ≠ 2) (ha : 0 ≤ a) (hb : 0 ≤ b) (ha2 : a ≤ 134217728) (hb2 : b ≤ 134217728) :
    Calls Try.prog 88 #[.int .i64 a, .int .i64 b] w fun e w' => e = .returned (.int .i64 (high m a b)) ∧ w' = w := by
  rw [high, if_neg hm]
  obtain ⟨x, hx⟩ : ∃ x, min (a + b) 134217728 = x := ⟨_, rfl⟩
  rw [hx]
  go_enter Try.func88, Try.ntmps88
  go_wp2
  go_ret
  exact ⟨rfl, rfl⟩
set_option maxRecDepth 100000 in
theorem low2_calls (a b : Int) (w : World) (ha : 0 ≤ a) (hb : 0 ≤ b) (ha2 : a ≤ 134217728) (hb2 : b ≤ 134217728) :
    Calls Try.prog 89 #[.int .i64 a, .int .i64 b] w fun e w' => e = .returned (.int .i64 (low 2 a b)) ∧ w' = w := by
  rw [low, if_pos rfl]
  obtain ⟨h1, h2⟩ := four_le ha hb ha2 hb2
  have h3 := rt_nonneg (4 * a * b)
  have h4 := rt_le_add ha hb
  have HC := Lib.hid (fun w' => isqrt_calls' (4 * a * b) w' (by omega))
  generalize rt (4 * a * b) = r at *
  go_enter Try.func89, Try.ntmps89
  go_wp2_with fail
  refine (HC.out _).mono ?_
  rintro e w' ⟨rfl, rfl⟩
  go_wp2
  go_ret
  exact ⟨rfl, rfl⟩
set_option maxRecDepth 100000 in
theorem high2_calls (a b : Int) (w : World) (ha : 0 ≤ a) (hb : 0 ≤ b) (ha2 : a ≤ 134217728) (hb2 : b ≤ 134217728) :
    Calls Try.prog 91 #[.int .i64 a, .int .i64 b] w fun e w' => e = .returned (.int .i64 (high 2 a b)) ∧ w' = w := by
  rw [high, if_pos rfl]
  obtain ⟨h1, h2⟩ := four_le ha hb ha2 hb2
  have h3 := rt_nonneg (4 * a * b)
  have h4 := rt_le_add ha hb
  have HC := Lib.hid (fun w' => isqrt_calls' (4 * a * b) w' (by omega))
  generalize rt (4 * a * b) = r at *
  obtain ⟨x, hx⟩ : ∃ x, min (a + b + r) 134217728 = x := ⟨_, rfl⟩
  rw [hx]
  go_enter Try.func91, Try.ntmps91
  go_wp2_with fail
  refine (HC.out _).mono ?_
  rintro e w' ⟨rfl, rfl⟩
  go_wp2
  go_ret
  exact ⟨rfl, rfl⟩
def okk (m k : Int) : Bool := decide (1 ≤ m ∧ m ≤ 3) && (decide (0 ≤ k) && decide (k ≤ 134217728))
end Go.Proofs.Ytiodjepjbooniaa.me
/- The program's bounds. -/
namespace Go.Proofs.Ytiodjepjbooniaa.me

open Go.ChangeShapes Go.WideShapes Go.ChangeAt Go.RowKit

open Go.Proofs.Ytiodjepjbooniaa.vk

set_option linter.unusedVariables false
def lowF (m : Int) : Value := if m = 2 then .func (.func 89) #[] #[] else .func (.func 87) #[] #[]
def highF (m : Int) : Value := if m = 2 then .func (.func 91) #[] #[] else .func (.func 88) #[] #[]
set_option maxRecDepth 100000 in
theorem boundsOf_calls (m : Int) (w : World) (h1 : 1 ≤ m) (h3 : m ≤ 3) :
    Calls Try.prog 72 #[.int .i64 m] w fun e w' => e = .returned (.agg #[lowF m, highF m]) ∧ Below w.heap.size w w' := by
  rcases (by omega : m = 1 ∨ m = 2 ∨ m = 3) with rfl | rfl | rfl
  all_goals
    go_enter Try.func72, Try.ntmps72
    go_wp2
  · exact bodyPost_ret (v := .agg #[lowF 1, highF 1]) (by simp [results, Try.results72, go_sem, lowF, highF]) rfl ⟨rfl, (Below.refl _ _).alloc (Nat.le_refl _) _⟩
  · exact bodyPost_ret (v := .agg #[lowF 2, highF 2]) (by simp [results, Try.results72, go_sem, lowF, highF]) rfl ⟨rfl, (Below.refl _ _).alloc (Nat.le_refl _) _⟩
  · exact bodyPost_ret (v := .agg #[lowF 3, highF 3]) (by simp [results, Try.results72, go_sem, lowF, highF]) rfl ⟨rfl, (Below.refl _ _).alloc (Nat.le_refl _) _⟩
theorem run_field0 (f g : Value) (w : World) : (Instr.field 92 (.agg #[f, g]) 0).run Try.prog w = .ok f w := by kernel_rfl
theorem run_field1 (f g : Value) (w : World) : (Instr.field 92 (.agg #[f, g]) 1).run Try.prog w = .ok g w := by kernel_rfl
set_option maxRecDepth 100000 in
theorem low_calls (m a b : Int) (w : World) (h1 : 1 ≤ m) (h3 : m ≤ 3) (ha : 0 ≤ a) (hb : 0 ≤ b) (ha2 : a ≤ 134217728) (hb2 : b ≤ 134217728) :
    Calls Try.prog 49 #[.int .i64 m, .int .i64 a, .int .i64 b] w fun e w' => e = .returned (.int .i64 (low m a b)) ∧ Below w.heap.size w w' := by
  have HB := Lib.hid (fun w' => boundsOf_calls m w' h1 h3)
  by_cases hm : m = 2
  · subst hm
    simp only [lowF, highF, if_pos] at HB
    have HC := Lib.hid (fun w' => low2_calls a b w' ha hb ha2 hb2)
    have hf := run_field0 (.func (.func 89) #[] #[]) (.func (.func 91) #[] #[])
    go_enter Try.func49, Try.ntmps49
    go_wp2_with fail
    refine (HB.out _).mono ?_
    rintro e w' ⟨rfl, hb⟩
    go_wp2_with fail
    refine (HC.out _).mono ?_
    rintro e w' ⟨rfl, rfl⟩
    go_wp2
    go_ret
    exact ⟨rfl, hb⟩
  · simp only [lowF, highF, if_neg hm] at HB
    have HC := Lib.hid (fun w' => low1_calls m a b w' hm ha hb ha2 hb2)
    have hf := run_field0 (.func (.func 87) #[] #[]) (.func (.func 88) #[] #[])
    go_enter Try.func49, Try.ntmps49
    go_wp2_with fail
    refine (HB.out _).mono ?_
    rintro e w' ⟨rfl, hb⟩
    go_wp2_with fail
    refine (HC.out _).mono ?_
    rintro e w' ⟨rfl, rfl⟩
    go_wp2
    go_ret
    exact ⟨rfl, hb⟩
set_option maxRecDepth 100000 in
theorem high_calls (m a b : Int) (w : World) (h1 : 1 ≤ m) (h3 : m ≤ 3) (ha : 0 ≤ a) (hb : 0 ≤ b) (ha2 : a ≤ 134217728) (hb2 : b ≤ 134217728) :
    Calls Try.prog 50 #[.int .i64 m, .int .i64 a, .int .i64 b] w fun e w' => e = .returned (.int .i64 (high m a b)) ∧ Below w.heap.size w w' := by
  have HB := Lib.hid (fun w' => boundsOf_calls m w' h1 h3)
  by_cases hm : m = 2
  · subst hm
    simp only [lowF, highF, if_pos] at HB
    have HC := Lib.hid (fun w' => high2_calls a b w' ha hb ha2 hb2)
    have hf := run_field1 (.func (.func 89) #[] #[]) (.func (.func 91) #[] #[])
    go_enter Try.func50, Try.ntmps50
    go_wp2_with fail
    refine (HB.out _).mono ?_
    rintro e w' ⟨rfl, hb⟩
    go_wp2_with fail
    refine (HC.out _).mono ?_
    rintro e w' ⟨rfl, rfl⟩
    go_wp2
    go_ret
    exact ⟨rfl, hb⟩
  · simp only [lowF, highF, if_neg hm] at HB
    have HC := Lib.hid (fun w' => high1_calls m a b w' hm ha hb ha2 hb2)
    have hf := run_field1 (.func (.func 87) #[] #[]) (.func (.func 88) #[] #[])
    go_enter Try.func50, Try.ntmps50
    go_wp2_with fail
    refine (HB.out _).mono ?_
    rintro e w' ⟨rfl, hb⟩
    go_wp2_with fail
    refine (HC.out _).mono ?_
    rintro e w' ⟨rfl, rfl⟩
    go_wp2
    go_ret
    exact ⟨rfl, hb⟩
end Go.Proofs.Ytiodjepjbooniaa.me
