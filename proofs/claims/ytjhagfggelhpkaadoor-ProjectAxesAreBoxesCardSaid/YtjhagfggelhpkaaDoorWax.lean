/- ProjectAxesAreBoxes: its walk. -/
import Derived.Test.YtjhagfggelhpkaaDoorJr

import Derived.Laws.AppendOwn

namespace Go.Proofs.YtjhagfggelhpkaaDoor.projectAxesAreBoxes

open Go.ChangeShapes Go.WideShapes Go.ChangeAt Go.RowKit

open Go.Proofs.YtjhagfggelhpkaaDoor.jq Go.Proofs.YtjhagfggelhpkaaDoor.vk Go.Proofs.YtjhagfggelhpkaaDoor.wk Go.Proofs.YtjhagfggelhpkaaDoor.jk

set_option linter.unusedVariables false
structure E (w0 : World) (A2 A4 : Option Addr) (n2 c2 n4 c4 : Nat) (r : List R) (q : List Int) (w : World) : Prop where
  rng : IsR w A2 n2 c2 r
  q : wo.IsI w A4 n4 c4 q
  tab : hi.TabK w
  bel : Below w0.heap.size w0 w
theorem E.next {w0 : World} {A2 A4 : Option Addr} {n2 c2 n4 c4 : Nat} {r : List R} {q : List Int} {w w' : World} (h : E w0 A2 A4 n2 c2 n4 c4 r q w) (hb : Below w.heap.size w w') : E w0 A2 A4 n2 c2 n4 c4 r q w' :=
  ⟨isR_below h.rng hb, isI_below h.q hb, tab_below h.tab hb, Below.andThen h.bel hb⟩
theorem E.drew {w0 : World} {A2 A4 : Option Addr} {n2 c2 n4 c4 : Nat} {r : List R} {q : List Int} {w : World} (h : E w0 A2 A4 n2 c2 n4 c4 r q w) (q9 : Nat) : E w0 A2 A4 n2 c2 n4 c4 r q (w.drewN q9) :=
  ⟨h.rng, h.q, h.tab, below_drewN h.bel q9⟩
/-- what a round's last statement knows -/
structure Ctx where
  w0 : World
  lo : Nat
  k : Nat
  d : Nat
  gs : List (Nat × Nat)
  Ls : List (List Int)
  ms : List Value
  ws : List Value
  vM : Value
  vW : Value
  vm : Value
  z1 : Int
  cvs : List Value
def FR (C : Ctx) (L : Nat → Bool) (i : Nat) (u : World) (x : Value) : Prop :=
  match i with
  | 0 => x = C.vM
  | 1 => x = C.vm
  | 2 => ∃ g, x = .slice (some ⟨g, 0, none⟩) 1 1 ∧ (L 3 = false → OneS u g C.vm)
  | 3 => u.ownsRow C.w0.heap.size 24 1 x (C.k + 1) (C.ms ++ [C.vm])
  | 4 => x = C.vW
  | 21 => ∃ g, x = .slice (some ⟨g, 0, none⟩) 1 1 ∧ C.lo ≤ g ∧ (L 22 = false → LineAt u g 1 [C.z1])
  | 22 => u.ownsRow C.w0.heap.size 3 1 x (C.k + 1) (C.ws ++ [.int .i64 C.z1]) ∧ (x.ownBlock = C.vW.ownBlock ∨ ∃ g, x.ownBlock = some g ∧ C.lo ≤ g)
  | j => x = C.cvs.getD j undef
structure FRS (C : Ctx) (L : Nat → Bool) (u : World) : Prop where
  bel : Below C.w0.heap.size C.w0 u
  siz : C.lo ≤ u.heap.size
  m : L 3 = false → u.ownsRow C.w0.heap.size 24 1 C.vM C.k C.ms
  w : L 22 = false → u.ownsRow C.w0.heap.size 3 1 C.vW C.k C.ws
  ln : ∀ (i : Nat) (g : Nat × Nat) (l : List Int), C.gs[i]? = some g → C.Ls[i]? = some l → LineAt u g.1 C.d l
theorem FRS.next {C : Ctx} {L L' : Nat → Bool} {u u' : World} (h : FRS C L u) (h3 : L' 3 = L 3) (h22 : L' 22 = L 22) (hb : Below u.heap.size u u') : FRS C L' u' :=
  ⟨h.bel.trans (hb.mono h.bel.size), Nat.le_trans h.siz hb.size, fun e => keptB (h.m (h3 ▸ e)) hb, fun e => keptB (h.w (h22 ▸ e)) hb, fun i g l hg hl => (h.ln i g l hg hl).below hb⟩
theorem FR.next {C : Ctx} {L L' : Nat → Bool} {i : Nat} {u u' : World} {x : Value} (h3 : L' 3 = L 3) (h22 : L' 22 = L 22) (hb : Below u.heap.size u u') (h : FR C L i u x) : FR C L' i u' x := by
  unfold FR at *
  split
  case h_1 => exact h
  case h_2 => exact h
  case h_3 => obtain ⟨g, e, h⟩ := h; exact ⟨g, e, fun e3 => (h (h3 ▸ e3)).below hb⟩
  case h_4 => exact keptB h hb
  case h_5 => exact h
  case h_6 => obtain ⟨g, e, hl, h⟩ := h; exact ⟨g, e, hl, fun e3 => (h (h22 ▸ e3)).below hb⟩
  case h_7 => exact ⟨keptB h.1 hb, h.2⟩
  case h_8 => simpa using h
theorem FR.appM {C : Ctx} {L L' : Nat → Bool} {i : Nat} {u u' : World} {x : Value} (hi : i ≠ 3) (h3 : L' 3 = true) (h22 : L' 22 = L 22) (hM : u.ownsRow C.w0.heap.size 24 1 C.vM C.k C.ms) (hg : u.grownBy u' C.vM.ownBlock) (h : FR C L i u x) : FR C L' i u' x := by
  unfold FR at *
  split
  case h_1 => exact h
  case h_2 => exact h
  case h_3 => obtain ⟨g, e, h⟩ := h; exact ⟨g, e, fun e3 => by rw [h3] at e3; cases e3⟩
  case h_4 => exact absurd rfl hi
  case h_5 => exact h
  case h_6 => obtain ⟨g, e, hl, h⟩ := h; exact ⟨g, e, hl, fun e3 => (h (h22 ▸ e3)).kept hM (by decide) hg⟩
  case h_7 => exact ⟨World.ownsRow.kept h.1 hg (own_apart hM h.1 (by decide)), h.2⟩
  case h_8 => simpa using h
theorem FR.appW {C : Ctx} {L L' : Nat → Bool} {i : Nat} {u u' : World} {x : Value} (hi : i ≠ 22) (h3 : L' 3 = L 3) (h22 : L' 22 = true) (hW : u.ownsRow C.w0.heap.size 3 1 C.vW C.k C.ws) (hg : u.grownBy u' C.vW.ownBlock) (h : FR C L i u x) : FR C L' i u' x := by
  unfold FR at *
  split
  case h_1 => exact h
  case h_2 => exact h
  case h_3 => obtain ⟨g, e, h⟩ := h; exact ⟨g, e, fun e3 => row_kept (h (h3 ▸ e3)) hW (by decide) hg⟩
  case h_4 => exact World.ownsRow.kept h hg (own_apart hW h (by decide))
  case h_5 => exact h
  case h_6 => obtain ⟨g, e, hl, h⟩ := h; exact ⟨g, e, hl, fun e3 => by rw [h22] at e3; cases e3⟩
  case h_7 => exact absurd rfl hi
  case h_8 => simpa using h
theorem FRS.appM {C : Ctx} {L L' : Nat → Bool} {u u' : World} (h : FRS C L u) (h3 : L' 3 = true) (h22 : L' 22 = L 22) (hM : u.ownsRow C.w0.heap.size 24 1 C.vM C.k C.ms) (hg : u.grownBy u' C.vM.ownBlock) : FRS C L' u' :=
  ⟨h.bel.grown hg h.bel.size (fun q hq => (hM.lt q hq).1), Nat.le_trans h.siz hg.size, fun e => (by rw [h3] at e; cases e), fun e => World.ownsRow.kept (h.w (h22 ▸ e)) hg (own_apart hM (h.w (h22 ▸ e)) (by decide)), fun i g l h1 h2 => (h.ln i g l h1 h2).kept hM (by decide) hg⟩
theorem FRS.appW {C : Ctx} {L L' : Nat → Bool} {u u' : World} (h : FRS C L u) (h3 : L' 3 = L 3) (h22 : L' 22 = true) (hW : u.ownsRow C.w0.heap.size 3 1 C.vW C.k C.ws) (hne : ∀ (i : Nat) (g : Nat × Nat), C.gs[i]? = some g → C.vW.ownBlock ≠ some g.1) (hg : u.grownBy u' C.vW.ownBlock) : FRS C L' u' :=
  ⟨h.bel.grown hg h.bel.size (fun q hq => (hW.lt q hq).1), Nat.le_trans h.siz hg.size, fun e => World.ownsRow.kept (h.m (h3 ▸ e)) hg (own_apart hW (h.m (h3 ▸ e)) (by decide)), fun e => (by rw [h22] at e; cases e), fun i g l h1 h2 => (h.ln i g l h1 h2).keptNe (hne i g h1) hg⟩
theorem LineAt.cells {w : World} {g : Nat} {z : Int} (h : LineAt w g 1 [z]) : ∀ j u, [Value.int .i64 z][j]? = some u → w.cell? ((⟨g, 0, none⟩ : Addr).add j) = some u := fun j u hu => by
  obtain ⟨b, o, e, hb, hc⟩ := h.rc (by simp [iv])
  simp at e
  obtain ⟨rfl, rfl⟩ := e
  rw [wk.add_at]
  exact hc j u hu
theorem lineAt_new (w : World) (z : Int) : LineAt (w.alloc (.cells #[.int .i64 z] 3)) w.heap.size 1 [z] := ⟨rfl, _, heap_alloc_new w _, rfl⟩
theorem madeI (n : Nat) : (madeCells (Value.int .i64 0).cells (n * 1)).toList = iv (List.replicate n 0) := by
  show (madeCells #[.int .i64 0] (n * 1)).toList = _
  rw [Nat.mul_one, toList_madeCells_one]
  simp [iv]
set_option maxRecDepth 100000 in
set_option maxHeartbeats 16000000 in
theorem walk (w : World) (hT : hi.TabK w) {m : Int} {A2 A4 : Option Addr} {n2 c2 n4 c4 : Nat} {r : List R} {q : List Int} (w0 : (Lit.int .i64 m).wf = true) (w1 : IsR w A2 n2 c2 r) (w2 : wo.IsI w A4 n4 c4 q) :
    Calls Tryd.prog 9 #[.int .i64 m, .slice A2 n2 c2, .slice A4 n4 c4] w fun e w' => e = .returned (.bool true) ∧ Below w.heap.size w w' := by
  obtain ⟨i0, hi0, hz0, hz1, hz2⟩ := info_parts infoIz
  obtain ⟨iV, hiV, hV0, hV1, hV2⟩ := info_parts infoVz
  have HM := Lib.hid (show -9223372036854775808 ≤ m ∧ m ≤ 9223372036854775807 by simpa [Lit.wf, IntKind.min, IntKind.max, IntKind.signed, IntKind.bits] using w0)
  have HE : Hid (E w A2 A4 n2 c2 n4 c4 r q w) := ⟨w1, w2, hT, Below.refl _ _⟩
  have HE0 := HE
  have HNA := Lib.hid w1.1
  have HNQ := Lib.hid w2.1
  have hm4 := w2.2.2.1
  have hn4 := w2.2.1
  have hm2 := w1.2.2.1
  have hn2 := w1.2.1
  clear w0 w1 w2 hT
  go_enter Tryd.func9, Tryd.ntmps9
  have HN := Lib.hid (rvalid_calls A4 n4 c4 q w HE.out.q)
  go_wp2_with fail
  refine HN.out.mono ?_
  rintro e w' ⟨rfl, hw⟩
  replace hw := hw.symm
  subst hw
  clear HN
  cases hvq : vq.valid q
  ·
    go_wp2_with fail
    refine (san7_calls _ HE.out.tab).mono ?_
    rintro e w' ⟨rfl, hb⟩
    have HBZ := Lib.hid (Below.andThen HE.out.bel hb)
    clear hb
    go_wp2_with fail
    go_ret
    exact ⟨rfl, HBZ.out⟩
  ·
    by_cases h8 : n4 > 8
    ·
      have h8' : (n4 : Int) > 8 := by omega
      go_wp2_with fail
      refine (san7_calls _ HE.out.tab).mono ?_
      rintro e w' ⟨rfl, hb⟩
      have HBZ := Lib.hid (Below.andThen HE.out.bel hb)
      clear hb
      go_wp2_with fail
      go_ret
      exact ⟨rfl, HBZ.out⟩
    have h8' : ¬ (n4 : Int) > 8 := by omega
    have HN := Lib.hid (ranges_calls (n4 : Int) w HE.out.rng)
    go_wp2_with fail
    refine HN.out.mono ?_
    rintro e w' ⟨rfl, q2, rfl⟩
    replace HE := Lib.hid (HE.out.drew q2)
    generalize (w.drewN q2) = v2 at *
    clear HN
    cases hva : ranges r (n4 : Int)
    ·
      go_wp2_with fail
      refine (san7_calls _ HE.out.tab).mono ?_
      rintro e w' ⟨rfl, hb⟩
      have HBZ := Lib.hid (Below.andThen HE.out.bel hb)
      clear hb
      go_wp2_with fail
      go_ret
      exact ⟨rfl, HBZ.out⟩
    ·
      have HN := Lib.hid (metric_calls m v2)
      go_wp2_with fail
      refine HN.out.mono ?_
      rintro e w' ⟨rfl, hw⟩
      replace hw := hw.symm
      subst hw
      clear HN
      cases hmet : decide (1 ≤ m ∧ m ≤ 3)
      ·
        go_wp2_with fail
        refine (san7_calls _ HE.out.tab).mono ?_
        rintro e w' ⟨rfl, hb⟩
        have HBZ := Lib.hid (Below.andThen HE.out.bel hb)
        clear hb
        go_wp2_with fail
        go_ret
        exact ⟨rfl, HBZ.out⟩
      ·
        obtain ⟨hla, hia, hor⟩ := in_ok hva
        have HM3 := Lib.hid (metric3 hmet)
        have HQV := Lib.hid (vq.valid_iff.1 hvq)
        have HIA := Lib.hid hia
        have HOR := Lib.hid hor
        obtain rfl : n4 = n2 := by have := HNA.out; omega
        have hd1 : 1 ≤ n4 := by rw [← HNQ.out]; exact HQV.out.pos
        have hd8 : n4 ≤ 8 := by omega
        have HF : Hid (Fit (axesL n4) n4) := axes_fit hd1 hd8
        clear hvq hva hmet hla hia hor h8
        go_wp2_with fail
        go_loopg [7, 8, 36] n4 (fun g v v' x wr => ∃ (k : Nat) (vM vW : Value) (gs : List (Nat × Nat)), k + g = n4 ∧ vM = v ∧ vW = v' ∧ x = .int .i64 (k : Int) ∧ gs.length = k ∧ wr.ownsRow w.heap.size 24 1 vM k (gsc gs n4) ∧ wr.ownsRow w.heap.size 3 1 vW k (iv ((nearL q r).take k)) ∧ (∀ (i : Nat) (g : Nat × Nat), gs[i]? = some g → LineAt wr g.1 n4 (axis n4 i) ∧ g.2 = n4 ∧ vW.ownBlock ≠ some g.1) ∧ (∀ x ∈ r.take k, -1000 ≤ x.1 ∧ x.2 ≤ 1000) ∧ E w A2 A4 n4 c2 n4 c4 r q wr)
        case atStart => exact ⟨0, _, _, [], by omega, rfl, rfl, rfl, rfl, World.ownsRow_nil _ _ _ _, World.ownsRow_nil _ _ _ _, fun i g h => by simp at h, fun x hx => by simp at hx, HE.out⟩
        case round =>
          obtain ⟨k, vM, vW, gs, hk0, rfl, rfl, rfl, hgl, hM, hW, hln, hrb, hE⟩ := hrel
          have HK := Lib.hid hk0
          have HGL := Lib.hid hgl
          have HMR := Lib.hid hM
          have HWR := Lib.hid hW
          have HLN := Lib.hid hln
          have HRB := Lib.hid hrb
          have hkn : k ≤ n4 := by omega
          replace HE := Lib.hid hE
          clear hk0 hgl hM hW hln hrb hE
          by_cases hlt : k < n4
          ·
            obtain ⟨b2, o2, ⟨lo, hi⟩, rfl, hx1', hx2', hb2, hR0', hwd⟩ := isR_get HE0.out.rng hlt
            obtain ⟨b3, o3, y, rfl, hy', hQ0, -, -⟩ := isI_at HE0.out.q hlt
            dsimp only at hx1' hx2'
            have HX1 := Lib.hid hx1'
            have HX2 := Lib.hid hx2'
            have HY := Lib.hid hy'
            have HB2 := Lib.hid hb2
            have HB3 := Lib.hid (block_lt_of_cell hy')
            have HRK := Lib.hid hR0'
            have HQ0 := Lib.hid hQ0
            have hlh : lo ≤ hi := HOR.out _ (List.mem_of_getElem? hR0')
            have hyb1 := HQV.out.lo y (List.mem_of_getElem? hQ0)
            have hyb2 := HQV.out.hi y (List.mem_of_getElem? hQ0)
            have hlt0 : (k : Int) < (n4 : Int) := by omega
            have hc1 : wr.cell? ⟨b2, o2 + k * 2, none⟩ = some (.int .i64 lo) := (Below.cell (p := ⟨_, _, none⟩) HE.out.bel HB2.out).trans HX1.out
            have hc2 : wr.cell? ⟨b2, o2 + k * 2 + 1, none⟩ = some (.int .i64 hi) := (Below.cell (p := ⟨_, _, none⟩) HE.out.bel HB2.out).trans HX2.out
            clear hx1' hx2' hy' hb2 hR0' hQ0 hwd
            by_cases g1 : lo < -1000
            ·
              go_wp2_with fail
              refine (san7_calls _ HE.out.tab).mono ?_
              rintro e w' ⟨rfl, hb⟩
              have HBZ := Lib.hid (Below.andThen HE.out.bel hb)
              clear hb
              go_wp2_with fail
              go_ret
              exact ⟨rfl, HBZ.out⟩
            by_cases g2 : hi > 1000
            ·
              go_wp2_with fail
              refine (san7_calls _ HE.out.tab).mono ?_
              rintro e w' ⟨rfl, hb⟩
              have HBZ := Lib.hid (Below.andThen HE.out.bel hb)
              clear hb
              go_wp2_with fail
              go_ret
              exact ⟨rfl, HBZ.out⟩
            have hnI : (i0.bytes : Nat) * n4 ≤ 281474976710656 := by rw [hz2]; omega
            obtain ⟨wa, hmk, howna, hgra⟩ := run_make_full (P := Tryd.prog) wr wr.heap.size 24 3 i0 (.int .i64 0) 1 Tryd.underlying24 hi0 hz0 hz1 .i64 .i64 n4 hnI (by unfold maxLen; omega) (Nat.le_refl _)
            have hBa : Below wr.heap.size wr wa := (Below.refl _ _).grown hgra (Nat.le_refl _) (fun q hq => by cases hq)
            obtain ⟨ga, capa, cura, hva, hga, hrowa, -, -, htka, hsza⟩ := own_row howna (by omega)
            have hga2 : wr.heap.size = ga := by injection hva with h1 h2 h3; injection h1 with h1; injection h1
            subst hga2
            have hcura : cura.toList.take n4 = iv (List.replicate n4 0) := by rw [htka]; exact madeI n4
            have hcapa : n4 = capa := by injection hva
            have hca : ∃ u, wa.cell? ⟨wr.heap.size, k, none⟩ = some u := by
              rw [cell_of_row _ _ _ _ _ _ hrowa]
              exact ⟨_, Array.getElem?_eq_getElem (by omega)⟩
            obtain ⟨ua, hca0⟩ := hca
            have hfa0 : wa.frozen? ⟨wr.heap.size, k, none⟩ = false := frozen_of_row _ _ _ _ _ hrowa
            have hLAx : LineAt (wa.setCell ⟨wr.heap.size, k, none⟩ (.int .i64 1)) wr.heap.size n4 (axis n4 k) := by
              refine ⟨axis_len n4 k, _, heap_setCell_same _ _ _ _ _ _ hrowa, ?_⟩
              simp only [Array.toList_setIfInBounds]
              rw [List.take_set, hcura]
              unfold axis
              simp [iv, List.map_set]
            have hB5 : Below wr.heap.size wr (wa.setCell ⟨wr.heap.size, k, none⟩ (.int .i64 1)) := hBa.setCell (p := ⟨wr.heap.size, _, none⟩) (Nat.le_refl _) _
            have HLAX := Lib.hid hLAx
            have HB5 := Lib.hid hB5
            have HSZA : Hid (wr.heap.size < (wa.setCell ⟨wr.heap.size, k, none⟩ (.int .i64 1)).heap.size) := hLAx.lt
            clear howna hgra hBa hva hga hrowa htka hsza hcura hcapa hLAx hB5
            go_upto_region 12 with fail
            change Code.wp _ _ _ _ (wa.setCell ⟨wr.heap.size, k, none⟩ (.int .i64 1))
            generalize wa.setCell ⟨wr.heap.size, k, none⟩ (.int .i64 1) = w5 at *
            have HE1 := Lib.hid (HE.out.next HB5.out)
            have HMW := Lib.hid (keptB HMR.out HB5.out)
            have HWW := Lib.hid (keptB HWR.out HB5.out)
            have HLN2 : Hid (∀ (i : Nat) (g : Nat × Nat), (gs ++ [(wr.heap.size, n4)])[i]? = some g → LineAt w5 g.1 n4 (axis n4 i) ∧ g.2 = n4 ∧ vW.ownBlock ≠ some g.1 ∧ g.1 < w5.heap.size) := fun i g hg => by
              rcases Nat.lt_trichotomy i gs.length with h' | h' | h'
              · rw [List.getElem?_append_left h'] at hg
                have h9 := HLN.out i g hg
                have h10 := h9.1.below HB5.out
                exact ⟨h10, h9.2.1, h9.2.2, h10.lt⟩
              · rw [List.getElem?_append_right (by omega), h', Nat.sub_self] at hg
                simp at hg
                subst hg
                rw [h', HGL.out]
                refine ⟨HLAX.out, rfl, fun h9 => ?_, HSZA.out⟩
                have := (HWR.out.lt _ h9).2
                omega
              · rw [List.getElem?_eq_none (by simp; omega)] at hg; cases hg
            obtain ⟨mx, hmx⟩ : ∃ mx, max y lo = mx := ⟨_, rfl⟩
            obtain ⟨z1, hz1'⟩ : ∃ z1, min mx hi = z1 := ⟨_, rfl⟩
            have HMX := Lib.hid hmx
            have HZ1 := Lib.hid hz1'
            have HNR : Hid ((nearL q r).take (k + 1) = (nearL q r).take k ++ [z1]) := by
              show _ = _
              rw [jq.take_snoc (nearL_at HQ0.out HRK.out)]
              unfold near1
              dsimp only
              rw [hmx, hz1']
            clear hmx hz1' hmk hc1 hc2
            go_wp2_with fail
            refine wk.region_lev2K 23 (FR ⟨w, w5.heap.size, k, n4, gs ++ [(wr.heap.size, n4)], axesL n4, gsc gs n4, iv ((nearL q r).take k), vM, vW, .slice (some ⟨wr.heap.size, 0, none⟩) n4 n4, z1, [undef, undef, undef, undef, undef, .slice (some ⟨b3, o3, none⟩) n4 c4, .int .i64 (k : Int), .pointer (some ⟨b3, o3 + k, none⟩), .int .i64 y, .slice (some ⟨b2, o2, none⟩) n4 c2, .int .i64 (k : Int), .pointer (some ⟨b2, o2 + k * 2, none⟩), .pointer (some ⟨b2, o2 + k * 2, none⟩), .int .i64 lo, .int .i64 mx, .slice (some ⟨b2, o2, none⟩) n4 c2, .int .i64 (k : Int), .pointer (some ⟨b2, o2 + k * 2, none⟩), .pointer (some ⟨b2, o2 + k * 2 + 1, none⟩), .int .i64 hi, .int .i64 z1]⟩) [some 60, some 61, some 62, some 63, some 64, some 65, some 66, some 67, some 68, some 69, some 70, some 71, some 72, some 73, some 74, some 75, some 76, some 77, some 78, some 79, some 80, some 81, some 82] (fun Lv u => FRS ⟨w, w5.heap.size, k, n4, gs ++ [(wr.heap.size, n4)], axesL n4, gsc gs n4, iv ((nearL q r).take k), vM, vW, .slice (some ⟨wr.heap.size, 0, none⟩) n4 n4, z1, [undef, undef, undef, undef, undef, .slice (some ⟨b3, o3, none⟩) n4 c4, .int .i64 (k : Int), .pointer (some ⟨b3, o3 + k, none⟩), .int .i64 y, .slice (some ⟨b2, o2, none⟩) n4 c2, .int .i64 (k : Int), .pointer (some ⟨b2, o2 + k * 2, none⟩), .pointer (some ⟨b2, o2 + k * 2, none⟩), .int .i64 lo, .int .i64 mx, .slice (some ⟨b2, o2, none⟩) n4 c2, .int .i64 (k : Int), .pointer (some ⟨b2, o2 + k * 2, none⟩), .pointer (some ⟨b2, o2 + k * 2 + 1, none⟩), .int .i64 hi, .int .i64 z1]⟩ Lv u) ?hstart (by kernel_rfl) (by kernel_rfl) (by kernel_rfl) (by kernel_rfl) (by kernel_rfl) (by kernel_rfl) ?hstep ?hdone
            case hstep =>
              intro i o ho hi9 E Lv w4 hS4 hL hdeps DG hold
              have hi2 : i = 0 ∨ i = 1 ∨ i = 2 ∨ i = 3 ∨ i = 4 ∨ i = 5 ∨ i = 6 ∨ i = 7 ∨ i = 8 ∨ i = 9 ∨ i = 10 ∨ i = 11 ∨ i = 12 ∨ i = 13 ∨ i = 14 ∨ i = 15 ∨ i = 16 ∨ i = 17 ∨ i = 18 ∨ i = 19 ∨ i = 20 ∨ i = 21 ∨ i = 22 := by omega
              clear hi9
              rcases hi2 with rfl | rfl | rfl | rfl | rfl | rfl | rfl | rfl | rfl | rfl | rfl | rfl | rfl | rfl | rfl | rfl | rfl | rfl | rfl | rfl | rfl | rfl | rfl
              ·
                have ho2 := (Array.getElem?_eq_some_iff.1 ho).2
                simp only [List.getElem_toArray, List.getElem_cons_zero] at ho2
                subst ho2
                clear ho
                have e7 : E (.tmp 7) = vM := (hold 7 (by kernel_rfl)).trans rfl
                refine wk.Does.weak (R := fun w' x => x = vM) ?_ (fun w' v hb hr => ⟨hr, fun j u _ _ hj => FR.next rfl rfl hb hj, hS4.next rfl rfl hb⟩)
                exact wk.does_move rfl e7
              ·
                have ho2 := (Array.getElem?_eq_some_iff.1 ho).2
                simp only [List.getElem_toArray, List.getElem_cons_succ, List.getElem_cons_zero] at ho2
                subst ho2
                clear ho
                have e10 : E (.tmp 10) = .slice (some ⟨wr.heap.size, 0, none⟩) n4 n4 := (hold 10 (by kernel_rfl)).trans rfl
                refine wk.Does.weak (R := fun w' x => x = .slice (some ⟨wr.heap.size, 0, none⟩) n4 n4) ?_ (fun w' v hb hr => ⟨hr, fun j u _ _ hj => FR.next rfl rfl hb hj, hS4.next rfl rfl hb⟩)
                exact wk.does_move rfl e10
              ·
                have ho2 := (Array.getElem?_eq_some_iff.1 ho).2
                simp only [List.getElem_toArray, List.getElem_cons_succ, List.getElem_cons_zero] at ho2
                subst ho2
                clear ho
                have e61 := DG.is { on := 1, ground := .data } (by simp) rfl 61 rfl
                replace e61 : E (.tmp 61) = .slice (some ⟨wr.heap.size, 0, none⟩) n4 n4 := e61
                refine wk.Does.weak (R := fun w' x => ∃ g, x = .slice (some ⟨g, 0, none⟩) 1 1 ∧ OneS w' g (.slice (some ⟨wr.heap.size, 0, none⟩) n4 n4)) ?_ (fun w' v hb hr => ⟨(by obtain ⟨g, h1, h2⟩ := hr; exact ⟨g, h1, fun _ => h2⟩), fun j u _ _ hj => FR.next rfl rfl hb hj, hS4.next rfl rfl hb⟩)
                refine wk.does_new (v := .slice (some ⟨w4.heap.size, 0, none⟩) 1 1) (w' := w4.alloc (.cells #[.slice (some ⟨wr.heap.size, 0, none⟩) n4 n4] 24)) (by simp only [execOp, List.map_toArray, List.map_cons, List.map_nil]; rw [e61]; go_simp) (below_new _ _) ⟨_, rfl, OneS.new _ _⟩
              ·
                have ho2 := (Array.getElem?_eq_some_iff.1 ho).2
                simp only [List.getElem_toArray, List.getElem_cons_succ, List.getElem_cons_zero] at ho2
                subst ho2
                clear ho
                have e60 := DG.is { on := 0, ground := .data } (by simp) rfl 60 rfl
                replace e60 : E (.tmp 60) = vM := e60
                have e62 := DG.is { on := 2, ground := .data } (by simp) rfl 62 rfl
                obtain ⟨g, eg, hone⟩ := e62
                have hL3 : Lv 3 = false := hL
                have hMw := hS4.m hL3
                exact does_append_t (.tmp 60) (.tmp 62) 22 rfl w.heap.size 24 iV (.slice none 0 0) 1 24 Tryd.underlying22 hiV hV0 hV1 hV2 rfl (by decide) vM k (gsc gs n4) e60 hMw ⟨g, 0, none⟩ 1 [.slice (some ⟨wr.heap.size, 0, none⟩) n4 n4] eg rfl (hone hL3).cells (by simp [Value.oneCell']) (by omega) (by omega) hS4.bel.size (fun v' w' h5 h6 _ => ⟨h5, fun j' u hLj _ hj => FR.appM (by rintro rfl; rw [hL3] at hLj; cases hLj) rfl rfl hMw h6 hj, hS4.appM rfl rfl hMw h6⟩)
              ·
                have ho2 := (Array.getElem?_eq_some_iff.1 ho).2
                simp only [List.getElem_toArray, List.getElem_cons_succ, List.getElem_cons_zero] at ho2
                subst ho2
                clear ho
                have e8 : E (.tmp 8) = vW := (hold 8 (by kernel_rfl)).trans rfl
                refine wk.Does.weak (R := fun w' x => x = vW) ?_ (fun w' v hb hr => ⟨hr, fun j u _ _ hj => FR.next rfl rfl hb hj, hS4.next rfl rfl hb⟩)
                exact wk.does_move rfl e8
              ·
                have ho2 := (Array.getElem?_eq_some_iff.1 ho).2
                simp only [List.getElem_toArray, List.getElem_cons_succ, List.getElem_cons_zero] at ho2
                subst ho2
                clear ho
                have e2 : E (.tmp 2) = .slice (some ⟨b3, o3, none⟩) n4 c4 := (hold 2 (by kernel_rfl)).trans rfl
                refine wk.Does.weak (R := fun w' x => x = .slice (some ⟨b3, o3, none⟩) n4 c4) ?_ (fun w' v hb hr => ⟨hr, fun j u _ _ hj => FR.next rfl rfl hb hj, hS4.next rfl rfl hb⟩)
                exact wk.does_move rfl e2
              ·
                have ho2 := (Array.getElem?_eq_some_iff.1 ho).2
                simp only [List.getElem_toArray, List.getElem_cons_succ, List.getElem_cons_zero] at ho2
                subst ho2
                clear ho
                have e9 : E (.tmp 9) = .int .i64 (k : Int) := (hold 9 (by kernel_rfl)).trans rfl
                refine wk.Does.weak (R := fun w' x => x = .int .i64 (k : Int)) ?_ (fun w' v hb hr => ⟨hr, fun j u _ _ hj => FR.next rfl rfl hb hj, hS4.next rfl rfl hb⟩)
                exact wk.does_move rfl e9
              ·
                have ho2 := (Array.getElem?_eq_some_iff.1 ho).2
                simp only [List.getElem_toArray, List.getElem_cons_succ, List.getElem_cons_zero] at ho2
                subst ho2
                clear ho
                have e65 := DG.is { on := 5, ground := .data } (by simp) rfl 65 rfl
                replace e65 : E (.tmp 65) = .slice (some ⟨b3, o3, none⟩) n4 c4 := e65
                have e66 := DG.is { on := 6, ground := .data } (by simp) rfl 66 rfl
                replace e66 : E (.tmp 66) = .int .i64 (k : Int) := e66
                refine wk.Does.weak (R := fun w' x => x = .pointer (some ⟨b3, o3 + k, none⟩)) ?_ (fun w' v hb hr => ⟨hr, fun j u _ _ hj => FR.next rfl rfl hb hj, hS4.next rfl rfl hb⟩)
                exact wk.does_run (by simp only [execOp]; rw [e65, e66]; go_simp) rfl
              ·
                have ho2 := (Array.getElem?_eq_some_iff.1 ho).2
                simp only [List.getElem_toArray, List.getElem_cons_succ, List.getElem_cons_zero] at ho2
                subst ho2
                clear ho
                have e67 := DG.is { on := 7, ground := .data } (by simp) rfl 67 rfl
                replace e67 : E (.tmp 67) = .pointer (some ⟨b3, o3 + k, none⟩) := e67
                refine wk.Does.weak (R := fun w' x => x = .int .i64 y) ?_ (fun w' v hb hr => ⟨hr, fun j u _ _ hj => FR.next rfl rfl hb hj, hS4.next rfl rfl hb⟩)
                exact wk.does_load1 rfl e67 ((Below.cell (p := ⟨_, _, none⟩) hS4.bel HB3.out).trans HY.out) Tryd.underlying3 rfl rfl
              ·
                have ho2 := (Array.getElem?_eq_some_iff.1 ho).2
                simp only [List.getElem_toArray, List.getElem_cons_succ, List.getElem_cons_zero] at ho2
                subst ho2
                clear ho
                have e1 : E (.tmp 1) = .slice (some ⟨b2, o2, none⟩) n4 c2 := (hold 1 (by kernel_rfl)).trans rfl
                refine wk.Does.weak (R := fun w' x => x = .slice (some ⟨b2, o2, none⟩) n4 c2) ?_ (fun w' v hb hr => ⟨hr, fun j u _ _ hj => FR.next rfl rfl hb hj, hS4.next rfl rfl hb⟩)
                exact wk.does_move rfl e1
              ·
                have ho2 := (Array.getElem?_eq_some_iff.1 ho).2
                simp only [List.getElem_toArray, List.getElem_cons_succ, List.getElem_cons_zero] at ho2
                subst ho2
                clear ho
                have e9 : E (.tmp 9) = .int .i64 (k : Int) := (hold 9 (by kernel_rfl)).trans rfl
                refine wk.Does.weak (R := fun w' x => x = .int .i64 (k : Int)) ?_ (fun w' v hb hr => ⟨hr, fun j u _ _ hj => FR.next rfl rfl hb hj, hS4.next rfl rfl hb⟩)
                exact wk.does_move rfl e9
              ·
                have ho2 := (Array.getElem?_eq_some_iff.1 ho).2
                simp only [List.getElem_toArray, List.getElem_cons_succ, List.getElem_cons_zero] at ho2
                subst ho2
                clear ho
                have e69 := DG.is { on := 9, ground := .data } (by simp) rfl 69 rfl
                replace e69 : E (.tmp 69) = .slice (some ⟨b2, o2, none⟩) n4 c2 := e69
                have e70 := DG.is { on := 10, ground := .data } (by simp) rfl 70 rfl
                replace e70 : E (.tmp 70) = .int .i64 (k : Int) := e70
                refine wk.Does.weak (R := fun w' x => x = .pointer (some ⟨b2, o2 + k * 2, none⟩)) ?_ (fun w' v hb hr => ⟨hr, fun j u _ _ hj => FR.next rfl rfl hb hj, hS4.next rfl rfl hb⟩)
                exact wk.does_run (by simp only [execOp]; rw [e69, e70]; go_simp) rfl
              ·
                have ho2 := (Array.getElem?_eq_some_iff.1 ho).2
                simp only [List.getElem_toArray, List.getElem_cons_succ, List.getElem_cons_zero] at ho2
                subst ho2
                clear ho
                have e71 := DG.is { on := 11, ground := .data } (by simp) rfl 71 rfl
                replace e71 : E (.tmp 71) = .pointer (some ⟨b2, o2 + k * 2, none⟩) := e71
                refine wk.Does.weak (R := fun w' x => x = .pointer (some ⟨b2, o2 + k * 2, none⟩)) ?_ (fun w' v hb hr => ⟨hr, fun j u _ _ hj => FR.next rfl rfl hb hj, hS4.next rfl rfl hb⟩)
                exact wk.does_run (by simp only [execOp]; rw [e71]; go_simp) rfl
              ·
                have ho2 := (Array.getElem?_eq_some_iff.1 ho).2
                simp only [List.getElem_toArray, List.getElem_cons_succ, List.getElem_cons_zero] at ho2
                subst ho2
                clear ho
                have e72 := DG.is { on := 12, ground := .data } (by simp) rfl 72 rfl
                replace e72 : E (.tmp 72) = .pointer (some ⟨b2, o2 + k * 2, none⟩) := e72
                refine wk.Does.weak (R := fun w' x => x = .int .i64 lo) ?_ (fun w' v hb hr => ⟨hr, fun j u _ _ hj => FR.next rfl rfl hb hj, hS4.next rfl rfl hb⟩)
                exact wk.does_load1 rfl e72 ((Below.cell (p := ⟨_, _, none⟩) hS4.bel HB2.out).trans HX1.out) Tryd.underlying3 rfl rfl
              ·
                have ho2 := (Array.getElem?_eq_some_iff.1 ho).2
                simp only [List.getElem_toArray, List.getElem_cons_succ, List.getElem_cons_zero] at ho2
                subst ho2
                clear ho
                have e68 := DG.is { on := 8, ground := .data } (by simp) rfl 68 rfl
                replace e68 : E (.tmp 68) = .int .i64 y := e68
                have e73 := DG.is { on := 13, ground := .data } (by simp) rfl 73 rfl
                replace e73 : E (.tmp 73) = .int .i64 lo := e73
                refine wk.Does.weak (R := fun w' x => x = .int .i64 mx) ?_ (fun w' v hb hr => ⟨hr, fun j u _ _ hj => FR.next rfl rfl hb hj, hS4.next rfl rfl hb⟩)
                exact wk.does_run (v := .int .i64 mx) (by unfold execOp; first | (go_simp; rw [HMX.out]; done) | (dsimp only; go_simp; rw [HMX.out])) rfl
              ·
                have ho2 := (Array.getElem?_eq_some_iff.1 ho).2
                simp only [List.getElem_toArray, List.getElem_cons_succ, List.getElem_cons_zero] at ho2
                subst ho2
                clear ho
                have e1 : E (.tmp 1) = .slice (some ⟨b2, o2, none⟩) n4 c2 := (hold 1 (by kernel_rfl)).trans rfl
                refine wk.Does.weak (R := fun w' x => x = .slice (some ⟨b2, o2, none⟩) n4 c2) ?_ (fun w' v hb hr => ⟨hr, fun j u _ _ hj => FR.next rfl rfl hb hj, hS4.next rfl rfl hb⟩)
                exact wk.does_move rfl e1
              ·
                have ho2 := (Array.getElem?_eq_some_iff.1 ho).2
                simp only [List.getElem_toArray, List.getElem_cons_succ, List.getElem_cons_zero] at ho2
                subst ho2
                clear ho
                have e9 : E (.tmp 9) = .int .i64 (k : Int) := (hold 9 (by kernel_rfl)).trans rfl
                refine wk.Does.weak (R := fun w' x => x = .int .i64 (k : Int)) ?_ (fun w' v hb hr => ⟨hr, fun j u _ _ hj => FR.next rfl rfl hb hj, hS4.next rfl rfl hb⟩)
                exact wk.does_move rfl e9
              ·
                have ho2 := (Array.getElem?_eq_some_iff.1 ho).2
                simp only [List.getElem_toArray, List.getElem_cons_succ, List.getElem_cons_zero] at ho2
                subst ho2
                clear ho
                have e75 := DG.is { on := 15, ground := .data } (by simp) rfl 75 rfl
                replace e75 : E (.tmp 75) = .slice (some ⟨b2, o2, none⟩) n4 c2 := e75
                have e76 := DG.is { on := 16, ground := .data } (by simp) rfl 76 rfl
                replace e76 : E (.tmp 76) = .int .i64 (k : Int) := e76
                refine wk.Does.weak (R := fun w' x => x = .pointer (some ⟨b2, o2 + k * 2, none⟩)) ?_ (fun w' v hb hr => ⟨hr, fun j u _ _ hj => FR.next rfl rfl hb hj, hS4.next rfl rfl hb⟩)
                exact wk.does_run (by simp only [execOp]; rw [e75, e76]; go_simp) rfl
              ·
                have ho2 := (Array.getElem?_eq_some_iff.1 ho).2
                simp only [List.getElem_toArray, List.getElem_cons_succ, List.getElem_cons_zero] at ho2
                subst ho2
                clear ho
                have e77 := DG.is { on := 17, ground := .data } (by simp) rfl 77 rfl
                replace e77 : E (.tmp 77) = .pointer (some ⟨b2, o2 + k * 2, none⟩) := e77
                refine wk.Does.weak (R := fun w' x => x = .pointer (some ⟨b2, o2 + k * 2 + 1, none⟩)) ?_ (fun w' v hb hr => ⟨hr, fun j u _ _ hj => FR.next rfl rfl hb hj, hS4.next rfl rfl hb⟩)
                exact wk.does_run (by simp only [execOp]; rw [e77]; go_simp) rfl
              ·
                have ho2 := (Array.getElem?_eq_some_iff.1 ho).2
                simp only [List.getElem_toArray, List.getElem_cons_succ, List.getElem_cons_zero] at ho2
                subst ho2
                clear ho
                have e78 := DG.is { on := 18, ground := .data } (by simp) rfl 78 rfl
                replace e78 : E (.tmp 78) = .pointer (some ⟨b2, o2 + k * 2 + 1, none⟩) := e78
                refine wk.Does.weak (R := fun w' x => x = .int .i64 hi) ?_ (fun w' v hb hr => ⟨hr, fun j u _ _ hj => FR.next rfl rfl hb hj, hS4.next rfl rfl hb⟩)
                exact wk.does_load1 rfl e78 ((Below.cell (p := ⟨_, _, none⟩) hS4.bel HB2.out).trans HX2.out) Tryd.underlying3 rfl rfl
              ·
                have ho2 := (Array.getElem?_eq_some_iff.1 ho).2
                simp only [List.getElem_toArray, List.getElem_cons_succ, List.getElem_cons_zero] at ho2
                subst ho2
                clear ho
                have e74 := DG.is { on := 14, ground := .data } (by simp) rfl 74 rfl
                replace e74 : E (.tmp 74) = .int .i64 mx := e74
                have e79 := DG.is { on := 19, ground := .data } (by simp) rfl 79 rfl
                replace e79 : E (.tmp 79) = .int .i64 hi := e79
                refine wk.Does.weak (R := fun w' x => x = .int .i64 z1) ?_ (fun w' v hb hr => ⟨hr, fun j u _ _ hj => FR.next rfl rfl hb hj, hS4.next rfl rfl hb⟩)
                exact wk.does_run (v := .int .i64 z1) (by unfold execOp; first | (go_simp; rw [HZ1.out]; done) | (dsimp only; go_simp; rw [HZ1.out])) rfl
              ·
                have ho2 := (Array.getElem?_eq_some_iff.1 ho).2
                simp only [List.getElem_toArray, List.getElem_cons_succ, List.getElem_cons_zero] at ho2
                subst ho2
                clear ho
                have e80 := DG.is { on := 20, ground := .data } (by simp) rfl 80 rfl
                replace e80 : E (.tmp 80) = .int .i64 z1 := e80
                refine wk.Does.weak (R := fun w' x => ∃ g, x = .slice (some ⟨g, 0, none⟩) 1 1 ∧ w5.heap.size ≤ g ∧ LineAt w' g 1 [z1]) ?_ (fun w' v hb hr => ⟨(by obtain ⟨g, h1, h2, h3⟩ := hr; exact ⟨g, h1, h2, fun _ => h3⟩), fun j u _ _ hj => FR.next rfl rfl hb hj, hS4.next rfl rfl hb⟩)
                refine wk.does_new (v := .slice (some ⟨w4.heap.size, 0, none⟩) 1 1) (w' := w4.alloc (.cells #[.int .i64 z1] 3)) (by simp only [execOp, List.map_toArray, List.map_cons, List.map_nil]; rw [e80]; go_simp) (below_new _ _) ⟨_, rfl, hS4.siz, lineAt_new _ _⟩
              ·
                have ho2 := (Array.getElem?_eq_some_iff.1 ho).2
                simp only [List.getElem_toArray, List.getElem_cons_succ, List.getElem_cons_zero] at ho2
                subst ho2
                clear ho
                have e64 := DG.is { on := 4, ground := .data } (by simp) rfl 64 rfl
                replace e64 : E (.tmp 64) = vW := e64
                have e81 := DG.is { on := 21, ground := .data } (by simp) rfl 81 rfl
                obtain ⟨g, eg, -, hone⟩ := e81
                have hL3 : Lv 22 = false := hL
                have hWw := hS4.w hL3
                exact does_append_t (.tmp 64) (.tmp 81) 24 rfl w.heap.size 3 i0 (.int .i64 0) 1 8 Tryd.underlying24 hi0 hz0 hz1 hz2 rfl (by decide) vW k (iv ((nearL q r).take k)) e64 hWw ⟨g, 0, none⟩ 1 [.int .i64 z1] eg rfl (LineAt.cells (hone hL3)) (by simp [Value.oneCell']) (by omega) (by omega) hS4.bel.size (fun v' w' h5 h6 h7 => ⟨⟨h5, h7.imp id fun h8 => ⟨_, h8, hS4.siz⟩⟩, fun j' u hLj _ hj => FR.appW (by rintro rfl; rw [hL3] at hLj; cases hLj) rfl rfl hWw h6 hj, hS4.appW rfl rfl hWw (fun i g hg => (HLN2.out i g hg).2.2.1) h6⟩)
            case hdone =>
              intro vals Lv w4 hall hS4 hv
              have h3 : w4.ownsRow w.heap.size 24 1 (vals 3) (k + 1) (gsc gs n4 ++ [.slice (some ⟨wr.heap.size, 0, none⟩) n4 n4]) := hv 3 (by omega)
              have h22 : w4.ownsRow w.heap.size 3 1 (vals 22) (k + 1) (iv ((nearL q r).take k) ++ [.int .i64 z1]) ∧ ((vals 22).ownBlock = vW.ownBlock ∨ ∃ g, (vals 22).ownBlock = some g ∧ w5.heap.size ≤ g) := hv 22 (by omega)
              have hln4 := hS4.ln
              have HE4 := Lib.hid (HE0.out.next hS4.bel)
              have H3 := Lib.hid h3
              have H22 := Lib.hid h22
              have HLN4 := Lib.hid hln4
              clear hv hall hS4 h3 h22 hln4
              simp only [List.drop_succ_cons, List.drop_zero, wk.setL, List.setIfInBounds_toArray, List.set_cons_zero, List.set_cons_succ, Nat.zero_add, Nat.reduceAdd]
              generalize vals 0 = x0 at *
              generalize vals 1 = x1 at *
              generalize vals 2 = x2 at *
              generalize vals 3 = x3 at *
              generalize vals 4 = x4 at *
              generalize vals 5 = x5 at *
              generalize vals 6 = x6 at *
              generalize vals 7 = x7 at *
              generalize vals 8 = x8 at *
              generalize vals 9 = x9 at *
              generalize vals 10 = x10 at *
              generalize vals 11 = x11 at *
              generalize vals 12 = x12 at *
              generalize vals 13 = x13 at *
              generalize vals 14 = x14 at *
              generalize vals 15 = x15 at *
              generalize vals 16 = x16 at *
              generalize vals 17 = x17 at *
              generalize vals 18 = x18 at *
              generalize vals 19 = x19 at *
              generalize vals 20 = x20 at *
              generalize vals 21 = x21 at *
              generalize vals 22 = x22 at *
              go_wp2_with fail
              go_roundg (gk - 1)
              case measure => have := HK.out; omega
              case rel =>
                refine ⟨k + 1, _, _, gs ++ [(wr.heap.size, n4)], by have := HK.out; omega, rfl, rfl, by go_num, by simp [HGL.out], ?_, ?_, ?_, ?_, HE4.out⟩
                · have hO := H3.out
                  unfold gsc at hO ⊢
                  rw [List.map_append]
                  simpa using hO
                · have hO := H22.out.1
                  rw [HNR.out]
                  unfold iv at hO ⊢
                  rw [List.map_append]
                  simpa using hO
                · intro i g hg
                  have h9 := HLN2.out i g hg
                  have hin : i < n4 := by
                    have := (List.getElem?_eq_some_iff.1 hg).1
                    rw [List.length_append, HGL.out] at this
                    simp at this
                    omega
                  refine ⟨HLN4.out i g _ hg (axesL_at hin), h9.2.1, ?_⟩
                  rcases H22.out.2 with h10 | ⟨g9, h10, h11⟩
                  · rw [h10]; exact h9.2.2.1
                  · rw [h10]
                    intro h12
                    injection h12 with h12
                    have := h9.2.2.2
                    omega
                · intro x hx
                  rw [jq.take_snoc HRK.out] at hx
                  rcases List.mem_append.1 hx with hx | hx
                  · exact HRB.out x hx
                  · simp at hx; subst hx; dsimp only; omega
            case hstart => exact ⟨HE1.out.bel.drew, Nat.le_refl _, fun _ => HMW.out, fun _ => HWW.out, fun i g l hg hl => by
              have h9 := HLN2.out i g hg
              have hin : i < n4 := by have := (List.getElem?_eq_some_iff.1 hl).1; rw [axesL_len] at this; exact this
              rw [axesL_at hin] at hl
              obtain rfl := Option.some.inj hl
              exact h9.1⟩
          ·
            obtain rfl : k = n4 := by omega
            have hM0 := HMR.out
            have hW0 := HWR.out
            rw [List.take_of_length_le (by rw [nearL_len (by rw [HNQ.out, HNA.out]), HNQ.out]; omega)] at hW0
            have hrb := HRB.out
            rw [List.take_of_length_le (by have := HNA.out; omega)] at hrb
            obtain ⟨AM, cM, rfl, hVM⟩ := isVV_of_ownc (L := axesL k) hM0 (by rw [HGL.out, axesL_len]) (fun i g l' hg hl' => by
              have hin : i < k := by have := (List.getElem?_eq_some_iff.1 hl').1; rw [axesL_len] at this; exact this
              rw [axesL_at hin] at hl'
              obtain rfl := Option.some.inj hl'
              have h9 := HLN.out i g hg
              exact ⟨h9.1, by omega, by omega⟩) (fun l' hl' y hy => by
              have h2 := HF.out.lo l' hl' y hy
              have h3 := HF.out.hi l' hl' y hy
              omega)
            have hnb : ∀ y ∈ nearL q r, -1000 ≤ y ∧ y ≤ 1000 := fun y hy => by
              unfold nearL at hy
              obtain ⟨⟨a, b⟩, hp, rfl⟩ := List.mem_map.1 hy
              have h1 := List.of_mem_zip hp
              have h2 := HQV.out.lo a h1.1
              have h3 := HQV.out.hi a h1.1
              have h4 := hrb b h1.2
              have h5 := HOR.out b h1.2
              unfold near1
              dsimp only
              omega
            have hnl : (nearL q r).length = k := by rw [nearL_len (by rw [HNQ.out, HNA.out]), HNQ.out]
            have HNV : Hid (vq.Vec (nearL q r)) := ⟨by omega, by omega, fun y hy => (hnb y hy).1, fun y hy => (hnb y hy).2⟩
            obtain ⟨AN, cN, rfl, hIN⟩ := isI_of_own hW0 (fun y hy => by have := hnb y hy; omega)
            have HMO := Lib.hid hVM
            have HNI := Lib.hid hIN
            have HLE := Lib.hid (axes_le (m := m) HM3.out HNQ.out HNA.out HOR.out)
            have HEQ := Lib.hid (axes_eq HNQ.out HNA.out HOR.out)
            have HHA := Lib.hid (axes_has HNQ.out HNA.out HOR.out)
            have HFS : Hid (Few (vq.sub q (nearL q r))) := fun y hy => vq.sub_bound HQV.out HNV.out y hy
            clear hM0 hW0 hrb hVM hIN hnb hnl HMR HWR HLN HRB
            have HN := Lib.hid (bound_calls m HM3.out wr ⟨HMO.out, HE.out.rng, HE.out.q, HF.out, HQV.out, in_rng HIA.out (by omega)⟩)
            go_wp2_with fail
            refine HN.out.mono ?_
            rintro e v4 ⟨rfl, hb⟩
            replace HE := Lib.hid (HE.out.next hb)
            replace HMO := Lib.hid (isVV_below HMO.out hb)
            replace HNI := Lib.hid (isI_below HNI.out hb)
            obtain ⟨bv, hbv⟩ : ∃ bv, bound m (axesL k) r q = bv := ⟨_, rfl⟩
            rw [hbv] at HLE ⊢
            have HBV := Lib.hid hbv
            clear hbv
            clear hb
            clear HN
            have HN := Lib.hid (key_calls m A4 AN k c4 cN q (nearL q r) v4 HM.out.1 HM.out.2 HE.out.q HNI.out HFS.out (by omega))
            go_wp2_with fail
            refine HN.out.mono ?_
            rintro e v5 ⟨rfl, hb⟩
            replace HE := Lib.hid (HE.out.next hb)
            replace HMO := Lib.hid (isVV_below HMO.out hb)
            replace HNI := Lib.hid (isI_below HNI.out hb)
            obtain ⟨kv, hkv⟩ : ∃ kv, vq.key m q (nearL q r) = kv := ⟨_, rfl⟩
            rw [hkv] at HLE ⊢
            have HKV := Lib.hid hkv
            clear hkv
            have hle := HLE.out
            clear hb
            clear HN
            go_wp2_with fail
            refine (san7_calls _ HE.out.tab).mono ?_
            rintro e v6 ⟨rfl, hb⟩
            replace HE := Lib.hid (HE.out.next hb)
            replace HMO := Lib.hid (isVV_below HMO.out hb)
            replace HNI := Lib.hid (isI_below HNI.out hb)
            clear hb
            have HM3' := HM3.out
            rcases (HM3' : m = 1 ∨ m = 2 ∨ m = 3) with rfl | rfl | rfl
            ·
              have HN := Lib.hid (apply_calls v6 HMO.out HNI.out HF.out HNV.out)
              go_wp2_with fail
              refine HN.out.mono ?_
              rintro e v7 ⟨v9, rfl, ho, hb⟩
              replace HE := Lib.hid (HE.out.next hb)
              replace HMO := Lib.hid (isVV_below HMO.out hb)
              replace HNI := Lib.hid (isI_below HNI.out hb)
              obtain ⟨A7, c7, rfl, hI7⟩ := apply_is HF.out HNV.out ho
              have HI7 := Lib.hid hI7
              clear hI7 ho
              clear hb
              clear HN
              have HN := Lib.hid (has_calls v7 HE.out.rng HI7.out)
              go_wp2_with fail
              refine HN.out.mono ?_
              rintro e w' ⟨rfl, q8, rfl⟩
              replace HE := Lib.hid (HE.out.drew q8)
              replace HMO := Lib.hid (isVV_drewN HMO.out q8)
              replace HNI := Lib.hid (isI_drewN HNI.out q8)
              generalize (v7.drewN q8) = v8 at *
              rw [HHA.out]
              clear HN
              go_wp2_with fail
              go_ret
              exact ⟨rfl, HE.out.bel⟩
            ·
              have HN := Lib.hid (apply_calls v6 HMO.out HNI.out HF.out HNV.out)
              go_wp2_with fail
              refine HN.out.mono ?_
              rintro e v9 ⟨v9, rfl, ho, hb⟩
              replace HE := Lib.hid (HE.out.next hb)
              replace HMO := Lib.hid (isVV_below HMO.out hb)
              replace HNI := Lib.hid (isI_below HNI.out hb)
              obtain ⟨A7, c7, rfl, hI7⟩ := apply_is HF.out HNV.out ho
              have HI7 := Lib.hid hI7
              clear hI7 ho
              clear hb
              clear HN
              have HN := Lib.hid (has_calls v9 HE.out.rng HI7.out)
              go_wp2_with fail
              refine HN.out.mono ?_
              rintro e w' ⟨rfl, q10, rfl⟩
              replace HE := Lib.hid (HE.out.drew q10)
              replace HMO := Lib.hid (isVV_drewN HMO.out q10)
              replace HNI := Lib.hid (isI_drewN HNI.out q10)
              generalize (v9.drewN q10) = v10 at *
              rw [HHA.out]
              clear HN
              go_wp2_with fail
              go_ret
              exact ⟨rfl, HE.out.bel⟩
            ·
              have heq : bv = kv := by rw [← HBV.out, ← HKV.out]; exact HEQ.out
              have HN := Lib.hid (apply_calls v6 HMO.out HNI.out HF.out HNV.out)
              go_wp2_with fail
              refine HN.out.mono ?_
              rintro e v11 ⟨v9, rfl, ho, hb⟩
              replace HE := Lib.hid (HE.out.next hb)
              replace HMO := Lib.hid (isVV_below HMO.out hb)
              replace HNI := Lib.hid (isI_below HNI.out hb)
              obtain ⟨A7, c7, rfl, hI7⟩ := apply_is HF.out HNV.out ho
              have HI7 := Lib.hid hI7
              clear hI7 ho
              clear hb
              clear HN
              have HN := Lib.hid (has_calls v11 HE.out.rng HI7.out)
              go_wp2_with fail
              refine HN.out.mono ?_
              rintro e w' ⟨rfl, q12, rfl⟩
              replace HE := Lib.hid (HE.out.drew q12)
              replace HMO := Lib.hid (isVV_drewN HMO.out q12)
              replace HNI := Lib.hid (isI_drewN HNI.out q12)
              generalize (v11.drewN q12) = v12 at *
              rw [HHA.out]
              clear HN
              go_wp2_with fail
              go_ret
              exact ⟨rfl, HE.out.bel⟩
end Go.Proofs.YtjhagfggelhpkaaDoor.projectAxesAreBoxes
