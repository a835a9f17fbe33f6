/- ProjectForgetsScale: its walk. -/
import Derived.Test.YtjhagfggelhpkaaDoorJr

import Derived.Laws.AppendOwn

namespace Go.Proofs.YtjhagfggelhpkaaDoor.projectForgetsScale

open Go.ChangeShapes Go.WideShapes Go.ChangeAt Go.RowKit

open Go.Proofs.YtjhagfggelhpkaaDoor.jq Go.Proofs.YtjhagfggelhpkaaDoor.vk Go.Proofs.YtjhagfggelhpkaaDoor.wk Go.Proofs.YtjhagfggelhpkaaDoor.jk

set_option linter.unusedVariables false
structure E (w0 : World) (A1 A2 A4 : Option Addr) (n1 c1 n2 c2 n4 c4 : Nat) (L : List (List Int)) (r : List R) (q : List Int) (w : World) : Prop where
  lines : IsVV w A1 n1 c1 L
  rng : IsR w A2 n2 c2 r
  q : wo.IsI w A4 n4 c4 q
  tab : hi.TabK w
  bel : Below w0.heap.size w0 w
theorem E.next {w0 : World} {A1 A2 A4 : Option Addr} {n1 c1 n2 c2 n4 c4 : Nat} {L : List (List Int)} {r : List R} {q : List Int} {w w' : World} (h : E w0 A1 A2 A4 n1 c1 n2 c2 n4 c4 L r q w) (hb : Below w.heap.size w w') : E w0 A1 A2 A4 n1 c1 n2 c2 n4 c4 L r q w' :=
  ⟨isVV_below h.lines hb, isR_below h.rng hb, isI_below h.q hb, tab_below h.tab hb, Below.andThen h.bel hb⟩
theorem E.drew {w0 : World} {A1 A2 A4 : Option Addr} {n1 c1 n2 c2 n4 c4 : Nat} {L : List (List Int)} {r : List R} {q : List Int} {w : World} (h : E w0 A1 A2 A4 n1 c1 n2 c2 n4 c4 L r q w) (q9 : Nat) : E w0 A1 A2 A4 n1 c1 n2 c2 n4 c4 L r q (w.drewN q9) :=
  ⟨h.lines, h.rng, h.q, h.tab, below_drewN h.bel q9⟩
/-- what a round's last statement knows -/
structure Ctx where
  w0 : World
  lo : Nat
  k : Nat
  d : Nat
  f : Int
  gs : List (Nat × Nat)
  Ls : List (List Int)
  ms : List Value
  ws : List Value
  vM : Value
  vW : Value
  vm : Value
  z1 : Int
  z2 : Int
  cvs : List Value
def FR (C : Ctx) (L : Nat → Bool) (i : Nat) (u : World) (x : Value) : Prop :=
  match i with
  | 0 => x = C.vM
  | 1 => x = C.vm
  | 2 => ∃ g, x = .slice (some ⟨g, 0, none⟩) 1 1 ∧ (L 3 = false → OneS u g C.vm)
  | 3 => u.ownsRow C.w0.heap.size 24 1 x (C.k + 1) (C.ms ++ [C.vm])
  | 4 => x = C.vW
  | 20 => ∃ g, x = .slice (some ⟨g, 0, none⟩) 1 1 ∧ (L 21 = false → RowR u g C.z1 C.z2)
  | 21 => u.ownsRow C.w0.heap.size 47 2 x (C.k + 1) (C.ws ++ [.int .i64 C.z1, .int .i64 C.z2])
  | j => x = C.cvs.getD j undef
structure FRS (C : Ctx) (L : Nat → Bool) (u : World) : Prop where
  bel : Below C.w0.heap.size C.w0 u
  siz : C.lo ≤ u.heap.size
  m : L 3 = false → u.ownsRow C.w0.heap.size 24 1 C.vM C.k C.ms
  w : L 21 = false → u.ownsRow C.w0.heap.size 47 2 C.vW C.k C.ws
  ln : ∀ (i : Nat) (g : Nat × Nat) (l : List Int), C.gs[i]? = some g → C.Ls[i]? = some l → LineAt u g.1 C.d (scl C.f l) ∧ C.d ≤ g.2 ∧ g.2 ≤ 9223372036854775807
theorem FRS.next {C : Ctx} {L L' : Nat → Bool} {u u' : World} (h : FRS C L u) (h3 : L' 3 = L 3) (h21 : L' 21 = L 21) (hb : Below u.heap.size u u') : FRS C L' u' :=
  ⟨h.bel.trans (hb.mono h.bel.size), Nat.le_trans h.siz hb.size, fun e => keptB (h.m (h3 ▸ e)) hb, fun e => keptB (h.w (h21 ▸ e)) hb, fun i g l hg hl => ⟨(h.ln i g l hg hl).1.below hb, (h.ln i g l hg hl).2⟩⟩
theorem FR.next {C : Ctx} {L L' : Nat → Bool} {i : Nat} {u u' : World} {x : Value} (h3 : L' 3 = L 3) (h21 : L' 21 = L 21) (hb : Below u.heap.size u u') (h : FR C L i u x) : FR C L' i u' x := by
  unfold FR at *
  split
  case h_1 => exact h
  case h_2 => exact h
  case h_3 => obtain ⟨g, e, h⟩ := h; exact ⟨g, e, fun e3 => (h (h3 ▸ e3)).below hb⟩
  case h_4 => exact keptB h hb
  case h_5 => exact h
  case h_6 => obtain ⟨g, e, h⟩ := h; exact ⟨g, e, fun e3 => (h (h21 ▸ e3)).below hb⟩
  case h_7 => exact keptB h hb
  case h_8 => simpa using h
theorem FR.appM {C : Ctx} {L L' : Nat → Bool} {i : Nat} {u u' : World} {x : Value} (hi : i ≠ 3) (h3 : L' 3 = true) (h21 : L' 21 = L 21) (hM : u.ownsRow C.w0.heap.size 24 1 C.vM C.k C.ms) (hg : u.grownBy u' C.vM.ownBlock) (h : FR C L i u x) : FR C L' i u' x := by
  unfold FR at *
  split
  case h_1 => exact h
  case h_2 => exact h
  case h_3 => obtain ⟨g, e, h⟩ := h; exact ⟨g, e, fun e3 => by rw [h3] at e3; cases e3⟩
  case h_4 => exact absurd rfl hi
  case h_5 => exact h
  case h_6 => obtain ⟨g, e, h⟩ := h; exact ⟨g, e, fun e3 => row_kept (h (h21 ▸ e3)) hM (by decide) hg⟩
  case h_7 => exact World.ownsRow.kept h hg (own_apart hM h (by decide))
  case h_8 => simpa using h
theorem FR.appW {C : Ctx} {L L' : Nat → Bool} {i : Nat} {u u' : World} {x : Value} (hi : i ≠ 21) (h3 : L' 3 = L 3) (h21 : L' 21 = true) (hW : u.ownsRow C.w0.heap.size 47 2 C.vW C.k C.ws) (hg : u.grownBy u' C.vW.ownBlock) (h : FR C L i u x) : FR C L' i u' x := by
  unfold FR at *
  split
  case h_1 => exact h
  case h_2 => exact h
  case h_3 => obtain ⟨g, e, h⟩ := h; exact ⟨g, e, fun e3 => row_kept (h (h3 ▸ e3)) hW (by decide) hg⟩
  case h_4 => exact World.ownsRow.kept h hg (own_apart hW h (by decide))
  case h_5 => exact h
  case h_6 => obtain ⟨g, e, h⟩ := h; exact ⟨g, e, fun e3 => by rw [h21] at e3; cases e3⟩
  case h_7 => exact absurd rfl hi
  case h_8 => simpa using h
theorem FRS.appM {C : Ctx} {L L' : Nat → Bool} {u u' : World} (h : FRS C L u) (h3 : L' 3 = true) (h21 : L' 21 = L 21) (hM : u.ownsRow C.w0.heap.size 24 1 C.vM C.k C.ms) (hg : u.grownBy u' C.vM.ownBlock) : FRS C L' u' :=
  ⟨h.bel.grown hg h.bel.size (fun q hq => (hM.lt q hq).1), Nat.le_trans h.siz hg.size, fun e => (by rw [h3] at e; cases e), fun e => World.ownsRow.kept (h.w (h21 ▸ e)) hg (own_apart hM (h.w (h21 ▸ e)) (by decide)), fun i g l h1 h2 => ⟨(h.ln i g l h1 h2).1.kept hM (by decide) hg, (h.ln i g l h1 h2).2⟩⟩
theorem FRS.appW {C : Ctx} {L L' : Nat → Bool} {u u' : World} (h : FRS C L u) (h3 : L' 3 = L 3) (h21 : L' 21 = true) (hW : u.ownsRow C.w0.heap.size 47 2 C.vW C.k C.ws) (hg : u.grownBy u' C.vW.ownBlock) : FRS C L' u' :=
  ⟨h.bel.grown hg h.bel.size (fun q hq => (hW.lt q hq).1), Nat.le_trans h.siz hg.size, fun e => World.ownsRow.kept (h.m (h3 ▸ e)) hg (own_apart hW (h.m (h3 ▸ e)) (by decide)), fun e => (by rw [h21] at e; cases e), fun i g l h1 h2 => ⟨(h.ln i g l h1 h2).1.kept hW (by decide) hg, (h.ln i g l h1 h2).2⟩⟩
theorem upto_vv {w : World} {b o n c : Nat} {L : List (List Int)} (h : IsVV w (some ⟨b, o, none⟩) n c L) (h1 : 1 ≤ n) : IsVV w (some ⟨b, o, none⟩) 1 c (L.take 1) :=
  ⟨by rw [List.length_take, h.1]; omega, by have := h.2.1; omega, h.2.2.1, fun k l hk => h.2.2.2 k l (by
    have hk1 := (List.getElem?_eq_some_iff.1 hk).1
    rw [List.length_take] at hk1
    rw [List.getElem?_take_of_lt (by omega)] at hk; exact hk)⟩
theorem upto_r {w : World} {b o n c : Nat} {l : List R} (h : IsR w (some ⟨b, o, none⟩) n c l) (h1 : 1 ≤ n) : IsR w (some ⟨b, o, none⟩) 1 c (l.take 1) := by
  refine ⟨by rw [List.length_take, h.1]; omega, by have := h.2.1; omega, h.2.2.1, fun hl => ?_, fun x hx => h.2.2.2.2 x (List.mem_of_mem_take hx)⟩
  obtain ⟨b', o', e, hb, hc⟩ := h.2.2.2.1 (by rw [fl_length, h.1]; omega)
  refine ⟨b', o', e, hb, fun j u hu => hc j u ?_⟩
  have e2 : fl (l.take 1) ++ fl (l.drop 1) = fl l := by rw [← fl_append, List.take_append_drop]
  rw [← e2, List.getElem?_append_left (List.getElem?_eq_some_iff.1 hu).1]
  exact hu
theorem run_upto1 (w' : World) (b o n c : Nat) (h1 : 1 ≤ n) (hc : n ≤ c) : (Instr.slice 22 (.slice (some ⟨b, o, none⟩) n c) none (some (.int .i64 1)) none).run Tryd.prog w' = .ok (.slice (some ⟨b, o, none⟩) 1 c) w' := by
  have ht : Tryd.prog.underlying 22 = some (.slice (Tryd.prog.elem 22)) := by simp [Program.elem, Tryd.underlying22]
  have he : Tryd.prog.elem 22 = 24 := by simp [Program.elem, Tryd.underlying22]
  rw [run_slice_h w' 22 (some ⟨b, o, none⟩) n c ht .i64 1 (by omega) (by omega), he, wk.run_sizeOf w' 24 1 infoV]
  simp only [Result.andThen, sliced, Option.map_some, wk.add_at, Nat.mul_one, Nat.sub_zero, Nat.add_zero, ite_self]
  rfl
theorem run_uptoR (w' : World) (b o n c : Nat) (h1 : 1 ≤ n) (hc : n ≤ c) : (Instr.slice 29 (.slice (some ⟨b, o, none⟩) n c) none (some (.int .i64 1)) none).run Tryd.prog w' = .ok (.slice (some ⟨b, o, none⟩) 1 c) w' := by
  have ht : Tryd.prog.underlying 29 = some (.slice (Tryd.prog.elem 29)) := by simp [Program.elem, Tryd.underlying29]
  have he : Tryd.prog.elem 29 = 47 := by simp [Program.elem, Tryd.underlying29]
  rw [run_slice_h w' 29 (some ⟨b, o, none⟩) n c ht .i64 1 (by omega) (by omega), he, wk.run_sizeOf w' 47 2 (by kernel_rfl)]
  simp only [Result.andThen, sliced, Option.map_some, wk.add_at, Nat.sub_zero, Nat.zero_mul, Nat.add_zero, ite_self]
  rfl
theorem scl_len (f : Int) (l : List Int) : (scl f l).length = l.length := by simp [scl]
theorem scl_at {f : Int} {l : List Int} {k : Nat} {x : Int} (h : l[k]? = some x) : (scl f l)[k]? = some (f * x) := by simp [scl, h]
set_option maxRecDepth 100000 in
set_option maxHeartbeats 16000000 in
theorem walk (w : World) (hT : hi.TabK w) {m : Int} {A1 A2 A4 : Option Addr} {n1 c1 n2 c2 n4 c4 : Nat} {L : List (List Int)} {r : List R} {q : List Int} {fa : Int} (w0 : (Lit.int .i64 m).wf = true) (w1 : IsVV w A1 n1 c1 L) (w2 : IsR w A2 n2 c2 r) (w3 : wo.IsI w A4 n4 c4 q) (w4 : (Lit.int .u8 fa).wf = true) :
    Calls Tryd.prog 8 #[.int .i64 m, .slice A1 n1 c1, .slice A2 n2 c2, .slice A4 n4 c4, .int .u8 fa] w fun e w' => e = .returned (.bool true) ∧ Below w.heap.size w w' := by
  obtain ⟨i0, hi0, hz0, hz1, hz2⟩ := info_parts infoIz
  obtain ⟨iV, hiV, hV0, hV1, hV2⟩ := info_parts infoVz
  obtain ⟨iR, hiR, hR0, hR1, hR2⟩ := info_parts infoRg
  have hfa : 0 ≤ fa ∧ fa ≤ 255 := by simpa [Lit.wf, IntKind.min, IntKind.max, IntKind.signed, IntKind.bits] using w4
  have htmf : fa.tmod 16 = fa % 16 := Int.tmod_eq_emod_of_nonneg hfa.1
  obtain ⟨f, hf⟩ : ∃ f, 1 + fa % 16 = f := ⟨_, rfl⟩
  have hf1 : 1 ≤ f ∧ f ≤ 16 := by omega
  have HF1 := Lib.hid hf1
  have HE : Hid (E w A1 A2 A4 n1 c1 n2 c2 n4 c4 L r q w) := ⟨w1, w2, w3, hT, Below.refl _ _⟩
  have HE0 := HE
  have HNL := Lib.hid w1.1
  have HNA := Lib.hid w2.1
  have HNQ := Lib.hid w3.1
  have hm4 := w3.2.2.1
  have hn4 := w3.2.1
  have hm1 := w1.2.2.1
  have hn1 := w1.2.1
  have hm2 := w2.2.2.1
  have hn2 := w2.2.1
  clear w0 w1 w2 w3 w4 hT
  go_enter Tryd.func8, Tryd.ntmps8
  have HN := Lib.hid (rvalid_calls A4 n4 c4 q w HE.out.q)
  go_wp2_with fail
  refine HN.out.mono ?_
  rintro e w' ⟨rfl, hw⟩
  replace hw := hw.symm
  subst hw
  clear HN
  cases hvq : vq.valid q
  ·
    go_wp2_with fail
    refine (san7_calls _ HE.out.tab).mono ?_
    rintro e w' ⟨rfl, hb⟩
    have HBZ := Lib.hid (Below.andThen HE.out.bel hb)
    clear hb
    go_wp2_with fail
    go_ret
    exact ⟨rfl, HBZ.out⟩
  ·
    have HN := Lib.hid (refvalid_calls (n4 : Int) A1 n1 c1 L w HE.out.lines)
    go_wp2_with fail
    refine HN.out.mono ?_
    rintro e w' ⟨rfl, hw⟩
    replace hw := hw.symm
    subst hw
    clear HN
    cases hvl : validL L (n4 : Int)
    ·
      go_wp2_with fail
      refine (san7_calls _ HE.out.tab).mono ?_
      rintro e w' ⟨rfl, hb⟩
      have HBZ := Lib.hid (Below.andThen HE.out.bel hb)
      clear hb
      go_wp2_with fail
      go_ret
      exact ⟨rfl, HBZ.out⟩
    ·
      have HN := Lib.hid (ranges_calls (n1 : Int) w HE.out.rng)
      go_wp2_with fail
      refine HN.out.mono ?_
      rintro e w' ⟨rfl, q3, rfl⟩
      replace HE := Lib.hid (HE.out.drew q3)
      generalize (w.drewN q3) = v3 at *
      clear HN
      cases hva : ranges r (n1 : Int)
      ·
        go_wp2_with fail
        refine (san7_calls _ HE.out.tab).mono ?_
        rintro e w' ⟨rfl, hb⟩
        have HBZ := Lib.hid (Below.andThen HE.out.bel hb)
        clear hb
        go_wp2_with fail
        go_ret
        exact ⟨rfl, HBZ.out⟩
      ·
        have HN := Lib.hid (metric_calls m v3)
        go_wp2_with fail
        refine HN.out.mono ?_
        rintro e w' ⟨rfl, hw⟩
        replace hw := hw.symm
        subst hw
        clear HN
        cases hmet : decide (1 ≤ m ∧ m ≤ 3)
        ·
          go_wp2_with fail
          refine (san7_calls _ HE.out.tab).mono ?_
          rintro e w' ⟨rfl, hb⟩
          have HBZ := Lib.hid (Below.andThen HE.out.bel hb)
          clear hb
          go_wp2_with fail
          go_ret
          exact ⟨rfl, HBZ.out⟩
        ·
          obtain ⟨hla, hia, hor⟩ := in_ok hva
          have HM3 := Lib.hid (metric3 hmet)
          have HQV := Lib.hid (vq.valid_iff.1 hvq)
          have HF : Hid (Fit L n4) := valid_iff.1 hvl
          have HIA := Lib.hid hia
          have HOR := Lib.hid hor
          obtain rfl : n1 = n2 := by have := HNA.out; omega
          have hn18 : n1 ≤ 8 := by rw [← HNL.out]; exact HF.out.l8
          have hn11 : 1 ≤ n1 := by rw [← HNL.out]; exact HF.out.l1
          have hd32 : n4 ≤ 32 := HF.out.d32
          have hd1 : 1 ≤ n4 := HF.out.d1
          clear hvq hvl hva hmet hla hia hor
          have hf' : f = 1 + fa % 16 := hf.symm
          have HFE := Lib.hid hf
          clear hf hf'
          go_wp2_with fail
          first | rw [HFE.out] | skip
          go_loopg [12, 13, 49] n1 (fun g v v' x wr => ∃ (k : Nat) (vM vW : Value) (gs : List (Nat × Nat)), k + g = n1 ∧ vM = v ∧ vW = v' ∧ x = .int .i64 (k : Int) ∧ gs.length = k ∧ wr.ownsRow w.heap.size 24 1 vM k (gsc gs n4) ∧ wr.ownsRow w.heap.size 47 2 vW k (fl ((r.take k).map (scr f))) ∧ (∀ (i : Nat) (g : Nat × Nat) (l : List Int), gs[i]? = some g → L[i]? = some l → LineAt wr g.1 n4 (scl f l) ∧ n4 ≤ g.2 ∧ g.2 ≤ 9223372036854775807) ∧ (∀ x ∈ r.take k, -67108864 ≤ x.1 ∧ x.2 ≤ 67108864) ∧ E w A1 A2 A4 n1 c1 n1 c2 n4 c4 L r q wr)
          case atStart => exact ⟨0, _, _, [], by omega, rfl, rfl, rfl, rfl, World.ownsRow_nil _ _ _ _, World.ownsRow_nil _ _ _ _, fun i g l h => by simp at h, fun x hx => by simp at hx, HE.out⟩
          case round =>
            obtain ⟨k, vM, vW, gs, hk0, rfl, rfl, rfl, hgl, hM, hW, hln, hrb, hE⟩ := hrel
            have HK := Lib.hid hk0
            have HGL := Lib.hid hgl
            have HMR := Lib.hid hM
            have HWR := Lib.hid hW
            have HLN := Lib.hid hln
            have HRB := Lib.hid hrb
            have hkn : k ≤ n1 := by omega
            replace HE := Lib.hid hE
            clear hk0 hgl hM hW hln hrb hE
            by_cases hlt : k < n1
            ·
              obtain ⟨b, o, A3, n3, c3, l, rfl, hb, hcc, hI, hL0⟩ := isVV_get HE.out.lines hlt
              obtain ⟨b2, o2, ⟨lo, hi⟩, rfl, hx1', hx2', hb2, hR0', hwd⟩ := isR_get HE0.out.rng hlt
              dsimp only at hx1' hx2'
              have hmem := List.mem_of_getElem? hL0
              obtain rfl : n4 = n3 := by rw [← hI.1]; exact (HF.out.len _ hmem).symm
              have hlob := HF.out.lo _ hmem
              have hhib := HF.out.hi _ hmem
              have HLO := Lib.hid hlob
              have HHI := Lib.hid hhib
              have HI := Lib.hid hI
              have HL0 := Lib.hid hL0
              have HX1 := Lib.hid hx1'
              have HX2 := Lib.hid hx2'
              have HB2 := Lib.hid hb2
              have HRK := Lib.hid hR0'
              have hrk := HIA.out _ (List.mem_of_getElem? hR0')
              have hrk2 := HOR.out _ (List.mem_of_getElem? hR0')
              have HRK1 := Lib.hid hrk
              have HRK2 := Lib.hid hrk2
              have hlt0 : (k : Int) < (n1 : Int) := by omega
              have hn3c := hI.2.1
              have hm3c := hI.2.2.1
              obtain ⟨wo, hwo⟩ : ∃ wo, wo = wr := ⟨_, rfl⟩
              subst hwo
              clear hlob hhib hI hL0 hx1' hx2' hb2 hR0' hrk hrk2 hmem hwd hb
              go_wp2_with fail
              go_loopg [16, 56] n4 (fun g v x wr => ∃ (j : Nat) (v1 : Value), j + g = n4 ∧ v1 = v ∧ x = .int .i64 (j : Int) ∧ wr.ownsRow wo.heap.size 3 1 v1 j (iv ((scl f l).take j)) ∧ Below wo.heap.size wo wr)
              case atStart => exact ⟨0, _, by omega, rfl, rfl, World.ownsRow_nil _ _ _ _, Below.refl _ _⟩
              case round =>
                obtain ⟨j, v1, hj0, rfl, rfl, hown, hbel⟩ := hrel
                have HJ := Lib.hid hj0
                have HOWN := Lib.hid hown
                have HBEL := Lib.hid hbel
                have hjn : j ≤ n4 := by omega
                clear hj0 hown hbel
                by_cases hlj : j < n4
                · obtain ⟨b3, o3, y, rfl, hcy, hy, -, -⟩ := isI_at (isI_below HI.out HBEL.out) hlj
                  have hym := List.mem_of_getElem? hy
                  have hy1 := HLO.out y hym
                  have hy2 := HHI.out y hym
                  have HS := Lib.hid (jq.take_snoc (scl_at (f := f) hy))
                  obtain ⟨z, hz⟩ : ∃ z, f * y = z := ⟨_, rfl⟩
                  have hzb : -4096 ≤ z ∧ z ≤ 4096 := by
                    rw [← hz]
                    have h1 := HF1.out
                    have h2 : 0 ≤ f * (y + 16) := Int.mul_nonneg (by omega) (by omega)
                    have h3 : 0 ≤ f * (16 - y) := Int.mul_nonneg (by omega) (by omega)
                    rw [Int.mul_add] at h2
                    rw [Int.mul_sub] at h3
                    omega
                  rw [hz] at HS
                  have hlj0 : (j : Int) < (n4 : Int) := by omega
                  have hBw : wo.heap.size ≤ wr.heap.size := HBEL.out.size
                  clear hy hym hcc
                  go_wp2_with (at_builtin; refine wpList_append_own _ rfl _ _ 24 rfl wo.heap.size 3 i0 (.int .i64 0) 1 8 Tryd.underlying24 hi0 hz0 hz1 hz2 rfl (by decide) _ _ _ rfl (HOWN.out.alloc _) ⟨wr.heap.size, 0, none⟩ 1 1 [.int .i64 z] rfl rfl ?c1 ?c2 ?c3 ?c4 ?c5 ?_)
                  case c1 => exact cell_one_new _ _ _
                  case c2 => simp [Value.oneCell']
                  case c3 => unfold maxLen; omega
                  case c4 => omega
                  case c5 => simp; omega
                  intro v' w5 hown2 hgrow _
                  have hbe : Below wo.heap.size wo w5 := (HBEL.out.alloc hBw _).grown hgrow (by simp; omega) (fun q hq => (HOWN.out.lt q hq).1)
                  have HB5 := Lib.hid hbe
                  have HO5 := Lib.hid hown2
                  clear hown2 hgrow hbe
                  go_wp2_with fail
                  go_roundg (gk - 1)
                  case measure => have := HJ.out; omega
                  case rel =>
                    refine ⟨j + 1, _, by have := HJ.out; omega, rfl, by go_num, ?_, HB5.out⟩
                    have hO := HO5.out
                    rw [HS.out]
                    unfold iv at hO ⊢
                    rw [List.map_append]
                    simpa using hO
                ·
                  obtain rfl : j = n4 := by omega
                  have ho := HOWN.out
                  rw [List.take_of_length_le (by rw [scl_len, HI.out.1]; omega)] at ho
                  obtain ⟨gm, cm, rfl, hBg, hcm, hcm2, hLA⟩ := lineAt_own ho hd1
                  have HLA := Lib.hid hLA
                  have HWO := HE
                  replace HE := Lib.hid (HE.out.next HBEL.out)
                  have hc1 : wr.cell? ⟨b2, o2 + k * 2, none⟩ = some (.int .i64 lo) := (Below.cell (p := ⟨_, _, none⟩) HE.out.bel HB2.out).trans HX1.out
                  have hc2 : wr.cell? ⟨b2, o2 + k * 2 + 1, none⟩ = some (.int .i64 hi) := (Below.cell (p := ⟨_, _, none⟩) HE.out.bel HB2.out).trans HX2.out
                  have HMW := Lib.hid (keptB HMR.out HBEL.out)
                  have HWW := Lib.hid (keptB HWR.out HBEL.out)
                  have HLN2 : Hid (∀ (i : Nat) (g : Nat × Nat) (l' : List Int), (gs ++ [(gm, cm)])[i]? = some g → L[i]? = some l' → LineAt wr g.1 j (scl f l') ∧ j ≤ g.2 ∧ g.2 ≤ 9223372036854775807) := fun i g l' hg hl' => by
                    rcases Nat.lt_trichotomy i gs.length with h' | h' | h'
                    · rw [List.getElem?_append_left h'] at hg
                      have h9 := HLN.out i g l' hg hl'
                      exact ⟨h9.1.below HBEL.out, h9.2⟩
                    · rw [List.getElem?_append_right (by omega), h', Nat.sub_self] at hg
                      simp at hg
                      subst hg
                      rw [h', HGL.out, HL0.out] at hl'
                      obtain rfl := Option.some.inj hl'
                      exact ⟨HLA.out, hcm, hcm2⟩
                    · rw [List.getElem?_eq_none (by simp; omega)] at hg; cases hg
                  clear ho hLA HOWN
                  by_cases g1 : lo < -67108864
                  ·
                    go_wp2_with fail
                    refine (san7_calls _ HE.out.tab).mono ?_
                    rintro e w' ⟨rfl, hb⟩
                    have HBZ := Lib.hid (Below.andThen HE.out.bel hb)
                    clear hb
                    go_wp2_with fail
                    go_ret
                    exact ⟨rfl, HBZ.out⟩
                  by_cases g2 : hi > 67108864
                  ·
                    go_wp2_with fail
                    refine (san7_calls _ HE.out.tab).mono ?_
                    rintro e w' ⟨rfl, hb⟩
                    have HBZ := Lib.hid (Below.andThen HE.out.bel hb)
                    clear hb
                    go_wp2_with fail
                    go_ret
                    exact ⟨rfl, HBZ.out⟩
                  obtain ⟨z1, hz1'⟩ : ∃ z, f * lo = z := ⟨_, rfl⟩
                  obtain ⟨z2, hz2'⟩ : ∃ z, f * hi = z := ⟨_, rfl⟩
                  have hlh : lo ≤ hi := HRK2.out
                  have hz1b : -1073741824 ≤ z1 ∧ z1 ≤ 1073741824 := by
                    rw [← hz1']
                    have h1 := HF1.out
                    have h2 : f * lo ≤ 16 * 67108864 := by
                      have h3 : f * lo ≤ f * 67108864 := Int.mul_le_mul_of_nonneg_left (by omega) (by omega)
                      omega
                    have h4 : 16 * (-67108864) ≤ f * lo := by
                      have h3 : f * (-67108864) ≤ f * lo := Int.mul_le_mul_of_nonneg_left (by omega) (by omega)
                      omega
                    omega
                  have hz2b : -1073741824 ≤ z2 ∧ z2 ≤ 1073741824 := by
                    rw [← hz2']
                    have h1 := HF1.out
                    have h2 : f * hi ≤ 16 * 67108864 := by
                      have h3 : f * hi ≤ f * 67108864 := Int.mul_le_mul_of_nonneg_left (by omega) (by omega)
                      omega
                    have h4 : 16 * (-67108864) ≤ f * hi := by
                      have h3 : f * (-67108864) ≤ f * hi := Int.mul_le_mul_of_nonneg_left (by omega) (by omega)
                      omega
                    omega
                  have HZ12 : Hid (scr f (lo, hi) = (z1, z2)) := by show _ = _; unfold scr; dsimp only; rw [hz1', hz2']
                  have hwz1 : IntKind.i64.wrap z1 = z1 := by rw [IntKind.wrap_i64]; omega
                  have hwz2 : IntKind.i64.wrap z2 = z2 := by rw [IntKind.wrap_i64]; omega
                  have hbsz : b2 < wr.heap.size := Nat.lt_of_lt_of_le HB2.out HE.out.bel.size
                  go_wp2_with fail
                  refine wk.region_lev2K 22 (FR ⟨w, wr.heap.size, k, j, f, gs ++ [(gm, cm)], L, gsc gs j, fl ((r.take k).map (scr f)), vM, vW, .slice (some ⟨gm, 0, none⟩) j cm, z1, z2, [undef, undef, undef, undef, undef, .int .i64 f, .slice (some ⟨b2, o2, none⟩) n1 c2, .int .i64 (k : Int), .pointer (some ⟨b2, o2 + k * 2, none⟩), .pointer (some ⟨b2, o2 + k * 2, none⟩), .int .i64 lo, .int .i64 z1, .int .i64 f, .slice (some ⟨b2, o2, none⟩) n1 c2, .int .i64 (k : Int), .pointer (some ⟨b2, o2 + k * 2, none⟩), .pointer (some ⟨b2, o2 + k * 2 + 1, none⟩), .int .i64 hi, .int .i64 z2, .agg #[.int .i64 z1, .int .i64 z2]]⟩) [some 82, some 83, some 84, some 85, some 86, some 87, some 88, some 89, some 90, some 91, some 92, some 93, some 94, some 95, some 96, some 97, some 98, some 99, some 100, some 101, some 102, some 103] (fun Lv u => FRS ⟨w, wr.heap.size, k, j, f, gs ++ [(gm, cm)], L, gsc gs j, fl ((r.take k).map (scr f)), vM, vW, .slice (some ⟨gm, 0, none⟩) j cm, z1, z2, [undef, undef, undef, undef, undef, .int .i64 f, .slice (some ⟨b2, o2, none⟩) n1 c2, .int .i64 (k : Int), .pointer (some ⟨b2, o2 + k * 2, none⟩), .pointer (some ⟨b2, o2 + k * 2, none⟩), .int .i64 lo, .int .i64 z1, .int .i64 f, .slice (some ⟨b2, o2, none⟩) n1 c2, .int .i64 (k : Int), .pointer (some ⟨b2, o2 + k * 2, none⟩), .pointer (some ⟨b2, o2 + k * 2 + 1, none⟩), .int .i64 hi, .int .i64 z2, .agg #[.int .i64 z1, .int .i64 z2]]⟩ Lv u) ?hstart (by kernel_rfl) (by kernel_rfl) (by kernel_rfl) (by kernel_rfl) (by kernel_rfl) (by kernel_rfl) ?hstep ?hdone
                  case hstep =>
                    intro i o ho hi9 E Lv w4 hS4 hL hdeps DG hold
                    have hi2 : i = 0 ∨ i = 1 ∨ i = 2 ∨ i = 3 ∨ i = 4 ∨ i = 5 ∨ i = 6 ∨ i = 7 ∨ i = 8 ∨ i = 9 ∨ i = 10 ∨ i = 11 ∨ i = 12 ∨ i = 13 ∨ i = 14 ∨ i = 15 ∨ i = 16 ∨ i = 17 ∨ i = 18 ∨ i = 19 ∨ i = 20 ∨ i = 21 := by omega
                    clear hi9
                    rcases hi2 with rfl | rfl | rfl | rfl | rfl | rfl | rfl | rfl | rfl | rfl | rfl | rfl | rfl | rfl | rfl | rfl | rfl | rfl | rfl | rfl | rfl | rfl
                    ·
                      have ho2 := (Array.getElem?_eq_some_iff.1 ho).2
                      simp only [List.getElem_toArray, List.getElem_cons_zero] at ho2
                      subst ho2
                      clear ho
                      have e12 : E (.tmp 12) = vM := (hold 12 (by kernel_rfl)).trans rfl
                      refine wk.Does.weak (R := fun w' x => x = vM) ?_ (fun w' v hb hr => ⟨hr, fun j u _ _ hj => FR.next rfl rfl hb hj, hS4.next rfl rfl hb⟩)
                      exact wk.does_move rfl e12
                    ·
                      have ho2 := (Array.getElem?_eq_some_iff.1 ho).2
                      simp only [List.getElem_toArray, List.getElem_cons_succ, List.getElem_cons_zero] at ho2
                      subst ho2
                      clear ho
                      have e16 : E (.tmp 16) = .slice (some ⟨gm, 0, none⟩) j cm := (hold 16 (by kernel_rfl)).trans rfl
                      refine wk.Does.weak (R := fun w' x => x = .slice (some ⟨gm, 0, none⟩) j cm) ?_ (fun w' v hb hr => ⟨hr, fun j u _ _ hj => FR.next rfl rfl hb hj, hS4.next rfl rfl hb⟩)
                      exact wk.does_move rfl e16
                    ·
                      have ho2 := (Array.getElem?_eq_some_iff.1 ho).2
                      simp only [List.getElem_toArray, List.getElem_cons_succ, List.getElem_cons_zero] at ho2
                      subst ho2
                      clear ho
                      have e83 := DG.is { on := 1, ground := .data } (by simp) rfl 83 rfl
                      replace e83 : E (.tmp 83) = .slice (some ⟨gm, 0, none⟩) j cm := e83
                      refine wk.Does.weak (R := fun w' x => ∃ g, x = .slice (some ⟨g, 0, none⟩) 1 1 ∧ OneS w' g (.slice (some ⟨gm, 0, none⟩) j cm)) ?_ (fun w' v hb hr => ⟨(by obtain ⟨g, h1, h2⟩ := hr; exact ⟨g, h1, fun _ => h2⟩), fun j u _ _ hj => FR.next rfl rfl hb hj, hS4.next rfl rfl hb⟩)
                      refine wk.does_new (v := .slice (some ⟨w4.heap.size, 0, none⟩) 1 1) (w' := w4.alloc (.cells #[.slice (some ⟨gm, 0, none⟩) j cm] 24)) (by simp only [execOp, List.map_toArray, List.map_cons, List.map_nil]; rw [e83]; go_simp) (below_new _ _) ⟨_, rfl, OneS.new _ _⟩
                    ·
                      have ho2 := (Array.getElem?_eq_some_iff.1 ho).2
                      simp only [List.getElem_toArray, List.getElem_cons_succ, List.getElem_cons_zero] at ho2
                      subst ho2
                      clear ho
                      have e82 := DG.is { on := 0, ground := .data } (by simp) rfl 82 rfl
                      replace e82 : E (.tmp 82) = vM := e82
                      have e84 := DG.is { on := 2, ground := .data } (by simp) rfl 84 rfl
                      obtain ⟨g, eg, hone⟩ := e84
                      have hL3 : Lv 3 = false := hL
                      have hMw := hS4.m hL3
                      exact does_append_t (.tmp 82) (.tmp 84) 22 rfl w.heap.size 24 iV (.slice none 0 0) 1 24 Tryd.underlying22 hiV hV0 hV1 hV2 rfl (by decide) vM k (gsc gs j) e82 hMw ⟨g, 0, none⟩ 1 [.slice (some ⟨gm, 0, none⟩) j cm] eg rfl (hone hL3).cells (by simp [Value.oneCell']) (by omega) (by omega) hS4.bel.size (fun v' w' h5 h6 _ => ⟨h5, fun j' u hLj _ hj => FR.appM (by rintro rfl; rw [hL3] at hLj; cases hLj) rfl rfl hMw h6 hj, hS4.appM rfl rfl hMw h6⟩)
                    ·
                      have ho2 := (Array.getElem?_eq_some_iff.1 ho).2
                      simp only [List.getElem_toArray, List.getElem_cons_succ, List.getElem_cons_zero] at ho2
                      subst ho2
                      clear ho
                      have e13 : E (.tmp 13) = vW := (hold 13 (by kernel_rfl)).trans rfl
                      refine wk.Does.weak (R := fun w' x => x = vW) ?_ (fun w' v hb hr => ⟨hr, fun j u _ _ hj => FR.next rfl rfl hb hj, hS4.next rfl rfl hb⟩)
                      exact wk.does_move rfl e13
                    ·
                      have ho2 := (Array.getElem?_eq_some_iff.1 ho).2
                      simp only [List.getElem_toArray, List.getElem_cons_succ, List.getElem_cons_zero] at ho2
                      subst ho2
                      clear ho
                      have e11 : E (.tmp 11) = .int .i64 f := (hold 11 (by kernel_rfl)).trans rfl
                      refine wk.Does.weak (R := fun w' x => x = .int .i64 f) ?_ (fun w' v hb hr => ⟨hr, fun j u _ _ hj => FR.next rfl rfl hb hj, hS4.next rfl rfl hb⟩)
                      exact wk.does_move rfl e11
                    ·
                      have ho2 := (Array.getElem?_eq_some_iff.1 ho).2
                      simp only [List.getElem_toArray, List.getElem_cons_succ, List.getElem_cons_zero] at ho2
                      subst ho2
                      clear ho
                      have e2 : E (.tmp 2) = .slice (some ⟨b2, o2, none⟩) n1 c2 := (hold 2 (by kernel_rfl)).trans rfl
                      refine wk.Does.weak (R := fun w' x => x = .slice (some ⟨b2, o2, none⟩) n1 c2) ?_ (fun w' v hb hr => ⟨hr, fun j u _ _ hj => FR.next rfl rfl hb hj, hS4.next rfl rfl hb⟩)
                      exact wk.does_move rfl e2
                    ·
                      have ho2 := (Array.getElem?_eq_some_iff.1 ho).2
                      simp only [List.getElem_toArray, List.getElem_cons_succ, List.getElem_cons_zero] at ho2
                      subst ho2
                      clear ho
                      have e14 : E (.tmp 14) = .int .i64 (k : Int) := (hold 14 (by kernel_rfl)).trans rfl
                      refine wk.Does.weak (R := fun w' x => x = .int .i64 (k : Int)) ?_ (fun w' v hb hr => ⟨hr, fun j u _ _ hj => FR.next rfl rfl hb hj, hS4.next rfl rfl hb⟩)
                      exact wk.does_move rfl e14
                    ·
                      have ho2 := (Array.getElem?_eq_some_iff.1 ho).2
                      simp only [List.getElem_toArray, List.getElem_cons_succ, List.getElem_cons_zero] at ho2
                      subst ho2
                      clear ho
                      have e88 := DG.is { on := 6, ground := .data } (by simp) rfl 88 rfl
                      replace e88 : E (.tmp 88) = .slice (some ⟨b2, o2, none⟩) n1 c2 := e88
                      have e89 := DG.is { on := 7, ground := .data } (by simp) rfl 89 rfl
                      replace e89 : E (.tmp 89) = .int .i64 (k : Int) := e89
                      refine wk.Does.weak (R := fun w' x => x = .pointer (some ⟨b2, o2 + k * 2, none⟩)) ?_ (fun w' v hb hr => ⟨hr, fun j u _ _ hj => FR.next rfl rfl hb hj, hS4.next rfl rfl hb⟩)
                      exact wk.does_run (by simp only [execOp]; rw [e88, e89]; go_simp) rfl
                    ·
                      have ho2 := (Array.getElem?_eq_some_iff.1 ho).2
                      simp only [List.getElem_toArray, List.getElem_cons_succ, List.getElem_cons_zero] at ho2
                      subst ho2
                      clear ho
                      have e90 := DG.is { on := 8, ground := .data } (by simp) rfl 90 rfl
                      replace e90 : E (.tmp 90) = .pointer (some ⟨b2, o2 + k * 2, none⟩) := e90
                      refine wk.Does.weak (R := fun w' x => x = .pointer (some ⟨b2, o2 + k * 2, none⟩)) ?_ (fun w' v hb hr => ⟨hr, fun j u _ _ hj => FR.next rfl rfl hb hj, hS4.next rfl rfl hb⟩)
                      exact wk.does_run (by simp only [execOp]; rw [e90]; go_simp) rfl
                    ·
                      have ho2 := (Array.getElem?_eq_some_iff.1 ho).2
                      simp only [List.getElem_toArray, List.getElem_cons_succ, List.getElem_cons_zero] at ho2
                      subst ho2
                      clear ho
                      have e91 := DG.is { on := 9, ground := .data } (by simp) rfl 91 rfl
                      replace e91 : E (.tmp 91) = .pointer (some ⟨b2, o2 + k * 2, none⟩) := e91
                      refine wk.Does.weak (R := fun w' x => x = .int .i64 lo) ?_ (fun w' v hb hr => ⟨hr, fun j u _ _ hj => FR.next rfl rfl hb hj, hS4.next rfl rfl hb⟩)
                      exact wk.does_load1 rfl e91 ((Below.cell (p := ⟨_, _, none⟩) hS4.bel HB2.out).trans HX1.out) Tryd.underlying3 rfl rfl
                    ·
                      have ho2 := (Array.getElem?_eq_some_iff.1 ho).2
                      simp only [List.getElem_toArray, List.getElem_cons_succ, List.getElem_cons_zero] at ho2
                      subst ho2
                      clear ho
                      have e87 := DG.is { on := 5, ground := .data } (by simp) rfl 87 rfl
                      replace e87 : E (.tmp 87) = .int .i64 f := e87
                      have e92 := DG.is { on := 10, ground := .data } (by simp) rfl 92 rfl
                      replace e92 : E (.tmp 92) = .int .i64 lo := e92
                      refine wk.Does.weak (R := fun w' x => x = .int .i64 z1) ?_ (fun w' v hb hr => ⟨hr, fun j u _ _ hj => FR.next rfl rfl hb hj, hS4.next rfl rfl hb⟩)
                      exact wk.does_bin rfl (by rw [e87, e92]; go_simp; first | done | exact hwz1) rfl
                    ·
                      have ho2 := (Array.getElem?_eq_some_iff.1 ho).2
                      simp only [List.getElem_toArray, List.getElem_cons_succ, List.getElem_cons_zero] at ho2
                      subst ho2
                      clear ho
                      have e11 : E (.tmp 11) = .int .i64 f := (hold 11 (by kernel_rfl)).trans rfl
                      refine wk.Does.weak (R := fun w' x => x = .int .i64 f) ?_ (fun w' v hb hr => ⟨hr, fun j u _ _ hj => FR.next rfl rfl hb hj, hS4.next rfl rfl hb⟩)
                      exact wk.does_move rfl e11
                    ·
                      have ho2 := (Array.getElem?_eq_some_iff.1 ho).2
                      simp only [List.getElem_toArray, List.getElem_cons_succ, List.getElem_cons_zero] at ho2
                      subst ho2
                      clear ho
                      have e2 : E (.tmp 2) = .slice (some ⟨b2, o2, none⟩) n1 c2 := (hold 2 (by kernel_rfl)).trans rfl
                      refine wk.Does.weak (R := fun w' x => x = .slice (some ⟨b2, o2, none⟩) n1 c2) ?_ (fun w' v hb hr => ⟨hr, fun j u _ _ hj => FR.next rfl rfl hb hj, hS4.next rfl rfl hb⟩)
                      exact wk.does_move rfl e2
                    ·
                      have ho2 := (Array.getElem?_eq_some_iff.1 ho).2
                      simp only [List.getElem_toArray, List.getElem_cons_succ, List.getElem_cons_zero] at ho2
                      subst ho2
                      clear ho
                      have e14 : E (.tmp 14) = .int .i64 (k : Int) := (hold 14 (by kernel_rfl)).trans rfl
                      refine wk.Does.weak (R := fun w' x => x = .int .i64 (k : Int)) ?_ (fun w' v hb hr => ⟨hr, fun j u _ _ hj => FR.next rfl rfl hb hj, hS4.next rfl rfl hb⟩)
                      exact wk.does_move rfl e14
                    ·
                      have ho2 := (Array.getElem?_eq_some_iff.1 ho).2
                      simp only [List.getElem_toArray, List.getElem_cons_succ, List.getElem_cons_zero] at ho2
                      subst ho2
                      clear ho
                      have e95 := DG.is { on := 13, ground := .data } (by simp) rfl 95 rfl
                      replace e95 : E (.tmp 95) = .slice (some ⟨b2, o2, none⟩) n1 c2 := e95
                      have e96 := DG.is { on := 14, ground := .data } (by simp) rfl 96 rfl
                      replace e96 : E (.tmp 96) = .int .i64 (k : Int) := e96
                      refine wk.Does.weak (R := fun w' x => x = .pointer (some ⟨b2, o2 + k * 2, none⟩)) ?_ (fun w' v hb hr => ⟨hr, fun j u _ _ hj => FR.next rfl rfl hb hj, hS4.next rfl rfl hb⟩)
                      exact wk.does_run (by simp only [execOp]; rw [e95, e96]; go_simp) rfl
                    ·
                      have ho2 := (Array.getElem?_eq_some_iff.1 ho).2
                      simp only [List.getElem_toArray, List.getElem_cons_succ, List.getElem_cons_zero] at ho2
                      subst ho2
                      clear ho
                      have e97 := DG.is { on := 15, ground := .data } (by simp) rfl 97 rfl
                      replace e97 : E (.tmp 97) = .pointer (some ⟨b2, o2 + k * 2, none⟩) := e97
                      refine wk.Does.weak (R := fun w' x => x = .pointer (some ⟨b2, o2 + k * 2 + 1, none⟩)) ?_ (fun w' v hb hr => ⟨hr, fun j u _ _ hj => FR.next rfl rfl hb hj, hS4.next rfl rfl hb⟩)
                      exact wk.does_run (by simp only [execOp]; rw [e97]; go_simp) rfl
                    ·
                      have ho2 := (Array.getElem?_eq_some_iff.1 ho).2
                      simp only [List.getElem_toArray, List.getElem_cons_succ, List.getElem_cons_zero] at ho2
                      subst ho2
                      clear ho
                      have e98 := DG.is { on := 16, ground := .data } (by simp) rfl 98 rfl
                      replace e98 : E (.tmp 98) = .pointer (some ⟨b2, o2 + k * 2 + 1, none⟩) := e98
                      refine wk.Does.weak (R := fun w' x => x = .int .i64 hi) ?_ (fun w' v hb hr => ⟨hr, fun j u _ _ hj => FR.next rfl rfl hb hj, hS4.next rfl rfl hb⟩)
                      exact wk.does_load1 rfl e98 ((Below.cell (p := ⟨_, _, none⟩) hS4.bel HB2.out).trans HX2.out) Tryd.underlying3 rfl rfl
                    ·
                      have ho2 := (Array.getElem?_eq_some_iff.1 ho).2
                      simp only [List.getElem_toArray, List.getElem_cons_succ, List.getElem_cons_zero] at ho2
                      subst ho2
                      clear ho
                      have e94 := DG.is { on := 12, ground := .data } (by simp) rfl 94 rfl
                      replace e94 : E (.tmp 94) = .int .i64 f := e94
                      have e99 := DG.is { on := 17, ground := .data } (by simp) rfl 99 rfl
                      replace e99 : E (.tmp 99) = .int .i64 hi := e99
                      refine wk.Does.weak (R := fun w' x => x = .int .i64 z2) ?_ (fun w' v hb hr => ⟨hr, fun j u _ _ hj => FR.next rfl rfl hb hj, hS4.next rfl rfl hb⟩)
                      exact wk.does_bin rfl (by rw [e94, e99]; go_simp; first | done | exact hwz2) rfl
                    ·
                      have ho2 := (Array.getElem?_eq_some_iff.1 ho).2
                      simp only [List.getElem_toArray, List.getElem_cons_succ, List.getElem_cons_zero] at ho2
                      subst ho2
                      clear ho
                      have e93 := DG.is { on := 11, ground := .data } (by simp) rfl 93 rfl
                      replace e93 : E (.tmp 93) = .int .i64 z1 := e93
                      have e100 := DG.is { on := 18, ground := .data } (by simp) rfl 100 rfl
                      replace e100 : E (.tmp 100) = .int .i64 z2 := e100
                      refine wk.Does.weak (R := fun w' x => x = .agg #[.int .i64 z1, .int .i64 z2]) ?_ (fun w' v hb hr => ⟨hr, fun j u _ _ hj => FR.next rfl rfl hb hj, hS4.next rfl rfl hb⟩)
                      exact wk.does_run (by simp only [execOp, List.map_toArray, List.map_cons, List.map_nil]; rw [e93, e100]; go_simp) rfl
                    ·
                      have ho2 := (Array.getElem?_eq_some_iff.1 ho).2
                      simp only [List.getElem_toArray, List.getElem_cons_succ, List.getElem_cons_zero] at ho2
                      subst ho2
                      clear ho
                      have e101 := DG.is { on := 19, ground := .data } (by simp) rfl 101 rfl
                      replace e101 : E (.tmp 101) = .agg #[.int .i64 z1, .int .i64 z2] := e101
                      refine wk.Does.weak (R := fun w' x => ∃ g, x = .slice (some ⟨g, 0, none⟩) 1 1 ∧ RowR w' g z1 z2) ?_ (fun w' v hb hr => ⟨(by obtain ⟨g, h1, h2⟩ := hr; exact ⟨g, h1, fun _ => h2⟩), fun j u _ _ hj => FR.next rfl rfl hb hj, hS4.next rfl rfl hb⟩)
                      refine wk.does_new (v := .slice (some ⟨w4.heap.size, 0, none⟩) 1 1) (w' := w4.alloc (.cells #[.int .i64 z1, .int .i64 z2] 47)) (by simp only [execOp, List.map_toArray, List.map_cons, List.map_nil]; rw [e101]; go_simp) (below_new _ _) ⟨_, rfl, RowR.new _ _ _⟩
                    ·
                      have ho2 := (Array.getElem?_eq_some_iff.1 ho).2
                      simp only [List.getElem_toArray, List.getElem_cons_succ, List.getElem_cons_zero] at ho2
                      subst ho2
                      clear ho
                      have e86 := DG.is { on := 4, ground := .data } (by simp) rfl 86 rfl
                      replace e86 : E (.tmp 86) = vW := e86
                      have e102 := DG.is { on := 20, ground := .data } (by simp) rfl 102 rfl
                      obtain ⟨g, eg, hone⟩ := e102
                      have hL3 : Lv 21 = false := hL
                      have hWw := hS4.w hL3
                      exact does_append_t (.tmp 86) (.tmp 102) 29 rfl w.heap.size 47 iR (.agg #[.int .i64 0, .int .i64 0]) 2 16 Tryd.underlying29 hiR hR0 hR1 hR2 rfl (by decide) vW k (fl ((r.take k).map (scr f))) e86 hWw ⟨g, 0, none⟩ 1 [.int .i64 z1, .int .i64 z2] eg rfl (hone hL3).cells ones2 (by omega) (by omega) hS4.bel.size (fun v' w' h5 h6 _ => ⟨h5, fun j' u hLj _ hj => FR.appW (by rintro rfl; rw [hL3] at hLj; cases hLj) rfl rfl hWw h6 hj, hS4.appW rfl rfl hWw h6⟩)
                  case hdone =>
                    intro vals Lv w4 hall hS4 hv
                    have h3 : w4.ownsRow w.heap.size 24 1 (vals 3) (k + 1) (gsc gs j ++ [.slice (some ⟨gm, 0, none⟩) j cm]) := hv 3 (by omega)
                    have h21 : w4.ownsRow w.heap.size 47 2 (vals 21) (k + 1) (fl ((r.take k).map (scr f)) ++ [.int .i64 z1, .int .i64 z2]) := hv 21 (by omega)
                    have hln4 := hS4.ln
                    have HE4 := Lib.hid (HE0.out.next hS4.bel)
                    have H3 := Lib.hid h3
                    have H21 := Lib.hid h21
                    have HLN4 := Lib.hid hln4
                    clear hv hall hS4 h3 h21 hln4
                    simp only [List.drop_succ_cons, List.drop_zero, wk.setL, List.setIfInBounds_toArray, List.set_cons_zero, List.set_cons_succ, Nat.zero_add, Nat.reduceAdd]
                    generalize vals 0 = x0 at *
                    generalize vals 1 = x1 at *
                    generalize vals 2 = x2 at *
                    generalize vals 3 = x3 at *
                    generalize vals 4 = x4 at *
                    generalize vals 5 = x5 at *
                    generalize vals 6 = x6 at *
                    generalize vals 7 = x7 at *
                    generalize vals 8 = x8 at *
                    generalize vals 9 = x9 at *
                    generalize vals 10 = x10 at *
                    generalize vals 11 = x11 at *
                    generalize vals 12 = x12 at *
                    generalize vals 13 = x13 at *
                    generalize vals 14 = x14 at *
                    generalize vals 15 = x15 at *
                    generalize vals 16 = x16 at *
                    generalize vals 17 = x17 at *
                    generalize vals 18 = x18 at *
                    generalize vals 19 = x19 at *
                    generalize vals 20 = x20 at *
                    generalize vals 21 = x21 at *
                    go_wp2_with fail
                    go_roundg (n1 - (k + 1))
                    case measure => have := HK.out; omega
                    case rel =>
                      refine ⟨k + 1, _, _, gs ++ [(gm, cm)], by omega, rfl, rfl, by go_num, by simp [HGL.out], ?_, ?_, HLN4.out, ?_, HE4.out⟩
                      · have hO := H3.out
                        unfold gsc at hO ⊢
                        rw [List.map_append]
                        simpa using hO
                      · have hO := H21.out
                        rw [jq.take_snoc HRK.out, List.map_append, fl_append]
                        show _ = _ ∧ _
                        have hZ := HZ12.out
                        simp only [List.map_cons, List.map_nil, hZ]
                        exact hO
                      · intro x hx
                        rw [jq.take_snoc HRK.out] at hx
                        rcases List.mem_append.1 hx with hx | hx
                        · exact HRB.out x hx
                        · simp at hx; subst hx; dsimp only; omega
                  case hstart => exact ⟨HE.out.bel.drew, Nat.le_refl _, fun _ => HMW.out, fun _ => HWW.out, HLN2.out⟩
            ·
              obtain rfl : k = n1 := by omega
              have hM0 := HMR.out
              have hW0 := HWR.out
              rw [List.take_of_length_le (by have := HNA.out; omega)] at hW0
              have hrb := HRB.out
              rw [List.take_of_length_le (by have := HNA.out; omega)] at hrb
              obtain ⟨AM, cM, rfl, hVM⟩ := isVV_of_ownc (L := L.map (scl f)) hM0 (by rw [HGL.out, List.length_map, HNL.out]) (fun i g l' hg hl' => by
                rw [List.getElem?_map] at hl'
                cases hl9 : L[i]? with
                | none => rw [hl9] at hl'; cases hl'
                | some l9 =>
                  rw [hl9] at hl'
                  obtain rfl := Option.some.inj hl'
                  exact HLN.out i g l9 hg hl9) (fun l' hl' y hy => by
                obtain ⟨l9, hl9, rfl⟩ := List.mem_map.1 hl'
                obtain ⟨y9, hy9, rfl⟩ := List.mem_map.1 hy
                have h1 := HF1.out
                have h2 := HF.out.lo l9 hl9 y9 hy9
                have h3 := HF.out.hi l9 hl9 y9 hy9
                have h4 : 0 ≤ f * (y9 + 16) := Int.mul_nonneg (by omega) (by omega)
                have h5 : 0 ≤ f * (16 - y9) := Int.mul_nonneg (by omega) (by omega)
                rw [Int.mul_add] at h4
                rw [Int.mul_sub] at h5
                omega)
              have hsc : ∀ x ∈ r.map (scr f), In 1073741824 x := fun x hx => by
                obtain ⟨x9, hx9, rfl⟩ := List.mem_map.1 hx
                have h1 := HF1.out
                have h2 := hrb x9 hx9
                have h3 := HOR.out x9 hx9
                have a1 : f * (-67108864) ≤ f * x9.1 := Int.mul_le_mul_of_nonneg_left (by omega) (by omega)
                have a2 : f * x9.1 ≤ f * 67108864 := Int.mul_le_mul_of_nonneg_left (by omega) (by omega)
                have a3 : f * (-67108864) ≤ f * x9.2 := Int.mul_le_mul_of_nonneg_left (by omega) (by omega)
                have a4 : f * x9.2 ≤ f * 67108864 := Int.mul_le_mul_of_nonneg_left (by omega) (by omega)
                unfold In scr
                dsimp only
                omega
              obtain ⟨AW, cW, rfl, hRW⟩ := isR_of_own hW0 (fun x hx => by have := hsc x hx; unfold In at this; unfold Wd; omega)
              have HMO := Lib.hid hVM
              have HWI := Lib.hid hRW
              have HSC := Lib.hid hsc
              have HFX := Lib.hid (bound_scale (m := m) hf1.1 L r q)
              have HTK := Lib.hid (bound_take (m := m) (L := L) (r := r) (q := q) 1)
              clear hM0 hW0 hrb hVM hRW hsc HMR HWR HLN HRB
              obtain ⟨b, o, A3, n3, c3, l, rfl, -, -, -, -⟩ := isVV_get HE.out.lines (k := 0) (by omega)
              obtain ⟨b2, o2, x9, rfl, -, -, -, -, -⟩ := isR_get HE.out.rng (k := 0) (by omega)
              have HN := Lib.hid (bound_calls m HM3.out wr ⟨HE.out.lines, HE.out.rng, HE.out.q, HF.out, HQV.out, in_rng HIA.out (by omega)⟩)
              go_wp2_with fail
              refine HN.out.mono ?_
              rintro e v5 ⟨rfl, hb⟩
              replace HE := Lib.hid (HE.out.next hb)
              replace HMO := Lib.hid (isVV_below HMO.out hb)
              replace HWI := Lib.hid (isR_below HWI.out hb)
              obtain ⟨bv, hbv⟩ : ∃ bv, bound m L r q = bv := ⟨_, rfl⟩
              rw [hbv] at HFX HTK ⊢
              clear hbv
              clear hb
              clear HN
              obtain ⟨b1, hb1⟩ : ∃ b1, bound m (L.take 1) (r.take 1) q = b1 := ⟨_, rfl⟩
              rw [hb1] at HTK
              have HB1 := Lib.hid hb1
              have hle := HTK.out
              have hdc : decide (bv < b1) = false := decide_eq_false (by omega)
              have hcutV := fun w' => run_upto1 w' b o k c1 hn11 hn1
              have hcutR := fun w' => run_uptoR w' b2 o2 k c2 hn11 hn2
              have h1n : (1 : Int) ≤ (k : Int) := by omega
              have h1c1 : (1 : Int) ≤ (c1 : Int) := by omega
              have h1c2 : (1 : Int) ≤ (c2 : Int) := by omega
              clear hb1
              go_wp2_with fail
              refine wk.region_tailS 9 [.is (.int .i64 m), .is (.slice (some ⟨b, o, none⟩) k c1), .is (.slice (some ⟨b, o, none⟩) 1 c1), .is (.slice (some ⟨b2, o2, none⟩) k c2), .is (.slice (some ⟨b2, o2, none⟩) 1 c2), .is (.slice A4 n4 c4), .is (.int .i64 b1), .is (.int .i64 bv), .is (.bool false)] [some 110, some 111, some 112, some 113, some 114, some 115, some 116, some 117, some 118] (by kernel_rfl) (by kernel_rfl) (by kernel_rfl) (by kernel_rfl) [] (by kernel_rfl) (by intro p hp; cases hp) (by kernel_rfl) (by kernel_rfl) ?hstep ?hdone
              case hstep =>
                intro i o ho hi hns E w4 hb4 D
                have hi2 : i = 0 ∨ i = 1 ∨ i = 2 ∨ i = 3 ∨ i = 4 ∨ i = 5 ∨ i = 6 ∨ i = 7 ∨ i = 8 := by omega
                clear hi
                rcases hi2 with rfl | rfl | rfl | rfl | rfl | rfl | rfl | rfl | rfl
                ·
                  have ho2 := (Array.getElem?_eq_some_iff.1 ho).2
                  simp only [List.getElem_toArray, List.getElem_cons_zero] at ho2
                  subst ho2
                  clear ho
                  have e0 := D.old 0 (by kernel_rfl)
                  exact wk.does_move rfl (by rw [e0]; rfl)
                ·
                  have ho2 := (Array.getElem?_eq_some_iff.1 ho).2
                  simp only [List.getElem_toArray, List.getElem_cons_succ, List.getElem_cons_zero] at ho2
                  subst ho2
                  clear ho
                  have e1 := D.old 1 (by kernel_rfl)
                  exact wk.does_move rfl (by rw [e1]; rfl)
                ·
                  have ho2 := (Array.getElem?_eq_some_iff.1 ho).2
                  simp only [List.getElem_toArray, List.getElem_cons_succ, List.getElem_cons_zero] at ho2
                  subst ho2
                  clear ho
                  have e111 := D.is { on := 1, ground := .data } (by simp) rfl rfl 111 rfl
                  exact wk.does_run (v := .slice (some ⟨b, o, none⟩) 1 c1) (by simp only [execOp, Option.map_some, Option.map_none, D.con, e111]; go_simp) rfl
                ·
                  have ho2 := (Array.getElem?_eq_some_iff.1 ho).2
                  simp only [List.getElem_toArray, List.getElem_cons_succ, List.getElem_cons_zero] at ho2
                  subst ho2
                  clear ho
                  have e2 := D.old 2 (by kernel_rfl)
                  exact wk.does_move rfl (by rw [e2]; rfl)
                ·
                  have ho2 := (Array.getElem?_eq_some_iff.1 ho).2
                  simp only [List.getElem_toArray, List.getElem_cons_succ, List.getElem_cons_zero] at ho2
                  subst ho2
                  clear ho
                  have e113 := D.is { on := 3, ground := .data } (by simp) rfl rfl 113 rfl
                  exact wk.does_run (v := .slice (some ⟨b2, o2, none⟩) 1 c2) (by simp only [execOp, Option.map_some, Option.map_none, D.con, e113]; go_simp) rfl
                ·
                  have ho2 := (Array.getElem?_eq_some_iff.1 ho).2
                  simp only [List.getElem_toArray, List.getElem_cons_succ, List.getElem_cons_zero] at ho2
                  subst ho2
                  clear ho
                  have e3 := D.old 3 (by kernel_rfl)
                  exact wk.does_move rfl (by rw [e3]; rfl)
                ·
                  have ho2 := (Array.getElem?_eq_some_iff.1 ho).2
                  simp only [List.getElem_toArray, List.getElem_cons_succ, List.getElem_cons_zero] at ho2
                  subst ho2
                  clear ho
                  have e110 := D.is { on := 0, ground := .data } (by simp) rfl rfl 110 rfl
                  have e112 := D.is { on := 2, ground := .data } (by simp) rfl rfl 112 rfl
                  have e114 := D.is { on := 4, ground := .data } (by simp) rfl rfl 114 rfl
                  have e115 := D.is { on := 5, ground := .data } (by simp) rfl rfl 115 rfl
                  refine wk.does_fn (f := 32) (vs := #[.int .i64 m, .slice (some ⟨b, o, none⟩) 1 c1, .slice (some ⟨b2, o2, none⟩) 1 c2, .slice A4 n4 c4]) rfl (D.fn _) (by simp [e110, e112, e114, e115]) (by go_simp) ?_
                  refine (bound_calls m HM3.out w4 ⟨upto_vv (isVV_below HE.out.lines ((Below.refl _ _).drew.trans hb4 : Below v5.heap.size v5 w4)) hn11, upto_r (isR_below HE.out.rng ((Below.refl _ _).drew.trans hb4 : Below v5.heap.size v5 w4)) hn11, isI_below HE.out.q ((Below.refl _ _).drew.trans hb4 : Below v5.heap.size v5 w4), HF.out.one, HQV.out, in_rng (fun x hx => HIA.out x (List.mem_of_mem_take hx)) (by omega)⟩).mono ?_
                  rintro e w5 ⟨rfl, hb5⟩
                  exact ⟨_, rfl, hb5, by rw [HB1.out]; rfl⟩
                ·
                  have ho2 := (Array.getElem?_eq_some_iff.1 ho).2
                  simp only [List.getElem_toArray, List.getElem_cons_succ, List.getElem_cons_zero] at ho2
                  subst ho2
                  clear ho
                  have e19 := D.old 19 (by kernel_rfl)
                  exact wk.does_move rfl (by rw [e19]; rfl)
                ·
                  have ho2 := (Array.getElem?_eq_some_iff.1 ho).2
                  simp only [List.getElem_toArray, List.getElem_cons_succ, List.getElem_cons_zero] at ho2
                  subst ho2
                  clear ho
                  have e116 := D.is { on := 6, ground := .data } (by simp) rfl rfl 116 rfl
                  have e117 := D.is { on := 7, ground := .data } (by simp) rfl rfl 117 rfl
                  exact wk.does_bin rfl (by rw [e116, e117]; go_simp; first | done | (rw [hdc])) rfl
              case hdone =>
                intro vals w4 hb4 hv
                have h8 := hv 8 (by omega)
                clear hv
                replace h8 : vals 8 = (.bool false) := h8
                simp only [List.drop_succ_cons, List.drop_zero, wpList, wk.setL, List.setIfInBounds_toArray, List.set_cons_zero, List.set_cons_succ, Nat.zero_add, Nat.reduceAdd, h8]
                generalize vals 0 = x0
                generalize vals 1 = x1
                generalize vals 2 = x2
                generalize vals 3 = x3
                generalize vals 4 = x4
                generalize vals 5 = x5
                generalize vals 6 = x6
                generalize vals 7 = x7
                replace HE := Lib.hid (HE.out.next ((Below.refl _ _).drew.trans hb4 : Below v5.heap.size v5 w4))
                replace HMO := Lib.hid (isVV_below HMO.out ((Below.refl _ _).drew.trans hb4 : Below v5.heap.size v5 w4))
                replace HWI := Lib.hid (isR_below HWI.out ((Below.refl _ _).drew.trans hb4 : Below v5.heap.size v5 w4))
                clear hb4 hcutV hcutR hdc hle
                go_wp2_with fail
                refine (san7_calls _ HE.out.tab).mono ?_
                rintro e v6 ⟨rfl, hb⟩
                replace HE := Lib.hid (HE.out.next hb)
                replace HMO := Lib.hid (isVV_below HMO.out hb)
                replace HWI := Lib.hid (isR_below HWI.out hb)
                clear hb
                have HN := Lib.hid (pvalid_calls (n4 : Int) AM k cM _ v6 HMO.out)
                go_wp2_with fail
                refine HN.out.mono ?_
                rintro e v7 ⟨rfl, hb⟩
                replace HE := Lib.hid (HE.out.next hb)
                replace HMO := Lib.hid (isVV_below HMO.out hb)
                replace HWI := Lib.hid (isR_below HWI.out hb)
                clear hb
                clear HN
                cases hvm : validL (L.map (scl f)) (n4 : Int)
                ·
                  go_wp2_with fail
                  go_ret
                  exact ⟨rfl, HE.out.bel⟩
                ·
                  have HF2 : Hid (Fit (L.map (scl f)) n4) := valid_iff.1 hvm
                  clear hvm
                  have HN := Lib.hid (bound_calls m HM3.out v7 ⟨HMO.out, HWI.out, HE.out.q, HF2.out, HQV.out, in_rng HSC.out (by omega)⟩)
                  go_wp2_with fail
                  refine HN.out.mono ?_
                  rintro e v8 ⟨rfl, hb⟩
                  replace HE := Lib.hid (HE.out.next hb)
                  replace HMO := Lib.hid (isVV_below HMO.out hb)
                  replace HWI := Lib.hid (isR_below HWI.out hb)
                  rw [HFX.out]
                  clear hb
                  clear HN
                  go_wp2_with fail
                  go_ret
                  exact ⟨by first | rfl | simp, HE.out.bel⟩
end Go.Proofs.YtjhagfggelhpkaaDoor.projectForgetsScale
