
import Derived.Test.YtgcnkdpfdmgpoaaDoorSn

import Derived.Test.YtgcnkdpfdmgpoaaDoorOpen

import Derived.Test.YtgcnkdpfdmgpoaaDoorKit8

import Derived.Test.YtgcnkdpfdmgpoaaDoorWShift

import Derived.Deep.DeepCutAuto

namespace Go.Proofs.YtgcnkdpfdmgpoaaDoor.hashCrcJoins

open Go.ChangeShapes Go.WideShapes Go.ChangeAt Go.RowKit

set_option linter.unusedVariables false

theorem join_nat (x y : List UInt8) : hi.joinV ((hp.crc x : Nat) : Int) ((hp.crc y : Nat) : Int) ((y.length : Nat) : Int) = hp.crc (x ++ y) := by
  rw [hashShifts.joinV_nat, hb.low_nat (hp.crc_lt x), hb.low_nat (hp.crc_lt y), ← hp.join_crc]
  unfold hp.join
  rw [Nat.mod_eq_of_lt (hp.crc_lt x), Nat.mod_eq_of_lt (hp.crc_lt y)]

/-- 'append(own, b...)', b nil or not -/
theorem append_any (w : World) {ops : Array Oper} {rest : List Oper} {o : Oper} {a : Act} {Q : Exit → Act → World → Prop}
    (hgd : o.guard = none) (s x : Operand) (t : TypeId) (hop : o.op = Op.call { callee := Callee.builtin Builtin.append, args := #[s, x], argTypes := #[t, t] })
    (base : Nat) (e : TypeId) (h1 : Tryd.prog.underlying t = some (.slice e)) (h2 : (Tryd.prog.info? e).map (fun i => (i.zero, i.size, i.bytes)) = some (some (.int .u8 0), 1, 1))
    (v : Value) (k : Nat) (xs : List Value) (hs : a.eval s = v) (hown : w.ownsRow base e 1 v k xs) (hbase : base ≤ w.heap.size)
    (A' : Option Addr) (m c' : Nat) (l' : List UInt8) (hx : a.eval x = .slice A' m c') (hl' : l'.length = m) (hr' : wp.RB w A' l') (hb : k + m ≤ 140737488355328)
    (hK : ∀ v' w', w'.ownsRow base e 1 v' (k + m) (xs ++ wp.bc l') → Below base w w' → wpList Tryd.prog ops Q rest (a.put o.dst v') w') : wpList Tryd.prog ops Q (o :: rest) a w := by
  obtain ⟨i, hi, hz0, hz1, hz2⟩ := info_parts h2
  rcases Nat.eq_zero_or_pos m with h0 | h0
  · subst h0
    have hl0 : l' = [] := List.eq_nil_of_length_eq_zero hl'
    subst hl0
    have hsrc : Src Tryd.prog i.size t (.slice A' 0 c') 0 [] w := by
      cases A' with
      | none => exact Src.ofNil w h1 c'
      | some ad => exact Src.ofSlice w h1 ad 0 c' [] (by simp) (by simp) (by simp)
    obtain ⟨A0, c0, rfl, hc1, hc2, _⟩ := wp.RC.of_own hown
    refine wpList_plain hgd fun K hK' => ?_
    have hrun := run_append_nothing (P := Tryd.prog) w t t o.type e i h1 hi A0 k c0 hc1 _ hsrc
    unfold Oper.wp execOp
    simp only [hop, resolve, invoke, builtin, Sem.run_bind, Sem.run_pure, Result.andThen_ok, List.map_toArray, List.map_cons, List.map_nil, hs, hx, hrun]
    refine hK' _ _ (hK (.slice A0 k c0) w ?_ (Below.refl _ _))
    rw [Nat.add_zero, show wp.bc [] = [] from rfl, List.append_nil]
    exact hown
  · obtain ⟨b', o', rfl, _, _⟩ := hr' (by omega)
    refine wpList_append_own w hgd s x t hop base e i (.int .u8 0) 1 1 h1 hi hz0 hz1 hz2 rfl (by decide) v k xs hs hown ⟨b', o', none⟩ m c' (wp.bc l') hx (by rw [wp.bc_length]; omega) (wk.RB.cells hr') wp.bc_one (by unfold maxLen; omega) (by omega) hbase ?_
    intro v' w' hown' hgr _
    exact hK v' w' hown' ((Below.refl _ _).grown hgr hbase (fun g hg => (hown.lt g hg).1))

set_option maxRecDepth 100000 in
set_option maxHeartbeats 2000000 in
theorem walk (w : World) (hT : hi.TabK w) {A1 : Option Addr} {n1 c1 : Nat} {l1 : List UInt8} (w0 : wo.IsB w A1 n1 c1 l1) {A2 : Option Addr} {n2 c2 : Nat} {l2 : List UInt8} (w1 : wo.IsB w A2 n2 c2 l2) {A3 : Option Addr} {n3 c3 : Nat} {l3 : List UInt8} (w2 : wo.IsB w A3 n3 c3 l3) :
    Calls Tryd.prog 7 #[.slice A1 n1 c1, .slice A2 n2 c2, .slice A3 n3 c3] w fun e w' => e = .returned (.bool true) ∧ Below w.heap.size w w' := by
  obtain ⟨hl1, hnc1, hc1, hr1⟩ := w0
  obtain ⟨hl2, hnc2, hc2, hr2⟩ := w1
  obtain ⟨hl3, hnc3, hc3, hr3⟩ := w2
  have HS := Lib.hid (hi.sanity_true w hT)
  have HR1 := Lib.hid hr1
  have HL1 := Lib.hid hl1
  have HR2 := Lib.hid hr2
  have HL2 := Lib.hid hl2
  have HR3 := Lib.hid hr3
  have HL3 := Lib.hid hl3
  clear hT hr1 hl1 hr2 hl2 hr3 hl3
  by_cases hbig : 400 < n1 ∨ 400 < n2 ∨ 400 < n3
  · by_cases g1 : 400 < n1
    · go_enter Tryd.func7, Tryd.ntmps7
      go_wp2_with fail
      refine HS.out.mono ?_
      rintro e w1 ⟨rfl, hb⟩
      go_wp2_with fail
      go_ret
      exact ⟨rfl, hb⟩
    · by_cases g2 : 400 < n2
      · go_enter Tryd.func7, Tryd.ntmps7
        go_wp2_with fail
        refine HS.out.mono ?_
        rintro e w1 ⟨rfl, hb⟩
        go_wp2_with fail
        go_ret
        exact ⟨rfl, hb⟩
      · have g3 : 400 < n3 := by omega
        clear hbig
        go_enter Tryd.func7, Tryd.ntmps7
        go_wp2_with fail
        refine HS.out.mono ?_
        rintro e w1 ⟨rfl, hb⟩
        go_wp2_with fail
        go_ret
        exact ⟨rfl, hb⟩
  · have g1 : ¬ 400 < n1 := by omega
    have g2 : ¬ 400 < n2 := by omega
    have g3 : ¬ 400 < n3 := by omega
    clear hbig
    go_enter Tryd.func7, Tryd.ntmps7
    go_wp2_with fail
    refine HS.out.mono ?_
    rintro e w1 ⟨rfl, hb⟩
    have HB1 := Lib.hid hb
    clear hb
    go_upto_region 5 with fail
    generalize hB : w.heap.size = B at *
    have HB := Lib.hid hB
    clear hB
    generalize hB2 : w1.heap.size = B2 at *
    have HB2 := Lib.hid hB2
    clear hB2
    have hR1 : wp.RB w1 A1 l1 := wk.RB.below HR1.out (by rw [HB.out]; exact HB1.out)
    have hR2 : wp.RB w1 A2 l2 := wk.RB.below HR2.out (by rw [HB.out]; exact HB1.out)
    have hR3 : wp.RB w1 A3 l3 := wk.RB.below HR3.out (by rw [HB.out]; exact HB1.out)
    have K1 := Lib.hid hR1
    have K2 := Lib.hid hR2
    have K3 := Lib.hid hR3
    clear hR1 hR2 hR3
    have hbl : Below B2 w1 w1 := Below.refl _ _
    have hcur : w1.ownsRow B2 5 1 (.slice none 0 0) 0 [] := World.ownsRow_nil _ _ _ _
    go_wp2_with (at_builtin; refine append_any _ rfl _ _ 22 rfl B2 5 Tryd.underlying22 wi.info5 _ 0 [] rfl hcur ?a1 A1 n1 c1 l1 rfl HL1.out K1.out ?a2 ?_)
    case a1 => rw [HB2.out]; exact Nat.le_refl _
    case a2 => omega
    intro v2 w2 hown2 hb2
    have G2 : Hid (B2 ≤ w2.heap.size) := by have := hb2.size; have := HB2.out; show _ ≤ _; omega
    have K2 := Lib.hid (wk.RB.below K2.out (by rw [HB2.out]; exact hb2))
    have K3 := Lib.hid (wk.RB.below K3.out (by rw [HB2.out]; exact hb2))
    have HB22 := Lib.hid hb2
    clear hcur hbl hb2
    go_wp2_with (at_builtin; refine append_any _ rfl _ _ 22 rfl B2 5 Tryd.underlying22 wi.info5 _ n1 (wp.bc l1) rfl hown2 G2.out A2 n2 c2 l2 rfl HL2.out K2.out ?b2 ?_)
    case b2 => omega
    intro v3 w3 hown3 hb3
    rw [← wp.bc_append] at hown3
    have G3 : Hid (B2 ≤ w3.heap.size) := by have := hb3.size; have := G2.out; show _ ≤ _; omega
    have HB23 := Lib.hid (HB22.out.trans hb3)
    have K3 : Hid (wp.RB w3 A3 l3) := fun hlen => by
      obtain ⟨b, o, e, hlt, hcell⟩ := HR3.out hlen
      refine ⟨b, o, e, by have := G3.out; have := HB2.out; have := HB1.out.size; have := HB.out; omega, fun j u hu => ?_⟩
      rw [HB23.out.cell (p := ⟨b, o + j, none⟩) (by show b < B2; have := HB2.out; have := HB1.out.size; have := HB.out; omega), HB1.out.cell (p := ⟨b, o + j, none⟩) (by show b < B; have := HB.out; omega)]
      exact hcell j u hu
    clear hown2 hb3
    go_wp2_with (at_builtin; refine append_any _ rfl _ _ 22 rfl B2 5 Tryd.underlying22 wi.info5 _ (n1 + n2) (wp.bc (l1 ++ l2)) rfl hown3 G3.out A3 n3 c3 l3 rfl HL3.out K3.out ?d2 ?_)
    case d2 => omega
    intro v4 w4 hown4 hb4
    rw [← wp.bc_append] at hown4
    have HB24 := Lib.hid (HB23.out.trans hb4)
    obtain ⟨AW, cW, rfl, hcW1, hcW2, hRW⟩ := wp.RC.of_own hown4
    have HRW := Lib.hid hRW.rb
    have hall : ∀ (A : Option Addr) (l : List UInt8), wp.RB w A l → ∀ w', Below B2 w1 w' → B2 ≤ w'.heap.size → wp.RB w' A l := fun A l h w' hb hsz hlen => by
      obtain ⟨b, o, e, hlt, hcell⟩ := h hlen
      refine ⟨b, o, e, by have := HB2.out; have := HB1.out.size; have := HB.out; omega, fun j u hu => ?_⟩
      rw [hb.cell (p := ⟨b, o + j, none⟩) (by show b < B2; have := HB2.out; have := HB1.out.size; have := HB.out; omega), HB1.out.cell (p := ⟨b, o + j, none⟩) (by show b < B; have := HB.out; omega)]
      exact hcell j u hu
    have HALL := Lib.hid hall
    have hlen : (l1 ++ l2 ++ l3).length = n1 + n2 + n3 := by rw [List.length_append, List.length_append, HL1.out, HL2.out, HL3.out]
    have HLEN := Lib.hid hlen
    have J1 := Lib.hid (join_nat l1 l2)
    have J2 := Lib.hid (join_nat (l1 ++ l2) l3)
    have J3 := Lib.hid (join_nat l2 l3)
    have J4 := Lib.hid (join_nat l1 (l2 ++ l3))
    rw [List.length_append, HL2.out, HL3.out, ← List.append_assoc] at J4
    rw [HL2.out] at J1
    rw [HL3.out] at J2 J3
    have G4 : Hid (B2 ≤ w4.heap.size) := by have := hb4.size; have := G3.out; show _ ≤ _; omega
    have HC1 := Lib.hid (fun w' => hi.crc40 A1 n1 c1 l1 w' HL1.out hnc1 hc1)
    have HC2 := Lib.hid (fun w' => hi.crc40 A2 n2 c2 l2 w' HL2.out hnc2 hc2)
    have HC3 := Lib.hid (fun w' => hi.crc40 A3 n3 c3 l3 w' HL3.out hnc3 hc3)
    have HC4 := Lib.hid (fun w' => hi.crc40 AW (n1 + n2 + n3) cW (l1 ++ l2 ++ l3) w' HLEN.out hcW1 (by unfold maxLen at hcW2; omega))
    have HJ1 := Lib.hid (fun w' => hi.join_calls ((hp.crc l1 : Nat) : Int) ((hp.crc l2 : Nat) : Int) ((n2 : Nat) : Int) w' (by have := hp.crc_lt l1; omega) (by have := hp.crc_lt l2; omega) (by omega))
    have HJ2 := Lib.hid (fun w' => hi.join_calls ((hp.crc (l1 ++ l2) : Nat) : Int) ((hp.crc l3 : Nat) : Int) ((n3 : Nat) : Int) w' (by have := hp.crc_lt (l1 ++ l2); omega) (by have := hp.crc_lt l3; omega) (by omega))
    have HJ3 := Lib.hid (fun w' => hi.join_calls ((hp.crc l2 : Nat) : Int) ((hp.crc l3 : Nat) : Int) ((n3 : Nat) : Int) w' (by have := hp.crc_lt l2; omega) (by have := hp.crc_lt l3; omega) (by omega))
    have HJ4 := Lib.hid (fun w' => hi.join_calls ((hp.crc l1 : Nat) : Int) ((hp.crc (l2 ++ l3) : Nat) : Int) ((n2 + n3 : Nat) : Int) w' (by have := hp.crc_lt l1; omega) (by have := hp.crc_lt (l2 ++ l3); omega) (by omega))
    rw [J1.out] at HJ1
    rw [J2.out] at HJ2
    rw [J3.out] at HJ3
    rw [J4.out] at HJ4
    have hsum : ((n2 : Nat) : Int) + (n3 : Int) = ((n2 + n3 : Nat) : Int) := by omega
    rw [← hsum] at HJ4
    clear hown3 hown4 hb4 hRW hall hlen hsum J1 J2 J3 J4 K1 K2 K3
    generalize hp.crc l1 = q1 at *
    generalize hp.crc l2 = q2 at *
    generalize hp.crc l3 = q3 at *
    generalize hp.crc (l1 ++ l2 ++ l3) = q123 at *
    generalize hp.crc (l1 ++ l2) = q12 at *
    generalize hp.crc (l2 ++ l3) = q23 at *
    go_wp2_with fail
    refine (HC1.out w4 (HALL.out A1 l1 HR1.out w4 HB24.out G4.out)).mono ?_
    rintro e w5 ⟨rfl, hb5⟩
    have HB25 := Lib.hid (HB24.out.trans (hb5.mono G4.out))
    have G5 : Hid (B2 ≤ w5.heap.size) := Nat.le_trans G4.out hb5.size
    have HRW := Lib.hid (wk.RB.below HRW.out hb5)
    clear hb5
    go_wp2_with fail
    refine (HC2.out w5 (HALL.out A2 l2 HR2.out w5 HB25.out G5.out)).mono ?_
    rintro e w6 ⟨rfl, hb6⟩
    have HB26 := Lib.hid (HB25.out.trans (hb6.mono G5.out))
    have G6 : Hid (B2 ≤ w6.heap.size) := Nat.le_trans G5.out hb6.size
    have HRW := Lib.hid (wk.RB.below HRW.out hb6)
    clear hb6
    go_wp2_with fail
    refine (HC3.out w6 (HALL.out A3 l3 HR3.out w6 HB26.out G6.out)).mono ?_
    rintro e w7 ⟨rfl, hb7⟩
    have HB27 := Lib.hid (HB26.out.trans (hb7.mono G6.out))
    have G7 : Hid (B2 ≤ w7.heap.size) := Nat.le_trans G6.out hb7.size
    have HRW := Lib.hid (wk.RB.below HRW.out hb7)
    clear hb7
    go_wp2_with fail
    refine (HJ1.out w7).mono ?_
    rintro e w' ⟨rfl, rfl⟩
    go_wp2_with fail
    refine (HJ2.out w7).mono ?_
    rintro e w' ⟨rfl, rfl⟩
    go_wp2_with fail
    refine (HJ3.out w7).mono ?_
    rintro e w' ⟨rfl, rfl⟩
    go_wp2_with fail
    refine (HJ4.out w7).mono ?_
    rintro e w' ⟨rfl, rfl⟩
    go_wp2_with fail
    refine (HC4.out w7 HRW.out).mono ?_
    rintro e w8 ⟨rfl, hb8⟩
    have HB28 := Lib.hid (HB27.out.trans (hb8.mono G7.out))
    clear hb8
    go_wp2_with fail
    go_ret
    refine ⟨rfl, ?_⟩
    rw [HB.out]
    exact HB1.out.trans (HB28.out.mono (by have := HB1.out.size; have := HB2.out; have := HB.out; omega))
end Go.Proofs.YtgcnkdpfdmgpoaaDoor.hashCrcJoins
