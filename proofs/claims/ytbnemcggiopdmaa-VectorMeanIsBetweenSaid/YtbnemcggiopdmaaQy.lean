/- Lists of lists: how they come in; the reference's All, Mean. -/
import Derived.Test.YtbnemcggiopdmaaQp

namespace Go.Proofs.Ytbnemcggiopdmaa.vq
def allv (L : List (List Int)) (most : Int) : Bool := L.all (alike (L.headD [])) && (decide (1 ≤ L.length) && decide ((L.length : Int) ≤ most))
theorem allv_iff {L : List (List Int)} : allv L 20 = true ↔ (∀ l ∈ L, alike (L.headD []) l = true) ∧ 1 ≤ L.length ∧ L.length ≤ 20 := by
  simp only [allv, Bool.and_eq_true, List.all_eq_true, decide_eq_true_eq]
  constructor
  · rintro ⟨h1, h2, h3⟩; exact ⟨h1, h2, by omega⟩
  · rintro ⟨h1, h2, h3⟩; exact ⟨h1, h2, by omega⟩
/-- what the vectors of such a list are -/
theorem allv_vec {L : List (List Int)} (h : allv L 20 = true) : ∃ d, (∀ l ∈ L, l.length = d) ∧ (∀ l ∈ L, Vec l) ∧ 1 ≤ L.length ∧ L.length ≤ 20 := by
  obtain ⟨h1, h2, h3⟩ := allv_iff.1 h
  refine ⟨(L.headD []).length, fun l hl => ?_, fun l hl => ?_, h2, h3⟩
  · exact (alike_iff.1 (h1 l hl)).1.symm
  · exact (alike_iff.1 (h1 l hl)).2.2
def col (L : List (List Int)) (i : Nat) : Int := sm (L.map fun l => l.getD i 0)
theorem sm_append (a b : List Int) : sm (a ++ b) = sm a + sm b := by
  induction a with
  | nil => simp [sm]
  | cons x a ih => simp only [List.cons_append, sm, ih]; omega
theorem col_snoc {L : List (List Int)} {k : Nat} {l : List Int} (h : L[k]? = some l) (i : Nat) : col (L.take (k + 1)) i = col (L.take k) i + l.getD i 0 := by
  rw [take_snoc h, col, List.map_append, sm_append]; simp [col, sm]
theorem sums_at {d i : Nat} (hi : i < d) : ∀ (T : List (List Int)) (m : List Int), m.length = d → (∀ l ∈ T, l.length = d) → (sums m T)[i]? = some (m.getD i 0 + col T i)
  | [], m, hm, _ => by simp [sums, col, sm, List.getD, List.getElem?_eq_getElem (show i < m.length by omega)]
  | l :: T, m, hm, hT => by
    have hl := hT l (by simp)
    have ih := sums_at hi T (vadd m l) (by rw [vadd_length (by omega)]; exact hm) (fun x hx => hT x (by simp [hx]))
    have e : sums m (l :: T) = sums (vadd m l) T := rfl
    rw [e, ih]
    have h1 : m[i]? = some (m.getD i 0) := by simp [List.getD, List.getElem?_eq_getElem (show i < m.length by omega)]
    have h2 : l[i]? = some (l.getD i 0) := by simp [List.getD, List.getElem?_eq_getElem (show i < l.length by omega)]
    have h3 := vadd_at h1 h2
    have h4 : (vadd m l).getD i 0 = m.getD i 0 + l.getD i 0 := by simp only [List.getD, h3, Option.getD_some]
    rw [h4]
    simp only [col, List.map_cons, sm]
    congr 1
    omega
theorem mean_at {L : List (List Int)} {d i : Nat} (hi : i < d) (h1 : 1 ≤ L.length) (hd : ∀ l ∈ L, l.length = d) : (mean L)[i]? = some (col L i / (L.length : Int)) := by
  obtain ⟨m, T, rfl⟩ : ∃ m T, L = m :: T := by
    cases L with
    | nil => simp at h1
    | cons m T => exact ⟨m, T, rfl⟩
  have h := sums_at hi T m (hd m (by simp)) (fun x hx => hd x (by simp [hx]))
  have e : mean (m :: T) = (sums m T).map (· / ((m :: T).length : Int)) := rfl
  rw [e, List.getElem?_map, h]
  simp [col, sm]
theorem mean_length {L : List (List Int)} {d : Nat} (h1 : 1 ≤ L.length) (hd : ∀ l ∈ L, l.length = d) : (mean L).length = d := by
  obtain ⟨m, T, rfl⟩ : ∃ m T, L = m :: T := by
    cases L with
    | nil => simp at h1
    | cons m T => exact ⟨m, T, rfl⟩
  have e : mean (m :: T) = (sums m T).map (· / ((m :: T).length : Int)) := rfl
  rw [e, List.length_map, sums_length T m (hd m (by simp)) (fun x hx => hd x (by simp [hx]))]
theorem col_bd {L : List (List Int)} {i : Nat} (h : ∀ l ∈ L, ∀ x ∈ l, -1000 ≤ x ∧ x ≤ 1000) : -(1000 * (L.length : Int)) ≤ col L i ∧ col L i ≤ 1000 * L.length := by
  induction L with
  | nil => simp [col, sm]
  | cons l L ih =>
    have h1 := ih fun x hx => h x (by simp [hx])
    have h2 : -1000 ≤ l.getD i 0 ∧ l.getD i 0 ≤ 1000 := by
      rcases Nat.lt_or_ge i l.length with hl | hl
      · have := h l (by simp) l[i] (List.getElem_mem hl)
        simpa [List.getD, List.getElem?_eq_getElem hl] using this
      · simp [List.getD, List.getElem?_eq_none hl]
    simp only [col, List.map_cons, sm, List.length_cons] at h1 ⊢
    omega
end Go.Proofs.Ytbnemcggiopdmaa.vq

namespace Go.Proofs.Ytbnemcggiopdmaa.vk

open Go.ChangeShapes Go.WideShapes Go.ChangeAt Go.RowKit

set_option linter.unusedVariables false

section

variable {H : Type} {enc : TypeId × Value → H} {P : Program} {w : World} {base : Nat} {spare : Nat → Bool} {held : Bool} {t e e0 : TypeId} {a : Option Addr} {n c fuel : Nat} {x : DataW H × List MemPlace}
theorem openVV (ht : P.underlying t = some (.slice e)) (he : P.underlying e = some (.slice e0)) (he0 : P.underlying e0 = some (.int .i64)) (hc : P.cellsOf e = 1) (hc0 : P.cellsOf e0 = 1)
    (h : DataW.trod enc P w base spare held fuel t [.slice a n c] = some x) : ∃ L, IsVV w a n c L := by
  rcases DataW.trod_slice ht h with ⟨hcs, _⟩ | ⟨ad, len, cap, elems, rest, m, _, hcs, _, hb, hl, hm, hlen, hel, _⟩
  · simp only [List.cons.injEq, Value.slice.injEq, and_true] at hcs
    obtain ⟨rfl, rfl, rfl⟩ := hcs
    exact ⟨[], rfl, Nat.le_refl _, by omega, fun k l hk => by simp at hk⟩
  · simp only [List.cons.injEq, Value.slice.injEq, and_true] at hcs
    obtain ⟨rfl, rfl, rfl⟩ := hcs
    rw [hc] at hel
    have hone : ∀ i, i < n → ∃ l : List Int, ∃ A' n' c', w.cell? (ad.add i) = some (.slice A' n' c') ∧ wo.IsI w A' n' c' l := fun i hi => by
      have hi' := hel i hi
      rw [List.getElem?_eq_getElem (by omega), Nat.mul_one] at hi'
      cases hcc : w.cells? base (ad.add i) 1 with
      | none => rw [hcc] at hi'; simp at hi'
      | some cs =>
        rw [hcc] at hi'
        simp only [Option.bind_some] at hi'
        obtain ⟨hlen1, _, hcell⟩ := World.cells?_some hcc
        have h0 := hcell 0 (by omega)
        have hadd : (ad.add i).add 0 = ad.add i := by unfold Addr.add; simp
        rw [hadd] at h0
        rcases DataW.trod_slice he hi' with ⟨hcs, _⟩ | ⟨ad', len', cap', _, _, _, _, hcs, _⟩
        · subst hcs
          obtain ⟨l, hI⟩ := wo.openI he he0 hc0 hi'
          exact ⟨l, _, _, _, by simpa using h0, hI⟩
        · subst hcs
          obtain ⟨l, hI⟩ := wo.openI he he0 hc0 hi'
          exact ⟨l, _, _, _, by simpa using h0, hI⟩
    obtain ⟨L, hLl, hLq⟩ := wo.exists_list n hone
    refine ⟨L, hLl, hl, by unfold maxLen at hm; omega, fun k l hk => ?_⟩
    have hkn : k < n := by
      rcases Nat.lt_or_ge k n with h' | h'
      · exact h'
      · rw [List.getElem?_eq_none (by omega)] at hk; cases hk
    obtain ⟨A', n', c', hcell, hI⟩ := hLq k l hk
    obtain ⟨A0, m0, k0, hc00, _⟩ := (hone 0 (by omega)).choose_spec
    obtain ⟨b, o, rfl⟩ := wo.at_plain hc00
    have hlt := block_lt_of_cell hcell
    rw [wk.add_at] at hcell hlt
    exact ⟨b, o, A', n', c', rfl, hlt, hcell, hI⟩
end
theorem isVV_get {w : World} {A : Option Addr} {n c k : Nat} {L : List (List Int)} (h : IsVV w A n c L) (hk : k < n) : ∃ b o A' n' c' l, A = some ⟨b, o, none⟩ ∧ b < w.heap.size ∧ w.cell? ⟨b, o + k, none⟩ = some (.slice A' n' c') ∧ wo.IsI w A' n' c' l ∧ L[k]? = some l := by
  have hl : k < L.length := by have := h.1; omega
  obtain ⟨b, o, A', n', c', h1, h2, h3, h4⟩ := h.2.2.2 k L[k] (List.getElem?_eq_getElem hl)
  exact ⟨b, o, A', n', c', L[k], h1, h2, h3, h4, List.getElem?_eq_getElem hl⟩
theorem dropL_at {α : Type} {l : List α} {k : Nat} {x : α} (h : l[k]? = some x) : l.drop k = x :: l.drop (k + 1) := by
  obtain ⟨hk, rfl⟩ := List.getElem?_eq_some_iff.1 h
  exact List.drop_eq_getElem_cons hk
set_option maxRecDepth 100000 in
set_option maxHeartbeats 1000000 in
theorem rall_calls (A : Option Addr) (n c : Nat) (L : List (List Int)) (w : World) (h : IsVV w A n c L) :
    Calls Try.prog 29 #[.slice A n c, .int .i64 20] w fun e w' => e = .returned (.bool (vq.allv L 20)) ∧ ∃ q, w' = w.drewN q := by
  have hE : vq.allv L 20 = (L.all (vq.alike (L.headD [])) && (decide (1 ≤ n) && decide ((n : Int) ≤ 20))) := by simp only [vq.allv, h.1]
  rw [hE]
  have H := Lib.hid h
  have hm := h.2.2.1
  have hnc := h.2.1
  clear h hE
  go_enter Try.func29, Try.ntmps29
  go_wp2_with fail
  go_loopg [5] n (fun g x wr => ∃ k q : Nat, k + g = n ∧ x = .int .i64 (k : Int) ∧ wr = w.drewN q ∧ (L.drop k).all (vq.alike (L.headD [])) = L.all (vq.alike (L.headD [])))
  case atStart => exact ⟨0, 0, by omega, rfl, rfl, rfl⟩
  case round =>
    obtain ⟨k, q, hk, rfl, rfl, hr⟩ := hrel
    have HK := Lib.hid hk
    have HR := Lib.hid hr
    have hkn : k ≤ n := by omega
    clear hk hr
    by_cases hlt : k < n
    · obtain ⟨b, o, A1, n1, c1, l1, rfl, hb1, hc1, hI1, hL1⟩ := isVV_get H.out hlt
      obtain ⟨b0, o0, A0, n0, c0, l0, e0, hb0, hc0, hI0, hL0⟩ := isVV_get H.out (k := 0) (by omega)
      cases e0
      rw [Nat.add_zero] at hc0
      have hh : L.headD [] = l0 := by cases L <;> simp_all
      have hr := HR.out
      rw [dropL_at hL1, List.all_cons, hh] at hr
      have HR2 := Lib.hid hr
      have HH := Lib.hid hh
      have hn0 : (0 : Int) < (n : Int) := by omega
      have hn1' : (k : Int) < (n : Int) := by omega
      have hn2' : 0 < n := by omega
      have HAL := Lib.hid (fun q' => ralike_calls A0 A1 n0 n1 c0 c1 l0 l1 (w.drewN (q + q')) (isI_drewN hI0 _) (isI_drewN hI1 _))
      clear hr hI1 hI0 hL1 hL0 hh
      cases hal : vq.alike l0 l1
      · rw [hal] at HAL HR2
        go_wp2_with fail
        go_quiet (exact (HAL.out _).mono fun e w'' hh => ⟨hh.1, _, hh.2⟩)
        go_wp2_with fail
        go_ret
        have := HR2.out
        rw [Bool.false_and] at this
        exact ⟨by rw [HH.out, ← this]; simp, _, by first | rfl | exact drewN_add _ _ _⟩
      · rw [hal] at HAL HR2
        go_wp2_with fail
        go_quiet (exact (HAL.out _).mono fun e w'' hh => ⟨hh.1, _, hh.2⟩)
        go_wp2_with fail
        go_roundg (gk - 1)
        case measure => have := HK.out; omega
        case rel =>
          refine ⟨k + 1, _, by have := HK.out; omega, by go_num, rfl, ?_⟩
          have := HR2.out
          rw [Bool.true_and] at this
          rw [HH.out]
          exact this
    · have hall : L.all (vq.alike (L.headD [])) = true := by
        have := HR.out
        rw [List.drop_of_length_le (by have := H.out.1; omega)] at this
        exact this.symm
      have HALL := Lib.hid hall
      clear hall
      by_cases h1 : 1 ≤ n
      · go_wp2_with fail
        go_ret
        exact ⟨by rw [HALL.out]; simp [h1], q, rfl⟩
      · go_wp2_with fail
        go_ret
        exact ⟨by first | rfl | simp [h1], q, rfl⟩
set_option maxRecDepth 100000 in
set_option maxHeartbeats 4000000 in
theorem rmean_calls (A : Option Addr) (n c d : Nat) (L : List (List Int)) (w : World) (h : IsVV w A n c L) (hd : ∀ l ∈ L, l.length = d) (hv : ∀ l ∈ L, vq.Vec l) (h1 : 1 ≤ n) (hn : n ≤ 1000) :
    Calls Try.prog 31 #[.slice A n c] w fun e w' => ∃ A' c', e = .returned (.slice A' d c') ∧ wo.IsI w' A' d c' (vq.mean L) ∧ Below w.heap.size w w' := by
  obtain ⟨i0, hi, hz0, hz1, hz2⟩ := info_parts wi.infoI
  have hLn := h.1
  have hm := h.2.2.1
  have hnc := h.2.1
  obtain ⟨b, o, A0, n0, c0, l0, rfl, hb0, hc0, hI0, hL0⟩ := isVV_get h (k := 0) (by omega)
  rw [Nat.add_zero] at hc0
  have hn0 : n0 = d := by rw [← hI0.1]; exact hd _ (List.mem_of_getElem? hL0)
  subst hn0
  have hd32 : n0 ≤ 32 := by have := (hv _ (List.mem_of_getElem? hL0)).le; have := hI0.1; omega
  have HML : Hid ((vq.mean L).length = n0) := vq.mean_length (by omega) hd
  have HMA : Hid (∀ i, i < n0 → (vq.mean L)[i]? = some (vq.col L i / (n : Int))) := fun i hi => by rw [← hLn]; exact vq.mean_at hi (by omega) hd
  have HCB : Hid (∀ k i, -1000000 ≤ vq.col (L.take k) i ∧ vq.col (L.take k) i ≤ 1000000) := fun k i => by
    have := vq.col_bd (L := L.take k) (i := i) (fun l hl x hx => ⟨(hv l (List.mem_of_mem_take hl)).lo x hx, (hv l (List.mem_of_mem_take hl)).hi x hx⟩)
    have h2 : (L.take k).length ≤ n := by rw [List.length_take]; omega
    omega
  have HD := Lib.hid hd
  have H := Lib.hid h
  have HL := Lib.hid hLn
  have HI0 := Lib.hid hI0
  clear h hd hv hLn hI0 hL0
  go_enter Try.func31, Try.ntmps31
  go_wp2_with fail
  generalize hG : w.heap.size = B at *
  have HG := Lib.hid hG
  clear hG
  go_loopg [3, 4] n0 (fun g v x wr => ∃ (i : Nat), i + g = n0 ∧ x = .int .i64 (i : Int) ∧ wr.ownsRow B 3 1 v i (iv ((vq.mean L).take i)) ∧ Below B w wr)
  case atStart => exact ⟨0, by omega, rfl, World.ownsRow_nil _ _ _ _, Below.refl _ _⟩
  case round =>
    obtain ⟨i, hi', rfl, hown, hbel⟩ := hrel
    have HK := Lib.hid hi'
    have HOWN := Lib.hid hown
    have HBEL := Lib.hid hbel
    have hin : i ≤ n0 := by omega
    have HBW : Hid (B ≤ wr.heap.size) := by have := hbel.size; have := HG.out; show _ ≤ _; omega
    have hcw : wr.cell? ⟨b, o, none⟩ = some (.slice A0 n0 c0) := (hbel.cell (p := ⟨b, o, none⟩) (by first | exact hb0 | omega)).trans hc0
    clear hi' hown hbel
    by_cases hlt : i < n0
    · have HV := Lib.hid (isVV_below H.out (by rw [HG.out]; exact HBEL.out))
      have hlt0 : (i : Int) < (n0 : Int) := by omega
      go_wp2_with fail
      go_loopg [5, 6] n (fun g2 s y wr2 => ∃ (k : Nat) (z : Int), k + g2 = n ∧ y = .int .i64 (k : Int) ∧ s = .int .i64 z ∧ z = vq.col (L.take k) i ∧ -1000000 ≤ z ∧ z ≤ 1000000 ∧ wr2 = wr)
      case atStart => exact ⟨0, 0, by omega, rfl, rfl, by simp [vq.col, vq.sm], by omega, by omega, rfl⟩
      case round =>
        obtain ⟨k, z, hk, rfl, rfl, hz, hz1', hz2', rfl⟩ := hrel
        have HK2 := Lib.hid hk
        have HZ := Lib.hid hz
        have hkn : k ≤ n := by omega
        clear hk hz
        by_cases hlt2 : k < n
        · obtain ⟨b1, o1, A1, n1, c1, l1, e1, hb1, hc1, hI1, hL1⟩ := isVV_get HV.out hlt2
          cases e1
          have hn1 : n1 = n0 := by rw [← hI1.1]; exact HD.out _ (List.mem_of_getElem? hL1)
          subst hn1
          obtain ⟨b2, o2, x, rfl, hx, hlx, hxb1, hxb2⟩ := isI_at hI1 hlt
          have hcol := vq.col_snoc hL1 i
          have hgd : l1.getD i 0 = x := by simp [List.getD, hlx]
          rw [hgd] at hcol
          have hb3 := HCB.out (k + 1) i
          have hm1 := hI1.2.2.1
          have hnc1 := hI1.2.1
          have HCOL := Lib.hid hcol
          have hzx : -1000000 ≤ z + x ∧ z + x ≤ 1000000 := by have := HZ.out; omega
          clear hI1 hL1 hlx hgd hcol hb3
          go_wp2_with fail
          go_roundg (gk - 1)
          case measure => have := HK2.out; omega
          case rel => exact ⟨k + 1, z + x, by have := HK2.out; omega, by go_num, rfl, by have := HCOL.out; have := HZ.out; omega, by omega, by omega, rfl⟩
        · obtain rfl : k = n := by omega
          have hzc : z = vq.col L i := by have := HZ.out; rw [List.take_of_length_le (by have := HL.out; omega)] at this; exact this
          have HF := Lib.hid (floor_calls z k wr h1 (by omega) (by omega) (by omega))
          have hzb := ediv_bd (y := z) (n := k) h1
          have HMI : Hid ((vq.mean L)[i]? = some (z / (k : Int))) := by show _ = _; rw [hzc]; exact HMA.out i hlt
          clear hzc
          go_wp2_with fail
          refine HF.out.mono ?_
          rintro e w' ⟨rfl, rfl⟩
          go_wp2_with (at_builtin; refine wpList_append_own _ rfl _ _ 22 rfl B 3 i0 (.int .i64 0) 1 8 Try.underlying22 hi hz0 hz1 hz2 rfl (by decide) _ _ _ rfl (HOWN.out.alloc _) ⟨w'.heap.size, 0, none⟩ 1 1 [.int .i64 (z / (k : Int))] rfl rfl ?c1 ?c2 ?c3 ?c4 ?c5 ?_)
          case c1 => exact cell_one_new _ _ _
          case c2 => simp [Value.oneCell']
          case c3 => unfold maxLen; omega
          case c4 => omega
          case c5 => have := HBW.out; simp; omega
          intro v' w2 hown2 hgrow _
          have hbe : Below B w w2 := (HBEL.out.alloc HBW.out _).grown hgrow (by have := HBW.out; simp; omega) (fun q hq => (HOWN.out.lt q hq).1)
          have HB2 := Lib.hid hbe
          have HO2 := Lib.hid hown2
          clear hown2 hgrow hbe
          go_wp2_with fail
          go_roundg (n0 - (i + 1))
          case measure => have := HK.out; omega
          case rel =>
            refine ⟨i + 1, by have := HK.out; omega, by go_num, ?_, HB2.out⟩
            have h := HO2.out
            rw [vq.take_snoc HMI.out]
            unfold iv at h ⊢
            rw [List.map_append]
            simpa using h
    · obtain rfl : i = n0 := by omega
      have ho := HOWN.out
      rw [List.take_of_length_le (by have := HML.out; omega)] at ho
      obtain ⟨A2, c2, rfl, hI⟩ := isI_of_own ho (fun x hx => by
        obtain ⟨j, hj, rfl⟩ := List.mem_iff_getElem.1 hx
        have h2 := HMA.out j (by have := HML.out; omega)
        rw [List.getElem?_eq_getElem hj] at h2
        have h3 := HCB.out L.length j
        rw [List.take_length] at h3
        have h4 := ediv_bd (y := vq.col L j) (n := n) h1
        have h5 : (vq.mean L)[j] = vq.col L j / (n : Int) := by simpa using h2
        rw [h5]
        omega)
      have HI := Lib.hid hI
      clear ho hI
      go_wp2_with fail
      go_ret
      exact ⟨A2, c2, rfl, HI.out, by rw [HG.out]; exact HBEL.out⟩
end Go.Proofs.Ytbnemcggiopdmaa.vk
