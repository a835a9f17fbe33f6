/- The reference's Of. -/
import Derived.Test.YteeoogcchgiffaaIb

namespace Go.Proofs.Yteeoogcchgiffaa.bk

open Go.ChangeShapes Go.WideShapes Go.ChangeAt Go.RowKit

open Go.Proofs.Yteeoogcchgiffaa.bq Go.Proofs.Yteeoogcchgiffaa.vk Go.Proofs.Yteeoogcchgiffaa.wk

set_option linter.unusedVariables false
attribute [local go_sem] Oper.semAt_some
theorem pl_none {l : List H} {j : Nat} (h : Pl l (ofL l j) l.length (-1)) (hj : (ofL l j).length = j) : bst l = ofL l j := by
  have hall : ∀ x ∈ l, hasI (ofL l j) x = true := by
    rcases h with ⟨_, h2⟩ | ⟨i, x, h1, _⟩
    · rwa [List.take_length] at h2
    · omega
  have h1 := pigeon (a := (bst l).map fun x : H => x.1) (b := (ofL l j).map fun x : H => x.1) (lst_bst l).2 fun i hi => by
    obtain ⟨x, hx, rfl⟩ := List.mem_map.1 hi
    exact hasI_iff.1 (hall x (mem_bst.1 hx).1)
  rw [List.length_map, List.length_map, hj] at h1
  unfold ofL
  rw [List.take_of_length_le h1]
theorem pl_next {l : List H} {j i : Nat} (h : Pl l (ofL l j) l.length (i : Int)) (hj : (ofL l j).length = j) : ∃ x, l[i]? = some x ∧ ofL l (j + 1) = ofL l j ++ [x] := by
  rcases h with ⟨h1, _⟩ | ⟨i', x, h1, _, hx, hn, hmin⟩
  · omega
  · obtain rfl : i' = i := by omega
    rw [List.take_length] at hmin
    refine ⟨x, hx, ?_⟩
    have hxl := List.mem_of_getElem? hx
    have hout : ∀ g : H, g.1 = x.1 → hasI (ofL l j) g = false := fun g e => by
      have : hasI (ofL l j) g = hasI (ofL l j) x := by unfold hasI; rw [e]
      rw [this, hn]
    have hb : x ∈ bst l := mem_bst.2 ⟨hxl, fun g hg e => hmin g hg (hout g e)⟩
    obtain ⟨m, hm, hme⟩ := List.mem_iff_getElem.1 hb
    have hmj : j ≤ m := by
      refine Nat.le_of_not_lt fun hlt => ?_
      have : x ∈ ofL l j := by
        unfold ofL
        exact List.mem_iff_getElem.2 ⟨m, by rw [List.length_take]; omega, by rw [List.getElem_take]; exact hme⟩
      have h2 : hasI (ofL l j) x = true := hasI_iff.2 (List.mem_map.2 ⟨x, this, rfl⟩)
      rw [hn] at h2; cases h2
    have hjl : j < (bst l).length := by omega
    have hmj2 : m = j := by
      refine Nat.le_antisymm (Nat.le_of_not_lt fun hlt => ?_) hmj
      have hz : (bst l)[j] ∈ bst l := List.getElem_mem hjl
      have hzn : hasI (ofL l j) (bst l)[j] = false := by
        rw [← Bool.not_eq_true, hasI_iff]
        intro hh
        obtain ⟨y, hy, e⟩ := List.mem_map.1 hh
        obtain ⟨q, hq, hqe⟩ := List.mem_iff_getElem.1 hy
        unfold ofL at hq hqe
        rw [List.length_take] at hq
        rw [List.getElem_take] at hqe
        have hyb : y ∈ bst l := List.mem_of_mem_take hy
        have h3 := id_bst hyb hz e
        have h4 := List.pairwise_iff_getElem.1 (asc_bst l) q j (by omega) hjl (by omega)
        rw [hqe, h3, lt_irrefl] at h4
        cases h4
      have h1 := hmin _ (mem_bst.1 hz).1 hzn
      have h2 := List.pairwise_iff_getElem.1 (asc_bst l) j m hjl hm hlt
      rw [hme, h1] at h2
      cases h2
    subst hmj2
    unfold ofL
    rw [List.take_add_one, List.getElem?_eq_getElem hm, hme]; rfl
theorem ofL_stop {l : List H} {j : Nat} (k : Nat) (h : bst l = ofL l j) (hj : (ofL l j).length = j) (hk : j ≤ k) : ofL l k = ofL l j := by
  have : (bst l).length = j := by rw [h, hj]
  unfold ofL
  rw [List.take_of_length_le (by omega), List.take_of_length_le (by omega)]
set_option maxRecDepth 100000 in
set_option maxHeartbeats 4000000 in
theorem rof_calls {l : List H} {A : Option Addr} {n c : Nat} (k : Int) (w : World) (h : IsH w A n c l) (hk : k ≤ 1000000) : Calls Try.prog 19 #[.slice A n c, .int .i64 k] w fun e w' => ∃ A' n' c', e = .returned (.slice A' n' c') ∧ IsH w' A' n' c' (ofL l k.toNat) ∧ Below w.heap.size w w' := by
  have hm := h.2.2.1
  have hnc := h.2.1
  have HS := Lib.hid h
  have HLN := Lib.hid h.1
  clear h
  go_enter Try.func19, Try.ntmps19
  go_wp2_with fail
  go_loopg [5] k.toNat (fun g y wr => ∃ (j : Nat) (A1 : Option Addr) (c1 : Nat), j + g = k.toNat ∧ y = .slice A1 j c1 ∧ wr.ownsRow w.heap.size 27 3 (.slice A1 j c1) j (fl (ofL l j)) ∧ Below w.heap.size w wr)
  case atStart => exact ⟨0, none, 0, by omega, rfl, World.ownsRow_nil _ _ _ _, Below.refl _ _⟩
  case round =>
    obtain ⟨j, A1, c1, hj, rfl, hown, hbel⟩ := hrel
    have HWD : ∀ m : Nat, ∀ r ∈ ofL l m, Wd r := fun m r hr => HS.out.2.2.2.2.1 r (ofL_mem hr)
    obtain ⟨A2, c2, e1, hI⟩ := isH_of_own hown (HWD j)
    cases e1
    have HJ := Lib.hid hj
    have HOWN := Lib.hid hown
    have HBEL := Lib.hid hbel
    have HI := Lib.hid hI
    have hlj := hI.1
    have HLJ := Lib.hid hlj
    have hjc := hI.2.1
    have hjm := hI.2.2.1
    have HWD2 := Lib.hid HWD
    clear hown hbel hI HWD hlj hj
    by_cases hlt : (j : Int) < k
    · go_wp2_with fail
      refine (rplace_calls _ (HS.out.below HBEL.out) HI.out).mono ?_
      rintro e w4 ⟨i, rfl, hP, hb⟩
      have hB4 := HBEL.out.trans (hb.mono HBEL.out.size)
      have HB4 := Lib.hid hB4
      have HO4 := Lib.hid (keptB HOWN.out hb)
      have HI4 := Lib.hid (HI.out.below hb)
      clear hB4 hb
      rw [← HLN.out] at hP
      by_cases hi : i < 0
      · obtain rfl : i = -1 := by
          rcases hP with ⟨h1, _⟩ | ⟨q, x, h1, _⟩
          · exact h1
          · omega
        have HST := Lib.hid (ofL_stop k.toNat (pl_none hP HLJ.out) HLJ.out (by omega))
        clear hP
        go_wp2_with fail
        go_ret
        exact ⟨_, _, _, rfl, by rw [HST.out]; exact HI4.out, HB4.out⟩
      · obtain ⟨q, rfl⟩ : ∃ q : Nat, i = (q : Int) := ⟨i.toNat, by omega⟩
        obtain ⟨x, hx, hnx⟩ := pl_next hP HLJ.out
        have hqn : q < n := by have := (List.getElem?_eq_some_iff.1 hx).1; rw [HLN.out] at this; exact this
        obtain ⟨b, o, x', rfl, hx1, hx2, hx3, hb1, hX, hwx⟩ := isH_get (HS.out.below HB4.out) hqn
        rw [hx] at hX
        cases hX
        have hqi : (q : Int) < (n : Int) := by omega
        have HNX := Lib.hid hnx
        have HWX := Lib.hid hwx
        clear hP hx hnx hwx hb1
        go_wp2_with (at_builtin; refine wpList_appH rfl _ _ rfl w.heap.size _ _ _ rfl (keptB HO4.out (below_new w4 (.cells #[.int .i64 x.1, .int .i64 x.2.1, .int .i64 x.2.2] 27))) _ 1 1 [x] rfl (isH_one (RowH.new _ x) HWX.out (Nat.le_refl _) (by omega)) ?c3 ?c5 ?_)
        case c3 => omega
        case c5 => have := HB4.out.size; rw [size_new]; omega
        intro A' n' c' w5 hown5 hgrow
        have hn' : n' = j + 1 := by
          have h1 := hown5.2
          rcases h1 with ⟨hv, h2⟩ | ⟨g', cap', cur', hv, _⟩
          · cases hv; omega
          · cases hv; rfl
        subst hn'
        have HB5 : Hid (Below w.heap.size w w5) := (HB4.out.trans ((below_new w4 (.cells #[.int .i64 x.1, .int .i64 x.2.1, .int .i64 x.2.2] 27)).mono HB4.out.size)).grown hgrow (by have := HB4.out.size; rw [size_new]; omega) (fun g hg => ((keptB HO4.out (below_new w4 (.cells #[.int .i64 x.1, .int .i64 x.2.1, .int .i64 x.2.2] 27))).lt g hg).1)
        have HO5 : Hid (w5.ownsRow w.heap.size 27 3 (.slice A' (j + 1) c') (j + 1) (fl (ofL l (j + 1)))) := by
          have h := hown5
          have e : fl (ofL l j) ++ fl [x] = fl (ofL l (j + 1)) := by rw [HNX.out, fl_append]
          rw [e] at h
          exact h
        clear hown5 hgrow
        go_wp2_with fail
        go_roundg (gk - 1)
        case measure => have := HJ.out; omega
        case rel => exact ⟨j + 1, A', c', by have := HJ.out; omega, rfl, HO5.out, HB5.out⟩
    · have hjk : ofL l j = ofL l k.toNat := by
        by_cases h0 : j = k.toNat
        · rw [h0]
        · have := HJ.out; omega
      have HJK := Lib.hid hjk
      clear hjk
      go_wp2_with fail
      go_ret
      exact ⟨_, _, _, rfl, by rw [← HJK.out]; exact HI.out, HBEL.out⟩
end Go.Proofs.Yteeoogcchgiffaa.bk
