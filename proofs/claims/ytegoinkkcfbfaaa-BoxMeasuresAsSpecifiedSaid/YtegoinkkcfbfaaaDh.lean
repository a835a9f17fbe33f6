/- The reference's Cut. -/
import Derived.Test.YtegoinkkcfbfaaaG9

import Derived.Test.YtegoinkkcfbfaaaG7

namespace Go.Proofs.Ytegoinkkcfbfaaa.bk

open Go.ChangeShapes Go.WideShapes Go.ChangeAt Go.RowKit

open Go.Proofs.Ytegoinkkcfbfaaa.bq Go.Proofs.Ytegoinkkcfbfaaa.vk Go.Proofs.Ytegoinkkcfbfaaa.wk

set_option linter.unusedVariables false
abbrev HAL : TypeId := 40
theorem Rx.set5 {w : World} {g : Nat} {t : TypeId} {a b c d e : Value} (h : Rx w g t #[a, b, c, d, e]) (x y z u v : Value) : Rx (((((w.setCell ⟨g, 0, none⟩ x).setCell ⟨g, 1, none⟩ y).setCell ⟨g, 2, none⟩ z).setCell ⟨g, 3, none⟩ u).setCell ⟨g, 4, none⟩ v) g t #[x, y, z, u, v] := by
  have h1 := heap_setCell_same w g 0 #[a, b, c, d, e] t x h
  have h2 := heap_setCell_same (w.setCell ⟨g, 0, none⟩ x) g 1 _ t y h1
  have h3 := heap_setCell_same _ g 2 _ t z h2
  have h4 := heap_setCell_same _ g 3 _ t u h3
  exact heap_setCell_same _ g 4 _ t v h4
theorem below_set5 {n g : Nat} {w0 w : World} (h : Below n w0 w) (hg : n ≤ g) (x y z u v : Value) : Below n w0 (((((w.setCell ⟨g, 0, none⟩ x).setCell ⟨g, 1, none⟩ y).setCell ⟨g, 2, none⟩ z).setCell ⟨g, 3, none⟩ u).setCell ⟨g, 4, none⟩ v) :=
  ((((h.setCell (p := ⟨g, 0, none⟩) hg x).setCell (p := ⟨g, 1, none⟩) hg y).setCell (p := ⟨g, 2, none⟩) hg z).setCell (p := ⟨g, 3, none⟩) hg u).setCell (p := ⟨g, 4, none⟩) hg v
theorem isX_nil9 (w : World) : IsX w (.agg #[.slice none 0 0, .slice none 0 0]) ([], []) := ⟨none, 0, 0, none, 0, 0, rfl, isI_nil w, isI_nil w⟩
theorem heap_set5 (w : World) (g : Nat) (x y z u v : Value) (k : Nat) (hk : k ≠ g) : (((((w.setCell ⟨g, 0, none⟩ x).setCell ⟨g, 1, none⟩ y).setCell ⟨g, 2, none⟩ z).setCell ⟨g, 3, none⟩ u).setCell ⟨g, 4, none⟩ v).heap[k]? = w.heap[k]? :=
  (Below.heap_setCell _ _ _ _ hk).trans ((Below.heap_setCell _ _ _ _ hk).trans ((Below.heap_setCell _ _ _ _ hk).trans ((Below.heap_setCell _ _ _ _ hk).trans (Below.heap_setCell _ _ _ _ hk))))
theorem isI_off {w w' : World} {g b o : Nat} {n c : Nat} {l : List Int} (h : wo.IsI w (some ⟨b, o, none⟩) n c l) (hs : w.heap.size ≤ w'.heap.size) (hg : b ≠ g) (hk : ∀ k, k ≠ g → w'.heap[k]? = w.heap[k]?) : wo.IsI w' (some ⟨b, o, none⟩) n c l := by
  refine ⟨h.1, h.2.1, h.2.2.1, fun hp => ?_, h.2.2.2.2⟩
  obtain ⟨b', o', e, hb, hc⟩ := h.2.2.2.1 hp
  cases e
  exact ⟨b, o, rfl, Nat.lt_of_lt_of_le hb hs, fun j u' hu => (World.cell?_of_block (hk b hg)).trans (hc j u' hu)⟩
theorem own_owns {w : World} {B n : Nat} {v : Value} {l : List Int} (h : w.ownsRow B 3 1 v n (iv l)) (h1 : 1 ≤ n) : ∃ g q, v = .slice (some ⟨g, 0, none⟩) n q ∧ B ≤ g ∧ Owns w g n q l := by
  rcases h.2 with ⟨_, h0⟩ | ⟨g, cap, cur, rfl, q4, q5⟩
  · omega
  · exact ⟨g, cap, rfl, q4, h.1, .inr ⟨g, cap, cur, rfl, Nat.le_refl _, q5⟩⟩
theorem Owns.put {w : World} {g n c k : Nat} {l : List Int} (h : Owns w g n c l) (x : Int) : Owns (w.setCell ⟨g, k, none⟩ (.int .i64 x)) g n c (l.set k x) := by
  have := (World.ownsRow.stored h k (.int .i64 x)).1
  unfold Owns iv
  rw [List.map_set]
  exact this
theorem vec_set {l : List Int} (h : vq.Vec l) (k : Nat) (x : Int) (hx : -1000 ≤ x ∧ x ≤ 1000) : ∀ y ∈ l.set k x, -9223372036854775808 ≤ y ∧ y ≤ 9223372036854775807 := fun y hy => by
  rcases List.mem_or_eq_of_mem_set hy with h1 | h1
  · have := h.lo y h1; have := h.hi y h1; omega
  · omega
/-- a copy of a row, made within a region that draws its order -/
theorem does_copy {Q : Exit → Act → World → Prop} {o : Oper} {E : Operand → Value} {w : World} {R : World → Value → Prop} (s x : Operand) (ho : o.op = .call { callee := .builtin .append, args := #[s, x], argTypes := #[22, 22] })
    {g b p n c : Nat} {l : List Int} (hrow : w.heap[g]? = some (.cells #[] 3 (0, 0))) (hs : E s = .slice (some ⟨g, 0, none⟩) 0 0) (hx : E x = .slice (some ⟨b, p, none⟩) n c) (h : wo.IsI w (some ⟨b, p, none⟩) n c l) (h1 : 1 ≤ n) (hn : n ≤ 1000)
    (hR : ∀ b' c' w', Below w.heap.size w w' → w.heap.size ≤ b' → wo.IsI w' (some ⟨b', 0, none⟩) n c' l → R w' (.slice (some ⟨b', 0, none⟩) n c')) : Does Try.prog Q o E w R := by
  obtain ⟨i0, hi, hz0, hz1, hz2⟩ := info_parts wi.infoI
  obtain ⟨_, _, e, hb, hcell⟩ := h.2.2.2.1 (by simp [h.1]; omega)
  cases e
  have hnews : ∀ j v, (iv l)[j]? = some v → w.cell? ((⟨b, p, none⟩ : Addr).add j) = some v := fun j u hu => by rw [wk.add_at]; exact hcell j u hu
  have hlen : (iv l).length = n := by simp [iv, h.1]
  have hr := run_append_grow (P := Try.prog) w 22 o.type 3 i0 (.int .i64 0) Try.underlying22 hi hz0 ⟨g, 0, none⟩ 0 0 [] (by simp) (by simp) ⟨b, p, none⟩ n c (iv l) (by rw [hlen, hz1, Nat.mul_one]) hnews (by omega) (by omega) (growslice_fits (by omega) (by rw [hz2]; omega))
  rw [Nat.zero_add] at hr
  have hbel : Below w.heap.size w (w.drew.alloc (.cells (([] : List Value).toArray ++ (iv l).toArray ++ Builtin.zeroCells (Value.int .i64 0).cells (grownCap w n 0 3 - n)) 3)) := (Below.refl _ _).drew.alloc (Nat.le_refl _) _
  have hown : w.ownsRow 0 3 1 (.slice (some ⟨g, 0, none⟩) 0 0) 0 [] := ⟨rfl, .inr ⟨g, 0, #[], rfl, Nat.zero_le _, hrow, Nat.le_refl _, by unfold maxLen; omega, rfl, rfl⟩⟩
  obtain ⟨v', w', hr2, h2, -, -⟩ := run_append_own (P := Try.prog) w 0 22 o.type 3 i0 (.int .i64 0) 1 8 Try.underlying22 hi hz0 hz1 hz2 rfl (by decide) _ 0 [] hown ⟨b, p, none⟩ n c (iv l) (by rw [hlen, Nat.mul_one]) hnews (by intro u hu; simp [iv] at hu; obtain ⟨y, _, rfl⟩ := hu; rfl) (by unfold maxLen; omega) (by omega) (Nat.zero_le _)
  rw [hr] at hr2
  injection hr2 with e1 e2
  subst e1 e2
  rw [Nat.zero_add, List.nil_append] at h2
  obtain ⟨A, c', he, hI⟩ := isI_of_own h2 h.2.2.2.2
  simp only [Value.slice.injEq, true_and] at he
  obtain ⟨rfl, rfl⟩ := he
  refine does_new (v := .slice (some ⟨w.heap.size, 0, none⟩) n (grownCap w n 0 3)) (w' := w.drew.alloc (.cells (([] : List Value).toArray ++ (iv l).toArray ++ Builtin.zeroCells (Value.int .i64 0).cells (grownCap w n 0 3 - n)) 3)) ?_ hbel (hR _ _ _ hbel (Nat.le_refl _) hI)
  unfold execOp
  simp only [ho, resolve, invoke, builtin, Sem.run_bind, Sem.run_pure, Result.andThen_ok, List.map_toArray, List.map_cons, List.map_nil, hs, hx, hr]
set_option maxRecDepth 100000 in
set_option maxHeartbeats 16000000 in
theorem refcut_calls (v : Value) (p : Pair) (axis at_ : Int) (w : World) (h : IsX w v p) :
    Calls Try.prog 15 #[v, .int .i64 axis, .int .i64 at_] w fun e w' => ∃ s1 s2 s3 s4, e = .returned (.agg #[s1, s2, s3, s4, .int .i64 (cutR p axis at_).2.2]) ∧ IsX w' (.agg #[s1, s2]) (cutR p axis at_).1 ∧ IsX w' (.agg #[s3, s4]) (cutR p axis at_).2.1 ∧ Below w.heap.size w w' := by
  obtain ⟨R, hR⟩ : ∃ R, cutR p axis at_ = R := ⟨_, rfl⟩
  rw [hR]
  have hno : ¬ cutOk p axis at_ → R = (([], []), ([], []), 1) := fun hh => by rw [← hR, cutR, if_neg hh]
  have hyes : cutOk p axis at_ → R = ((p.1, p.2.set axis.toNat at_), (p.1.set axis.toNat (at_ + 1), p.2), 0) := fun hh => by rw [← hR, cutR, if_pos hh]
  have HNO := Lib.hid hno
  have HYES := Lib.hid hyes
  clear hR hno hyes
  obtain ⟨A, n, c, A', n', c', rfl, hi, hi'⟩ := h
  have HB := Lib.hid (Below.andThen (below_new w (.cells #[.slice A n c, .slice A' n' c'] 24)) (below_new _ (.cells #[.slice none 0 0, .slice none 0 0, .slice none 0 0, .slice none 0 0, .int .i64 0] HAL)))
  have HT := Lib.hid ((TwoX.new w (.slice A n c) (.slice A' n' c')).below (below_new _ (.cells #[.slice none 0 0, .slice none 0 0, .slice none 0 0, .slice none 0 0, .int .i64 0] HAL)))
  have HM := Lib.hid (Rx.new (w.alloc (.cells #[.slice A n c, .slice A' n' c'] 24)) HAL #[.slice none 0 0, .slice none 0 0, .slice none 0 0, .slice none 0 0, .int .i64 0])
  rw [size_new] at HM
  have HX : Hid (IsX _ (.agg #[.slice A n c, .slice A' n' c']) p) := IsX.below ⟨_, _, _, _, _, _, rfl, hi, hi'⟩ HB.out
  have HI := Lib.hid (isI_below hi HB.out)
  have HI' := Lib.hid (isI_below hi' HB.out)
  have HN1 := Lib.hid hi.1
  have HN2 := Lib.hid hi'.1
  have hnc := hi.2.1
  have hnm := hi.2.2.1
  have hnc' := hi'.2.1
  have hnm' := hi'.2.2.1
  clear hi hi'
  have hc0HT := HT.out.two.c0
  have hc1HT := HT.out.two.c1
  go_enter Try.func15, Try.ntmps15
  go_wp2_with fail
  clear hc0HT hc1HT
  refine (refvalid_calls _ p _ HX.out).mono ?_
  rintro e w1 ⟨rfl, hb⟩
  replace HT := Lib.hid (HT.out.below hb)
  replace HM := Lib.hid (HM.out.below hb)
  replace HI := Lib.hid (isI_below HI.out hb)
  replace HI' := Lib.hid (isI_below HI'.out hb)
  replace HB := Lib.hid (Below.andThen HB.out hb)
  clear hb HX
  have hm0 := HM.out.c (j := 0) rfl
  have hm1 := HM.out.c (j := 1) rfl
  have hm2 := HM.out.c (j := 2) rfl
  have hm3 := HM.out.c (j := 3) rfl
  have hm4 := HM.out.c (j := 4) rfl
  have hf0 := HM.out.f 0
  have hf1 := HM.out.f 1
  have hf2 := HM.out.f 2
  have hf3 := HM.out.f 3
  have hf4 := HM.out.f 4
  have hc0HT := HT.out.two.c0
  have hc1HT := HT.out.two.c1
  have HB2 := Lib.hid (below_set5 HB.out (show w.heap.size ≤ w.heap.size + 1 by omega) (.slice none 0 0) (.slice none 0 0) (.slice none 0 0) (.slice none 0 0) (.int .i64 1))
  have HM2 := Lib.hid (HM.out.set5 (.slice none 0 0) (.slice none 0 0) (.slice none 0 0) (.slice none 0 0) (.int .i64 1))
  cases hv : bvalid p
  · have hnb : ¬ IsBox p := fun h => by rw [bvalid_iff.2 h] at hv; cases hv
    clear hv
    obtain rfl := HNO.out (fun h => hnb h.1)
    clear HNO HYES
    go_wp2_with fail
    exact bodyPost_ret (v := .agg #[.slice none 0 0, .slice none 0 0, .slice none 0 0, .slice none 0 0, .int .i64 1]) (results_cell_row (fn := Try.f15) rfl _ _ (w.heap.size + 1) HAL #[.slice none 0 0, .slice none 0 0, .slice none 0 0, .slice none 0 0, .int .i64 1] (0, 0) _ rfl HM2.out Try.underlying40 rfl (by kernel_rfl)) rfl ⟨_, _, _, _, rfl, isX_nil9 _, isX_nil9 _, HB2.out⟩
  have HBX := Lib.hid (bvalid_iff.1 hv)
  have hl1 : 1 ≤ n := by have := HBX.out.lo.pos; have := HN1.out; omega
  have hnn : n = n' := by have := HBX.out.len; have := HN1.out; have := HN2.out; omega
  have hl32 : n ≤ 32 := by have := HBX.out.lo.le; have := HN1.out; omega
  subst hnn
  clear hv
  by_cases h1 : axis < 0
  ·
    obtain rfl := HNO.out (fun h => by have := h.2.1; omega)
    clear HNO HYES
    go_wp2_with fail
    exact bodyPost_ret (v := .agg #[.slice none 0 0, .slice none 0 0, .slice none 0 0, .slice none 0 0, .int .i64 1]) (results_cell_row (fn := Try.f15) rfl _ _ (w.heap.size + 1) HAL #[.slice none 0 0, .slice none 0 0, .slice none 0 0, .slice none 0 0, .int .i64 1] (0, 0) _ rfl HM2.out Try.underlying40 rfl (by kernel_rfl)) rfl ⟨_, _, _, _, rfl, isX_nil9 _, isX_nil9 _, HB2.out⟩
  by_cases h2 : axis ≥ (n : Int)
  ·
    obtain rfl := HNO.out (fun h => by have := h.2.2.1; have := HN1.out; omega)
    clear HNO HYES
    go_wp2_with fail
    exact bodyPost_ret (v := .agg #[.slice none 0 0, .slice none 0 0, .slice none 0 0, .slice none 0 0, .int .i64 1]) (results_cell_row (fn := Try.f15) rfl _ _ (w.heap.size + 1) HAL #[.slice none 0 0, .slice none 0 0, .slice none 0 0, .slice none 0 0, .int .i64 1] (0, 0) _ rfl HM2.out Try.underlying40 rfl (by kernel_rfl)) rfl ⟨_, _, _, _, rfl, isX_nil9 _, isX_nil9 _, HB2.out⟩
  obtain ⟨k, rfl⟩ := Int.eq_ofNat_of_zero_le (show 0 ≤ axis by omega)
  have hkn : k < n := by omega
  have hkn' : (k : Int) < (n : Int) := by omega
  obtain ⟨b1, o1, rfl, hca, hb1⟩ := isI_get HI.out hkn
  obtain ⟨b2, o2, rfl, hca', hb2⟩ := isI_get HI'.out hkn
  have hk1 := vec_at HBX.out.lo (i := k) (by rw [HN1.out]; exact hkn)
  have hk2 := vec_at HBX.out.hi (i := k) (by rw [HN2.out]; exact hkn)
  have HK1 : Hid (k < p.1.length) := by show _ < _; rw [HN1.out]; exact hkn
  have HKS : Hid (¬ (at' p.1 k ≤ at_ ∧ at_ < at' p.2 k) → ¬ cutOk p (k : Int) at_) := fun h h2 => h (by have h3 := h2.2.2.2; simpa using h3)
  have HKY : Hid (at' p.1 k ≤ at_ ∧ at_ < at' p.2 k → cutOk p (k : Int) at_) := fun h => ⟨HBX.out, by omega, by have := HK1.out; omega, by simpa using h.1, by simpa using h.2⟩
  generalize at' p.1 k = x1 at *
  generalize at' p.2 k = x2 at *
  by_cases h3 : at_ < x1
  ·
    obtain rfl := HNO.out (HKS.out (by omega))
    clear HNO HYES
    go_wp2_with fail
    exact bodyPost_ret (v := .agg #[.slice none 0 0, .slice none 0 0, .slice none 0 0, .slice none 0 0, .int .i64 1]) (results_cell_row (fn := Try.f15) rfl _ _ (w.heap.size + 1) HAL #[.slice none 0 0, .slice none 0 0, .slice none 0 0, .slice none 0 0, .int .i64 1] (0, 0) _ rfl HM2.out Try.underlying40 rfl (by kernel_rfl)) rfl ⟨_, _, _, _, rfl, isX_nil9 _, isX_nil9 _, HB2.out⟩
  by_cases h4 : at_ ≥ x2
  ·
    obtain rfl := HNO.out (HKS.out (by omega))
    clear HNO HYES
    go_wp2_with fail
    exact bodyPost_ret (v := .agg #[.slice none 0 0, .slice none 0 0, .slice none 0 0, .slice none 0 0, .int .i64 1]) (results_cell_row (fn := Try.f15) rfl _ _ (w.heap.size + 1) HAL #[.slice none 0 0, .slice none 0 0, .slice none 0 0, .slice none 0 0, .int .i64 1] (0, 0) _ rfl HM2.out Try.underlying40 rfl (by kernel_rfl)) rfl ⟨_, _, _, _, rfl, isX_nil9 _, isX_nil9 _, HB2.out⟩
  have hRR := HYES.out (HKY.out (by omega))
  rw [Int.toNat_natCast] at hRR
  subst hRR
  clear HNO HYES HKS HKY HB2 HM2
  obtain ⟨i0, hi0, hz0, hz1, hz2⟩ := info_parts wi.infoI
  have HC1 : Hid (∀ w', Below w1.heap.size w1 w' → ∀ j u, (iv p.1)[j]? = some u → w'.cell? ((⟨b1, o1, none⟩ : Addr).add j) = some u) := fun w' hb j u hu => by
    obtain ⟨_, _, e, hbb, hcc⟩ := HI.out.2.2.2.1 (by simp [HN1.out]; omega)
    cases e
    rw [wk.add_at]
    exact (hb.cell (p := ⟨b1, o1 + j, none⟩) hbb).trans (hcc j u hu)
  have HC2 : Hid (∀ w', Below w1.heap.size w1 w' → ∀ j u, (iv p.2)[j]? = some u → w'.cell? ((⟨b2, o2, none⟩ : Addr).add j) = some u) := fun w' hb j u hu => by
    obtain ⟨_, _, e, hbb, hcc⟩ := HI'.out.2.2.2.1 (by simp [HN2.out]; omega)
    cases e
    rw [wk.add_at]
    exact (hb.cell (p := ⟨b2, o2 + j, none⟩) hbb).trans (hcc j u hu)
  have HL1 : Hid ((iv p.1).length = n) := by show _ = _; simp [iv, HN1.out]
  have HL2 : Hid ((iv p.2).length = n) := by show _ = _; simp [iv, HN2.out]
  have HO5 : Hid ((w1.alloc (.cells #[] 3)).ownsRow w1.heap.size 3 1 (.slice (some ⟨w1.heap.size, 0, none⟩) 0 0) 0 []) := World.ownsRow_lit (base := w1.heap.size) w1 #[] 0 (Nat.le_refl _) (by unfold maxLen; omega) rfl
  have HLM : Hid (w.heap.size + 1 < w1.heap.size) := HM.out.lt
  have hcA := (HT.out.below (below_new _ (.cells #[] 3))).two.c1
  go_wp2_with (at_builtin; refine wpList_append_own _ rfl _ _ 22 rfl w1.heap.size 3 i0 (.int .i64 0) 1 8 Try.underlying22 hi0 hz0 hz1 hz2 rfl (by decide) _ _ _ rfl HO5.out _ n _ (iv p.2) rfl ?c0 (HC2.out _ (below_new _ _)) ?c2 ?c3 ?c4 ?c5 ?_)
  case c0 => rw [HL2.out, Nat.mul_one]
  case c2 => intro u hu; simp [iv] at hu; obtain ⟨y, _, rfl⟩ := hu; rfl
  case c3 => unfold maxLen; omega
  case c4 => omega
  case c5 => simp only [size_new]; omega
  intro v5 w5 own5 hg5 _
  have HB5 : Hid (Below w1.heap.size w1 w5) := (below_new w1 (.cells #[] 3)).grown hg5 (by simp only [size_new]; omega) (fun g hg => (HO5.out.lt g hg).1)
  obtain ⟨g5, q5, rfl, ge5, ow5⟩ := own_owns (by simpa using own5) hl1
  have HW5 := Lib.hid ow5
  have HG5 := Lib.hid ge5
  clear own5 hg5 ow5 ge5 HO5 hc0HT hc1HT hcA
  have hc0HT := ((HT.out.below HB5.out).below (below_new _ (.cells #[] 3))).two.c0
  have HO6 : Hid ((w5.alloc (.cells #[] 3)).ownsRow w5.heap.size 3 1 (.slice (some ⟨w5.heap.size, 0, none⟩) 0 0) 0 []) := World.ownsRow_lit (base := w5.heap.size) w5 #[] 0 (Nat.le_refl _) (by unfold maxLen; omega) rfl
  go_wp2_with (at_builtin; refine wpList_append_own _ rfl _ _ 22 rfl w5.heap.size 3 i0 (.int .i64 0) 1 8 Try.underlying22 hi0 hz0 hz1 hz2 rfl (by decide) _ _ _ rfl HO6.out _ n _ (iv p.1) rfl ?d0 (HC1.out _ (Below.andThen HB5.out (below_new _ _))) ?d2 ?d3 ?d4 ?d5 ?_)
  case d0 => rw [HL1.out, Nat.mul_one]
  case d2 => intro u hu; simp [iv] at hu; obtain ⟨y, _, rfl⟩ := hu; rfl
  case d3 => unfold maxLen; omega
  case d4 => omega
  case d5 => simp only [size_new]; omega
  intro v6 w6 own6 hg6 _
  have hb6 : Below w5.heap.size w5 w6 := (below_new w5 (.cells #[] 3)).grown hg6 (by simp only [size_new]; omega) (fun g hg => (HO6.out.lt g hg).1)
  obtain ⟨g6, q6, rfl, ge6, ow6⟩ := own_owns (by simpa using own6) hl1
  have HW6 := Lib.hid ow6
  have HLT5 : Hid (g5 < w5.heap.size) := HW5.out.lt
  have h56 : g5 ≠ g6 := by have := HLT5.out; omega
  have h65 : g6 ≠ g5 := Ne.symm h56
  replace HW5 := Lib.hid (HW5.out.below hb6)
  have HB6 := Lib.hid (Below.andThen HB5.out hb6)
  have HG6 : Hid (w1.heap.size ≤ g6) := by show _ ≤ _; have := HB5.out.size; omega
  clear own6 hg6 ow6 hb6 HO6 hc0HT HB5 ge6
  have hc5 : w6.cell? ⟨g5, k, none⟩ = some (.int .i64 (at' p.2 k)) := (World.ownsRow.cellAt HW5.out k (by omega)).trans (by simp [iv, of_at (show k < p.2.length by rw [HN2.out]; exact hkn)])
  have hc6 : w6.cell? ⟨g6, k, none⟩ = some (.int .i64 (at' p.1 k)) := (World.ownsRow.cellAt HW6.out k (by omega)).trans (by simp [iv, of_at HK1.out])
  have hf5 := World.ownsRow.frozenAt HW5.out k
  have hf6 := World.ownsRow.frozenAt HW6.out k
  have hab : -1000 ≤ at_ ∧ at_ ≤ 999 := by omega
  obtain ⟨hab1, hab2⟩ := hab
  have HB7 := Lib.hid ((HB6.out.setCell (p := ⟨g5, k, none⟩) HG5.out (.int .i64 at_)).setCell (p := ⟨g6, k, none⟩) HG6.out (.int .i64 (at_ + 1)))
  have HW57 : Hid (Owns ((w6.setCell ⟨g5, k, none⟩ (.int .i64 at_)).setCell ⟨g6, k, none⟩ (.int .i64 (at_ + 1))) g5 n q5 (p.2.set k at_)) := (HW5.out.put at_).at (Below.heap_setCell _ _ _ _ h56)
  have HW67 : Hid (Owns ((w6.setCell ⟨g5, k, none⟩ (.int .i64 at_)).setCell ⟨g6, k, none⟩ (.int .i64 (at_ + 1))) g6 n q6 (p.1.set k (at_ + 1))) := Owns.put (HW6.out.at (Below.heap_setCell _ _ _ _ h65)) (at_ + 1)
  clear HB6 HW5 HW6 hm0 hm1 hm2 hm3 hm4 hf0 hf1 hf2 hf3 hf4 hca hca'
  go_wp2_with fail
  clear hc5 hc6 hf5 hf6
  generalize (w6.setCell ⟨g5, k, none⟩ (.int .i64 at_)).setCell ⟨g6, k, none⟩ (.int .i64 (at_ + 1)) = w7 at *
  have HT7 := Lib.hid (HT.out.below HB7.out)
  have HM7 := Lib.hid (HM.out.below HB7.out)
  have HI7 := Lib.hid (isI_below HI.out HB7.out)
  have HI7' := Lib.hid (isI_below HI'.out HB7.out)
  have HB8 := Lib.hid (Below.andThen HB.out HB7.out)
  have HS7 : Hid (w1.heap.size ≤ w7.heap.size) := HB7.out.size
  refine wk.region_tailS 13 [.st (fun u x => ∃ g, x = .slice (some ⟨g, 0, none⟩) 0 0 ∧ Rx u g 3 #[]) (fun u u2 x h hb => by obtain ⟨g, h1, h2⟩ := h; exact ⟨g, h1, h2.below hb⟩), .is (.pointer (some ⟨w.heap.size, 0, none⟩)), .is (.slice (some ⟨b1, o1, none⟩) n c), .st (fun u x => ∃ b q, x = .slice (some ⟨b, 0, none⟩) n q ∧ w7.heap.size ≤ b ∧ wo.IsI u (some ⟨b, 0, none⟩) n q p.1) (fun u u2 x h hb => by obtain ⟨b, q, h1, h2, h3⟩ := h; exact ⟨b, q, h1, h2, isI_below h3 hb⟩), .is (.slice (some ⟨g5, 0, none⟩) n q5), .st (fun u x => ∃ b q, x = .agg #[.slice (some ⟨b, 0, none⟩) n q, .slice (some ⟨g5, 0, none⟩) n q5] ∧ w7.heap.size ≤ b ∧ wo.IsI u (some ⟨b, 0, none⟩) n q p.1) (fun u u2 x h hb => by obtain ⟨b, q, h1, h2, h3⟩ := h; exact ⟨b, q, h1, h2, isI_below h3 hb⟩), .is (.slice (some ⟨g6, 0, none⟩) n q6), .st (fun u x => ∃ g, x = .slice (some ⟨g, 0, none⟩) 0 0 ∧ Rx u g 3 #[]) (fun u u2 x h hb => by obtain ⟨g, h1, h2⟩ := h; exact ⟨g, h1, h2.below hb⟩), .is (.pointer (some ⟨w.heap.size, 1, none⟩)), .is (.slice (some ⟨b2, o2, none⟩) n c'), .st (fun u x => ∃ b q, x = .slice (some ⟨b, 0, none⟩) n q ∧ w7.heap.size ≤ b ∧ wo.IsI u (some ⟨b, 0, none⟩) n q p.2) (fun u u2 x h hb => by obtain ⟨b, q, h1, h2, h3⟩ := h; exact ⟨b, q, h1, h2, isI_below h3 hb⟩), .st (fun u x => ∃ b q, x = .agg #[.slice (some ⟨g6, 0, none⟩) n q6, .slice (some ⟨b, 0, none⟩) n q] ∧ w7.heap.size ≤ b ∧ wo.IsI u (some ⟨b, 0, none⟩) n q p.2) (fun u u2 x h hb => by obtain ⟨b, q, h1, h2, h3⟩ := h; exact ⟨b, q, h1, h2, isI_below h3 hb⟩), .st (fun u x => ∃ b q b' q', x = .agg #[.slice (some ⟨b, 0, none⟩) n q, .slice (some ⟨g5, 0, none⟩) n q5, .slice (some ⟨g6, 0, none⟩) n q6, .slice (some ⟨b', 0, none⟩) n q', .int .i64 0] ∧ w7.heap.size ≤ b ∧ w7.heap.size ≤ b' ∧ wo.IsI u (some ⟨b, 0, none⟩) n q p.1 ∧ wo.IsI u (some ⟨b', 0, none⟩) n q' p.2) (fun u u2 x h hb => by obtain ⟨b, q, b', q', h1, h2, h3, h4, h5⟩ := h; exact ⟨b, q, b', q', h1, h2, h3, isI_below h4 hb, isI_below h5 hb⟩)] [some 59, some 60, some 61, some 62, some 63, some 64, some 65, some 66, some 67, some 68, some 69, some 70, some 71] (by kernel_rfl) (by kernel_rfl) (by kernel_rfl) (by kernel_rfl) [] (by kernel_rfl) (by intro p hp; cases hp) (by kernel_rfl) (by kernel_rfl) ?hstep ?hdone
  case hstep =>
    intro i o ho hi hns E w4 hb4 D
    have hi2 : i = 0 ∨ i = 1 ∨ i = 2 ∨ i = 3 ∨ i = 4 ∨ i = 5 ∨ i = 6 ∨ i = 7 ∨ i = 8 ∨ i = 9 ∨ i = 10 ∨ i = 11 ∨ i = 12 := by omega
    clear hi
    rcases hi2 with rfl | rfl | rfl | rfl | rfl | rfl | rfl | rfl | rfl | rfl | rfl | rfl | rfl
    ·
      have ho2 := (Array.getElem?_eq_some_iff.1 ho).2
      simp only [List.getElem_toArray, List.getElem_cons_zero] at ho2
      subst ho2
      clear ho
      refine wk.does_new (v := .slice (some ⟨w4.heap.size, 0, none⟩) 0 0) (w' := w4.alloc (.cells #[] 3)) (by simp only [execOp, List.map_toArray, List.map_nil]; go_simp) (below_new _ _) ⟨_, rfl, Rx.new _ _ _⟩
    ·
      have ho2 := (Array.getElem?_eq_some_iff.1 ho).2
      simp only [List.getElem_toArray, List.getElem_cons_succ, List.getElem_cons_zero] at ho2
      subst ho2
      clear ho
      have e3 := D.old 3 (by kernel_rfl)
      exact wk.does_run (by simp only [execOp]; rw [show E (.tmp 3) = .pointer (some ⟨w.heap.size, 0, none⟩) by rw [e3]; rfl]; go_simp) rfl
    ·
      have ho2 := (Array.getElem?_eq_some_iff.1 ho).2
      simp only [List.getElem_toArray, List.getElem_cons_succ, List.getElem_cons_zero] at ho2
      subst ho2
      clear ho
      have e60 := D.is { on := 1, ground := .data } (by simp) rfl rfl 60 rfl
      exact wk.does_load1 rfl e60 ((HT7.out.below ((Below.refl _ _).drew.trans hb4)).two.c0) Try.underlying22 rfl rfl
    ·
      have ho2 := (Array.getElem?_eq_some_iff.1 ho).2
      simp only [List.getElem_toArray, List.getElem_cons_succ, List.getElem_cons_zero] at ho2
      subst ho2
      clear ho
      have s59 := D.st { on := 0, ground := .data } (by simp) rfl rfl 59 rfl
      have e61 := D.is { on := 2, ground := .data } (by simp) rfl rfl 61 rfl
      obtain ⟨g, hg, hr⟩ := s59
      exact does_copy (.tmp 59) (.tmp 61) rfl hr hg e61 (isI_below HI7.out ((Below.refl _ _).drew.trans hb4)) hl1 (by omega) (fun b' c' w' hb hle hI => ⟨b', c', rfl, Nat.le_trans ((Below.refl _ _).drew.trans hb4).size hle, hI⟩)
    ·
      have ho2 := (Array.getElem?_eq_some_iff.1 ho).2
      simp only [List.getElem_toArray, List.getElem_cons_succ, List.getElem_cons_zero] at ho2
      subst ho2
      clear ho
      have e7 := D.old 7 (by kernel_rfl)
      exact wk.does_move rfl (by rw [e7]; rfl)
    ·
      have ho2 := (Array.getElem?_eq_some_iff.1 ho).2
      simp only [List.getElem_toArray, List.getElem_cons_succ, List.getElem_cons_zero] at ho2
      subst ho2
      clear ho
      have s62 := D.st { on := 3, ground := .data } (by simp) rfl rfl 62 rfl
      have e63 := D.is { on := 4, ground := .data } (by simp) rfl rfl 63 rfl
      obtain ⟨b, q, hv, hl, hI⟩ := s62
      exact wk.does_run (v := .agg #[.slice (some ⟨b, 0, none⟩) n q, .slice (some ⟨g5, 0, none⟩) n q5]) (by simp only [execOp, List.map_toArray, List.map_cons, List.map_nil]; rw [show E (.tmp 62) = _ from hv, show E (.tmp 63) = _ from e63]; go_simp) ⟨b, q, rfl, hl, hI⟩
    ·
      have ho2 := (Array.getElem?_eq_some_iff.1 ho).2
      simp only [List.getElem_toArray, List.getElem_cons_succ, List.getElem_cons_zero] at ho2
      subst ho2
      clear ho
      have e8 := D.old 8 (by kernel_rfl)
      exact wk.does_move rfl (by rw [e8]; rfl)
    ·
      have ho2 := (Array.getElem?_eq_some_iff.1 ho).2
      simp only [List.getElem_toArray, List.getElem_cons_succ, List.getElem_cons_zero] at ho2
      subst ho2
      clear ho
      refine wk.does_new (v := .slice (some ⟨w4.heap.size, 0, none⟩) 0 0) (w' := w4.alloc (.cells #[] 3)) (by simp only [execOp, List.map_toArray, List.map_nil]; go_simp) (below_new _ _) ⟨_, rfl, Rx.new _ _ _⟩
    ·
      have ho2 := (Array.getElem?_eq_some_iff.1 ho).2
      simp only [List.getElem_toArray, List.getElem_cons_succ, List.getElem_cons_zero] at ho2
      subst ho2
      clear ho
      have e3 := D.old 3 (by kernel_rfl)
      exact wk.does_run (by simp only [execOp]; rw [show E (.tmp 3) = .pointer (some ⟨w.heap.size, 0, none⟩) by rw [e3]; rfl]; go_simp) rfl
    ·
      have ho2 := (Array.getElem?_eq_some_iff.1 ho).2
      simp only [List.getElem_toArray, List.getElem_cons_succ, List.getElem_cons_zero] at ho2
      subst ho2
      clear ho
      have e67 := D.is { on := 8, ground := .data } (by simp) rfl rfl 67 rfl
      exact wk.does_load1 rfl e67 ((HT7.out.below ((Below.refl _ _).drew.trans hb4)).two.c1) Try.underlying22 rfl rfl
    ·
      have ho2 := (Array.getElem?_eq_some_iff.1 ho).2
      simp only [List.getElem_toArray, List.getElem_cons_succ, List.getElem_cons_zero] at ho2
      subst ho2
      clear ho
      have s66 := D.st { on := 7, ground := .data } (by simp) rfl rfl 66 rfl
      have e68 := D.is { on := 9, ground := .data } (by simp) rfl rfl 68 rfl
      obtain ⟨g, hg, hr⟩ := s66
      exact does_copy (.tmp 66) (.tmp 68) rfl hr hg e68 (isI_below HI7'.out ((Below.refl _ _).drew.trans hb4)) hl1 (by omega) (fun b' c' w' hb hle hI => ⟨b', c', rfl, Nat.le_trans ((Below.refl _ _).drew.trans hb4).size hle, hI⟩)
    ·
      have ho2 := (Array.getElem?_eq_some_iff.1 ho).2
      simp only [List.getElem_toArray, List.getElem_cons_succ, List.getElem_cons_zero] at ho2
      subst ho2
      clear ho
      have e65 := D.is { on := 6, ground := .data } (by simp) rfl rfl 65 rfl
      have s69 := D.st { on := 10, ground := .data } (by simp) rfl rfl 69 rfl
      obtain ⟨b, q, hv, hl, hI⟩ := s69
      exact wk.does_run (v := .agg #[.slice (some ⟨g6, 0, none⟩) n q6, .slice (some ⟨b, 0, none⟩) n q]) (by simp only [execOp, List.map_toArray, List.map_cons, List.map_nil]; rw [show E (.tmp 65) = _ from e65, show E (.tmp 69) = _ from hv]; go_simp) ⟨b, q, rfl, hl, hI⟩
    ·
      have ho2 := (Array.getElem?_eq_some_iff.1 ho).2
      simp only [List.getElem_toArray, List.getElem_cons_succ, List.getElem_cons_zero] at ho2
      subst ho2
      clear ho
      have s64 := D.st { on := 5, ground := .data } (by simp) rfl rfl 64 rfl
      have s70 := D.st { on := 11, ground := .data } (by simp) rfl rfl 70 rfl
      obtain ⟨b, q, hv, hl, hI⟩ := s64
      obtain ⟨b', q', hv', hl', hI'⟩ := s70
      exact wk.does_run (v := .agg #[.slice (some ⟨b, 0, none⟩) n q, .slice (some ⟨g5, 0, none⟩) n q5, .slice (some ⟨g6, 0, none⟩) n q6, .slice (some ⟨b', 0, none⟩) n q', .int .i64 0]) (by simp only [execOp, List.map_toArray, List.map_cons, List.map_nil]; rw [show E (.tmp 64) = _ from hv, show E (.tmp 70) = _ from hv']; go_simp) ⟨b, q, b', q', rfl, hl, hl', hI, hI'⟩
  case hdone =>
    intro vals w4 hb4 hv
    have h12 := hv 12 (by omega)
    clear hv
    simp only [List.drop_succ_cons, List.drop_zero, wk.setL, List.setIfInBounds_toArray, List.set_cons_zero, List.set_cons_succ, Nat.zero_add, Nat.reduceAdd]
    generalize vals 0 = x0
    generalize vals 1 = x1
    generalize vals 2 = x2
    generalize vals 3 = x3
    generalize vals 4 = x4
    generalize vals 5 = x5
    generalize vals 6 = x6
    generalize vals 7 = x7
    generalize vals 8 = x8
    generalize vals 9 = x9
    generalize vals 10 = x10
    generalize vals 11 = x11
    generalize vals 12 = x12 at *
    obtain ⟨b, q, b', q', rfl, hl, hl', hI, hI'⟩ := h12
    have hb5 : Below w7.heap.size w7 w4 := ((Below.refl _ _).drew.trans hb4)
    have HM4 := Lib.hid (HM7.out.below hb5)
    have HB9 := Lib.hid (Below.andThen HB8.out hb5)
    have HW5 := Lib.hid (HW57.out.below hb5)
    have HW6 := Lib.hid (HW67.out.below hb5)
    have HIA := Lib.hid hI
    have HIB := Lib.hid hI'
    have hm0 := HM4.out.c (j := 0) rfl
    have hm1 := HM4.out.c (j := 1) rfl
    have hm2 := HM4.out.c (j := 2) rfl
    have hm3 := HM4.out.c (j := 3) rfl
    have hm4 := HM4.out.c (j := 4) rfl
    have hf0 := HM4.out.f 0
    have hf1 := HM4.out.f 1
    have hf2 := HM4.out.f 2
    have hf3 := HM4.out.f 3
    have hf4 := HM4.out.f 4
    have HNB : Hid (b ≠ w.heap.size + 1 ∧ b' ≠ w.heap.size + 1 ∧ g5 ≠ w.heap.size + 1 ∧ g6 ≠ w.heap.size + 1) := by have h1 := HLM.out; have h2 := HS7.out; have h3 := HG5.out; have h4 := HG6.out; exact ⟨by omega, by omega, by omega, by omega⟩
    clear hI hI' hb4 hb5
    go_wp2_with fail
    exact bodyPost_ret (v := .agg #[.slice (some ⟨b, 0, none⟩) n q, .slice (some ⟨g5, 0, none⟩) n q5, .slice (some ⟨g6, 0, none⟩) n q6, .slice (some ⟨b', 0, none⟩) n q', .int .i64 0]) (results_cell_row (fn := Try.f15) rfl _ _ (w.heap.size + 1) HAL #[.slice (some ⟨b, 0, none⟩) n q, .slice (some ⟨g5, 0, none⟩) n q5, .slice (some ⟨g6, 0, none⟩) n q6, .slice (some ⟨b', 0, none⟩) n q', .int .i64 0] (0, 0) _ rfl (HM4.out.set5 _ _ _ _ _) Try.underlying40 rfl (by kernel_rfl)) rfl ⟨_, _, _, _, rfl,
      ⟨_, _, _, _, _, _, rfl, isI_off HIA.out (by simp [World.setCell]) HNB.out.1 (fun k hk => heap_set5 _ _ _ _ _ _ _ k hk), isI_off (HW5.out.isI (vec_set HBX.out.hi k at_ (by omega))) (by simp [World.setCell]) HNB.out.2.2.1 (fun k hk => heap_set5 _ _ _ _ _ _ _ k hk)⟩,
      ⟨_, _, _, _, _, _, rfl, isI_off (HW6.out.isI (vec_set HBX.out.lo k (at_ + 1) (by omega))) (by simp [World.setCell]) HNB.out.2.2.2 (fun k hk => heap_set5 _ _ _ _ _ _ _ k hk), isI_off HIB.out (by simp [World.setCell]) HNB.out.2.1 (fun k hk => heap_set5 _ _ _ _ _ _ _ k hk)⟩, below_set5 HB9.out (show w.heap.size ≤ w.heap.size + 1 by omega) _ _ _ _ _⟩
end Go.Proofs.Ytegoinkkcfbfaaa.bk
