/- Joined: Mp2 Mq Mr. -/
import Derived.Test.YtmjmkkdmphgdnaaDoorG10
/- Many. -/
namespace Go.Proofs.YtmjmkkdmphgdnaaDoor.mk

open Go.ChangeShapes Go.WideShapes Go.ChangeAt Go.RowKit

set_option linter.unusedVariables false
/-- integers that lie below B -/
structure IsY (B : Nat) (w : World) (A : Option Addr) (n c : Nat) (p : List Int) : Prop where
  is : IsZ w A n c p
  low : 0 < n → ∃ b o, A = some ⟨b, o, none⟩ ∧ b < B
theorem IsY.below {B : Nat} {w w' : World} {A : Option Addr} {n c : Nat} {p : List Int} (h : IsY B w A n c p) (hB : B ≤ w.heap.size) (hb : Below B w w') : IsY B w' A n c p := by
  refine ⟨⟨h.is.len, h.is.le, h.is.cap, fun hl => ?_, h.is.rng⟩, h.low⟩
  have hn : 0 < n := by have := h.is.len; rw [List.length_map] at hl; omega
  obtain ⟨b, o, hA, hb1, hc⟩ := h.is.mem hl
  obtain ⟨b', o', hA', hb2⟩ := h.low hn
  rw [hA] at hA'
  cases hA'
  exact ⟨b, o, hA, by have := hb.size; omega, fun j u hu => (hb.cell (p := ⟨b, o + j, none⟩) hb2).trans (hc j u hu)⟩
theorem IsY.of {w : World} {A : Option Addr} {n c : Nat} {p : List Int} (h : IsZ w A n c p) : IsY w.heap.size w A n c p := ⟨h, fun hn => by
  obtain ⟨b, o, hA, hb, _⟩ := h.mem (by rw [List.length_map, h.len]; omega)
  exact ⟨b, o, hA, hb⟩⟩
theorem IsY.next {B : Nat} {w w' : World} {A : Option Addr} {n c : Nat} {p : List Int} (h : IsY B w A n c p) (hb : Below w.heap.size w w') : IsY B w' A n c p := ⟨h.is.below hb, h.low⟩
theorem IsY.cut {B : Nat} {w : World} {A : Option Addr} {n c : Nat} {p : List Int} (h : IsY B w A n c p) {lo hi m : Nat} (h1 : lo ≤ hi) (h2 : hi ≤ n) (h3 : hi ≤ m) (h4 : m ≤ c) :
    IsY B w (if m = lo then A else A.map (·.add (lo * 1))) (hi - lo) (m - lo) ((p.drop lo).take (hi - lo)) := by
  refine ⟨⟨by have := h.is.len; simp; omega, by omega, by have := h.is.cap; omega, ?_, fun x hx => h.is.rng x (List.mem_of_mem_drop (List.mem_of_mem_take hx))⟩, fun hn => ?_⟩
  · intro hl
    have hmap : ((p.drop lo).take (hi - lo)).map (Value.int .i64) = ((p.map (Value.int .i64)).drop lo).take (hi - lo) := by rw [List.map_take, List.map_drop]
    rw [hmap] at hl ⊢
    obtain ⟨b, o, rfl, hb, hc⟩ := RC_cut h.is.mem hl
    have hne : ¬ m = lo := fun e => by
      have : hi - lo = 0 := by omega
      rw [this] at hl; simp at hl
    rw [if_neg hne]
    exact ⟨b, o + lo, by simp [wk.add_at], hb, hc⟩
  · obtain ⟨b, o, rfl, hb⟩ := h.low (by omega)
    rw [if_neg (by omega)]
    exact ⟨b, _, by rw [Option.map_some, wk.add_at], hb⟩
theorem underZ : Tryd.prog.underlying 37 = some (.slice (Tryd.prog.elem 37)) := by kernel_rfl
theorem elemZ : Tryd.prog.elem 37 = 3 := by kernel_rfl
theorem run_sizeZ (w : World) : (Go.sizeOf 3).run Tryd.prog w = .ok 1 w := wk.run_sizeOf w _ _ (by kernel_rfl)
theorem run_cutZ03 (w : World) (A : Option Addr) (n c hi m : Nat) (h2 : hi ≤ m) (h3 : m ≤ c) :
    (Instr.sliceAt 37 (.slice A n c) none (some (.int .i64 hi)) (some (.int .i64 m))).run Tryd.prog w = .ok (.slice (if m = 0 then A else A.map (·.add (0 * 1))) (hi - 0) (m - 0)) w := by
  have hb : (Instr.sliceBounds true n c none (some (.int .i64 hi)) (some (.int .i64 m))).run Tryd.prog w = .ok (0, hi, m) w := by
    simp only [Instr.sliceBounds, Sem.run_bind, run_sliceBound w IntKind.i64 (m : Int) c _ (by omega) (by omega), Result.andThen_ok, Int.toNat_natCast, run_sliceBound w IntKind.i64 (hi : Int) m _ (by omega) (by omega), Sem.run_pure]
  rw [run_sliceAt_slice _ _ _ _ _ _ underZ, run_slice_any _ _ _ _ _ underZ, hb, elemZ]
  simp only [Result.andThen_ok, run_sizeZ, sliced]
theorem run_cutZ_l (w : World) (A : Option Addr) (n c lo : Nat) (h3 : lo ≤ n) :
    (Instr.sliceAt 37 (.slice A n c) (some (.int .i64 lo)) none none).run Tryd.prog w = .ok (.slice (if c = lo then A else A.map (·.add (lo * 1))) (n - lo) (c - lo)) w := by
  have hb : (Instr.sliceBounds true n c (some (.int .i64 lo)) none none).run Tryd.prog w = .ok (lo, n, c) w := by
    simp only [Instr.sliceBounds, Sem.run_bind, Result.andThen_ok, Int.toNat_natCast, run_sliceBound w IntKind.i64 (lo : Int) n _ (by omega) (by omega), Sem.run_pure]
  rw [run_sliceAt_slice _ _ _ _ _ _ underZ, run_slice_any _ _ _ _ _ underZ, hb, elemZ]
  simp only [Result.andThen_ok, run_sizeZ, sliced]
theorem Asc.take {p : List Int} (h : Asc p) (k : Nat) : Asc (p.take k) := fun i j a b hij ha hb => by
  rw [List.getElem?_take] at ha hb
  split at ha
  · split at hb
    · exact h i j a b hij ha hb
    · cases hb
  · cases ha
theorem Asc.drop {p : List Int} (h : Asc p) (k : Nat) : Asc (p.drop k) := fun i j a b hij ha hb => by
  rw [List.getElem?_drop] at ha hb
  exact h (k + i) (k + j) a b (by omega) ha hb
/-- the proof for several positions -/
noncomputable def mny : Nat → List D → Int → List Int → List D
  | 0, _, _, _ => []
  | f + 1, l, st, p => if p = [] then [rootD l] else if l.length ≤ 1 then [] else mny f (l.take (split l.length)) st (p.take (cnt p (st + split l.length))) ++ mny f (l.drop (split l.length)) (st + split l.length) (p.drop (cnt p (st + split l.length)))
theorem mny_fuel : ∀ (f g : Nat) (l : List D) (st : Int) (p : List Int), 1 ≤ l.length → l.length ≤ f → l.length ≤ g → mny f l st p = mny g l st p
  | 0, _, l, _, _, h, h1, _ => by omega
  | _ + 1, 0, l, _, _, h, _, h1 => by omega
  | f + 1, g + 1, l, st, p, h, h1, h2 => by
    rw [mny, mny]
    split
    · rfl
    · split
      · rfl
      · have hl := split_lt (n := l.length) (by omega)
        have hp := split_pos l.length
        rw [mny_fuel f g _ st _ (by rw [List.length_take]; omega) (by rw [List.length_take]; omega) (by rw [List.length_take]; omega), mny_fuel f g (l.drop _) _ _ (by rw [List.length_drop]; omega) (by rw [List.length_drop]; omega) (by rw [List.length_drop]; omega)]
noncomputable def mnyD (l : List D) (st : Int) (p : List Int) : List D := mny l.length l st p
theorem mnyD_nil {l : List D} (st : Int) {p : List Int} (h : p = []) (h1 : 1 ≤ l.length) : mnyD l st p = [rootD l] := by
  unfold mnyD
  obtain ⟨k, hk⟩ : ∃ k, l.length = k + 1 := ⟨l.length - 1, by omega⟩
  rw [hk, mny, if_pos h]
theorem mnyD_one {l : List D} (st : Int) {p : List Int} (h : p ≠ []) (h1 : l.length = 1) : mnyD l st p = [] := by
  unfold mnyD
  rw [h1, mny, if_neg h, if_pos (by omega)]
theorem mnyD_two {l : List D} (st : Int) {p : List Int} (h : p ≠ []) (h1 : 2 ≤ l.length) : mnyD l st p = mnyD (l.take (split l.length)) st (p.take (cnt p (st + split l.length))) ++ mnyD (l.drop (split l.length)) (st + split l.length) (p.drop (cnt p (st + split l.length))) := by
  have hl := split_lt h1
  have hp := split_pos l.length
  unfold mnyD
  obtain ⟨k, hk⟩ : ∃ k, l.length = k + 1 := ⟨l.length - 1, by omega⟩
  conv => lhs; rw [hk]
  rw [mny, if_neg h, if_neg (by omega), mny_fuel k _ (l.take (split l.length)) _ _ (by rw [List.length_take]; omega) (by rw [List.length_take]; omega) (Nat.le_refl _), mny_fuel k _ (l.drop (split l.length)) _ _ (by rw [List.length_drop]; omega) (by rw [List.length_drop]; omega) (Nat.le_refl _)]
theorem mny_length : ∀ (f : Nat) (l : List D) (st : Int) (p : List Int), 1 ≤ l.length → (mny f l st p).length ≤ l.length
  | 0, _, _, _, _ => Nat.zero_le _
  | f + 1, l, st, p, h => by
    rw [mny]
    split
    · exact h
    · split
      · exact Nat.zero_le _
      · have hl := split_lt (n := l.length) (by omega)
        have hp := split_pos l.length
        rw [List.length_append]
        have h1 := mny_length f (l.take (split l.length)) st (p.take (cnt p (st + split l.length))) (by rw [List.length_take]; omega)
        have h2 := mny_length f (l.drop (split l.length)) (st + split l.length) (p.drop (cnt p (st + split l.length))) (by rw [List.length_drop]; omega)
        rw [List.length_take] at h1
        rw [List.length_drop] at h2
        omega
def manyF (B : Nat) : Value := .func (.func 43) #[] #[.pointer (some ⟨B, 0, none⟩), .pointer (some ⟨B + 1, 0, none⟩)]
set_option maxRecDepth 100000 in
set_option maxHeartbeats 4000000 in
theorem many1_calls (B : Nat) (hB1 : 1 < B) : ∀ (n : Nat) (A : Option Addr) (c : Nat) (l : List D) (st : Int) (A2 : Option Addr) (m c2 : Nat) (p : List Int) (w : World) (acc : List D), 1 ≤ n → IsL B w A n c l → IsY B w A2 m c2 p → Asc p → 0 ≤ st → st + n ≤ 2000000 → m ≤ 1099511627776 → Pst B (manyF B) 77 w acc → Tab w → acc.length + n ≤ 100000 →
    Calls Tryd.prog 43 #[.slice A n c, .int .i64 st, .slice A2 m c2, .pointer (some ⟨B, 0, none⟩), .pointer (some ⟨B + 1, 0, none⟩)] w fun e w' => e = .returned (.tuple #[]) ∧ Pst B (manyF B) 77 w' (acc ++ mnyD l st p) ∧ Below B w w' := by
  intro n
  induction n using Nat.strongRecOn with
  | ind n ih =>
  intro A c l st A2 m c2 p w acc hn1 h hY hAs hst0 hst hm40 hP hT hbd
  have hlen := h.is.len
  have hplen := hY.is.len
  by_cases hm0 : m = 0
  · have hp0 : p = [] := List.eq_nil_of_length_eq_zero (by omega)
    subst hm0
    have HIN2 := Lib.hid (mnyD_nil st hp0 (by omega : 1 ≤ l.length))
    have HL := Lib.hid h
    have HTn := Lib.hid hT
    have HP2 := Lib.hid hP
    have HRL : Hid ((rootD l).length = 16) := rootD_length h.is.dl
    have HAL : Hid (acc.length ≤ 1000000) := by show _ ≤ _; omega
    obtain ⟨v, hv, _⟩ := hP.path
    clear h hT hP ih hY hAs
    go_enter Tryd.func43, Tryd.ntmps43
    go_upto_region 1 with fail
    have HV := Lib.hid (wk.row_below hv ((Below.refl w.heap.size w).drew))
    replace HL := Lib.hid (HL.out.next (Below.refl w.heap.size w).drew)
    replace HTn := Lib.hid (HTn.out.next (Below.refl w.heap.size w).drew)
    replace HP2 := Lib.hid (HP2.out.next (Below.refl w.heap.size w).drew)
    clear hv
    refine wk.region_tail 4 [.is v, .is (.slice A n c), .is (dv (rootD (l))), .st (fun w v => ∃ G, v = .slice (some ⟨G, 0, none⟩) 1 1 ∧ wp.RC w (some ⟨G, 0, none⟩) (wp.bc (rootD (l)))) (fun w w' v ⟨G, h1, h2⟩ hb => ⟨G, h1, h2.below hb⟩)] [some 15, some 16, some 17, some 18] (by kernel_rfl) (by kernel_rfl) (by kernel_rfl) (by kernel_rfl) (by kernel_rfl) (by kernel_rfl) ?hstep ?hdone
    case hstep =>
      intro i o ho hi E w4 hb4 D
      have hi2 : i = 0 ∨ i = 1 ∨ i = 2 ∨ i = 3 := by omega
      clear hi
      rcases hi2 with rfl | rfl | rfl | rfl
      ·
        have ho2 := (Array.getElem?_eq_some_iff.1 ho).2
        simp only [List.getElem_toArray, List.getElem_cons_zero] at ho2
        subst ho2
        clear ho
        have e3 := D.old 3 (by kernel_rfl)
        exact wk.does_load1 rfl (by rw [e3]; rfl) (wk.cell_row1 (wk.row_below HV.out hb4)) Tryd.underlying22 rfl rfl
      ·
        have ho2 := (Array.getElem?_eq_some_iff.1 ho).2
        simp only [List.getElem_toArray, List.getElem_cons_succ, List.getElem_cons_zero] at ho2
        subst ho2
        clear ho
        have e0 := D.old 0 (by kernel_rfl)
        exact wk.does_move rfl (by rw [e0]; rfl)
      ·
        have ho2 := (Array.getElem?_eq_some_iff.1 ho).2
        simp only [List.getElem_toArray, List.getElem_cons_succ, List.getElem_cons_zero] at ho2
        subst ho2
        clear ho
        have e16 := D.is { on := 1, ground := .data } (by simp) rfl rfl 16 rfl
        refine wk.does_fn (f := 15) (vs := #[.slice A n c]) rfl (D.fn _) (by simp [e16]) (by go_simp) ?_
        refine (root_calls _ _ _ _ _ (HL.out.is.below hb4) (HTn.out.next hb4)).mono ?_
        rintro e w5 ⟨rfl, hb5⟩
        exact ⟨_, rfl, hb5, rfl⟩
      ·
        have ho2 := (Array.getElem?_eq_some_iff.1 ho).2
        simp only [List.getElem_toArray, List.getElem_cons_succ, List.getElem_cons_zero] at ho2
        subst ho2
        clear ho
        have e17 := D.is { on := 2, ground := .data } (by simp) rfl rfl 17 rfl
        refine wk.does_new (v := .slice (some ⟨w4.heap.size, 0, none⟩) 1 1) (w' := w4.alloc (.cells (wp.bc (rootD (l))).toArray 31)) ?_ ((Below.refl _ _).alloc (Nat.le_refl _) _) ⟨_, rfl, wi.RC_new rfl _ _ rfl⟩
        exact run_build1 (o := _) (x := .tmp 17) rfl e17 HRL.out
    case hdone =>
      intro vals w4 hb4 hv
      have h3 := hv 3 (by omega)
      have h0 := hv 0 (by omega)
      clear hv
      replace h0 : vals 0 = v := h0
      simp only [List.drop_succ_cons, List.drop_zero, wk.setL, List.setIfInBounds_toArray, List.set_cons_zero, List.set_cons_succ, Nat.zero_add, Nat.reduceAdd, h0]
      generalize vals 1 = x1
      generalize vals 2 = x2
      generalize vals 3 = x3 at *
      obtain ⟨G, hG, hrc⟩ := h3
      have HPn := HP2.out.next hb4
      have hv4 := wk.row_below HV.out hb4
      have HB4 := Lib.hid hb4
      clear hb4
      rw [hG]
      refine push rfl rfl (.tmp 15) (.tmp 18) (.tmp 3) 19 rfl rfl rfl rfl v rfl hv4 G rfl hrc HRL.out (fun _ => rfl) (fun _ => rfl) HPn HAL.out ?_
      intro v' w6 hP6 hb6
      simp only [Act.put, List.setIfInBounds_toArray, List.set_cons_zero, List.set_cons_succ]
      go_wp2_with fail
      refine bodyPost_ret (results_none rfl _ _ _) rfl ⟨rfl, ?_, ?_⟩
      · rw [HIN2.out]
        exact hP6
      · exact (Below.refl _ _).drew.trans ((HB4.out.mono (by have := HP2.out.lt; omega)).trans hb6)
  · have hp0 : p ≠ [] := fun e => by rw [e] at hplen; simp at hplen; omega
    by_cases hn : n = 1
    · subst hn
      have hin := mnyD_one st hp0 hlen
      have HP := Lib.hid hP
      have HIN := Lib.hid hin
      clear h hT hP ih hY hAs hin
      go_enter Tryd.func43, Tryd.ntmps43
      go_wp2_with fail
      refine bodyPost_ret (results_none rfl _ _ _) rfl ⟨rfl, ?_, Below.refl _ _⟩
      rw [HIN.out, List.append_nil]
      exact HP.out
    · have h2 : 2 ≤ n := by omega
      have hs := split_lt h2
      have hp := split_pos n
      have hr2 := mnyD_two (l := l) st hp0 (by omega)
      rw [hlen] at hr2
      have HIN := Lib.hid hr2
      have HT := Lib.hid hT
      have HP := Lib.hid hP
      have HI := Lib.hid h
      have HY := Lib.hid hY
      have HAS := Lib.hid hAs
      have IH := Lib.hid ih
      have hls1 : (l.take (split n)).length = split n := by rw [List.length_take]; omega
      have hls2 : (l.drop (split n)).length = n - split n := by rw [List.length_drop]; omega
      have hi1 := mny_length (split n) (l.take (split n)) st (p.take (cnt p (st + split n))) (by omega)
      have HIL1 : Hid ((mnyD (l.take (split n)) st (p.take (cnt p (st + split n)))).length ≤ split n) := by show _ ≤ _; unfold mnyD; rw [hls1] at hi1 ⊢; exact hi1
      have hcl := cnt_le p (st + split n)
      rw [hplen] at hcl
      have hcap := hY.is.le
      have c1 := hY.cut (lo := 0) (hi := cnt p (st + split n)) (m := cnt p (st + split n)) (by omega) hcl (by omega) (by omega)
      have c2' := hY.cut (lo := cnt p (st + split n)) (hi := m) (m := c2) hcl (Nat.le_refl _) hcap (Nat.le_refl _)
      have t1 : (p.drop 0).take (cnt p (st + split n) - 0) = p.take (cnt p (st + split n)) := by simp
      have t2 : (p.drop (cnt p (st + split n))).take (m - cnt p (st + split n)) = p.drop (cnt p (st + split n)) := List.take_of_length_le (by rw [List.length_drop, hplen]; exact Nat.le_refl _)
      rw [t1] at c1
      rw [t2] at c2'
      have r1 := fun w => run_cutZ03 w A2 m c2 (cnt p (st + split n)) (cnt p (st + split n)) (Nat.le_refl _) (by omega)
      have r2 := fun w => run_cutZ_l w A2 m c2 (cnt p (st + split n)) hcl
      have HCN : Hid (∀ w1, Below w.heap.size w w1 → Calls Tryd.prog 44 #[.slice A2 m c2, .int .i64 (st + split n)] w1 fun e w' => e = .returned (.int .i64 (cnt p (st + split n))) ∧ w' = w1) := fun w1 hb => countBelow_calls A2 m c2 p (st + split n) w1 (hY.is.below hb) hAs hm40
      have has1 := hAs.take (cnt p (st + split n))
      have has2 := hAs.drop (cnt p (st + split n))
      simp only [Nat.sub_zero] at c1 r1
      generalize (if cnt p (st + split n) = 0 then A2 else A2.map (·.add (0 * 1))) = P1 at *
      generalize (if c2 = cnt p (st + split n) then A2 else A2.map (·.add (cnt p (st + split n) * 1))) = P2 at *
      generalize p.take (cnt p (st + split n)) = p1 at *
      generalize p.drop (cnt p (st + split n)) = p2 at *
      generalize cnt p (st + split n) = q at *
      have C1 := Lib.hid c1
      have C2 := Lib.hid c2'
      have R1 := Lib.hid r1
      have R2 := Lib.hid r2
      have HAS1 := Lib.hid has1
      have HAS2 := Lib.hid has2
      clear hr2 hT hP h ih hls1 hls2 hi1 hY hAs c1 c2' t1 t2 r1 r2 has1 has2 HY HAS
      go_enter Tryd.func43, Tryd.ntmps43
      go_wp2_with fail
      refine (halves_low B A n c l w HI.out h2).mono ?_
      rintro e w1 ⟨A1, A3, rfl, i1, i2, hb1⟩
      have HT1 := Lib.hid (HT.out.next hb1)
      have HP1 := Lib.hid (HP.out.next hb1)
      have HL1 := Lib.hid i1
      have HL2 := Lib.hid i2
      have HB1 := Lib.hid (hb1.mono (by have := HP.out.lt; omega : B ≤ w.heap.size))
      have HBw := Lib.hid hb1
      clear i1 i2 hb1 HT HP HI
      generalize split n = k at *
      go_upto_region 6 with (go_at_call 44; refine (HCN.out _ HBw.out).mono ?_; rintro e w' ⟨rfl, hw'⟩; rw [hw']; clear hw')
      replace HP1 := Lib.hid (HP1.out.next (Below.refl w1.heap.size w1).drew)
      replace HL1 := Lib.hid (HL1.out.next (Below.refl w1.heap.size w1).drew)
      replace HL2 := Lib.hid (HL2.out.next (Below.refl w1.heap.size w1).drew)
      replace HT1 := Lib.hid (HT1.out.next (Below.refl w1.heap.size w1).drew)
      replace HB1 := Lib.hid (HB1.out.drew)
      have HBD : Hid (Below w.heap.size w w1.drew) := HBw.out.drew
      clear HBw
      refine wk.region_tail 7 [.is (manyF B), .is (.slice A1 k k), .is (.int .i64 st), .is (.slice A2 m c2), .is (.int .i64 q), .is (.int .i64 q), .is (.slice P1 q q)] [some 35, some 36, some 37, some 38, some 39, some 40, some 41] (by kernel_rfl) (by kernel_rfl) (by kernel_rfl) (by kernel_rfl) (by kernel_rfl) (by kernel_rfl) ?hstep ?hdone
      case hstep =>
        intro i o ho hi E w4 hb4 D
        have hi2 : i = 0 ∨ i = 1 ∨ i = 2 ∨ i = 3 ∨ i = 4 ∨ i = 5 ∨ i = 6 := by omega
        clear hi
        rcases hi2 with rfl | rfl | rfl | rfl | rfl | rfl | rfl
        ·
          have ho2 := (Array.getElem?_eq_some_iff.1 ho).2
          simp only [List.getElem_toArray, List.getElem_cons_zero] at ho2
          subst ho2
          clear ho
          have e4 := D.old 4 (by kernel_rfl)
          exact wk.does_load1 rfl (by rw [e4]; rfl) (wk.cell_row1 (HP1.out.next hb4).fn) Tryd.underlying77 rfl rfl
        ·
          have ho2 := (Array.getElem?_eq_some_iff.1 ho).2
          simp only [List.getElem_toArray, List.getElem_cons_succ, List.getElem_cons_zero] at ho2
          subst ho2
          clear ho
          have e8 := D.old 8 (by kernel_rfl)
          exact wk.does_move rfl (by rw [e8]; rfl)
        ·
          have ho2 := (Array.getElem?_eq_some_iff.1 ho).2
          simp only [List.getElem_toArray, List.getElem_cons_succ, List.getElem_cons_zero] at ho2
          subst ho2
          clear ho
          have e1 := D.old 1 (by kernel_rfl)
          exact wk.does_move rfl (by rw [e1]; rfl)
        ·
          have ho2 := (Array.getElem?_eq_some_iff.1 ho).2
          simp only [List.getElem_toArray, List.getElem_cons_succ, List.getElem_cons_zero] at ho2
          subst ho2
          clear ho
          have e2 := D.old 2 (by kernel_rfl)
          exact wk.does_move rfl (by rw [e2]; rfl)
        ·
          have ho2 := (Array.getElem?_eq_some_iff.1 ho).2
          simp only [List.getElem_toArray, List.getElem_cons_succ, List.getElem_cons_zero] at ho2
          subst ho2
          clear ho
          have e11 := D.old 11 (by kernel_rfl)
          exact wk.does_move rfl (by rw [e11]; rfl)
        ·
          have ho2 := (Array.getElem?_eq_some_iff.1 ho).2
          simp only [List.getElem_toArray, List.getElem_cons_succ, List.getElem_cons_zero] at ho2
          subst ho2
          clear ho
          have e11 := D.old 11 (by kernel_rfl)
          exact wk.does_move rfl (by rw [e11]; rfl)
        ·
          have ho2 := (Array.getElem?_eq_some_iff.1 ho).2
          simp only [List.getElem_toArray, List.getElem_cons_succ, List.getElem_cons_zero] at ho2
          subst ho2
          clear ho
          have e38 := D.is { on := 3, ground := .data } (by simp) rfl rfl 38 rfl
          have e39 := D.is { on := 4, ground := .data } (by simp) rfl rfl 39 rfl
          have e40 := D.is { on := 5, ground := .data } (by simp) rfl rfl 40 rfl
          exact wk.does_run (wk.op_slice rfl e38 rfl (by rw [Option.map_some, e39]) (by rw [Option.map_some, e40]) (R1.out _)) rfl
      case hdone =>
        intro vals w4 hb4 hv
        have h0 := hv 0 (by omega)
        have h1 := hv 1 (by omega)
        have h2 := hv 2 (by omega)
        have h6 := hv 6 (by omega)
        clear hv
        replace h0 : vals 0 = (manyF B) := h0
        replace h1 : vals 1 = (.slice A1 k k) := h1
        replace h2 : vals 2 = (.int .i64 st) := h2
        replace h6 : vals 6 = (.slice P1 q q) := h6
        simp only [List.drop_succ_cons, List.drop_zero, Act.put, wk.setL, List.setIfInBounds_toArray, List.set_cons_zero, List.set_cons_succ, Nat.zero_add, Nat.reduceAdd, h0, h1, h2, h6]
        generalize vals 3 = x3
        generalize vals 4 = x4
        generalize vals 5 = x5
        have HPc := Lib.hid (HP1.out.next hb4)
        have HT2 := Lib.hid (HT1.out.next hb4)
        have HL3 := Lib.hid (HL1.out.next hb4)
        have HL4 := Lib.hid (HL2.out.next hb4)
        have HB4 := Lib.hid (HB1.out.trans (hb4.mono (by have := HP1.out.lt; omega)))
        have HBD2 := Lib.hid (HBD.out.trans (hb4.mono HBD.out.size))
        clear hb4 HP1 HT1 HL1 HL2 HB1 HBD
        unfold manyF
        go_wp2_with fail
        refine (IH.out k hs A1 k _ st P1 q q p1 w4 acc hp HL3.out (C1.out.next HBD2.out) HAS1.out hst0 (by omega) (by omega) HPc.out HT2.out (by omega)).mono ?_
        rintro e w5 ⟨rfl, hP5, hb5⟩
        have HP5 := Lib.hid hP5
        have HT5 := Lib.hid (HT2.out.below hB1 hb5)
        have HL5 := Lib.hid (HL4.out.below (by have := HPc.out.lt; omega) hb5)
        have HC2 := Lib.hid ((C2.out.next HBD2.out).below (by have := HPc.out.lt; omega) hb5)
        have HB5 := Lib.hid (HB4.out.trans hb5)
        clear hP5 hb5 HT2 HL3 HL4 HB4 HPc
        go_upto_region 7 with fail
        replace HP5 := Lib.hid (HP5.out.next (Below.refl w5.heap.size w5).drew)
        replace HL5 := Lib.hid (HL5.out.next (Below.refl w5.heap.size w5).drew)
        replace HT5 := Lib.hid (HT5.out.next (Below.refl w5.heap.size w5).drew)
        replace HC2 := Lib.hid (HC2.out.next (Below.refl w5.heap.size w5).drew)
        replace HB5 := Lib.hid (HB5.out.drew)
        refine wk.region_tail 6 [.is (manyF B), .is (.slice A3 (n - k) (n - k)), .is (.int .i64 (st + k)), .is (.slice A2 m c2), .is (.int .i64 q), .is (.slice P2 (m - q) (c2 - q))] [some 43, some 44, some 45, some 46, some 47, some 48] (by kernel_rfl) (by kernel_rfl) (by kernel_rfl) (by kernel_rfl) (by kernel_rfl) (by kernel_rfl) ?hstep ?hdone
        case hstep =>
          intro i o ho hi E w6 hb4 D
          have hi2 : i = 0 ∨ i = 1 ∨ i = 2 ∨ i = 3 ∨ i = 4 ∨ i = 5 := by omega
          clear hi
          rcases hi2 with rfl | rfl | rfl | rfl | rfl | rfl
          ·
            have ho2 := (Array.getElem?_eq_some_iff.1 ho).2
            simp only [List.getElem_toArray, List.getElem_cons_zero] at ho2
            subst ho2
            clear ho
            have e4 := D.old 4 (by kernel_rfl)
            exact wk.does_load1 rfl (by rw [e4]; rfl) (wk.cell_row1 (HP5.out.next hb4).fn) Tryd.underlying77 rfl rfl
          ·
            have ho2 := (Array.getElem?_eq_some_iff.1 ho).2
            simp only [List.getElem_toArray, List.getElem_cons_succ, List.getElem_cons_zero] at ho2
            subst ho2
            clear ho
            have e9 := D.old 9 (by kernel_rfl)
            exact wk.does_move rfl (by rw [e9]; rfl)
          ·
            have ho2 := (Array.getElem?_eq_some_iff.1 ho).2
            simp only [List.getElem_toArray, List.getElem_cons_succ, List.getElem_cons_zero] at ho2
            subst ho2
            clear ho
            have e10 := D.old 10 (by kernel_rfl)
            exact wk.does_move rfl (by rw [e10]; rfl)
          ·
            have ho2 := (Array.getElem?_eq_some_iff.1 ho).2
            simp only [List.getElem_toArray, List.getElem_cons_succ, List.getElem_cons_zero] at ho2
            subst ho2
            clear ho
            have e2 := D.old 2 (by kernel_rfl)
            exact wk.does_move rfl (by rw [e2]; rfl)
          ·
            have ho2 := (Array.getElem?_eq_some_iff.1 ho).2
            simp only [List.getElem_toArray, List.getElem_cons_succ, List.getElem_cons_zero] at ho2
            subst ho2
            clear ho
            have e11 := D.old 11 (by kernel_rfl)
            exact wk.does_move rfl (by rw [e11]; rfl)
          ·
            have ho2 := (Array.getElem?_eq_some_iff.1 ho).2
            simp only [List.getElem_toArray, List.getElem_cons_succ, List.getElem_cons_zero] at ho2
            subst ho2
            clear ho
            have e46 := D.is { on := 3, ground := .data } (by simp) rfl rfl 46 rfl
            have e47 := D.is { on := 4, ground := .data } (by simp) rfl rfl 47 rfl
            exact wk.does_run (wk.op_slice rfl e46 (by rw [Option.map_some, e47]) rfl rfl (R2.out _)) rfl
        case hdone =>
          intro vals2 w6 hb4 hv
          have h0 := hv 0 (by omega)
          have h1 := hv 1 (by omega)
          have h2 := hv 2 (by omega)
          have h5 := hv 5 (by omega)
          clear hv
          replace h0 : vals2 0 = (manyF B) := h0
          replace h1 : vals2 1 = (.slice A3 (n - k) (n - k)) := h1
          replace h2 : vals2 2 = (.int .i64 (st + k)) := h2
          replace h5 : vals2 5 = (.slice P2 (m - q) (c2 - q)) := h5
          simp only [List.drop_succ_cons, List.drop_zero, Act.put, wk.setL, List.setIfInBounds_toArray, List.set_cons_zero, List.set_cons_succ, Nat.zero_add, Nat.reduceAdd, h0, h1, h2, h5]
          generalize vals2 3 = x3
          generalize vals2 4 = x4
          have HP6 := Lib.hid (HP5.out.next hb4)
          have HT6 := Lib.hid (HT5.out.next hb4)
          have HL6 := Lib.hid (HL5.out.next hb4)
          have HC6 := Lib.hid (HC2.out.next hb4)
          have HB6 := Lib.hid (HB5.out.trans (hb4.mono (by have := HP5.out.lt; omega)))
          clear hb4 HP5 HT5 HL5 HC2 HB5
          unfold manyF
          go_wp2_with fail
          refine (IH.out (n - k) (by omega) A3 (n - k) _ (st + k) P2 (m - q) (c2 - q) p2 w6 (acc ++ mnyD (l.take k) st p1) (by omega) HL6.out HC6.out HAS2.out (by omega) (by omega) (by omega) HP6.out HT6.out (by have := HIL1.out; rw [List.length_append]; omega)).mono ?_
          rintro e w7 ⟨rfl, hP7, hb7⟩
          have HP7 := Lib.hid hP7
          have HB7 := Lib.hid hb7
          clear hP7 hb7
          go_wp2_with fail
          go_end0
          refine ⟨rfl, ?_, HB6.out.trans HB7.out⟩
          rw [HIN.out, ← List.append_assoc]
          exact HP7.out
end Go.Proofs.YtmjmkkdmphgdnaaDoor.mk
/- Many, the function. -/
namespace Go.Proofs.YtmjmkkdmphgdnaaDoor.mk

open Go.ChangeShapes Go.WideShapes Go.ChangeAt Go.RowKit

set_option linter.unusedVariables false
theorem infoF3 : (Tryd.prog.info? 77).map (·.size) = some 1 := by kernel_rfl
theorem places_asc : ∀ (p : List Int) (n least : Int), places n least p = true → Asc p ∧ ∀ x ∈ p, least ≤ x ∧ x < n
  | [], n, least, _ => ⟨fun i j a b _ h => by simp at h, fun x hx => by cases hx⟩
  | y :: r, n, least, h => by
    rw [places] at h
    split at h
    · cases h
    · rename_i hy
      obtain ⟨h1, h2⟩ := places_asc r n (y + 1) h
      refine ⟨fun i j a b hij ha hb => ?_, fun x hx => ?_⟩
      · cases j with
        | zero => omega
        | succ j =>
          simp only [List.getElem?_cons_succ] at hb
          cases i with
          | zero =>
            simp only [List.getElem?_cons_zero, Option.some.injEq] at ha
            subst ha
            have := h2 b (List.mem_of_getElem? hb); omega
          | succ i =>
            simp only [List.getElem?_cons_succ] at ha
            exact h1 i j a b (by omega) ha hb
      · rcases List.mem_cons.1 hx with rfl | hx
        · omega
        · have := h2 x hx; omega
noncomputable def manyP (l : List D) (p : List Int) : List D := if places l.length 0 p = true ∧ l ≠ [] then mnyD l 0 p else []
def manyE (n : Nat) (p : List Int) : Int := if places n 0 p then 0 else 1
set_option maxRecDepth 100000 in
set_option maxHeartbeats 4000000 in
theorem many_calls (A : Option Addr) (n c : Nat) (l : List D) (A2 : Option Addr) (m c2 : Nat) (p : List Int) (w : World) (h : IsD w A n c l) (hY : IsZ w A2 m c2 p) (hT : Tab w) (hn : n ≤ 1000) (hm : m ≤ 1000) :
    Calls Tryd.prog 21 #[.slice A n c, .slice A2 m c2] w fun e w' => ∃ v, e = .returned (.tuple #[v, .int .i64 (manyE n p)]) ∧ w'.ownsRow w.heap.size 31 16 v (manyP l p).length ((manyP l p).flatMap wp.bc) ∧ Below w.heap.size w w' := by
  have hlen := h.len
  have HPL := Lib.hid (places_calls A2 m c2 p n w hY (by omega) (by omega))
  cases hpl : places n 0 p
  · have hE : manyE n p = 1 := by unfold manyE; rw [hpl]; rfl
    have hPp : manyP l p = [] := by unfold manyP; rw [hlen, hpl, if_neg (by simp)]
    rw [hE, hPp]
    rw [hpl] at HPL
    clear hE hPp hT h hY hlen hpl
    go_enter Tryd.func21, Tryd.ntmps21
    go_wp2_with fail
    refine HPL.out.mono ?_
    rintro e w' ⟨rfl, rfl⟩
    go_wp2_with fail
    go_ret2
    exact ⟨_, rfl, World.ownsRow_nil _ _ _ _, Below.refl _ _⟩
  · have hE : manyE n p = 0 := by unfold manyE; rw [hpl]; rfl
    rw [hE]
    rw [hpl] at HPL
    obtain ⟨hasc, _⟩ := places_asc p n 0 hpl
    have hmf := fun (fn : Fn) (first cap : Array Value) (w : World) => hmf (P := Tryd.prog) fn first cap w
    rcases (by omega : n = 0 ∨ 1 ≤ n) with hn0 | hn1
    · have hl : l = [] := List.eq_nil_of_length_eq_zero (by omega)
      have hPp : manyP l p = [] := by unfold manyP; rw [if_neg (fun h => h.2 hl)]
      rw [hPp]
      subst hn0
      clear hE hPp hT h hY hlen hpl
      go_enter Tryd.func21, Tryd.ntmps21
      go_upto_region 3 with (go_at_call 42; refine HPL.out.mono ?_; rintro e w' ⟨rfl, hw'⟩; rw [hw']; clear hw')
      have HB3 := Lib.hid (((Below.refl w.heap.size w).alloc (Nat.le_refl _) (.cells #[.slice none 0 0] 22)).alloc (by simp) (.cells #[.nilFunc] 77))
      have q2 : ((w.alloc (.cells #[.slice none 0 0] 22)).alloc (.cells #[.nilFunc] 77)).heap[w.heap.size + 1]? = some (.cells #[.nilFunc] 77 (0, 0)) := by
        have s1 : (w.alloc (.cells #[.slice none 0 0] 22)).heap.size = w.heap.size + 1 := Array.size_push ..
        rw [← s1]; exact heap_alloc_new _ _
      have q1 : ((w.alloc (.cells #[.slice none 0 0] 22)).alloc (.cells #[.nilFunc] 77)).heap[w.heap.size]? = some (.cells #[.slice none 0 0] 22 (0, 0)) := wk.row_below (heap_alloc_new _ _) ((Below.refl _ _).alloc (Nat.le_refl _) _)
      go_upto_region 6 with (refine wpList_store_oneTo rfl 77 (.tmp 7) (.tmp 13) rfl rfl (w.heap.size + 1) (manyF w.heap.size) rfl rfl rfl 77 .nilFunc q2 infoF3 ?_)
      have hcv := wk.cell_row1 ((heap_setRow_ne (B := w.heap.size + 1) (g := w.heap.size) (cs := #[manyF w.heap.size]) (by omega)).trans q1)
      go_wp2_with fail
      go_ret2
      exact ⟨_, rfl, World.ownsRow_nil _ _ _ _, wk.below_setRow HB3.out (by omega) _⟩
    · have hPp : manyP l p = mnyD l 0 p := by unfold manyP; rw [hlen, hpl, if_pos ⟨rfl, fun e => by rw [e] at hlen; simp at hlen; omega⟩]
      rw [hPp]
      have HT := Lib.hid hT
      have HI := Lib.hid (IsL.of h)
      have HY := Lib.hid (IsY.of hY)
      clear hE hPp hT h hY hlen hpl
      go_enter Tryd.func21, Tryd.ntmps21
      go_upto_region 5 with (go_at_call 42; refine HPL.out.mono ?_; rintro e w' ⟨rfl, hw'⟩; rw [hw']; clear hw')
      have b1 : Below w.heap.size w (w.alloc (.cells #[.slice none 0 0] 22)) := (Below.refl _ _).alloc (Nat.le_refl _) _
      have q1 : (w.alloc (.cells #[.slice none 0 0] 22)).heap[w.heap.size]? = some (.cells #[.slice none 0 0] 22 (0, 0)) := heap_alloc_new _ _
      have s1 : (w.alloc (.cells #[.slice none 0 0] 22)).heap.size = w.heap.size + 1 := Array.size_push ..
      generalize w.alloc (.cells #[.slice none 0 0] 22) = w1 at *
      have b2 : Below w1.heap.size w1 (w1.alloc (.cells #[.nilFunc] 77)) := (Below.refl _ _).alloc (Nat.le_refl _) _
      have q2 : (w1.alloc (.cells #[.nilFunc] 77)).heap[w1.heap.size]? = some (.cells #[.nilFunc] 77 (0, 0)) := heap_alloc_new _ _
      have q1' := wk.row_below q1 b2
      have b12 := b1.trans (b2.mono (by omega))
      rw [s1] at q2
      generalize w1.alloc (.cells #[.nilFunc] 77) = w2 at *
      generalize hB : w.heap.size = B at *
      have HB := Lib.hid hB
      have Q1 := Lib.hid q1'
      have Q2 := Lib.hid q2
      have HB2 := Lib.hid b12
      clear q1 q2 q1' b1 b2 b12 hB
      go_upto_region 6 with (refine wpList_store_oneTo rfl 77 (.tmp 7) (.tmp 13) rfl rfl (B + 1) (manyF B) rfl rfl rfl 77 .nilFunc Q2.out infoF3 ?_)
      have hP3 : Pst B (manyF B) 77 (w2.setRow (B + 1) #[manyF B]) [] := pst_start (by rw [heap_setRow_ne (by omega)]; exact Q1.out) (setRow_heap _ _ _ _ _ _ Q2.out)
      have hb3 : Below B w (w2.setRow (B + 1) #[manyF B]) := wk.below_setRow HB2.out (by omega) _
      generalize w2.setRow (B + 1) #[manyF B] = w3 at *
      have hcf := wk.cell_row1 hP3.fn
      have HP3 := Lib.hid hP3
      have HB3 := Lib.hid hb3
      have HI3 := Lib.hid (HI.out.below (by rw [HB.out]; exact Nat.le_refl _) hb3)
      have HY3 := Lib.hid (HY.out.below (by rw [HB.out]; exact Nat.le_refl _) hb3)
      have HT3 := Lib.hid (HT.out.below HT.out.1.1 (by rw [HB.out]; exact hb3))
      have h1B : 1 < B := by have := HT.out.1.1; have := HB.out; omega
      have HX := Lib.hid (many1_calls B h1B n A c l 0 A2 m c2 p w3 [] (by omega) HI3.out HY3.out hasc (by omega) (by omega) (by omega) HP3.out HT3.out (by simp; omega))
      unfold manyF at hcf
      clear hP3 hb3 HI HT HB2 Q1 Q2
      go_wp2_with fail
      refine HX.out.mono ?_
      rintro e w4 ⟨rfl, hP4, hb4⟩
      obtain ⟨⟨v, hv, hown⟩, _⟩ := hP4
      have hcv := wk.cell_row1 hv
      have HO := Lib.hid hown
      have HB4 := Lib.hid hb4
      clear hv hown hb4 hcf HX
      go_wp2_with fail
      go_ret2
      refine ⟨v, rfl, ?_, ?_⟩
      · rw [HB.out]
        have := ownsRow_weak HO.out (base' := B) (by omega)
        rw [List.nil_append] at this
        exact this
      · rw [HB.out]
        exact HB3.out.trans HB4.out
end Go.Proofs.YtmjmkkdmphgdnaaDoor.mk
/- CheckMany. -/
namespace Go.Proofs.YtmjmkkdmphgdnaaDoor.mk

open Go.ChangeShapes Go.WideShapes Go.ChangeAt Go.RowKit

set_option linter.unusedVariables false
/-- the root that found digests and a path lead to -/
noncomputable def mw : Nat → Nat → Int → List Int → List D → St → D × St
  | 0, _, _, _, _, s => ([], s)
  | f + 1, n, st, p, fd, s => if p = [] then (hdS s, nxS s) else if n ≤ 1 then (fd.headD [], s)
    else (nodeD (mw f (split n) st (p.take (cnt p (st + split n))) (fd.take (cnt p (st + split n))) s).1 (mw f (n - split n) (st + split n) (p.drop (cnt p (st + split n))) (fd.drop (cnt p (st + split n))) (mw f (split n) st (p.take (cnt p (st + split n))) (fd.take (cnt p (st + split n))) s).2).1,
      (mw f (n - split n) (st + split n) (p.drop (cnt p (st + split n))) (fd.drop (cnt p (st + split n))) (mw f (split n) st (p.take (cnt p (st + split n))) (fd.take (cnt p (st + split n))) s).2).2)
theorem mw_fuel : ∀ (f g n : Nat) (st : Int) (p : List Int) (fd : List D) (s : St), 1 ≤ n → n ≤ f → n ≤ g → mw f n st p fd s = mw g n st p fd s
  | 0, _, _, _, _, _, _, h, h1, _ => by omega
  | _ + 1, 0, _, _, _, _, _, h, _, h1 => by omega
  | f + 1, g + 1, n, st, p, fd, s, h, h1, h2 => by
    rw [mw, mw]
    split
    · rfl
    · split
      · rfl
      · have hl := split_lt (n := n) (by omega)
        have hp := split_pos n
        rw [mw_fuel f g (split n) st _ _ s (by omega) (by omega) (by omega), mw_fuel f g (n - split n) _ _ _ _ (by omega) (by omega) (by omega)]
noncomputable def mwD (n : Nat) (st : Int) (p : List Int) (fd : List D) (s : St) : D × St := mw n n st p fd s
theorem mwD_nil {n : Nat} (st : Int) {p : List Int} (fd : List D) (s : St) (h : p = []) (h1 : 1 ≤ n) : mwD n st p fd s = (hdS s, nxS s) := by
  unfold mwD
  obtain ⟨k, rfl⟩ : ∃ k, n = k + 1 := ⟨n - 1, by omega⟩
  rw [mw, if_pos h]
theorem mwD_one (st : Int) {p : List Int} (fd : List D) (s : St) (h : p ≠ []) : mwD 1 st p fd s = (fd.headD [], s) := by
  unfold mwD
  rw [mw, if_neg h, if_pos (by omega)]
theorem mwD_two {n : Nat} (st : Int) {p : List Int} (fd : List D) (s : St) (h : p ≠ []) (h1 : 2 ≤ n) : mwD n st p fd s = (nodeD (mwD (split n) st (p.take (cnt p (st + split n))) (fd.take (cnt p (st + split n))) s).1 (mwD (n - split n) (st + split n) (p.drop (cnt p (st + split n))) (fd.drop (cnt p (st + split n))) (mwD (split n) st (p.take (cnt p (st + split n))) (fd.take (cnt p (st + split n))) s).2).1,
      (mwD (n - split n) (st + split n) (p.drop (cnt p (st + split n))) (fd.drop (cnt p (st + split n))) (mwD (split n) st (p.take (cnt p (st + split n))) (fd.take (cnt p (st + split n))) s).2).2) := by
  have hl := split_lt h1
  have hp := split_pos n
  unfold mwD
  obtain ⟨k, hk⟩ : ∃ k, n = k + 1 := ⟨n - 1, by omega⟩
  conv => lhs; arg 1; rw [hk]
  rw [mw, if_neg h, if_neg (by omega), mw_fuel k _ (split n) _ _ _ s (by omega) (by omega) (Nat.le_refl _), mw_fuel k _ (n - split n) _ _ _ _ (by omega) (by omega) (Nat.le_refl _)]
theorem mw_16 : ∀ (f n : Nat) (st : Int) (p : List Int) (fd : List D) (s : St), 1 ≤ n → n ≤ f → fd.length = p.length → (∀ d ∈ fd, d.length = 16) → (∀ d ∈ s.1, d.length = 16) → (mw f n st p fd s).1.length = 16 ∧ ∀ d ∈ (mw f n st p fd s).2.1, d.length = 16
  | 0, _, _, _, _, _, h, h1, _, _, _ => by omega
  | f + 1, n, st, p, fd, s, h, h1, hl, hd, hs => by
    rw [mw]
    split
    · exact ⟨hd_16 hs, fun d hd => hs d (List.mem_of_mem_tail hd)⟩
    · rename_i hp
      split
      · refine ⟨?_, hs⟩
        cases fd with
        | nil => exact absurd (List.eq_nil_of_length_eq_zero hl.symm) hp
        | cons x r => exact hd x (by simp)
      · have hsl := split_lt (n := n) (by omega)
        have hsp := split_pos n
        have h2 := mw_16 f (split n) st (p.take (cnt p (st + split n))) (fd.take (cnt p (st + split n))) s (by omega) (by omega) (by simp [hl]) (fun d h => hd d (List.mem_of_mem_take h)) hs
        have h3 := mw_16 f (n - split n) (st + split n) (p.drop (cnt p (st + split n))) (fd.drop (cnt p (st + split n))) _ (by omega) (by omega) (by simp [hl]) (fun d h => hd d (List.mem_of_mem_drop h)) h2.2
        exact ⟨dig_length _ _, h3.2⟩
def mwF (pr pn : Nat) : Value := .func (.func 49) #[] #[.pointer (some ⟨pn, 0, none⟩), .pointer (some ⟨pr, 0, none⟩)]
theorem IsL.cut {B : Nat} {w : World} {A : Option Addr} {n c : Nat} {l : List D} (h : IsL B w A n c l) {lo hi m : Nat} (h1 : lo ≤ hi) (h2 : hi ≤ n) (h3 : hi ≤ m) (h4 : m ≤ c) :
    IsL B w (if m = lo then A else A.map (·.add (lo * 16))) (hi - lo) (m - lo) ((l.drop lo).take (hi - lo)) := by
  refine ⟨h.is.cut h1 h2 h3 h4, fun hn => ?_⟩
  obtain ⟨b, o, rfl, hb⟩ := h.low (by omega)
  rw [if_neg (by omega)]
  exact ⟨b, _, by rw [Option.map_some, wk.add_at], hb⟩
structure PK (B : Nat) where
  p : World → Value → Prop
  st : ∀ w w' v, p w v → Keep B w w' → p w' v
def isK (B : Nat) (v : Value) : PK B := ⟨fun _ x => x = v, fun _ _ _ h _ => h⟩
def anyK (B : Nat) : PK B := ⟨fun _ _ => True, fun _ _ _ _ _ => trivial⟩
/-- a cell of its own for a digest, made behind what was there -/
def cellK (B G : Nat) : PK B := ⟨fun w x => ∃ g, x = .pointer (some ⟨g, 0, none⟩) ∧ w.heap[g]? = some (.cells hi.z16 31 (0, 0)) ∧ G ≤ g ∧ B + 2 < g, fun w w' x ⟨g, h1, h2, h3, h4⟩ hk => ⟨g, h1, hk.row h2 (by omega) (by omega), h3, h4⟩⟩
theorem run_allocD {o : Oper} {E : Operand → Value} {w : World} (ho : o.op = .alloc 31) : (execOp E o).run Tryd.prog w = .ok (.value (.pointer (some ⟨w.heap.size, 0, none⟩))) (w.alloc (.cells hi.z16 31)) := by
  unfold execOp
  simp only [ho]
  go_simp
  rfl
set_option maxRecDepth 100000 in
set_option maxHeartbeats 4000000 in
theorem mw_nil (B pr pn : Nat) (hB1 : 1 < B) (n : Nat) (st : Int) (A : Option Addr) (c : Nat) (A3 : Option Addr) (c3 : Nat) (fd : List D) (s : St) (w : World) (h1 : 1 ≤ n) (hS : ES B pr pn (mwF pr pn) 81 [] w s w) :
    Calls Tryd.prog 49 #[.int .i64 st, .int .i64 n, .slice A 0 c, .slice A3 0 c3, .pointer (some ⟨pn, 0, none⟩), .pointer (some ⟨pr, 0, none⟩)] w fun e w' => e = .returned (dv (mwD n st [] fd s).1) ∧ Nx B w' (mwD n st [] fd s).2.1 (mwD n st [] fd s).2.2 ∧ Keep B w w' := by
    have HE := Lib.hid (mwD_nil st fd s rfl h1)
    have HD := Lib.hid (hd_16 hS.nx.dl)
    have HS := Lib.hid hS
    clear hS
    go_enter Tryd.func49, Tryd.ntmps49
    go_upto_region 1 with fail
    have q0 : (w.alloc (.cells hi.z16 31)).heap[w.heap.size]? = some (.cells zc.toArray 31 (0, 0)) := zrow w
    have hb1 := zbelow w
    change Code.wp _ _ _ _ (w.alloc (.cells hi.z16 31))
    have hlt := HS.out.nx.lt
    have hltr : pr < w.heap.size := wk.row_lt HS.out.rf
    have hltn : pn < w.heap.size := wk.row_lt HS.out.nb
    have HS1 : Hid (ES B pr pn (mwF pr pn) 81 [(w.heap.size, zc)] w s (w.alloc (.cells hi.z16 31))) := (HS.out.next hB1 hb1).row q0 (by omega)
    have HB1 := Lib.hid hb1
    generalize w.alloc (.cells hi.z16 31) = w1 at *
    have HGB : Hid (B ≤ w.heap.size) := by show _ ≤ _; omega
    generalize hGG : w.heap.size = G at *
    have HGG := Lib.hid hGG
    have HLT : Hid (pr < G ∧ pn < G) := ⟨hltr, hltn⟩
    clear q0 hb1 hGG hltr hltn HS
    have hnb := wk.cell_row1 HS1.out.nb
    unfold nextV at hnb
    have HN := Lib.hid (next_calls B s.1 s.2 w1 HS1.out.nx)
    go_wp2_with fail
    refine HN.out.mono ?_
    rintro e w5 ⟨rfl, hn5, hk5⟩
    have HS5 := Lib.hid (HS1.out.turn (s' := nxS s) hB1 hk5 hn5)
    clear hn5 hk5 hnb HN HS1
    have q0 := HS5.out.rows (G, zc) (by simp)
    have hz := dv_size HD.out
    have hz2 := dv_sizeA HD.out
    have hz3 : zc.toArray.size = (wp.bc (hdS s)).length := by rw [bc_len HD.out]; rfl
    have hdv : dv (s.1.headD z16l) = .agg (wp.bc (hdS s)).toArray := rfl
    rw [hdv]
    go_wp2_with (refine wk.store_row rfl 31 (.tmp 10) (.tmp 19) rfl G (wp.bc (hdS s)) rfl rfl 31 zc.toArray q0 hz hz3 (wk.ones_bc _) ?_)
    refine bodyPost_ret (v := .agg (wp.bc (hdS s)).toArray) (results_cell_row (fn := Tryd.f49) rfl _ _ G 31 (wp.bc (hdS s)).toArray (0, 0) _ rfl (setRow_heap _ _ _ _ _ _ q0) Tryd.underlying31 rfl hz2) rfl ⟨by rw [HE.out] <;> rfl, by rw [HE.out]; exact HS5.out.nx.set (by omega) _, HS5.out.keep.setNew (by have := HGG.out; omega) _⟩
set_option maxRecDepth 100000 in
set_option maxHeartbeats 4000000 in
theorem mw_one (B pr pn : Nat) (hB1 : 1 < B) (st : Int) (A : Option Addr) (m c : Nat) (p : List Int) (A3 : Option Addr) (c3 : Nat) (fd : List D) (s : St) (w : World) (hm : 1 ≤ m) (hpm : p.length = m) (hfd : fd.length = m) (hI : IsL B w A3 m c3 fd) (hS : ES B pr pn (mwF pr pn) 81 [] w s w) :
    Calls Tryd.prog 49 #[.int .i64 st, .int .i64 1, .slice A m c, .slice A3 m c3, .pointer (some ⟨pn, 0, none⟩), .pointer (some ⟨pr, 0, none⟩)] w fun e w' => e = .returned (dv (mwD 1 st p fd s).1) ∧ Nx B w' (mwD 1 st p fd s).2.1 (mwD 1 st p fd s).2.2 ∧ Keep B w w' := by
    have hp0 : p ≠ [] := fun e => by rw [e] at hpm; simp at hpm; omega
    have HE := Lib.hid (mwD_one st fd s hp0)
    have HS := Lib.hid hS
    obtain ⟨x, r, rfl⟩ : ∃ x r, fd = x :: r := by
      cases fd with
      | nil => simp at hfd; omega
      | cons x r => exact ⟨x, r, rfl⟩
    have hx : x.length = 16 := hI.is.dl x (by simp)
    obtain ⟨ad, hix, hld⟩ := hI.is.load (i := 0) (by omega) (d := x) rfl
    have HLD := Lib.hid hld
    have hm0 : ¬ (m : Int) = 0 := by omega
    clear hS hI hld
    go_enter Tryd.func49, Tryd.ntmps49
    go_upto_region 1 with fail
    have q0 : (w.alloc (.cells hi.z16 31)).heap[w.heap.size]? = some (.cells zc.toArray 31 (0, 0)) := zrow w
    have hb1 := zbelow w
    change Code.wp _ _ _ _ (w.alloc (.cells hi.z16 31))
    have hlt := HS.out.nx.lt
    have hltr : pr < w.heap.size := wk.row_lt HS.out.rf
    have hltn : pn < w.heap.size := wk.row_lt HS.out.nb
    have HS1 : Hid (ES B pr pn (mwF pr pn) 81 [(w.heap.size, zc)] w s (w.alloc (.cells hi.z16 31))) := (HS.out.next hB1 hb1).row q0 (by omega)
    have HB1 := Lib.hid hb1
    generalize w.alloc (.cells hi.z16 31) = w1 at *
    have HGB : Hid (B ≤ w.heap.size) := by show _ ≤ _; omega
    generalize hGG : w.heap.size = G at *
    have HGG := Lib.hid hGG
    have HLT : Hid (pr < G ∧ pn < G) := ⟨hltr, hltn⟩
    clear q0 hb1 hGG hltr hltn HS
    have hl1 := HLD.out w1 HB1.out
    have q0 := HS1.out.rows (G, zc) (by simp)
    have hz := dv_size hx
    have hz2 := dv_sizeA hx
    have hz3 : zc.toArray.size = (wp.bc x).length := by rw [bc_len hx]; rfl
    go_wp2_with (first | (refine wk.load_agg rfl 31 (.tmp 23) rfl ad rfl (wp.bc x) _ hl1 Tryd.underlying31 rfl hz ?_) | (refine wk.store_row rfl 31 (.tmp 10) (.tmp 24) rfl G (wp.bc x) rfl rfl 31 zc.toArray q0 hz hz3 (wk.ones_bc _) ?_))
    refine bodyPost_ret (v := .agg (wp.bc x).toArray) (results_cell_row (fn := Tryd.f49) rfl _ _ G 31 (wp.bc x).toArray (0, 0) _ rfl (setRow_heap _ _ _ _ _ _ q0) Tryd.underlying31 rfl hz2) rfl ⟨by rw [HE.out] <;> rfl, by rw [HE.out]; exact HS1.out.nx.set (by omega) _, HS1.out.keep.setNew (by have := HGG.out; omega) _⟩
set_option maxRecDepth 100000 in
set_option maxHeartbeats 4000000 in
theorem mw1_calls (B pr pn : Nat) (hB1 : 1 < B) : ∀ (n : Nat) (st : Int) (A : Option Addr) (m c : Nat) (p : List Int) (A3 : Option Addr) (c3 : Nat) (fd : List D) (s : St) (w : World), 1 ≤ n → 0 ≤ st → st + n ≤ 1099511627776 → m ≤ 1099511627776 → IsY B w A m c p → Asc p → IsL B w A3 m c3 fd → ES B pr pn (mwF pr pn) 81 [] w s w →
    Calls Tryd.prog 49 #[.int .i64 st, .int .i64 n, .slice A m c, .slice A3 m c3, .pointer (some ⟨pn, 0, none⟩), .pointer (some ⟨pr, 0, none⟩)] w fun e w' => e = .returned (dv (mwD n st p fd s).1) ∧ Nx B w' (mwD n st p fd s).2.1 (mwD n st p fd s).2.2 ∧ Keep B w w' := by
  intro n
  induction n using Nat.strongRecOn with
  | ind n ih =>
  intro st A m c p A3 c3 fd s w hn1 hst0 hst hm40 hY hAs hI hS
  have hplen := hY.is.len
  have hflen := hI.is.len
  by_cases hm0 : m = 0
  · subst hm0
    have hp0 : p = [] := List.eq_nil_of_length_eq_zero (by omega)
    subst hp0
    exact mw_nil B pr pn hB1 n st A c A3 c3 fd s w hn1 hS
  · by_cases hn : n = 1
    · subst hn
      exact mw_one B pr pn hB1 st A m c p A3 c3 fd s w (by omega) hplen hflen hI hS
    · have h2 : 2 ≤ n := by omega
      have hp0 : p ≠ [] := fun e => by rw [e] at hplen; simp at hplen; omega
      have hs := split_lt h2
      have hp := split_pos n
      have hr2 := mwD_two (n := n) st fd s hp0 h2
      have h16a := mw_16 (split n) (split n) st (p.take (cnt p (st + split n))) (fd.take (cnt p (st + split n))) s (by omega) (Nat.le_refl _) (by simp [hplen, hflen]) (fun d h => hI.is.dl d (List.mem_of_mem_take h)) hS.nx.dl
      have h16b := mw_16 (n - split n) (n - split n) (st + split n) (p.drop (cnt p (st + split n))) (fd.drop (cnt p (st + split n))) (mwD (split n) st (p.take (cnt p (st + split n))) (fd.take (cnt p (st + split n))) s).2 (by omega) (Nat.le_refl _) (by simp [hplen, hflen]) (fun d h => hI.is.dl d (List.mem_of_mem_drop h)) h16a.2
      change (mwD (split n) st (p.take (cnt p (st + split n))) (fd.take (cnt p (st + split n))) s).1.length = 16 ∧ _ at h16a
      change (mwD (n - split n) (st + split n) (p.drop (cnt p (st + split n))) (fd.drop (cnt p (st + split n))) (mwD (split n) st (p.take (cnt p (st + split n))) (fd.take (cnt p (st + split n))) s).2).1.length = 16 ∧ _ at h16b
      have HF := Lib.hid (fun w => firstSize_calls n w h2 (by omega))
      have HS := Lib.hid hS
      have IH := Lib.hid ih
      have hcl := cnt_le p (st + split n)
      rw [hplen] at hcl
      have hcap := hY.is.le
      have hcap3 := hI.is.le
      have c1 := hY.cut (lo := 0) (hi := cnt p (st + split n)) (m := cnt p (st + split n)) (by omega) hcl (by omega) (by omega)
      have c2' := hY.cut (lo := cnt p (st + split n)) (hi := m) (m := c) hcl (Nat.le_refl _) hcap (Nat.le_refl _)
      have d1 := hI.cut (lo := 0) (hi := cnt p (st + split n)) (m := cnt p (st + split n)) (by omega) hcl (by omega) (by omega)
      have d2 := hI.cut (lo := cnt p (st + split n)) (hi := m) (m := c3) hcl (Nat.le_refl _) hcap3 (Nat.le_refl _)
      have t1 : (p.drop 0).take (cnt p (st + split n) - 0) = p.take (cnt p (st + split n)) := by simp
      have t2 : (p.drop (cnt p (st + split n))).take (m - cnt p (st + split n)) = p.drop (cnt p (st + split n)) := List.take_of_length_le (by rw [List.length_drop, hplen]; exact Nat.le_refl _)
      have t3 : (fd.drop 0).take (cnt p (st + split n) - 0) = fd.take (cnt p (st + split n)) := by simp
      have t4 : (fd.drop (cnt p (st + split n))).take (m - cnt p (st + split n)) = fd.drop (cnt p (st + split n)) := List.take_of_length_le (by rw [List.length_drop, hflen]; exact Nat.le_refl _)
      rw [t1] at c1
      rw [t2] at c2'
      rw [t3] at d1
      rw [t4] at d2
      have r1 := fun w => run_cutZ03 w A m c (cnt p (st + split n)) (cnt p (st + split n)) (Nat.le_refl _) (by omega)
      have r2 := fun w => run_cutZ_l w A m c (cnt p (st + split n)) hcl
      have r3 := fun w => run_cut03 w A3 m c3 (cnt p (st + split n)) (cnt p (st + split n)) (Nat.le_refl _) (by omega)
      have r4 := fun w => run_cut_l w A3 m c3 (cnt p (st + split n)) hcl
      have HCN : Hid (∀ w1, Below w.heap.size w w1 → Calls Tryd.prog 44 #[.slice A m c, .int .i64 (st + split n)] w1 fun e w' => e = .returned (.int .i64 (cnt p (st + split n))) ∧ w' = w1) := fun w1 hb => countBelow_calls A m c p (st + split n) w1 (hY.is.below hb) hAs hm40
      have has1 := hAs.take (cnt p (st + split n))
      have has2 := hAs.drop (cnt p (st + split n))
      simp only [Nat.sub_zero] at c1 r1 d1 r3
      generalize (if cnt p (st + split n) = 0 then A else A.map (·.add (0 * 1))) = P1 at *
      generalize (if c = cnt p (st + split n) then A else A.map (·.add (cnt p (st + split n) * 1))) = P2 at *
      generalize (if cnt p (st + split n) = 0 then A3 else A3.map (·.add (0 * 16))) = F1 at *
      generalize (if c3 = cnt p (st + split n) then A3 else A3.map (·.add (cnt p (st + split n) * 16))) = F2 at *
      generalize p.take (cnt p (st + split n)) = p1 at *
      generalize p.drop (cnt p (st + split n)) = p2 at *
      generalize fd.take (cnt p (st + split n)) = f1 at *
      generalize fd.drop (cnt p (st + split n)) = f2 at *
      generalize cnt p (st + split n) = q at *
      have C1 := Lib.hid c1
      have C2 := Lib.hid c2'
      have D1 := Lib.hid d1
      have D2 := Lib.hid d2
      have R1 := Lib.hid r1
      have R2 := Lib.hid r2
      have R3 := Lib.hid r3
      have R4 := Lib.hid r4
      have HAS1 := Lib.hid has1
      have HAS2 := Lib.hid has2
      have HR := Lib.hid hr2
      have H16A := Lib.hid h16a.1
      have H16B := Lib.hid h16b.1
      have hm0' : ¬ (m : Int) = 0 := by omega
      clear hS ih c1 c2' d1 d2 t1 t2 t3 t4 r1 r2 r3 r4 has1 has2 hY hAs hI hr2 h16a h16b
      go_enter Tryd.func49, Tryd.ntmps49
      go_upto_region 1 with fail
      have q0 : (w.alloc (.cells hi.z16 31)).heap[w.heap.size]? = some (.cells zc.toArray 31 (0, 0)) := zrow w
      have hb1 := zbelow w
      change Code.wp _ _ _ _ (w.alloc (.cells hi.z16 31))
      have hlt := HS.out.nx.lt
      have hltr : pr < w.heap.size := wk.row_lt HS.out.rf
      have hltn : pn < w.heap.size := wk.row_lt HS.out.nb
      have HS1 : Hid (ES B pr pn (mwF pr pn) 81 [(w.heap.size, zc)] w s (w.alloc (.cells hi.z16 31))) := (HS.out.next hB1 hb1).row q0 (by omega)
      have HB1 := Lib.hid hb1
      generalize w.alloc (.cells hi.z16 31) = w1 at *
      have HGB : Hid (B ≤ w.heap.size) := by show _ ≤ _; omega
      generalize hGG : w.heap.size = G at *
      have HGG := Lib.hid hGG
      have HLT : Hid (pr < G ∧ pn < G) := ⟨hltr, hltn⟩
      clear q0 hb1 hGG hltr hltn HS
      generalize split n = k at *
      have HCN2 := Lib.hid (HCN.out w1 (by first | exact HB1.out | (rw [HGG.out]; exact HB1.out)))
      go_upto_region 7 with (first | (go_at_call 50; refine (HF.out _).mono ?_; rintro e w' ⟨rfl, hw'⟩; rw [hw']; clear hw') | (go_at_call 44; refine HCN2.out.mono ?_; rintro e w' ⟨rfl, hw'⟩; rw [hw']; clear hw'))
      replace HS1 := Lib.hid (HS1.out.next hB1 (Below.refl w1.heap.size w1).drew)
      obtain ⟨r1, hr1⟩ : ∃ r, r = mwD k st p1 f1 s := ⟨_, rfl⟩
      rw [← hr1] at HR H16A H16B
      have HREC1 : Hid (∀ w4, ES B pr pn (mwF pr pn) 81 [(G, zc)] w s w4 → Calls Tryd.prog 49 #[.int .i64 st, .int .i64 k, .slice P1 q q, .slice F1 q q, .pointer (some ⟨pn, 0, none⟩), .pointer (some ⟨pr, 0, none⟩)] w4 fun e w' => e = .returned (dv r1.1) ∧ Nx B w' r1.2.1 r1.2.2 ∧ Keep B w4 w') := by
        intro w4 h4
        rw [hr1]
        exact IH.out k hs st P1 q q p1 F1 q f1 s w4 (by omega) hst0 (by omega) (by omega) (C1.out.below (by have := HGG.out; have := HGB.out; omega) (h4.keep.below (by have := HGG.out; have := HGB.out; omega))) HAS1.out (D1.out.below (by have := HGG.out; have := HGB.out; omega) (h4.keep.below (by have := HGG.out; have := HGB.out; omega))) (h4.sub (by simp)).start
      obtain ⟨r2, hr2'⟩ : ∃ r, r = mwD (n - k) (st + k) p2 f2 r1.2 := ⟨_, rfl⟩
      rw [← hr2'] at HR H16B
      have hcn : ((n : Int) - (k : Int)) = ((n - k : Nat) : Int) := by omega
      have HREC2 : Hid (∀ g w4, ES B pr pn (mwF pr pn) 81 [(g, wp.bc r1.1), (G, zc)] w r1.2 w4 → Calls Tryd.prog 49 #[.int .i64 (st + k), .int .i64 ((n - k : Nat) : Int), .slice P2 (m - q) (c - q), .slice F2 (m - q) (c3 - q), .pointer (some ⟨pn, 0, none⟩), .pointer (some ⟨pr, 0, none⟩)] w4 fun e w' => e = .returned (dv r2.1) ∧ Nx B w' r2.2.1 r2.2.2 ∧ Keep B w4 w') := by
        intro g w4 h4
        rw [hr2']
        exact IH.out (n - k) (by omega) (st + k) P2 (m - q) (c - q) p2 F2 (c3 - q) f2 r1.2 w4 (by omega) (by omega) (by omega) (by omega) (C2.out.below (by have := HGG.out; have := HGB.out; omega) (h4.keep.below (by have := HGG.out; have := HGB.out; omega))) HAS2.out (D2.out.below (by have := HGG.out; have := HGB.out; omega) (h4.keep.below (by have := HGG.out; have := HGB.out; omega))) (h4.sub (by simp)).start
      clear hr1 hr2'
      refine wk.region_gen 13 (fun i => (([isK B (mwF pr pn), isK B (.int .i64 st), isK B (.int .i64 k), isK B (.slice A m c), isK B (.int .i64 q), isK B (.int .i64 q), isK B (.slice P1 q q), isK B (.slice A3 m c3), isK B (.int .i64 q), isK B (.int .i64 q), isK B (.slice F1 q q), isK B (dv r1.1), cellK B (G + 1)] : List (PK B)).getD i (anyK B)).p) [some 32, some 33, some 34, some 35, some 36, some 37, some 38, some 39, some 40, some 41, some 42, some 43, some 13] (Keep B) (fun i => (([isK B (mwF pr pn), isK B (.int .i64 st), isK B (.int .i64 k), isK B (.slice A m c), isK B (.int .i64 q), isK B (.int .i64 q), isK B (.slice P1 q q), isK B (.slice A3 m c3), isK B (.int .i64 q), isK B (.int .i64 q), isK B (.slice F1 q q), isK B (dv r1.1), cellK B (G + 1)] : List (PK B)).getD i (anyK B)).st) (fun L u => ES B pr pn (mwF pr pn) 81 [(G, zc)] w (if L 11 then r1.2 else s) u) (by show ES _ _ _ _ _ _ _ _ _; exact HS1.out) (by kernel_rfl) (by kernel_rfl) (by kernel_rfl) (by kernel_rfl) (by kernel_rfl) (by kernel_rfl) ?hstep ?hdone
      case hstep =>
        intro i o ho hi E L w4 hS4 hL hdeps D
        have hi2 : i = 0 ∨ i = 1 ∨ i = 2 ∨ i = 3 ∨ i = 4 ∨ i = 5 ∨ i = 6 ∨ i = 7 ∨ i = 8 ∨ i = 9 ∨ i = 10 ∨ i = 11 ∨ i = 12 := by omega
        clear hi
        rcases hi2 with rfl | rfl | rfl | rfl | rfl | rfl | rfl | rfl | rfl | rfl | rfl | rfl | rfl
        ·
          have ho2 := (Array.getElem?_eq_some_iff.1 ho).2
          simp only [List.getElem_toArray, List.getElem_cons_zero] at ho2
          subst ho2
          clear ho
          have e5 := D.old 5 (by kernel_rfl)
          refine wk.Does.weak (R := fun _ v => v = mwF pr pn) ?_ fun w' v hb hr => ⟨hr, Keep.of hb, hS4.next hB1 hb⟩
          exact wk.does_load1 rfl (by rw [e5]; rfl) (wk.cell_row1 hS4.rf) Tryd.underlying81 rfl rfl
        ·
          have ho2 := (Array.getElem?_eq_some_iff.1 ho).2
          simp only [List.getElem_toArray, List.getElem_cons_succ, List.getElem_cons_zero] at ho2
          subst ho2
          clear ho
          have e0 := D.old 0 (by kernel_rfl)
          refine wk.Does.weak (R := fun _ v => v = .int .i64 st) ?_ fun w' v hb hr => ⟨hr, Keep.of hb, hS4.next hB1 hb⟩
          exact wk.does_move rfl (by rw [e0]; rfl)
        ·
          have ho2 := (Array.getElem?_eq_some_iff.1 ho).2
          simp only [List.getElem_toArray, List.getElem_cons_succ, List.getElem_cons_zero] at ho2
          subst ho2
          clear ho
          have e11 := D.old 11 (by kernel_rfl)
          refine wk.Does.weak (R := fun _ v => v = .int .i64 k) ?_ fun w' v hb hr => ⟨hr, Keep.of hb, hS4.next hB1 hb⟩
          exact wk.does_move rfl (by rw [e11]; rfl)
        ·
          have ho2 := (Array.getElem?_eq_some_iff.1 ho).2
          simp only [List.getElem_toArray, List.getElem_cons_succ, List.getElem_cons_zero] at ho2
          subst ho2
          clear ho
          have e2 := D.old 2 (by kernel_rfl)
          refine wk.Does.weak (R := fun _ v => v = .slice A m c) ?_ fun w' v hb hr => ⟨hr, Keep.of hb, hS4.next hB1 hb⟩
          exact wk.does_move rfl (by rw [e2]; rfl)
        ·
          have ho2 := (Array.getElem?_eq_some_iff.1 ho).2
          simp only [List.getElem_toArray, List.getElem_cons_succ, List.getElem_cons_zero] at ho2
          subst ho2
          clear ho
          have e12 := D.old 12 (by kernel_rfl)
          refine wk.Does.weak (R := fun _ v => v = .int .i64 q) ?_ fun w' v hb hr => ⟨hr, Keep.of hb, hS4.next hB1 hb⟩
          exact wk.does_move rfl (by rw [e12]; rfl)
        ·
          have ho2 := (Array.getElem?_eq_some_iff.1 ho).2
          simp only [List.getElem_toArray, List.getElem_cons_succ, List.getElem_cons_zero] at ho2
          subst ho2
          clear ho
          have e12 := D.old 12 (by kernel_rfl)
          refine wk.Does.weak (R := fun _ v => v = .int .i64 q) ?_ fun w' v hb hr => ⟨hr, Keep.of hb, hS4.next hB1 hb⟩
          exact wk.does_move rfl (by rw [e12]; rfl)
        ·
          have ho2 := (Array.getElem?_eq_some_iff.1 ho).2
          simp only [List.getElem_toArray, List.getElem_cons_succ, List.getElem_cons_zero] at ho2
          subst ho2
          clear ho
          have e35 : E (.tmp 35) = .slice A m c := D.is { on := 3, ground := .data } (by simp) rfl 35 rfl
          have e36 : E (.tmp 36) = .int .i64 q := D.is { on := 4, ground := .data } (by simp) rfl 36 rfl
          have e37 : E (.tmp 37) = .int .i64 q := D.is { on := 5, ground := .data } (by simp) rfl 37 rfl
          refine wk.Does.weak (R := fun _ v => v = .slice P1 q q) ?_ fun w' v hb hr => ⟨hr, Keep.of hb, hS4.next hB1 hb⟩
          exact wk.does_run (wk.op_slice rfl e35 rfl (by rw [Option.map_some, e36]) (by rw [Option.map_some, e37]) (R1.out _)) rfl
        ·
          have ho2 := (Array.getElem?_eq_some_iff.1 ho).2
          simp only [List.getElem_toArray, List.getElem_cons_succ, List.getElem_cons_zero] at ho2
          subst ho2
          clear ho
          have e3 := D.old 3 (by kernel_rfl)
          refine wk.Does.weak (R := fun _ v => v = .slice A3 m c3) ?_ fun w' v hb hr => ⟨hr, Keep.of hb, hS4.next hB1 hb⟩
          exact wk.does_move rfl (by rw [e3]; rfl)
        ·
          have ho2 := (Array.getElem?_eq_some_iff.1 ho).2
          simp only [List.getElem_toArray, List.getElem_cons_succ, List.getElem_cons_zero] at ho2
          subst ho2
          clear ho
          have e12 := D.old 12 (by kernel_rfl)
          refine wk.Does.weak (R := fun _ v => v = .int .i64 q) ?_ fun w' v hb hr => ⟨hr, Keep.of hb, hS4.next hB1 hb⟩
          exact wk.does_move rfl (by rw [e12]; rfl)
        ·
          have ho2 := (Array.getElem?_eq_some_iff.1 ho).2
          simp only [List.getElem_toArray, List.getElem_cons_succ, List.getElem_cons_zero] at ho2
          subst ho2
          clear ho
          have e12 := D.old 12 (by kernel_rfl)
          refine wk.Does.weak (R := fun _ v => v = .int .i64 q) ?_ fun w' v hb hr => ⟨hr, Keep.of hb, hS4.next hB1 hb⟩
          exact wk.does_move rfl (by rw [e12]; rfl)
        ·
          have ho2 := (Array.getElem?_eq_some_iff.1 ho).2
          simp only [List.getElem_toArray, List.getElem_cons_succ, List.getElem_cons_zero] at ho2
          subst ho2
          clear ho
          have e39 : E (.tmp 39) = .slice A3 m c3 := D.is { on := 7, ground := .data } (by simp) rfl 39 rfl
          have e40 : E (.tmp 40) = .int .i64 q := D.is { on := 8, ground := .data } (by simp) rfl 40 rfl
          have e41 : E (.tmp 41) = .int .i64 q := D.is { on := 9, ground := .data } (by simp) rfl 41 rfl
          refine wk.Does.weak (R := fun _ v => v = .slice F1 q q) ?_ fun w' v hb hr => ⟨hr, Keep.of hb, hS4.next hB1 hb⟩
          exact wk.does_run (wk.op_slice rfl e39 rfl (by rw [Option.map_some, e40]) (by rw [Option.map_some, e41]) (R3.out _)) rfl
        ·
          have ho2 := (Array.getElem?_eq_some_iff.1 ho).2
          simp only [List.getElem_toArray, List.getElem_cons_succ, List.getElem_cons_zero] at ho2
          subst ho2
          clear ho
          have e32 : E (.tmp 32) = mwF pr pn := D.is { on := 0, ground := .data } (by simp) rfl 32 rfl
          have e33 : E (.tmp 33) = .int .i64 st := D.is { on := 1, ground := .data } (by simp) rfl 33 rfl
          have e34 : E (.tmp 34) = .int .i64 k := D.is { on := 2, ground := .data } (by simp) rfl 34 rfl
          have e38 : E (.tmp 38) = .slice P1 q q := D.is { on := 6, ground := .data } (by simp) rfl 38 rfl
          have e42 : E (.tmp 42) = .slice F1 q q := D.is { on := 10, ground := .data } (by simp) rfl 42 rfl
          have hS5 := hS4
          rw [hL] at hS5
          refine wk.does_fn_t (f := 49) (vs := #[.int .i64 st, .int .i64 k, .slice P1 q q, .slice F1 q q, .pointer (some ⟨pn, 0, none⟩), .pointer (some ⟨pr, 0, none⟩)]) rfl (by rw [e32]; rfl) (by simp [e33, e34, e38, e42]) (by go_simp) ?_
          refine (HREC1.out w4 hS5).mono ?_
          rintro e w6 ⟨rfl, hn5, hk5⟩
          exact ⟨_, rfl, rfl, hk5, hS5.turn hB1 hk5 hn5⟩
        ·
          have ho2 := (Array.getElem?_eq_some_iff.1 ho).2
          simp only [List.getElem_toArray, List.getElem_cons_succ, List.getElem_cons_zero] at ho2
          subst ho2
          clear ho
          have hlt5 := hS4.nx.lt
          have hba : Below w4.heap.size w4 (w4.alloc (.cells hi.z16 31)) := (Below.refl _ _).alloc (Nat.le_refl _) _
          exact wk.does_new_t (run_allocD rfl) ⟨⟨_, rfl, heap_alloc_new _ _, (by have := wk.row_lt (hS4.rows (G, zc) (by simp)); omega), by omega⟩, Keep.of hba, hS4.next hB1 hba⟩
      case hdone =>
        intro vals L w4 hall hS4 hv
        have h11 : vals 11 = dv r1.1 := hv 11 (by omega)
        have h12 := hv 12 (by omega)
        clear hv
        simp only [List.drop_succ_cons, List.drop_zero, Act.put, wk.setL, List.setIfInBounds_toArray, List.set_cons_zero, List.set_cons_succ, Nat.zero_add, Nat.reduceAdd, h11]
        generalize vals 0 = x0
        generalize vals 1 = x1
        generalize vals 2 = x2
        generalize vals 3 = x3
        generalize vals 4 = x4
        generalize vals 5 = x5
        generalize vals 6 = x6
        generalize vals 7 = x7
        generalize vals 8 = x8
        generalize vals 9 = x9
        generalize vals 10 = x10
        generalize vals 12 = x12 at *
        have hall11 := hall 11 (by omega)
        rw [hall11] at hS4
        clear hall hall11
        obtain ⟨g, rfl, hqg, hgG, hgB⟩ := h12
        have HS5 : Hid (ES B pr pn (mwF pr pn) 81 [(g, wp.bc r1.1), (G, zc)] w (r1.2) (w4.setRow g (wp.bc r1.1).toArray)) := (hS4.row (g := g) (cs := zc) hqg hgB).setHead hB1 hgB (by have := HGG.out; omega) (by have := HLT.out; omega) (by have := HLT.out; omega) (fun p hp => by simp only [List.mem_cons, List.not_mem_nil, or_false] at hp; rcases hp with rfl; show G ≠ g; omega) _
        have hz := dv_size H16A.out
        have hz3 : hi.z16.size = (wp.bc r1.1).length := by rw [bc_len H16A.out]; rfl
        clear hS4
        go_upto_region 8 with (refine wk.store_row rfl 31 (.tmp 13) (.tmp 43) rfl g (wp.bc r1.1) rfl rfl 31 hi.z16 hqg hz hz3 (wk.ones_bc _) ?_)
        generalize w4.setRow g (wp.bc r1.1).toArray = w5 at *
        clear hqg hz hz3
        refine wk.region_gen 15 (fun i => (([isK B (mwF pr pn), isK B (.int .i64 st), isK B (.int .i64 k), isK B (.int .i64 (st + k)), isK B (.int .i64 n), isK B (.int .i64 k), isK B (.int .i64 ((n - k : Nat) : Int)), isK B (.slice A m c), isK B (.int .i64 q), isK B (.slice P2 (m - q) (c - q)), isK B (.slice A3 m c3), isK B (.int .i64 q), isK B (.slice F2 (m - q) (c3 - q)), isK B (dv r2.1), cellK B (g + 1)] : List (PK B)).getD i (anyK B)).p) [some 44, some 45, some 46, some 47, some 48, some 49, some 50, some 51, some 52, some 53, some 54, some 55, some 56, some 57, some 14] (Keep B) (fun i => (([isK B (mwF pr pn), isK B (.int .i64 st), isK B (.int .i64 k), isK B (.int .i64 (st + k)), isK B (.int .i64 n), isK B (.int .i64 k), isK B (.int .i64 ((n - k : Nat) : Int)), isK B (.slice A m c), isK B (.int .i64 q), isK B (.slice P2 (m - q) (c - q)), isK B (.slice A3 m c3), isK B (.int .i64 q), isK B (.slice F2 (m - q) (c3 - q)), isK B (dv r2.1), cellK B (g + 1)] : List (PK B)).getD i (anyK B)).st) (fun L u => ES B pr pn (mwF pr pn) 81 [(g, wp.bc r1.1), (G, zc)] w (if L 13 then r2.2 else r1.2) u) (by show ES _ _ _ _ _ _ _ _ _; exact HS5.out.next hB1 (Below.refl _ _).drew) (by kernel_rfl) (by kernel_rfl) (by kernel_rfl) (by kernel_rfl) (by kernel_rfl) (by kernel_rfl) ?hstep ?hdone
        case hstep =>
          intro i o ho hi E L w4 hS4 hL hdeps D
          have hi2 : i = 0 ∨ i = 1 ∨ i = 2 ∨ i = 3 ∨ i = 4 ∨ i = 5 ∨ i = 6 ∨ i = 7 ∨ i = 8 ∨ i = 9 ∨ i = 10 ∨ i = 11 ∨ i = 12 ∨ i = 13 ∨ i = 14 := by omega
          clear hi
          rcases hi2 with rfl | rfl | rfl | rfl | rfl | rfl | rfl | rfl | rfl | rfl | rfl | rfl | rfl | rfl | rfl
          ·
            have ho2 := (Array.getElem?_eq_some_iff.1 ho).2
            simp only [List.getElem_toArray, List.getElem_cons_zero] at ho2
            subst ho2
            clear ho
            have e5 := D.old 5 (by kernel_rfl)
            refine wk.Does.weak (R := fun _ v => v = mwF pr pn) ?_ fun w' v hb hr => ⟨hr, Keep.of hb, hS4.next hB1 hb⟩
            exact wk.does_load1 rfl (by rw [e5]; rfl) (wk.cell_row1 hS4.rf) Tryd.underlying81 rfl rfl
          ·
            have ho2 := (Array.getElem?_eq_some_iff.1 ho).2
            simp only [List.getElem_toArray, List.getElem_cons_succ, List.getElem_cons_zero] at ho2
            subst ho2
            clear ho
            have e0 := D.old 0 (by kernel_rfl)
            refine wk.Does.weak (R := fun _ v => v = .int .i64 st) ?_ fun w' v hb hr => ⟨hr, Keep.of hb, hS4.next hB1 hb⟩
            exact wk.does_move rfl (by rw [e0]; rfl)
          ·
            have ho2 := (Array.getElem?_eq_some_iff.1 ho).2
            simp only [List.getElem_toArray, List.getElem_cons_succ, List.getElem_cons_zero] at ho2
            subst ho2
            clear ho
            have e11 := D.old 11 (by kernel_rfl)
            refine wk.Does.weak (R := fun _ v => v = .int .i64 k) ?_ fun w' v hb hr => ⟨hr, Keep.of hb, hS4.next hB1 hb⟩
            exact wk.does_move rfl (by rw [e11]; rfl)
          ·
            have ho2 := (Array.getElem?_eq_some_iff.1 ho).2
            simp only [List.getElem_toArray, List.getElem_cons_succ, List.getElem_cons_zero] at ho2
            subst ho2
            clear ho
            have e45 : E (.tmp 45) = .int .i64 st := D.is { on := 1, ground := .data } (by simp) rfl 45 rfl
            have e46 : E (.tmp 46) = .int .i64 k := D.is { on := 2, ground := .data } (by simp) rfl 46 rfl
            refine wk.Does.weak (R := fun _ v => v = .int .i64 (st + k)) ?_ fun w' v hb hr => ⟨hr, Keep.of hb, hS4.next hB1 hb⟩
            exact wk.does_bin rfl (by rw [e45, e46]; go_simp; rw [IntKind.wrap_i64]; omega) rfl
          ·
            have ho2 := (Array.getElem?_eq_some_iff.1 ho).2
            simp only [List.getElem_toArray, List.getElem_cons_succ, List.getElem_cons_zero] at ho2
            subst ho2
            clear ho
            have e1 := D.old 1 (by kernel_rfl)
            refine wk.Does.weak (R := fun _ v => v = .int .i64 n) ?_ fun w' v hb hr => ⟨hr, Keep.of hb, hS4.next hB1 hb⟩
            exact wk.does_move rfl (by rw [e1]; rfl)
          ·
            have ho2 := (Array.getElem?_eq_some_iff.1 ho).2
            simp only [List.getElem_toArray, List.getElem_cons_succ, List.getElem_cons_zero] at ho2
            subst ho2
            clear ho
            have e11 := D.old 11 (by kernel_rfl)
            refine wk.Does.weak (R := fun _ v => v = .int .i64 k) ?_ fun w' v hb hr => ⟨hr, Keep.of hb, hS4.next hB1 hb⟩
            exact wk.does_move rfl (by rw [e11]; rfl)
          ·
            have ho2 := (Array.getElem?_eq_some_iff.1 ho).2
            simp only [List.getElem_toArray, List.getElem_cons_succ, List.getElem_cons_zero] at ho2
            subst ho2
            clear ho
            have e48 : E (.tmp 48) = .int .i64 n := D.is { on := 4, ground := .data } (by simp) rfl 48 rfl
            have e49 : E (.tmp 49) = .int .i64 k := D.is { on := 5, ground := .data } (by simp) rfl 49 rfl
            refine wk.Does.weak (R := fun _ v => v = .int .i64 ((n - k : Nat) : Int)) ?_ fun w' v hb hr => ⟨hr, Keep.of hb, hS4.next hB1 hb⟩
            exact wk.does_bin rfl (by rw [e48, e49]; go_simp; rw [IntKind.wrap_i64]; omega) rfl
          ·
            have ho2 := (Array.getElem?_eq_some_iff.1 ho).2
            simp only [List.getElem_toArray, List.getElem_cons_succ, List.getElem_cons_zero] at ho2
            subst ho2
            clear ho
            have e2 := D.old 2 (by kernel_rfl)
            refine wk.Does.weak (R := fun _ v => v = .slice A m c) ?_ fun w' v hb hr => ⟨hr, Keep.of hb, hS4.next hB1 hb⟩
            exact wk.does_move rfl (by rw [e2]; rfl)
          ·
            have ho2 := (Array.getElem?_eq_some_iff.1 ho).2
            simp only [List.getElem_toArray, List.getElem_cons_succ, List.getElem_cons_zero] at ho2
            subst ho2
            clear ho
            have e12 := D.old 12 (by kernel_rfl)
            refine wk.Does.weak (R := fun _ v => v = .int .i64 q) ?_ fun w' v hb hr => ⟨hr, Keep.of hb, hS4.next hB1 hb⟩
            exact wk.does_move rfl (by rw [e12]; rfl)
          ·
            have ho2 := (Array.getElem?_eq_some_iff.1 ho).2
            simp only [List.getElem_toArray, List.getElem_cons_succ, List.getElem_cons_zero] at ho2
            subst ho2
            clear ho
            have e51 : E (.tmp 51) = .slice A m c := D.is { on := 7, ground := .data } (by simp) rfl 51 rfl
            have e52 : E (.tmp 52) = .int .i64 q := D.is { on := 8, ground := .data } (by simp) rfl 52 rfl
            refine wk.Does.weak (R := fun _ v => v = .slice P2 (m - q) (c - q)) ?_ fun w' v hb hr => ⟨hr, Keep.of hb, hS4.next hB1 hb⟩
            exact wk.does_run (wk.op_slice rfl e51 (by rw [Option.map_some, e52]) rfl rfl (R2.out _)) rfl
          ·
            have ho2 := (Array.getElem?_eq_some_iff.1 ho).2
            simp only [List.getElem_toArray, List.getElem_cons_succ, List.getElem_cons_zero] at ho2
            subst ho2
            clear ho
            have e3 := D.old 3 (by kernel_rfl)
            refine wk.Does.weak (R := fun _ v => v = .slice A3 m c3) ?_ fun w' v hb hr => ⟨hr, Keep.of hb, hS4.next hB1 hb⟩
            exact wk.does_move rfl (by rw [e3]; rfl)
          ·
            have ho2 := (Array.getElem?_eq_some_iff.1 ho).2
            simp only [List.getElem_toArray, List.getElem_cons_succ, List.getElem_cons_zero] at ho2
            subst ho2
            clear ho
            have e12 := D.old 12 (by kernel_rfl)
            refine wk.Does.weak (R := fun _ v => v = .int .i64 q) ?_ fun w' v hb hr => ⟨hr, Keep.of hb, hS4.next hB1 hb⟩
            exact wk.does_move rfl (by rw [e12]; rfl)
          ·
            have ho2 := (Array.getElem?_eq_some_iff.1 ho).2
            simp only [List.getElem_toArray, List.getElem_cons_succ, List.getElem_cons_zero] at ho2
            subst ho2
            clear ho
            have e54 : E (.tmp 54) = .slice A3 m c3 := D.is { on := 10, ground := .data } (by simp) rfl 54 rfl
            have e55 : E (.tmp 55) = .int .i64 q := D.is { on := 11, ground := .data } (by simp) rfl 55 rfl
            refine wk.Does.weak (R := fun _ v => v = .slice F2 (m - q) (c3 - q)) ?_ fun w' v hb hr => ⟨hr, Keep.of hb, hS4.next hB1 hb⟩
            exact wk.does_run (wk.op_slice rfl e54 (by rw [Option.map_some, e55]) rfl rfl (R4.out _)) rfl
          ·
            have ho2 := (Array.getElem?_eq_some_iff.1 ho).2
            simp only [List.getElem_toArray, List.getElem_cons_succ, List.getElem_cons_zero] at ho2
            subst ho2
            clear ho
            have e44 : E (.tmp 44) = mwF pr pn := D.is { on := 0, ground := .data } (by simp) rfl 44 rfl
            have e47 : E (.tmp 47) = .int .i64 (st + k) := D.is { on := 3, ground := .data } (by simp) rfl 47 rfl
            have e50 : E (.tmp 50) = .int .i64 ((n - k : Nat) : Int) := D.is { on := 6, ground := .data } (by simp) rfl 50 rfl
            have e53 : E (.tmp 53) = .slice P2 (m - q) (c - q) := D.is { on := 9, ground := .data } (by simp) rfl 53 rfl
            have e56 : E (.tmp 56) = .slice F2 (m - q) (c3 - q) := D.is { on := 12, ground := .data } (by simp) rfl 56 rfl
            have hS5 := hS4
            rw [hL] at hS5
            refine wk.does_fn_t (f := 49) (vs := #[.int .i64 (st + k), .int .i64 ((n - k : Nat) : Int), .slice P2 (m - q) (c - q), .slice F2 (m - q) (c3 - q), .pointer (some ⟨pn, 0, none⟩), .pointer (some ⟨pr, 0, none⟩)]) rfl (by rw [e44]; rfl) (by simp [e47, e50, e53, e56]) (by go_simp) ?_
            refine (HREC2.out g w4 hS5).mono ?_
            rintro e w6 ⟨rfl, hn5, hk5⟩
            exact ⟨_, rfl, rfl, hk5, hS5.turn hB1 hk5 hn5⟩
          ·
            have ho2 := (Array.getElem?_eq_some_iff.1 ho).2
            simp only [List.getElem_toArray, List.getElem_cons_succ, List.getElem_cons_zero] at ho2
            subst ho2
            clear ho
            have hlt5 := hS4.nx.lt
            have hba : Below w4.heap.size w4 (w4.alloc (.cells hi.z16 31)) := (Below.refl _ _).alloc (Nat.le_refl _) _
            exact wk.does_new_t (run_allocD rfl) ⟨⟨_, rfl, heap_alloc_new _ _, (by have := wk.row_lt (hS4.rows (g, wp.bc r1.1) (by simp)); omega), by omega⟩, Keep.of hba, hS4.next hB1 hba⟩
        case hdone =>
          intro vals2 L w4 hall hS4 hv
          have h13 : vals2 13 = dv r2.1 := hv 13 (by omega)
          have h14 := hv 14 (by omega)
          clear hv
          simp only [List.drop_succ_cons, List.drop_zero, Act.put, wk.setL, List.setIfInBounds_toArray, List.set_cons_zero, List.set_cons_succ, Nat.zero_add, Nat.reduceAdd, h13]
          generalize vals2 0 = x0
          generalize vals2 1 = x1
          generalize vals2 2 = x2
          generalize vals2 3 = x3
          generalize vals2 4 = x4
          generalize vals2 5 = x5
          generalize vals2 6 = x6
          generalize vals2 7 = x7
          generalize vals2 8 = x8
          generalize vals2 9 = x9
          generalize vals2 10 = x10
          generalize vals2 11 = x11
          generalize vals2 12 = x12
          generalize vals2 14 = x14 at *
          have hall13 := hall 13 (by omega)
          rw [hall13] at hS4
          clear hall hall13
          obtain ⟨g14, rfl, hqg, hgG14, hgB14⟩ := h14
          have hG14 : G + 1 ≤ g := hgG
          have HS6 : Hid (ES B pr pn (mwF pr pn) 81 [(g14, wp.bc r2.1), (g, wp.bc r1.1), (G, zc)] w (r2.2) (w4.setRow g14 (wp.bc r2.1).toArray)) := (hS4.row (g := g14) (cs := zc) hqg hgB14).setHead hB1 hgB14 (by have := HGG.out; omega) (by have := HLT.out; omega) (by have := HLT.out; omega) (fun p hp => by simp only [List.mem_cons, List.not_mem_nil, or_false] at hp; rcases hp with rfl | rfl <;> first | (show g ≠ g14; omega) | (show G ≠ g14; omega)) _
          have hz := dv_size H16B.out
          have hz3 : hi.z16.size = (wp.bc r2.1).length := by rw [bc_len H16B.out]; rfl
          clear hS4
          go_upto_region 9 with (refine wk.store_row rfl 31 (.tmp 14) (.tmp 57) rfl g14 (wp.bc r2.1) rfl rfl 31 hi.z16 hqg hz hz3 (wk.ones_bc _) ?_)
          generalize w4.setRow g14 (wp.bc r2.1).toArray = w8 at *
          clear hqg hz hz3
          have hq13 := HS6.out.rows (g, wp.bc r1.1) (by simp)
          have hq14 := HS6.out.rows (g14, wp.bc r2.1) (by simp)
          have hz13 := dv_sizeA H16A.out
          have hz14 := dv_sizeA H16B.out
          have HND := Lib.hid (node_calls r1.1 r2.1 H16A.out H16B.out w8 HS6.out.tab)
          unfold dv at HND
          go_wp2_with (first | (refine wpList_load_row rfl 31 (.tmp 13) rfl g rfl 31 (wp.bc r1.1).toArray (0, 0) _ hq13 Tryd.underlying31 rfl hz13 ?_) | (refine wpList_load_row rfl 31 (.tmp 14) rfl g14 rfl 31 (wp.bc r2.1).toArray (0, 0) _ hq14 Tryd.underlying31 rfl hz14 ?_))
          refine HND.out.mono ?_
          rintro e w9 ⟨rfl, hb9⟩
          have HS9 := Lib.hid (HS6.out.next hB1 hb9)
          have hn16 : (nodeD r1.1 r2.1).length = 16 := dig_length _ _
          have q0 := HS9.out.rows (G, zc) (by simp)
          have hz := dv_size hn16
          have hz2 := dv_sizeA hn16
          have hz3 : zc.toArray.size = (wp.bc (nodeD r1.1 r2.1)).length := by rw [bc_len hn16]; rfl
          clear hb9 HS6 HND hq13 hq14
          go_wp2_with (refine wk.store_row rfl 31 (.tmp 10) (.tmp 60) rfl G (wp.bc (nodeD r1.1 r2.1)) rfl rfl 31 zc.toArray q0 hz hz3 (wk.ones_bc _) ?_)
          refine bodyPost_ret (v := .agg (wp.bc (nodeD r1.1 r2.1)).toArray) (results_cell_row (fn := Tryd.f49) rfl _ _ G 31 (wp.bc (nodeD r1.1 r2.1)).toArray (0, 0) _ rfl (setRow_heap _ _ _ _ _ _ q0) Tryd.underlying31 rfl hz2) rfl ⟨by rw [HR.out] <;> rfl, by rw [HR.out]; exact HS9.out.nx.set (by have := HGB.out; omega) _, HS9.out.keep.setNew (by have := HGG.out; omega) _⟩
end Go.Proofs.YtmjmkkdmphgdnaaDoor.mk
