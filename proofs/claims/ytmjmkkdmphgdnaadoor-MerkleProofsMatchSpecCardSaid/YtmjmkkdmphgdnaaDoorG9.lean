/- Joined: Mf Mg Mh Mi Mj. -/
import Derived.Test.YtmjmkkdmphgdnaaDoorG8

import Derived.Defers
/- Consistency. -/
namespace Go.Proofs.YtmjmkkdmphgdnaaDoor.mk

open Go.ChangeShapes Go.WideShapes Go.ChangeAt Go.RowKit

set_option linter.unusedVariables false
noncomputable def cons : Nat → List D → Nat → Bool → List D
  | 0, _, _, _ => []
  | f + 1, l, m, mark => if m = l.length then (if mark then [] else [rootD l]) else if l.length ≤ 1 then [] else if m ≤ split l.length then cons f (l.take (split l.length)) m mark ++ [rootD (l.drop (split l.length))] else cons f (l.drop (split l.length)) (m - split l.length) false ++ [rootD (l.take (split l.length))]
theorem cons_fuel : ∀ (f g : Nat) (l : List D) (m : Nat) (mark : Bool), 1 ≤ l.length → l.length ≤ f → l.length ≤ g → cons f l m mark = cons g l m mark
  | 0, _, l, _, _, h, h1, _ => by omega
  | _ + 1, 0, l, _, _, h, _, h1 => by omega
  | f + 1, g + 1, l, m, mark, h, h1, h2 => by
    rw [cons, cons]
    split
    · rfl
    · split
      · rfl
      · have hl := split_lt (n := l.length) (by omega)
        have hp := split_pos l.length
        rw [cons_fuel f g _ m mark (by rw [List.length_take]; omega) (by rw [List.length_take]; omega) (by rw [List.length_take]; omega), cons_fuel f g _ _ false (by rw [List.length_drop]; omega) (by rw [List.length_drop]; omega) (by rw [List.length_drop]; omega)]
noncomputable def consD (l : List D) (m : Nat) (mark : Bool) : List D := cons l.length l m mark
theorem consD_all {l : List D} {m : Nat} (mark : Bool) (h : m = l.length) (h1 : 1 ≤ m) : consD l m mark = if mark then [] else [rootD l] := by
  unfold consD
  obtain ⟨k, hk⟩ : ∃ k, l.length = k + 1 := ⟨l.length - 1, by omega⟩
  conv => lhs; rw [hk]
  rw [cons, if_pos h]
theorem consD_two {l : List D} {m : Nat} (mark : Bool) (h : m < l.length) (h1 : 1 ≤ m) : consD l m mark = if m ≤ split l.length then consD (l.take (split l.length)) m mark ++ [rootD (l.drop (split l.length))] else consD (l.drop (split l.length)) (m - split l.length) false ++ [rootD (l.take (split l.length))] := by
  have hl := split_lt (n := l.length) (by omega)
  have hp := split_pos l.length
  unfold consD
  obtain ⟨k, hk⟩ : ∃ k, l.length = k + 1 := ⟨l.length - 1, by omega⟩
  conv => lhs; rw [hk]
  rw [cons, if_neg (by omega), if_neg (by omega), cons_fuel k _ (l.take (split l.length)) _ _ (by rw [List.length_take]; omega) (by rw [List.length_take]; omega) (Nat.le_refl _), cons_fuel k _ (l.drop (split l.length)) _ _ (by rw [List.length_drop]; omega) (by rw [List.length_drop]; omega) (Nat.le_refl _)]
theorem cons_length : ∀ (f : Nat) (l : List D) (m : Nat) (mark : Bool), (cons f l m mark).length ≤ l.length + 1
  | 0, _, _, _ => Nat.zero_le _
  | f + 1, l, m, mark => by
    rw [cons]
    split
    · cases mark <;> simp
    · split
      · exact Nat.zero_le _
      · have hl := split_lt (n := l.length) (by omega)
        have hp := split_pos l.length
        split
        · rw [List.length_append, List.length_singleton]
          have := cons_length f (l.take (split l.length)) m mark
          rw [List.length_take] at this; omega
        · rw [List.length_append, List.length_singleton]
          have := cons_length f (l.drop (split l.length)) (m - split l.length) false
          rw [List.length_drop] at this; omega
theorem cons_16 : ∀ (f : Nat) (l : List D) (m : Nat) (mark : Bool), (∀ d ∈ l, d.length = 16) → ∀ d ∈ cons f l m mark, d.length = 16
  | 0, _, _, _, _ => fun d hd => by simp [cons] at hd
  | f + 1, l, m, mark, h => by
    rw [cons]
    split
    · cases mark
      · intro d hd
        simp only [Bool.false_eq_true, if_false, List.mem_singleton] at hd
        rw [hd]; exact rootD_length h
      · intro d hd; simp at hd
    · split
      · intro d hd; cases hd
      · split
        all_goals
          intro d hd
          rw [List.mem_append, List.mem_singleton] at hd
          rcases hd with hd | rfl
        · exact cons_16 f _ _ _ (fun d hd => h d (List.mem_of_mem_take hd)) d hd
        · exact rootD_length fun d hd => h d (List.mem_of_mem_drop hd)
        · exact cons_16 f _ _ _ (fun d hd => h d (List.mem_of_mem_drop hd)) d hd
        · exact rootD_length fun d hd => h d (List.mem_of_mem_take hd)
def consF (B : Nat) : Value := .func (.func 34) #[] #[.pointer (some ⟨B, 0, none⟩), .pointer (some ⟨B + 1, 0, none⟩)]
set_option maxRecDepth 100000 in
set_option maxHeartbeats 4000000 in
theorem cons1_calls (B : Nat) (hB1 : 1 < B) : ∀ (n : Nat) (A : Option Addr) (c : Nat) (l : List D) (m : Nat) (mark : Bool) (w : World) (acc : List D), IsL B w A n c l → 1 ≤ m → m ≤ n → Pst B (consF B) 67 w acc → Tab w → acc.length + n ≤ 100000 →
    Calls Tryd.prog 34 #[.slice A n c, .int .i64 m, .bool mark, .pointer (some ⟨B, 0, none⟩), .pointer (some ⟨B + 1, 0, none⟩)] w fun e w' => e = .returned (.tuple #[]) ∧ Pst B (consF B) 67 w' (acc ++ consD l m mark) ∧ Below B w w' := by
  intro n
  induction n using Nat.strongRecOn with
  | ind n ih =>
  intro A c l m mark w acc h hm1 hmn hP hT hbd
  have hlen := h.is.len
  by_cases hmn' : m = n
  · have hin := consD_all (l := l) mark (by omega : m = l.length) hm1
    cases mark
    · rw [if_neg (by decide)] at hin
      have HIN2 := Lib.hid hin
      have HL := Lib.hid h
      have HTn := Lib.hid hT
      have HP2 := Lib.hid hP
      have HRL : Hid ((rootD l).length = 16) := rootD_length h.is.dl
      have HAL : Hid (acc.length ≤ 1000000) := by show _ ≤ _; omega
      obtain ⟨v, hv, _⟩ := hP.path
      clear hin h hT hP ih
      go_enter Tryd.func34, Tryd.ntmps34
      go_upto_region 2 with fail
      have HV := Lib.hid (wk.row_below hv ((Below.refl w.heap.size w).drew))
      replace HL := Lib.hid (HL.out.next (Below.refl w.heap.size w).drew)
      replace HTn := Lib.hid (HTn.out.next (Below.refl w.heap.size w).drew)
      replace HP2 := Lib.hid (HP2.out.next (Below.refl w.heap.size w).drew)
      clear hv
      refine wk.region_tail 4 [.is v, .is (.slice A n c), .is (dv (rootD (l))), .st (fun w v => ∃ G, v = .slice (some ⟨G, 0, none⟩) 1 1 ∧ wp.RC w (some ⟨G, 0, none⟩) (wp.bc (rootD (l)))) (fun w w' v ⟨G, h1, h2⟩ hb => ⟨G, h1, h2.below hb⟩)] [some 16, some 17, some 18, some 19] (by kernel_rfl) (by kernel_rfl) (by kernel_rfl) (by kernel_rfl) (by kernel_rfl) (by kernel_rfl) ?hstep ?hdone
      case hstep =>
        intro i o ho hi E w4 hb4 D
        have hi2 : i = 0 ∨ i = 1 ∨ i = 2 ∨ i = 3 := by omega
        clear hi
        rcases hi2 with rfl | rfl | rfl | rfl
        ·
          have ho2 := (Array.getElem?_eq_some_iff.1 ho).2
          simp only [List.getElem_toArray, List.getElem_cons_zero] at ho2
          subst ho2
          clear ho
          have e3 := D.old 3 (by kernel_rfl)
          exact wk.does_load1 rfl (by rw [e3]; rfl) (wk.cell_row1 (wk.row_below HV.out hb4)) Tryd.underlying22 rfl rfl
        ·
          have ho2 := (Array.getElem?_eq_some_iff.1 ho).2
          simp only [List.getElem_toArray, List.getElem_cons_succ, List.getElem_cons_zero] at ho2
          subst ho2
          clear ho
          have e0 := D.old 0 (by kernel_rfl)
          exact wk.does_move rfl (by rw [e0]; rfl)
        ·
          have ho2 := (Array.getElem?_eq_some_iff.1 ho).2
          simp only [List.getElem_toArray, List.getElem_cons_succ, List.getElem_cons_zero] at ho2
          subst ho2
          clear ho
          have e17 := D.is { on := 1, ground := .data } (by simp) rfl rfl 17 rfl
          refine wk.does_fn (f := 15) (vs := #[.slice A n c]) rfl (D.fn _) (by simp [e17]) (by go_simp) ?_
          refine (root_calls _ _ _ _ _ (HL.out.is.below hb4) (HTn.out.next hb4)).mono ?_
          rintro e w5 ⟨rfl, hb5⟩
          exact ⟨_, rfl, hb5, rfl⟩
        ·
          have ho2 := (Array.getElem?_eq_some_iff.1 ho).2
          simp only [List.getElem_toArray, List.getElem_cons_succ, List.getElem_cons_zero] at ho2
          subst ho2
          clear ho
          have e18 := D.is { on := 2, ground := .data } (by simp) rfl rfl 18 rfl
          refine wk.does_new (v := .slice (some ⟨w4.heap.size, 0, none⟩) 1 1) (w' := w4.alloc (.cells (wp.bc (rootD (l))).toArray 31)) ?_ ((Below.refl _ _).alloc (Nat.le_refl _) _) ⟨_, rfl, wi.RC_new rfl _ _ rfl⟩
          exact run_build1 (o := _) (x := .tmp 18) rfl e18 HRL.out
      case hdone =>
        intro vals w4 hb4 hv
        have h3 := hv 3 (by omega)
        have h0 := hv 0 (by omega)
        clear hv
        replace h0 : vals 0 = v := h0
        simp only [List.drop_succ_cons, List.drop_zero, wk.setL, List.setIfInBounds_toArray, List.set_cons_zero, List.set_cons_succ, Nat.zero_add, Nat.reduceAdd, h0]
        generalize vals 1 = x1
        generalize vals 2 = x2
        generalize vals 3 = x3 at *
        obtain ⟨G, hG, hrc⟩ := h3
        have HPn := HP2.out.next hb4
        have hv4 := wk.row_below HV.out hb4
        have HB4 := Lib.hid hb4
        clear hb4
        rw [hG]
        refine push rfl rfl (.tmp 16) (.tmp 19) (.tmp 3) 20 rfl rfl rfl rfl v rfl hv4 G rfl hrc HRL.out (fun _ => rfl) (fun _ => rfl) HPn HAL.out ?_
        intro v' w6 hP6 hb6
        simp only [Act.put, List.setIfInBounds_toArray, List.set_cons_zero, List.set_cons_succ]
        go_wp2_with fail
        refine bodyPost_ret (results_none rfl _ _ _) rfl ⟨rfl, ?_, ?_⟩
        · rw [HIN2.out]
          exact hP6
        · exact (Below.refl _ _).drew.trans ((HB4.out.mono (by have := HP2.out.lt; omega)).trans hb6)
    · rw [if_pos rfl] at hin
      have HP := Lib.hid hP
      go_enter Tryd.func34, Tryd.ntmps34
      go_wp2_with fail
      refine bodyPost_ret (results_none rfl _ _ _) rfl ⟨rfl, ?_, Below.refl _ _⟩
      rw [hin, List.append_nil]
      exact HP.out
  · have h2 : 2 ≤ n := by omega
    have hs := split_lt h2
    have hp := split_pos n
    have hr2 := consD_two (l := l) (m := m) mark (by omega) hm1
    rw [hlen] at hr2
    have HIN := Lib.hid hr2
    have HT := Lib.hid hT
    have HP := Lib.hid hP
    have HI := Lib.hid h
    have IH := Lib.hid ih
    have hls1 : (l.take (split n)).length = split n := by rw [List.length_take]; omega
    have hls2 : (l.drop (split n)).length = n - split n := by rw [List.length_drop]; omega
    have hi1 := cons_length (split n) (l.take (split n)) m mark
    have hi2 := cons_length (n - split n) (l.drop (split n)) (m - split n) false
    have HIL1 : Hid ((consD (l.take (split n)) m mark).length ≤ split n + 1) := by show _ ≤ _; unfold consD; rw [hls1] at hi1 ⊢; exact hi1
    have HIL2 : Hid ((consD (l.drop (split n)) (m - split n) false).length ≤ n - split n + 1) := by show _ ≤ _; unfold consD; rw [hls2] at hi2 ⊢; exact hi2
    have HR1 : Hid ((rootD (l.take (split n))).length = 16) := rootD_length fun d hd => h.is.dl d (List.mem_of_mem_take hd)
    have HR2 : Hid ((rootD (l.drop (split n))).length = 16) := rootD_length fun d hd => h.is.dl d (List.mem_of_mem_drop hd)
    clear hr2 hT hP h ih hls1 hls2 hi1 hi2
    go_enter Tryd.func34, Tryd.ntmps34
    go_wp2_with fail
    refine (halves_low B A n c l w HI.out h2).mono ?_
    rintro e w1 ⟨A1, A2, rfl, i1, i2, hb1⟩
    have HT1 := Lib.hid (HT.out.next hb1)
    have HP1 := Lib.hid (HP.out.next hb1)
    have HL1 := Lib.hid i1
    have HL2 := Lib.hid i2
    have HB1 := Lib.hid (hb1.mono (by have := HP.out.lt; omega : B ≤ w.heap.size))
    have hcf := wk.cell_row1 HP1.out.fn
    clear i1 i2 hb1 HT HP HI
    generalize split n = k at *
    by_cases hik : m ≤ k
    · have hr2 := HIN.out
      rw [if_pos hik] at hr2
      have HIN2 := Lib.hid hr2
      clear HIN hr2
      unfold consF at hcf
      go_wp2_with fail
      refine (IH.out k hs A1 k _ m mark w1 acc HL1.out hm1 hik HP1.out HT1.out (by omega)).mono ?_
      rintro e w2 ⟨rfl, hP2, hb2⟩
      have HTn := Lib.hid (HT1.out.below hB1 hb2)
      have HL := Lib.hid (HL2.out.below (by have := HP1.out.lt; omega) hb2)
      have HB2 := Lib.hid (HB1.out.trans hb2)
      have HP2 := Lib.hid hP2
      obtain ⟨v, hv, _⟩ := hP2.path
      clear hP2 hb2 hcf HP1 HL1 HL2 HB1 IH HT1
      go_upto_region 6 with fail
      have HV := Lib.hid (wk.row_below hv ((Below.refl w2.heap.size w2).drew))
      replace HL := Lib.hid (HL.out.next (Below.refl w2.heap.size w2).drew)
      replace HTn := Lib.hid (HTn.out.next (Below.refl w2.heap.size w2).drew)
      replace HP2 := Lib.hid (HP2.out.next (Below.refl w2.heap.size w2).drew)
      have HAL : Hid ((acc ++ consD (l.take k) m mark).length ≤ 1000000) := by have := HIL1.out; show _ ≤ _; rw [List.length_append]; omega
      have HRL := HR2
      clear hv
      refine wk.region_tail 4 [.is v, .is (.slice A2 (n - k) (n - k)), .is (dv (rootD (l.drop k))), .st (fun w v => ∃ G, v = .slice (some ⟨G, 0, none⟩) 1 1 ∧ wp.RC w (some ⟨G, 0, none⟩) (wp.bc (rootD (l.drop k)))) (fun w w' v ⟨G, h1, h2⟩ hb => ⟨G, h1, h2.below hb⟩)] [some 35, some 36, some 37, some 38] (by kernel_rfl) (by kernel_rfl) (by kernel_rfl) (by kernel_rfl) (by kernel_rfl) (by kernel_rfl) ?hstep ?hdone
      case hstep =>
        intro i o ho hi E w4 hb4 D
        have hi2 : i = 0 ∨ i = 1 ∨ i = 2 ∨ i = 3 := by omega
        clear hi
        rcases hi2 with rfl | rfl | rfl | rfl
        ·
          have ho2 := (Array.getElem?_eq_some_iff.1 ho).2
          simp only [List.getElem_toArray, List.getElem_cons_zero] at ho2
          subst ho2
          clear ho
          have e3 := D.old 3 (by kernel_rfl)
          exact wk.does_load1 rfl (by rw [e3]; rfl) (wk.cell_row1 (wk.row_below HV.out hb4)) Tryd.underlying22 rfl rfl
        ·
          have ho2 := (Array.getElem?_eq_some_iff.1 ho).2
          simp only [List.getElem_toArray, List.getElem_cons_succ, List.getElem_cons_zero] at ho2
          subst ho2
          clear ho
          have e9 := D.old 9 (by kernel_rfl)
          exact wk.does_move rfl (by rw [e9]; rfl)
        ·
          have ho2 := (Array.getElem?_eq_some_iff.1 ho).2
          simp only [List.getElem_toArray, List.getElem_cons_succ, List.getElem_cons_zero] at ho2
          subst ho2
          clear ho
          have e36 := D.is { on := 1, ground := .data } (by simp) rfl rfl 36 rfl
          refine wk.does_fn (f := 15) (vs := #[.slice A2 (n - k) (n - k)]) rfl (D.fn _) (by simp [e36]) (by go_simp) ?_
          refine (root_calls _ _ _ _ _ (HL.out.is.below hb4) (HTn.out.next hb4)).mono ?_
          rintro e w5 ⟨rfl, hb5⟩
          exact ⟨_, rfl, hb5, rfl⟩
        ·
          have ho2 := (Array.getElem?_eq_some_iff.1 ho).2
          simp only [List.getElem_toArray, List.getElem_cons_succ, List.getElem_cons_zero] at ho2
          subst ho2
          clear ho
          have e37 := D.is { on := 2, ground := .data } (by simp) rfl rfl 37 rfl
          refine wk.does_new (v := .slice (some ⟨w4.heap.size, 0, none⟩) 1 1) (w' := w4.alloc (.cells (wp.bc (rootD (l.drop k))).toArray 31)) ?_ ((Below.refl _ _).alloc (Nat.le_refl _) _) ⟨_, rfl, wi.RC_new rfl _ _ rfl⟩
          exact run_build1 (o := _) (x := .tmp 37) rfl e37 HRL.out
      case hdone =>
        intro vals w4 hb4 hv
        have h3 := hv 3 (by omega)
        have h0 := hv 0 (by omega)
        clear hv
        replace h0 : vals 0 = v := h0
        simp only [List.drop_succ_cons, List.drop_zero, wk.setL, List.setIfInBounds_toArray, List.set_cons_zero, List.set_cons_succ, Nat.zero_add, Nat.reduceAdd, h0]
        generalize vals 1 = x1
        generalize vals 2 = x2
        generalize vals 3 = x3 at *
        obtain ⟨G, hG, hrc⟩ := h3
        have HPn := HP2.out.next hb4
        have hv4 := wk.row_below HV.out hb4
        have HB4 := Lib.hid hb4
        clear hb4
        rw [hG]
        refine push rfl rfl (.tmp 35) (.tmp 38) (.tmp 3) 39 rfl rfl rfl rfl v rfl hv4 G rfl hrc HRL.out (fun _ => rfl) (fun _ => rfl) HPn HAL.out ?_
        intro v' w6 hP6 hb6
        simp only [Act.put, List.setIfInBounds_toArray, List.set_cons_zero, List.set_cons_succ]
        go_wp2_with fail
        go_end0
        refine ⟨rfl, ?_, ?_⟩
        · rw [HIN2.out, ← List.append_assoc]
          exact hP6
        · exact HB2.out.trans ((Below.refl _ _).drew.trans ((HB4.out.mono (by have := HP2.out.lt; omega)).trans hb6))
    · have hr2 := HIN.out
      rw [if_neg hik] at hr2
      have HIN2 := Lib.hid hr2
      clear HIN hr2
      unfold consF at hcf
      have hci : ((m : Int) - (k : Int)) = ((m - k : Nat) : Int) := by omega
      go_wp2_with fail
      refine (IH.out (n - k) (by omega) A2 (n - k) _ (m - k) false w1 acc HL2.out (by omega) (by omega) HP1.out HT1.out (by omega)).mono ?_
      rintro e w2 ⟨rfl, hP2, hb2⟩
      have HTn := Lib.hid (HT1.out.below hB1 hb2)
      have HL := Lib.hid (HL1.out.below (by have := HP1.out.lt; omega) hb2)
      have HB2 := Lib.hid (HB1.out.trans hb2)
      have HP2 := Lib.hid hP2
      obtain ⟨v, hv, _⟩ := hP2.path
      clear hP2 hb2 hcf HP1 HL1 HL2 HB1 IH HT1
      go_upto_region 8 with fail
      have HV := Lib.hid (wk.row_below hv ((Below.refl w2.heap.size w2).drew))
      replace HL := Lib.hid (HL.out.next (Below.refl w2.heap.size w2).drew)
      replace HTn := Lib.hid (HTn.out.next (Below.refl w2.heap.size w2).drew)
      replace HP2 := Lib.hid (HP2.out.next (Below.refl w2.heap.size w2).drew)
      have HAL : Hid ((acc ++ consD (l.drop k) (m - k) false).length ≤ 1000000) := by have := HIL2.out; show _ ≤ _; rw [List.length_append]; omega
      have HRL := HR1
      clear hv
      refine wk.region_tail 4 [.is v, .is (.slice A1 k k), .is (dv (rootD (l.take k))), .st (fun w v => ∃ G, v = .slice (some ⟨G, 0, none⟩) 1 1 ∧ wp.RC w (some ⟨G, 0, none⟩) (wp.bc (rootD (l.take k)))) (fun w w' v ⟨G, h1, h2⟩ hb => ⟨G, h1, h2.below hb⟩)] [some 47, some 48, some 49, some 50] (by kernel_rfl) (by kernel_rfl) (by kernel_rfl) (by kernel_rfl) (by kernel_rfl) (by kernel_rfl) ?hstep ?hdone
      case hstep =>
        intro i o ho hi E w4 hb4 D
        have hi2 : i = 0 ∨ i = 1 ∨ i = 2 ∨ i = 3 := by omega
        clear hi
        rcases hi2 with rfl | rfl | rfl | rfl
        ·
          have ho2 := (Array.getElem?_eq_some_iff.1 ho).2
          simp only [List.getElem_toArray, List.getElem_cons_zero] at ho2
          subst ho2
          clear ho
          have e3 := D.old 3 (by kernel_rfl)
          exact wk.does_load1 rfl (by rw [e3]; rfl) (wk.cell_row1 (wk.row_below HV.out hb4)) Tryd.underlying22 rfl rfl
        ·
          have ho2 := (Array.getElem?_eq_some_iff.1 ho).2
          simp only [List.getElem_toArray, List.getElem_cons_succ, List.getElem_cons_zero] at ho2
          subst ho2
          clear ho
          have e8 := D.old 8 (by kernel_rfl)
          exact wk.does_move rfl (by rw [e8]; rfl)
        ·
          have ho2 := (Array.getElem?_eq_some_iff.1 ho).2
          simp only [List.getElem_toArray, List.getElem_cons_succ, List.getElem_cons_zero] at ho2
          subst ho2
          clear ho
          have e48 := D.is { on := 1, ground := .data } (by simp) rfl rfl 48 rfl
          refine wk.does_fn (f := 15) (vs := #[.slice A1 k k]) rfl (D.fn _) (by simp [e48]) (by go_simp) ?_
          refine (root_calls _ _ _ _ _ (HL.out.is.below hb4) (HTn.out.next hb4)).mono ?_
          rintro e w5 ⟨rfl, hb5⟩
          exact ⟨_, rfl, hb5, rfl⟩
        ·
          have ho2 := (Array.getElem?_eq_some_iff.1 ho).2
          simp only [List.getElem_toArray, List.getElem_cons_succ, List.getElem_cons_zero] at ho2
          subst ho2
          clear ho
          have e49 := D.is { on := 2, ground := .data } (by simp) rfl rfl 49 rfl
          refine wk.does_new (v := .slice (some ⟨w4.heap.size, 0, none⟩) 1 1) (w' := w4.alloc (.cells (wp.bc (rootD (l.take k))).toArray 31)) ?_ ((Below.refl _ _).alloc (Nat.le_refl _) _) ⟨_, rfl, wi.RC_new rfl _ _ rfl⟩
          exact run_build1 (o := _) (x := .tmp 49) rfl e49 HRL.out
      case hdone =>
        intro vals w4 hb4 hv
        have h3 := hv 3 (by omega)
        have h0 := hv 0 (by omega)
        clear hv
        replace h0 : vals 0 = v := h0
        simp only [List.drop_succ_cons, List.drop_zero, wk.setL, List.setIfInBounds_toArray, List.set_cons_zero, List.set_cons_succ, Nat.zero_add, Nat.reduceAdd, h0]
        generalize vals 1 = x1
        generalize vals 2 = x2
        generalize vals 3 = x3 at *
        obtain ⟨G, hG, hrc⟩ := h3
        have HPn := HP2.out.next hb4
        have hv4 := wk.row_below HV.out hb4
        have HB4 := Lib.hid hb4
        clear hb4
        rw [hG]
        refine push rfl rfl (.tmp 47) (.tmp 50) (.tmp 3) 51 rfl rfl rfl rfl v rfl hv4 G rfl hrc HRL.out (fun _ => rfl) (fun _ => rfl) HPn HAL.out ?_
        intro v' w6 hP6 hb6
        simp only [Act.put, List.setIfInBounds_toArray, List.set_cons_zero, List.set_cons_succ]
        go_wp2_with fail
        go_end0
        refine ⟨rfl, ?_, ?_⟩
        · rw [HIN2.out, ← List.append_assoc]
          exact hP6
        · exact HB2.out.trans ((Below.refl _ _).drew.trans ((HB4.out.mono (by have := HP2.out.lt; omega)).trans hb6))
noncomputable def consP (l : List D) (m : Int) : List D := if 0 < m ∧ m ≤ l.length then consD l m.toNat true else []
def consE (n : Nat) (m : Int) : Int := if 0 ≤ m ∧ m ≤ n then 0 else 1
theorem infoF2 : (Tryd.prog.info? 67).map (·.size) = some 1 := by kernel_rfl
set_option maxRecDepth 100000 in
set_option maxHeartbeats 4000000 in
theorem cons_calls (A : Option Addr) (n c : Nat) (l : List D) (i : Int) (w : World) (h : IsD w A n c l) (hT : Tab w) (hn : n ≤ 1000) :
    Calls Tryd.prog 11 #[.slice A n c, .int .i64 i] w fun e w' => ∃ v, e = .returned (.tuple #[v, .int .i64 (consE n i)]) ∧ w'.ownsRow w.heap.size 31 16 v (consP l i).length ((consP l i).flatMap wp.bc) ∧ Below w.heap.size w w' := by
  have hlen := h.len
  by_cases hi : 0 < i ∧ i ≤ n
  · obtain ⟨h0, h1⟩ := hi
    have hE : consE n i = 0 := by unfold consE; rw [if_pos ⟨by omega, h1⟩]
    have hPp : consP l i = consD l i.toNat true := by unfold consP; rw [hlen, if_pos ⟨h0, h1⟩]
    rw [hE, hPp]
    have HT := Lib.hid hT
    have HI := Lib.hid (IsL.of h)
    have hmf := fun (fn : Fn) (first cap : Array Value) (w : World) => hmf (P := Tryd.prog) fn first cap w
    clear hE hPp hT h hlen
    go_enter Tryd.func11, Tryd.ntmps11
    go_upto_region 7 with fail
    have b1 : Below w.heap.size w (w.alloc (.cells #[.slice none 0 0] 22)) := (Below.refl _ _).alloc (Nat.le_refl _) _
    have q1 : (w.alloc (.cells #[.slice none 0 0] 22)).heap[w.heap.size]? = some (.cells #[.slice none 0 0] 22 (0, 0)) := heap_alloc_new _ _
    have s1 : (w.alloc (.cells #[.slice none 0 0] 22)).heap.size = w.heap.size + 1 := Array.size_push ..
    generalize w.alloc (.cells #[.slice none 0 0] 22) = w1 at *
    have b2 : Below w1.heap.size w1 (w1.alloc (.cells #[.nilFunc] 67)) := (Below.refl _ _).alloc (Nat.le_refl _) _
    have q2 : (w1.alloc (.cells #[.nilFunc] 67)).heap[w1.heap.size]? = some (.cells #[.nilFunc] 67 (0, 0)) := heap_alloc_new _ _
    have q1' := wk.row_below q1 b2
    have b12 := b1.trans (b2.mono (by omega))
    rw [s1] at q2
    generalize w1.alloc (.cells #[.nilFunc] 67) = w2 at *
    generalize hB : w.heap.size = B at *
    have HB := Lib.hid hB
    have Q1 := Lib.hid q1'
    have Q2 := Lib.hid q2
    have HB2 := Lib.hid b12
    clear q1 q2 q1' b1 b2 b12 hB
    go_upto_region 8 with (refine wpList_store_oneTo rfl 67 (.tmp 7) (.tmp 18) rfl rfl (B + 1) (consF B) rfl rfl rfl 67 .nilFunc Q2.out infoF2 ?_)
    have hP3 : Pst B (consF B) 67 (w2.setRow (B + 1) #[consF B]) [] := pst_start (by rw [heap_setRow_ne (by omega)]; exact Q1.out) (setRow_heap _ _ _ _ _ _ Q2.out)
    have hb3 : Below B w (w2.setRow (B + 1) #[consF B]) := wk.below_setRow HB2.out (by omega) _
    generalize w2.setRow (B + 1) #[consF B] = w3 at *
    have hcf := wk.cell_row1 hP3.fn
    have HP3 := Lib.hid hP3
    have HB3 := Lib.hid hb3
    have HI3 := Lib.hid (HI.out.below (by rw [HB.out]; exact Nat.le_refl _) hb3)
    have HT3 := Lib.hid (HT.out.below HT.out.1.1 (by rw [HB.out]; exact hb3))
    have h1B : 1 < B := by have := HT.out.1.1; have := HB.out; omega
    obtain ⟨k, rfl⟩ : ∃ k : Nat, i = k := ⟨i.toNat, by omega⟩
    have HX := Lib.hid (cons1_calls B h1B n A c l k true w3 [] HI3.out (by omega) (by omega) HP3.out HT3.out (by simp; omega))
    unfold consF at hcf
    clear hP3 hb3 HI HT HB2 Q1 Q2
    go_wp2_with fail
    refine HX.out.mono ?_
    rintro e w4 ⟨rfl, hP4, hb4⟩
    obtain ⟨⟨v, hv, hown⟩, _⟩ := hP4
    have hcv := wk.cell_row1 hv
    have HO := Lib.hid hown
    have HB4 := Lib.hid hb4
    clear hv hown hb4 hcf HX
    go_wp2_with fail
    go_ret2
    refine ⟨v, rfl, ?_, ?_⟩
    · rw [HB.out]
      have := ownsRow_weak HO.out (base' := B) (by omega)
      rw [List.nil_append] at this
      exact this
    · rw [HB.out]
      exact HB3.out.trans HB4.out
  · have hPp : consP l i = [] := by unfold consP; rw [hlen, if_neg hi]
    rw [hPp]
    clear hPp hT h hlen
    rcases (by omega : i < 0 ∨ ((n : Int) < i ∧ ¬ i < 0) ∨ i = 0) with h1 | ⟨h1, h2⟩ | h1
    · have hE : consE n i = 1 := by unfold consE; rw [if_neg (by omega)]
      rw [hE]
      clear hi hE
      go_enter Tryd.func11, Tryd.ntmps11
      go_wp2_with fail
      go_ret2
      exact ⟨_, rfl, World.ownsRow_nil _ _ _ _, Below.refl _ _⟩
    · have hE : consE n i = 1 := by unfold consE; rw [if_neg (by omega)]
      rw [hE]
      clear hi hE
      go_enter Tryd.func11, Tryd.ntmps11
      go_wp2_with fail
      go_ret2
      exact ⟨_, rfl, World.ownsRow_nil _ _ _ _, Below.refl _ _⟩
    · subst h1
      have hE : consE n 0 = 0 := by unfold consE; rw [if_pos (by omega)]
      rw [hE]
      clear hi hE
      go_enter Tryd.func11, Tryd.ntmps11
      go_wp2_with fail
      go_ret2
      exact ⟨_, rfl, World.ownsRow_nil _ _ _ _, Below.refl _ _⟩
end Go.Proofs.YtmjmkkdmphgdnaaDoor.mk
/- A path that is gone through. -/
namespace Go.Proofs.YtmjmkkdmphgdnaaDoor.mk

open Go.ChangeShapes Go.WideShapes Go.ChangeAt Go.RowKit

set_option linter.unusedVariables false
/-- nothing that was there is turned, but what the cells B and B + 2 hold -/
structure Keep (B : Nat) (w w' : World) : Prop where
  os : w'.os = w.os
  tape : w'.tape = w.tape
  output : w'.output = w.output
  size : w.heap.size ≤ w'.heap.size
  block : ∀ k, k < w.heap.size → k ≠ B → k ≠ B + 2 → w'.heap[k]? = w.heap[k]?
theorem Keep.refl (B : Nat) (w : World) : Keep B w w := ⟨rfl, rfl, rfl, Nat.le_refl _, fun _ _ _ _ => rfl⟩
theorem Keep.trans {B : Nat} {a b c : World} (h : Keep B a b) (g : Keep B b c) : Keep B a c :=
  ⟨g.os.trans h.os, g.tape.trans h.tape, g.output.trans h.output, Nat.le_trans h.size g.size, fun k h1 h2 h3 => (g.block k (Nat.lt_of_lt_of_le h1 h.size) h2 h3).trans (h.block k h1 h2 h3)⟩
theorem Keep.of {B : Nat} {w w' : World} (h : Below w.heap.size w w') : Keep B w w' := ⟨h.os, h.tape, h.output, h.size, fun k hk _ _ => h.block k hk⟩
theorem Keep.below {B : Nat} {w w' : World} (h : Keep B w w') (hB : B ≤ w.heap.size) : Below B w w' := ⟨h.os, h.tape, h.output, h.size, fun k hk => h.block k (by omega) (by omega) (by omega)⟩
theorem Keep.row {B g : Nat} {w w' : World} {o : Obj} (h : Keep B w w') (hg : w.heap[g]? = some o) (h1 : g ≠ B) (h2 : g ≠ B + 2) : w'.heap[g]? = some o := (h.block g (wk.row_lt hg) h1 h2).trans hg
theorem Keep.set {B : Nat} {a w : World} (h : Keep B a w) {g : Nat} (hg : g = B ∨ g = B + 2) (cs : Array Value) : Keep B a (w.setRow g cs) :=
  ⟨h.os, h.tape, h.output, by rw [size_setRow]; exact h.size, fun k h1 h2 h3 => by rw [heap_setRow_ne (by omega)]; exact h.block k h1 h2 h3⟩
theorem Keep.setNew {B : Nat} {a w : World} (h : Keep B a w) {g : Nat} (hg : a.heap.size ≤ g) (cs : Array Value) : Keep B a (w.setRow g cs) :=
  ⟨h.os, h.tape, h.output, by rw [size_setRow]; exact h.size, fun k h1 h2 h3 => by rw [heap_setRow_ne (by omega)]; exact h.block k h1 h2 h3⟩
theorem Tab.keep {B : Nat} {w w' : World} (h : Tab w) (hB : 1 < B) (hk : Keep B w w') (hBw : B ≤ w.heap.size) : Tab w' := h.below hB (hk.below hBw)
/-- what is left of the path, and whether too much was asked for -/
structure Nx (B : Nat) (w : World) (l : List D) (s : Bool) : Prop where
  path : ∃ A n c, w.heap[B]? = some (.cells #[.slice A n c] 22 (0, 0)) ∧ IsL B w A n c l
  short : w.heap[B + 2]? = some (.cells #[.bool s] 4 (0, 0))
theorem Nx.lt {B : Nat} {w : World} {l : List D} {s : Bool} (h : Nx B w l s) : B + 2 < w.heap.size := wk.row_lt h.short
theorem Nx.next {B : Nat} {w w' : World} {l : List D} {s : Bool} (h : Nx B w l s) (hb : Below w.heap.size w w') : Nx B w' l s := by
  obtain ⟨A, n, c, h1, h2⟩ := h.path
  exact ⟨⟨A, n, c, wk.row_below h1 hb, h2.next hb⟩, wk.row_below h.short hb⟩
def z16l : D := List.replicate 16 0
theorem infoB : (Tryd.prog.info? 4).map (·.size) = some 1 := by kernel_rfl
set_option maxRecDepth 100000 in
set_option maxHeartbeats 4000000 in
theorem next_calls (B : Nat) (l : List D) (s : Bool) (w : World) (h : Nx B w l s) :
    Calls Tryd.prog 68 #[.pointer (some ⟨B, 0, none⟩), .pointer (some ⟨B + 2, 0, none⟩)] w fun e w' => e = .returned (dv (l.headD z16l)) ∧ Nx B w' l.tail (s || l.isEmpty) ∧ Keep B w w' := by
  have hlt := h.lt
  obtain ⟨A, n, c, hq, hl⟩ := h.path
  have hq2 := h.short
  have hlen := hl.is.len
  have HL := Lib.hid hl
  have HQ := Lib.hid hq
  have HQ2 := Lib.hid hq2
  clear h hl
  cases l with
  | nil =>
    have hn : n = 0 := by simpa using hlen.symm
    subst hn
    clear hq hq2
    go_enter Tryd.func68, Tryd.ntmps68
    go_upto_region 1 with fail
    have q0 := zrow w
    have hb1 := zbelow w
    have s1 : (w.alloc (.cells hi.z16 31)).heap.size = w.heap.size + 1 := Array.size_push ..
    change Code.wp _ _ _ _ (w.alloc (.cells hi.z16 31))
    generalize w.alloc (.cells hi.z16 31) = w1 at *
    have hc := wk.cell_row1 (wk.row_below HQ.out hb1)
    have hq2 := wk.row_below HQ2.out hb1
    have HB1 := Lib.hid hb1
    generalize hB : w.heap.size = G at *
    have HB := Lib.hid hB
    clear hb1 hB
    go_upto_region 3 with (refine wpList_store_oneTo rfl 4 (.tmp 1) _ rfl rfl (B + 2) (.bool true) rfl rfl rfl 4 (.bool s) hq2 infoB ?_)
    have hq0 : (w1.setRow (B + 2) #[.bool true]).heap[G]? = some (.cells hi.z16 31 (0, 0)) := by rw [heap_setRow_ne (by omega)]; exact q0
    have hq1 : (w1.setRow (B + 2) #[.bool true]).heap[B]? = some (.cells #[.slice A 0 c] 22 (0, 0)) := by rw [heap_setRow_ne (by omega)]; exact wk.row_below HQ.out (by rw [HB.out]; exact HB1.out)
    have hq3 : (w1.setRow (B + 2) #[.bool true]).heap[B + 2]? = some (.cells #[.bool true] 4 (0, 0)) := setRow_heap _ _ _ _ _ _ hq2
    have hk1 : Keep B w (w1.setRow (B + 2) #[.bool true]) := (Keep.of (by rw [HB.out]; exact HB1.out)).set (Or.inr rfl) _
    generalize w1.setRow (B + 2) #[.bool true] = w2 at *
    have HQ0 := Lib.hid hq0
    have HQ1 := Lib.hid hq1
    have HQ3 := Lib.hid hq3
    have HK1 := Lib.hid hk1
    clear q0 hq2 hc hq1 hq3 hk1
    have hz2 := dv_sizeA (d := z16l) rfl
    go_wp2_with (refine wk.store_row rfl 31 (.tmp 2) (.tmp 7) rfl G (wp.bc z16l) rfl rfl 31 hi.z16 hq0 (dv_size rfl) rfl (wk.ones_bc _) ?_)
    refine bodyPost_ret (v := .agg (wp.bc z16l).toArray) (results_cell_row (fn := Tryd.f68) rfl _ _ G 31 (wp.bc z16l).toArray (0, 0) _ rfl (setRow_heap _ _ _ _ _ _ hq0) Tryd.underlying31 rfl hz2) rfl ⟨rfl, ?_, ?_⟩
    · refine ⟨⟨A, 0, c, by rw [heap_setRow_ne (by omega)]; exact HQ1.out, ?_⟩, by rw [heap_setRow_ne (by omega)]; rw [show (s || List.isEmpty ([] : List D)) = true by simp]; exact HQ3.out⟩
      exact HL.out.below (by have := HB.out; omega) (wk.below_setRow (HK1.out.below (by have := HB.out; omega)) (by omega) _)
    · exact HK1.out.setNew (by have := HB.out; omega) _
  | cons d r =>
    have hd : d.length = 16 := HL.out.is.dl d (by simp)
    have hcut := HL.out.is.cut (lo := 1) (hi := n) (m := c) (by simp at hlen; omega) (Nat.le_refl _) HL.out.is.le (Nat.le_refl _)
    have hrl : ((d :: r).drop 1).take (n - 1) = r := by rw [List.drop_one, List.tail_cons]; exact List.take_of_length_le (by simp at hlen; omega)
    rw [hrl] at hcut
    obtain ⟨b0, o0, hA, hb0⟩ := HL.out.low (by simp at hlen; omega)
    have hn1 : 1 ≤ n := by simp at hlen; omega
    have hcn := HL.out.is.le
    have hrc := fun w => run_cut_l w A n c 1 (by omega)
    have hA1 : 0 < n - 1 → ∃ b o, (if c = 1 then A else A.map (·.add (1 * 16))) = some ⟨b, o, none⟩ ∧ b < B := fun _ => by
      rw [hA, if_neg (by omega)]
      exact ⟨b0, _, by rw [Option.map_some, wk.add_at], hb0⟩
    generalize (if c = 1 then A else A.map (·.add (1 * 16))) = A1 at *
    have HL1 : Hid (IsL B w A1 (n - 1) (c - 1) r) := ⟨hcut, hA1⟩
    obtain ⟨ad, hix, hld⟩ := HL.out.is.load (i := 0) (by omega) (d := d) rfl
    have HLD := Lib.hid hld
    have hne : ¬ (n : Int) = 0 := by omega
    clear hcut hA1 hrl hq hq2 hld hA
    go_enter Tryd.func68, Tryd.ntmps68
    go_upto_region 1 with fail
    have q0 := zrow w
    have hb1 := zbelow w
    change Code.wp _ _ _ _ (w.alloc (.cells hi.z16 31))
    have s1 : (w.alloc (.cells hi.z16 31)).heap.size = w.heap.size + 1 := Array.size_push ..
    have HSZ1 := Lib.hid s1
    clear s1
    have hl1 := HLD.out _ hb1
    generalize w.alloc (.cells hi.z16 31) = w1 at *
    have hc := wk.cell_row1 (wk.row_below HQ.out hb1)
    have HB1 := Lib.hid hb1
    have Q0 := Lib.hid q0
    have hz := dv_size hd
    have ho := wk.ones_bc d
    have hz3 : hi.z16.size = (wp.bc d).length := by rw [wp.bc_length, hd]; rfl
    generalize hcs : wp.bc d = cs at *
    have HCS := Lib.hid hcs
    clear hcs q0
    unfold hi.z16 at hz3
    go_upto_region 5 with (first | (refine wk.load_agg rfl 31 (.tmp 9) rfl ad rfl cs _ hl1 Tryd.underlying31 rfl hz ?_) | (refine wk.store_new rfl 31 (.tmp 3) (.tmp 10) rfl 31 _ cs rfl rfl hz hz3 ho ?_))
    have q1 : (w1.alloc (.cells cs.toArray 31)).heap[w1.heap.size]? = some (.cells cs.toArray 31 (0, 0)) := heap_alloc_new _ _
    have hb2 : Below w1.heap.size w1 (w1.alloc (.cells cs.toArray 31)) := (Below.refl _ _).alloc (Nat.le_refl _) _
    have hw1 : w.heap.size ≤ w1.heap.size := HB1.out.size
    have HB2 := Lib.hid (HB1.out.trans (hb2.mono hw1))
    have Q02 := Lib.hid (wk.row_below Q0.out hb2)
    have hq2 := wk.row_below (wk.row_below HQ.out HB1.out) hb2
    generalize w1.alloc (.cells cs.toArray 31) = w2 at *
    generalize w1.heap.size = G1 at *
    have hc2 := wk.cell_row1 hq2
    have hrc2 := hrc w2
    clear hb2 hc hl1
    go_upto_region 6 with (first | refine wk.list_run rfl (some 12) rfl (.slice A1 (n - 1) (c - 1)) (wk.op_slice rfl rfl rfl rfl rfl hrc2) ?_ | refine wpList_store_oneTo rfl 22 (.tmp 0) _ rfl rfl B (.slice A1 (n - 1) (c - 1)) rfl rfl rfl 22 _ hq2 infoL ?_)
    simp only [Act.put, List.setIfInBounds_toArray, List.set_cons_zero, List.set_cons_succ]
    have hG1 := HSZ1.out
    have hq0 : (w2.setRow B #[.slice A1 (n - 1) (c - 1)]).heap[w.heap.size]? = some (.cells hi.z16 31 (0, 0)) := by rw [heap_setRow_ne (by omega)]; exact Q02.out
    have hq1' : (w2.setRow B #[.slice A1 (n - 1) (c - 1)]).heap[G1]? = some (.cells cs.toArray 31 (0, 0)) := by rw [heap_setRow_ne (by omega)]; exact q1
    have hqB : (w2.setRow B #[.slice A1 (n - 1) (c - 1)]).heap[B]? = some (.cells #[.slice A1 (n - 1) (c - 1)] 22 (0, 0)) := setRow_heap _ _ _ _ _ _ hq2
    have hqS : (w2.setRow B #[.slice A1 (n - 1) (c - 1)]).heap[B + 2]? = some (.cells #[.bool s] 4 (0, 0)) := by rw [heap_setRow_ne (by omega)]; exact wk.row_below HQ2.out HB2.out
    have hk1 : Keep B w (w2.setRow B #[.slice A1 (n - 1) (c - 1)]) := (Keep.of HB2.out).set (Or.inl rfl) _
    generalize w2.setRow B #[.slice A1 (n - 1) (c - 1)] = w3 at *
    have HQB := Lib.hid hqB
    have HQS := Lib.hid hqS
    have HK1 := Lib.hid hk1
    have hz2 : (Tryd.prog.info? 31).map (·.size) = some cs.toArray.size := by rw [List.size_toArray]; exact hz
    have hz4 : hi.z16.size = cs.length := hz3
    generalize hGG : w.heap.size = G at *
    have HGG := Lib.hid hGG
    clear hqB hqS hk1 hc2 hrc2 hrc q1 hq2 hz3 hG1 hGG
    go_wp2_with (first | (refine wpList_load_row rfl 31 (.tmp 3) rfl G1 rfl 31 cs.toArray (0, 0) _ hq1' Tryd.underlying31 rfl hz2 ?_) | (refine wk.store_row rfl 31 (.tmp 2) (.tmp 13) rfl G cs rfl rfl 31 hi.z16 hq0 hz hz4 ho ?_))
    refine bodyPost_ret (v := .agg cs.toArray) (results_cell_row (fn := Tryd.f68) rfl _ _ G 31 cs.toArray (0, 0) _ rfl (setRow_heap _ _ _ _ _ _ hq0) Tryd.underlying31 rfl hz2) rfl ⟨by rw [← HCS.out]; rfl, ?_, ?_⟩
    · refine ⟨⟨A1, n - 1, c - 1, by rw [heap_setRow_ne (by omega)]; exact HQB.out, ?_⟩, by rw [heap_setRow_ne (by omega)]; rw [show (s || (d :: r).isEmpty) = s by simp]; exact HQS.out⟩
      exact HL1.out.below (by have := HGG.out; omega) (wk.below_setRow (HK1.out.below (by have := HGG.out; omega)) (by omega) _)
    · exact HK1.out.setNew (by have := HGG.out; omega) _
end Go.Proofs.YtmjmkkdmphgdnaaDoor.mk
/- goThrough: a check that goes through a path, and its deferred test. -/
namespace Go.Proofs.YtmjmkkdmphgdnaaDoor.mk

open Go.ChangeShapes Go.WideShapes Go.ChangeAt Go.RowKit

set_option linter.unusedVariables false
set_option maxRecDepth 100000 in
set_option maxHeartbeats 4000000 in
theorem defer_calls (B : Nat) (b s : Bool) (A : Option Addr) (n c : Nat) (w : World) (h1 : w.heap[B + 1]? = some (.cells #[.bool b] 4 (0, 0))) (h2 : w.heap[B + 2]? = some (.cells #[.bool s] 4 (0, 0))) (h3 : w.heap[B]? = some (.cells #[.slice A n c] 22 (0, 0))) :
    CallsD Tryd.prog 69 #[.pointer (some ⟨B + 1, 0, none⟩), .pointer (some ⟨B + 2, 0, none⟩), .pointer (some ⟨B, 0, none⟩)] .returning w fun e u' w' => u' = .returning ∧ e = .returned (.tuple #[]) ∧ w' = w.setRow (B + 1) #[.bool (b && !s && n == 0)] := by
  have c1 := wk.cell_row1 h1
  have c2 := wk.cell_row1 h2
  have c3 := wk.cell_row1 h3
  clear h2 h3
  go_enter_d Tryd.func69, Tryd.ntmps69
  cases b <;> cases s <;> by_cases hn : n = 0
  all_goals
    go_wp2_with (refine wpList_store_oneTo rfl 4 (.tmp 0) _ rfl rfl (B + 1) (.bool _) rfl rfl rfl 4 _ h1 infoB ?_)
    go_end0
    refine ⟨rfl, ?_⟩
    have hnz : ((n : Int) == 0) = (n == 0) := by
      by_cases h : n = 0
      · rw [h]; rfl
      · rw [beq_eq_false_iff_ne.2 h, beq_eq_false_iff_ne.2 (by omega : (n : Int) ≠ 0)]
    first | rfl | (rw [hnz]; rfl) | (rw [hn]; rfl) | simp
def nextV (B : Nat) : Value := .func (.func 68) #[] #[.pointer (some ⟨B, 0, none⟩), .pointer (some ⟨B + 2, 0, none⟩)]
set_option maxRecDepth 100000 in
set_option maxHeartbeats 4000000 in
theorem through_calls (A : Option Addr) (n c : Nat) (l : List D) (L : Nat) (cap : Array Value) (w : World) (h : IsD w A n c l) (rb rs : Bool) (rl : List D)
    (hcf : ∀ (vs : Array Value) (w : World), (callFunc L vs).run Tryd.prog w = .ok (.enter L vs) w)
    (hlead : ∀ w1, Nx w.heap.size w1 l false → Below w.heap.size w w1 → Calls Tryd.prog L (#[nextV w.heap.size] ++ cap) w1 fun e w2 => e = .returned (.bool rb) ∧ Nx w.heap.size w2 rl rs ∧ Keep w.heap.size w1 w2) :
    Calls Tryd.prog 47 #[.slice A n c, .func (.func L) #[] cap] w fun e w' => e = .returned (.bool (rb && !rs && rl.isEmpty)) ∧ Below w.heap.size w w' := by
  have HI := Lib.hid (IsL.of h)
  have HL := Lib.hid hlead
  have HCF := Lib.hid hcf
  have hmf := fun (fn : Fn) (first cap : Array Value) (w : World) => hmf (P := Tryd.prog) fn first cap w
  clear h hlead hcf
  go_enter_defers Tryd.func47, Tryd.ntmps47
  go_upto_region 4 with fail
  have b1 : Below w.heap.size w (w.alloc (.cells #[.slice A n c] 22)) := (Below.refl _ _).alloc (Nat.le_refl _) _
  have q1 : (w.alloc (.cells #[.slice A n c] 22)).heap[w.heap.size]? = some (.cells #[.slice A n c] 22 (0, 0)) := heap_alloc_new _ _
  have s1 : (w.alloc (.cells #[.slice A n c] 22)).heap.size = w.heap.size + 1 := Array.size_push ..
  generalize w.alloc (.cells #[.slice A n c] 22) = w1 at *
  have b2 : Below w1.heap.size w1 (w1.alloc (.cells #[.bool false] 4)) := (Below.refl _ _).alloc (Nat.le_refl _) _
  have q2 : (w1.alloc (.cells #[.bool false] 4)).heap[w1.heap.size]? = some (.cells #[.bool false] 4 (0, 0)) := heap_alloc_new _ _
  have s2 : (w1.alloc (.cells #[.bool false] 4)).heap.size = w1.heap.size + 1 := Array.size_push ..
  generalize w1.alloc (.cells #[.bool false] 4) = w2 at *
  have b3 : Below w2.heap.size w2 (w2.alloc (.cells #[.bool false] 4)) := (Below.refl _ _).alloc (Nat.le_refl _) _
  have q3 : (w2.alloc (.cells #[.bool false] 4)).heap[w2.heap.size]? = some (.cells #[.bool false] 4 (0, 0)) := heap_alloc_new _ _
  generalize w2.alloc (.cells #[.bool false] 4) = w3 at *
  have q1' := wk.row_below (wk.row_below q1 b2) b3
  have q2' := wk.row_below q2 b3
  have b := (b1.trans (b2.mono (by omega))).trans (b3.mono (by omega))
  rw [s1] at q2'
  rw [s2, s1] at q3
  generalize hB : w.heap.size = B at *
  have HB := Lib.hid hB
  have HB3 := Lib.hid b
  have Q2 := Lib.hid q2'
  have hN : Nx B w3 l false := ⟨⟨A, n, c, q1', HI.out.below (by omega) b⟩, q3⟩
  have HC := Lib.hid (HL.out w3 hN b)
  have HN := Lib.hid hN
  have hcf := HCF.out
  clear q1 q2 q3 q1' q2' b1 b2 b3 b s1 s2 hB hN
  unfold nextV at HC
  go_wp2_with fail
  refine HC.out.mono ?_
  rintro e w4 ⟨rfl, hn4, hk4⟩
  have q2 := hk4.row Q2.out (by omega) (by omega)
  have HN4 := Lib.hid hn4
  have HK4 := Lib.hid hk4
  clear hn4 hk4 HC
  go_wp2_with (refine wpList_store_oneTo rfl 4 (.tmp 4) (.tmp 11) rfl rfl (B + 1) (.bool rb) rfl rfl rfl 4 _ q2 infoB ?_)
  obtain ⟨A4, n4, c4, hp4, hl4⟩ := HN4.out.path
  have hq2 : (w4.setRow (B + 1) #[.bool rb]).heap[B + 1]? = some (.cells #[.bool rb] 4 (0, 0)) := setRow_heap _ _ _ _ _ _ q2
  have hq3 : (w4.setRow (B + 1) #[.bool rb]).heap[B + 2]? = some (.cells #[.bool rs] 4 (0, 0)) := by rw [heap_setRow_ne (by omega)]; exact HN4.out.short
  have hq1 : (w4.setRow (B + 1) #[.bool rb]).heap[B]? = some (.cells #[.slice A4 n4 c4] 22 (0, 0)) := by rw [heap_setRow_ne (by omega)]; exact hp4
  refine leaves_cons (f := 69) (args := #[.pointer (some ⟨B + 1, 0, none⟩), .pointer (some ⟨B + 2, 0, none⟩), .pointer (some ⟨B, 0, none⟩)]) (by simp) (by simp [go_sem]) ?_
  refine (defer_calls B rb rs A4 n4 c4 _ hq2 hq3 hq1).mono ?_
  rintro e u' w' ⟨rfl, rfl, rfl⟩
  refine ⟨.bool (rb && !rs && n4 == 0), ?_, ?_, ?_⟩
  · exact wk.results_cell1 (fn := Tryd.f47) rfl _ _ ⟨B + 1, 0, none⟩ _ _ rfl (wk.cell_row1 (setRow_heap _ _ _ _ _ _ hq2)) Tryd.underlying4 rfl
  · have e : rl.isEmpty = (n4 == 0) := by
      have := hl4.is.len
      cases rl with
      | nil => simp at this; rw [← this]; rfl
      | cons x r => simp at this; rw [List.isEmpty_cons, eq_comm, beq_eq_false_iff_ne]; omega
    rw [e]
  · have := HN.out.lt
    rw [HB.out]
    exact wk.below_setRow (wk.below_setRow (HB3.out.trans (HK4.out.below (by omega))) (by omega) _) (by omega) _
end Go.Proofs.YtmjmkkdmphgdnaaDoor.mk
/- CheckInclusion. -/
namespace Go.Proofs.YtmjmkkdmphgdnaaDoor.mk

open Go.ChangeShapes Go.WideShapes Go.ChangeAt Go.RowKit

set_option linter.unusedVariables false
abbrev St := List D × Bool
def hdS (s : St) : D := s.1.headD z16l
def nxS (s : St) : St := (s.1.tail, s.2 || s.1.isEmpty)
/-- the root that a leaf and a path lead to -/
noncomputable def ck (leaf : D) : Nat → Nat → Nat → St → D × St
  | 0, _, _, s => (leaf, s)
  | f + 1, n, i, s => if n ≤ 1 then (leaf, s) else if i < split n then (nodeD (ck leaf f (split n) i s).1 (hdS (ck leaf f (split n) i s).2), nxS (ck leaf f (split n) i s).2) else (nodeD (hdS (ck leaf f (n - split n) (i - split n) s).2) (ck leaf f (n - split n) (i - split n) s).1, nxS (ck leaf f (n - split n) (i - split n) s).2)
theorem ck_fuel (leaf : D) : ∀ (f g n i : Nat) (s : St), n ≤ f → n ≤ g → ck leaf f n i s = ck leaf g n i s
  | 0, 0, _, _, _, _, _ => rfl
  | 0, g + 1, n, i, s, h, _ => by rw [ck, ck, if_pos (by omega)]
  | f + 1, 0, n, i, s, _, h => by rw [ck, ck, if_pos (by omega)]
  | f + 1, g + 1, n, i, s, h1, h2 => by
    rw [ck, ck]
    split
    · rfl
    · have hl := split_lt (n := n) (by omega)
      have hp := split_pos n
      rw [ck_fuel leaf f g (split n) i s (by omega) (by omega), ck_fuel leaf f g (n - split n) (i - split n) s (by omega) (by omega)]
noncomputable def ckD (leaf : D) (n i : Nat) (s : St) : D × St := ck leaf n n i s
theorem ckD_one (leaf : D) (i : Nat) (s : St) : ckD leaf 1 i s = (leaf, s) := rfl
theorem ckD_two (leaf : D) {n : Nat} (i : Nat) (s : St) (h : 2 ≤ n) : ckD leaf n i s = if i < split n then (nodeD (ckD leaf (split n) i s).1 (hdS (ckD leaf (split n) i s).2), nxS (ckD leaf (split n) i s).2) else (nodeD (hdS (ckD leaf (n - split n) (i - split n) s).2) (ckD leaf (n - split n) (i - split n) s).1, nxS (ckD leaf (n - split n) (i - split n) s).2) := by
  have hl := split_lt h
  have hp := split_pos n
  unfold ckD
  obtain ⟨k, hk⟩ : ∃ k, n = k + 1 := ⟨n - 1, by omega⟩
  conv => lhs; arg 2; rw [hk]
  rw [ck, if_neg (by omega), ck_fuel leaf k _ (split n) _ _ (by omega) (Nat.le_refl _), ck_fuel leaf k _ (n - split n) _ _ (by omega) (Nat.le_refl _)]
theorem ck_16 {leaf : D} (h : leaf.length = 16) : ∀ (f n i : Nat) (s : St), (ck leaf f n i s).1.length = 16
  | 0, _, _, _ => h
  | f + 1, n, i, s => by
    rw [ck]
    split
    · exact h
    · split
      · exact dig_length _ _
      · exact dig_length _ _
theorem Nx.hd16 {B : Nat} {w : World} {s : St} (h : Nx B w s.1 s.2) : (hdS s).length = 16 := by
  obtain ⟨A, n, c, _, hl⟩ := h.path
  unfold hdS
  cases hs : s.1 with
  | nil => rfl
  | cons x r => exact hl.is.dl x (by rw [hs]; simp)
def rootF (pl pr pn : Nat) : Value := .func (.func 56) #[] #[.pointer (some ⟨pl, 0, none⟩), .pointer (some ⟨pr, 0, none⟩), .pointer (some ⟨pn, 0, none⟩)]
/-- what the check's closure holds -/
structure CEnv (B pl pr pn : Nat) (leaf : D) (w : World) : Prop where
  leaf : w.heap[pl]? = some (.cells (wp.bc leaf).toArray 31 (0, 0))
  rf : w.heap[pr]? = some (.cells #[rootF pl pr pn] 89 (0, 0))
  nb : w.heap[pn]? = some (.cells #[nextV B] 71 (0, 0))
  n1 : pl ≠ B
  n2 : pl ≠ B + 2
  n3 : pr ≠ B
  n4 : pr ≠ B + 2
  n5 : pn ≠ B
  n6 : pn ≠ B + 2
theorem CEnv.keep {B pl pr pn : Nat} {leaf : D} {w w' : World} (h : CEnv B pl pr pn leaf w) (hk : Keep B w w') : CEnv B pl pr pn leaf w' :=
  ⟨hk.row h.leaf h.n1 h.n2, hk.row h.rf h.n3 h.n4, hk.row h.nb h.n5 h.n6, h.n1, h.n2, h.n3, h.n4, h.n5, h.n6⟩
/-- the check in the middle of a region -/
structure ChkS (B pl pr pn : Nat) (leaf : D) (G G9 : Nat) (d9 : D) (wS : World) (s : St) (w : World) : Prop where
  env : CEnv B pl pr pn leaf w
  nx : Nx B w s.1 s.2
  tab : Tab w
  q0 : w.heap[G]? = some (.cells hi.z16 31 (0, 0))
  q9 : w.heap[G9]? = some (.cells (wp.bc d9).toArray 31 (0, 0))
  keep : Keep B wS w
  g0 : B + 2 < G
  g9 : B + 2 < G9
theorem ChkS.turn {B pl pr pn : Nat} {leaf : D} {G G9 : Nat} {d9 : D} {wS : World} {s s' : St} {w w' : World} (h : ChkS B pl pr pn leaf G G9 d9 wS s w) (hB1 : 1 < B) (hk : Keep B w w') (hn : Nx B w' s'.1 s'.2) : ChkS B pl pr pn leaf G G9 d9 wS s' w' :=
  ⟨h.env.keep hk, hn, h.tab.keep hB1 hk (by have := h.nx.lt; omega), hk.row h.q0 (by have := h.g0; omega) (by have := h.g0; omega), hk.row h.q9 (by have := h.g9; omega) (by have := h.g9; omega), h.keep.trans hk, h.g0, h.g9⟩
theorem ChkS.next {B pl pr pn : Nat} {leaf : D} {G G9 : Nat} {d9 : D} {wS : World} {s : St} {w w' : World} (h : ChkS B pl pr pn leaf G G9 d9 wS s w) (hB1 : 1 < B) (hb : Below w.heap.size w w') : ChkS B pl pr pn leaf G G9 d9 wS s w' :=
  h.turn hB1 (Keep.of hb) (h.nx.next hb)
theorem Nx.set {B g : Nat} {w : World} {l : List D} {s : Bool} (h : Nx B w l s) (hg : B + 2 < g) (cs : Array Value) : Nx B (w.setRow g cs) l s := by
  obtain ⟨A, n, c, h1, h2⟩ := h.path
  have hlt := h.lt
  exact ⟨⟨A, n, c, by rw [heap_setRow_ne (by omega)]; exact h1, h2.below (by omega) (wk.below_setRow (Below.refl _ _) (by omega) _)⟩, by rw [heap_setRow_ne (by omega)]; exact h.short⟩
set_option maxRecDepth 100000 in
set_option maxHeartbeats 4000000 in
theorem ck1_calls (B pl pr pn : Nat) (hB1 : 1 < B) (leaf : D) (hleaf : leaf.length = 16) : ∀ (n i : Nat) (s : St) (w : World), i < n → n ≤ 1099511627776 → CEnv B pl pr pn leaf w → Nx B w s.1 s.2 → Tab w →
    Calls Tryd.prog 56 #[.int .i64 i, .int .i64 n, .pointer (some ⟨pl, 0, none⟩), .pointer (some ⟨pr, 0, none⟩), .pointer (some ⟨pn, 0, none⟩)] w fun e w' => e = .returned (dv (ckD leaf n i s).1) ∧ Nx B w' (ckD leaf n i s).2.1 (ckD leaf n i s).2.2 ∧ Keep B w w' := by
  intro n
  induction n using Nat.strongRecOn with
  | ind n ih =>
  intro i s w hin hn40 hC hN hT
  have HC := Lib.hid hC
  have HN := Lib.hid hN
  have HT := Lib.hid hT
  have IH := Lib.hid ih
  clear hC hN hT ih
  rcases (by omega : n = 1 ∨ 2 ≤ n) with h1 | h2
  · subst h1
    rw [ckD_one]
    go_enter Tryd.func56, Tryd.ntmps56
    go_upto_region 1 with fail
    have q0 := zrow w
    have hb1 := zbelow w
    change Code.wp _ _ _ _ (w.alloc (.cells hi.z16 31))
    generalize w.alloc (.cells hi.z16 31) = w1 at *
    have hlf := wk.row_below HC.out.leaf hb1
    have HN1 := Lib.hid (HN.out.next hb1)
    have HK1 := Lib.hid (Keep.of (B := B) hb1)
    have hG := HN.out.lt
    generalize hGG : w.heap.size = G at *
    have HGG := Lib.hid hGG
    clear hb1 hGG
    have hz := dv_size hleaf
    have hz2 := dv_sizeA hleaf
    have hz3 : hi.z16.size = (wp.bc leaf).length := by rw [wp.bc_length, hleaf]; rfl
    have ho := wk.ones_bc leaf
    generalize hcs : wp.bc leaf = cs at *
    go_wp2_with (first | (refine wpList_load_row rfl 31 (.tmp 2) rfl pl rfl 31 cs.toArray (0, 0) _ hlf Tryd.underlying31 rfl hz2 ?_) | (refine wk.store_row rfl 31 (.tmp 7) (.tmp 13) rfl G cs rfl rfl 31 hi.z16 q0 hz hz3 ho ?_))
    refine bodyPost_ret (v := .agg cs.toArray) (results_cell_row (fn := Tryd.f56) rfl _ _ G 31 cs.toArray (0, 0) _ rfl (setRow_heap _ _ _ _ _ _ q0) Tryd.underlying31 rfl hz2) rfl ⟨by unfold dv; rw [hcs], ?_, HK1.out.setNew (by have := HGG.out; omega) _⟩
    exact HN1.out.set (by omega) _
  · have hs := split_lt h2
    have hp := split_pos n
    have hr2 := ckD_two leaf i s h2
    have HF := Lib.hid (fun w => firstSize_calls n w h2 (by omega))
    go_enter Tryd.func56, Tryd.ntmps56
    go_upto_region 1 with fail
    have q0 := zrow w
    have hb1 := zbelow w
    change Code.wp _ _ _ _ (w.alloc (.cells hi.z16 31))
    have HC1 := Lib.hid (HC.out.keep (Keep.of hb1))
    have HN1 := Lib.hid (HN.out.next hb1)
    have HT1 := Lib.hid (HT.out.next hb1)
    have HK1 := Lib.hid (Keep.of (B := B) hb1)
    generalize w.alloc (.cells hi.z16 31) = w1 at *
    have hcf := wk.cell_row1 HC1.out.rf
    have hG := HN.out.lt
    generalize hGG : w.heap.size = G at *
    have HG0 : Hid (w.heap.size ≤ G) := by rw [hGG]; exact Nat.le_refl _
    have Q0 := Lib.hid q0
    have HR := Lib.hid hr2
    clear hb1 q0 hr2 HC HN HT hGG
    generalize split n = k at *
    unfold rootF at hcf
    by_cases hik : i < k
    · have HEQ := HR.out
      rw [if_pos hik] at HEQ
      clear HR
      go_upto_region 4 with (go_at_call 50; refine (HF.out _).mono ?_; rintro e w' ⟨rfl, hw'⟩; rw [hw']; clear hw')
      go_wp2_with fail
      refine (IH.out k hs i s w1 hik (by omega) HC1.out HN1.out HT1.out).mono ?_
      rintro e w2 ⟨rfl, hn2, hk2⟩
      have HE : Hid (ckD leaf n i s = (nodeD (ckD leaf k i s).1 (hdS (ckD leaf k i s).2), nxS (ckD leaf k i s).2)) := HEQ
      have hr16 : (ckD leaf k i s).1.length = 16 := ck_16 hleaf _ _ _ _
      obtain ⟨r, hr⟩ : ∃ r, r = ckD leaf k i s := ⟨_, rfl⟩
      rw [← hr] at hn2 hr16 HE ⊢
      clear hr HEQ
      have q0 := hk2.row Q0.out (by omega) (by omega)
      have HK2 := Lib.hid (HK1.out.trans hk2)
      have HC2 := Lib.hid (HC1.out.keep hk2)
      have HT2 := Lib.hid (HT1.out.keep hB1 hk2 (by have := HN1.out.lt; omega))
      have HN2 := Lib.hid hn2
      have HR1 := Lib.hid hr16
      have HR2 := Lib.hid hn2.hd16
      have Q02 := Lib.hid q0
      clear hn2 hk2 q0 hcf HC1 HT1 HN1 HK1 Q0
      unfold dv
      have hz := dv_size HR1.out
      have hz3 : hi.z16.size = (wp.bc r.1).length := by rw [wp.bc_length, HR1.out]; rfl
      have ho := wk.ones_bc r.1
      unfold hi.z16 at hz3
      go_upto_region 6 with (refine wk.store_new rfl 31 (.tmp 9) _ rfl 31 _ (wp.bc r.1) rfl rfl hz hz3 ho ?_)
      have q9 : (w2.alloc (.cells (wp.bc r.1).toArray 31)).heap[w2.heap.size]? = some (.cells (wp.bc r.1).toArray 31 (0, 0)) := heap_alloc_new _ _
      have hb2 : Below w2.heap.size w2 (w2.alloc (.cells (wp.bc r.1).toArray 31)) := (Below.refl _ _).alloc (Nat.le_refl _) _
      have HS3 : Hid (ChkS B pl pr pn leaf G w2.heap.size r.1 w r.2 (w2.alloc (.cells (wp.bc r.1).toArray 31))) :=
        ⟨HC2.out.keep (Keep.of hb2), HN2.out.next hb2, HT2.out.next hb2, wk.row_below Q02.out hb2, q9, HK2.out.trans (Keep.of hb2), by omega, by have := HN2.out.lt; omega⟩
      generalize w2.alloc (.cells (wp.bc r.1).toArray 31) = w3 at *
      generalize w2.heap.size = G9 at *
      clear q9 hb2 hz hz3 ho
      refine wk.region_state 4 2 [dv r.1, nextV B, dv (hdS r.2), dv (nodeD r.1 (hdS r.2))] [some 23, some 24, some 25, some 26] (fun b u => ChkS B pl pr pn leaf G G9 r.1 w (if b then nxS r.2 else r.2) u) (fun b w w' h hb => h.next hB1 hb) (by show ChkS _ _ _ _ _ _ _ _ _ _ _; exact HS3.out.next hB1 (Below.refl _ _).drew) rfl (by omega) (by kernel_rfl) (by kernel_rfl) (by kernel_rfl) (by kernel_rfl) (by kernel_rfl) (by kernel_rfl) ?hstep ?hturn ?hdone
      case hstep =>
        intro i o ho hi hic E b w4 hS4 D
        have hi2 : i = 0 ∨ i = 1 ∨ i = 2 ∨ i = 3 := by omega
        clear hi
        rcases hi2 with rfl | rfl | rfl | rfl
        ·
          have ho2 := (Array.getElem?_eq_some_iff.1 ho).2
          simp only [List.getElem_toArray, List.getElem_cons_zero] at ho2
          subst ho2
          clear ho
          have e9 := D.old 9 (by kernel_rfl)
          exact wk.does_load_row rfl (by rw [e9]; rfl) hS4.q9 Tryd.underlying31 rfl (dv_sizeA HR1.out) rfl
        ·
          have ho2 := (Array.getElem?_eq_some_iff.1 ho).2
          simp only [List.getElem_toArray, List.getElem_cons_succ, List.getElem_cons_zero] at ho2
          subst ho2
          clear ho
          have e4 := D.old 4 (by kernel_rfl)
          exact wk.does_load1 rfl (by rw [e4]; rfl) (wk.cell_row1 hS4.env.nb) Tryd.underlying71 rfl rfl
        · exact absurd rfl hic
        ·
          have ho2 := (Array.getElem?_eq_some_iff.1 ho).2
          simp only [List.getElem_toArray, List.getElem_cons_succ, List.getElem_cons_zero] at ho2
          subst ho2
          clear ho
          have e23 := D.is { on := 0, ground := .data } (by simp) rfl rfl 23 rfl
          have e25 := D.is { on := 2, ground := .data } (by simp) rfl rfl 25 rfl
          refine wk.does_fn (f := 19) (vs := #[dv r.1, dv (hdS r.2)]) rfl (D.fn _) (by simp [e23, e25]) (by go_simp) ?_
          refine (node_calls _ _ HR1.out HR2.out w4 hS4.tab).mono ?_
          rintro e w5 ⟨rfl, hb5⟩
          exact ⟨_, rfl, hb5, rfl⟩
      case hturn =>
        intro o ho E w4 hS4 D
        have ho2 := (Array.getElem?_eq_some_iff.1 ho).2
        simp only [List.getElem_toArray, List.getElem_cons_succ, List.getElem_cons_zero] at ho2
        subst ho2
        clear ho
        have e24 := D.is { on := 1, ground := .data } (by simp) rfl rfl 24 rfl
        refine wk.does_fn_t (f := 68) (vs := #[.pointer (some ⟨B, 0, none⟩), .pointer (some ⟨B + 2, 0, none⟩)]) rfl (by rw [e24]; rfl) (by simp) (by go_simp) ?_
        refine (next_calls B r.2.1 r.2.2 w4 hS4.nx).mono ?_
        rintro e w5 ⟨rfl, hn5, hk5⟩
        exact ⟨_, rfl, rfl, hS4.turn hB1 hk5 hn5⟩
      case hdone =>
        intro w4 hS4
        simp only [List.drop_succ_cons, List.drop_zero, Act.put, wk.setL, List.setIfInBounds_toArray, List.set_cons_zero, List.set_cons_succ, Nat.zero_add, Nat.reduceAdd, List.getD_cons_zero, List.getD_cons_succ]
        have q0 := hS4.q0
        have HS4 := Lib.hid hS4
        clear hS4
        have hel : (nodeD r.1 (hdS r.2)).length = 16 := dig_length _ _
        have hz := dv_size hel
        have hz2 := dv_sizeA hel
        have hz3 : hi.z16.size = (wp.bc (nodeD r.1 (hdS r.2))).length := by rw [wp.bc_length, hel]; rfl
        have ho := wk.ones_bc (nodeD r.1 (hdS r.2))
        have hdv : dv (nodeD r.1 (hdS r.2)) = .agg (wp.bc (nodeD r.1 (hdS r.2))).toArray := rfl
        rw [hdv]
        generalize hcs : wp.bc (nodeD r.1 (hdS r.2)) = cs at *
        go_wp2_with (refine wk.store_row rfl 31 (.tmp 7) (.tmp 26) rfl G cs rfl rfl 31 hi.z16 q0 hz hz3 ho ?_)
        refine bodyPost_ret (v := .agg cs.toArray) (results_cell_row (fn := Tryd.f56) rfl _ _ G 31 cs.toArray (0, 0) _ rfl (setRow_heap _ _ _ _ _ _ q0) Tryd.underlying31 rfl hz2) rfl ⟨by rw [HE.out]; unfold dv; rw [hcs], by rw [HE.out]; exact HS4.out.nx.set HS4.out.g0 _, HS4.out.keep.setNew HG0.out _⟩
    · have HEQ := HR.out
      rw [if_neg hik] at HEQ
      clear HR
      have hci : ((i : Int) - (k : Int)) = ((i - k : Nat) : Int) := by omega
      have hcn : ((n : Int) - (k : Int)) = ((n - k : Nat) : Int) := by omega
      go_upto_region 4 with (go_at_call 50; refine (HF.out _).mono ?_; rintro e w' ⟨rfl, hw'⟩; rw [hw']; clear hw')
      go_wp2_with fail
      refine (IH.out (n - k) (by omega) (i - k) s w1 (by omega) (by omega) HC1.out HN1.out HT1.out).mono ?_
      rintro e w2 ⟨rfl, hn2, hk2⟩
      have HE : Hid (ckD leaf n i s = (nodeD (hdS (ckD leaf (n - k) (i - k) s).2) (ckD leaf (n - k) (i - k) s).1, nxS (ckD leaf (n - k) (i - k) s).2)) := HEQ
      have hr16 : (ckD leaf (n - k) (i - k) s).1.length = 16 := ck_16 hleaf _ _ _ _
      obtain ⟨r, hr⟩ : ∃ r, r = ckD leaf (n - k) (i - k) s := ⟨_, rfl⟩
      rw [← hr] at hn2 hr16 HE ⊢
      clear hr HEQ
      have q0 := hk2.row Q0.out (by omega) (by omega)
      have HK2 := Lib.hid (HK1.out.trans hk2)
      have HC2 := Lib.hid (HC1.out.keep hk2)
      have HT2 := Lib.hid (HT1.out.keep hB1 hk2 (by have := HN1.out.lt; omega))
      have HN2 := Lib.hid hn2
      have HR1 := Lib.hid hr16
      have HR2 := Lib.hid hn2.hd16
      have Q02 := Lib.hid q0
      clear hn2 hk2 q0 hcf HC1 HT1 HN1 HK1 Q0
      unfold dv
      have hz := dv_size HR1.out
      have hz3 : hi.z16.size = (wp.bc r.1).length := by rw [wp.bc_length, HR1.out]; rfl
      have ho := wk.ones_bc r.1
      unfold hi.z16 at hz3
      go_upto_region 8 with (refine wk.store_new rfl 31 (.tmp 10) _ rfl 31 _ (wp.bc r.1) rfl rfl hz hz3 ho ?_)
      have q9 : (w2.alloc (.cells (wp.bc r.1).toArray 31)).heap[w2.heap.size]? = some (.cells (wp.bc r.1).toArray 31 (0, 0)) := heap_alloc_new _ _
      have hb2 : Below w2.heap.size w2 (w2.alloc (.cells (wp.bc r.1).toArray 31)) := (Below.refl _ _).alloc (Nat.le_refl _) _
      have HS3 : Hid (ChkS B pl pr pn leaf G w2.heap.size r.1 w r.2 (w2.alloc (.cells (wp.bc r.1).toArray 31))) :=
        ⟨HC2.out.keep (Keep.of hb2), HN2.out.next hb2, HT2.out.next hb2, wk.row_below Q02.out hb2, q9, HK2.out.trans (Keep.of hb2), by omega, by have := HN2.out.lt; omega⟩
      generalize w2.alloc (.cells (wp.bc r.1).toArray 31) = w3 at *
      generalize w2.heap.size = G9 at *
      clear q9 hb2 hz hz3 ho
      refine wk.region_state 4 1 [nextV B, dv (hdS r.2), dv r.1, dv (nodeD (hdS r.2) r.1)] [some 35, some 36, some 37, some 38] (fun b u => ChkS B pl pr pn leaf G G9 r.1 w (if b then nxS r.2 else r.2) u) (fun b w w' h hb => h.next hB1 hb) (by show ChkS _ _ _ _ _ _ _ _ _ _ _; exact HS3.out.next hB1 (Below.refl _ _).drew) rfl (by omega) (by kernel_rfl) (by kernel_rfl) (by kernel_rfl) (by kernel_rfl) (by kernel_rfl) (by kernel_rfl) ?hstep ?hturn ?hdone
      case hstep =>
        intro i o ho hi hic E b w4 hS4 D
        have hi2 : i = 0 ∨ i = 1 ∨ i = 2 ∨ i = 3 := by omega
        clear hi
        rcases hi2 with rfl | rfl | rfl | rfl
        ·
          have ho2 := (Array.getElem?_eq_some_iff.1 ho).2
          simp only [List.getElem_toArray, List.getElem_cons_zero] at ho2
          subst ho2
          clear ho
          have e4 := D.old 4 (by kernel_rfl)
          exact wk.does_load1 rfl (by rw [e4]; rfl) (wk.cell_row1 hS4.env.nb) Tryd.underlying71 rfl rfl
        · exact absurd rfl hic
        ·
          have ho2 := (Array.getElem?_eq_some_iff.1 ho).2
          simp only [List.getElem_toArray, List.getElem_cons_succ, List.getElem_cons_zero] at ho2
          subst ho2
          clear ho
          have e10 := D.old 10 (by kernel_rfl)
          exact wk.does_load_row rfl (by rw [e10]; rfl) hS4.q9 Tryd.underlying31 rfl (dv_sizeA HR1.out) rfl
        ·
          have ho2 := (Array.getElem?_eq_some_iff.1 ho).2
          simp only [List.getElem_toArray, List.getElem_cons_succ, List.getElem_cons_zero] at ho2
          subst ho2
          clear ho
          have e36 := D.is { on := 1, ground := .data } (by simp) rfl rfl 36 rfl
          have e37 := D.is { on := 2, ground := .data } (by simp) rfl rfl 37 rfl
          refine wk.does_fn (f := 19) (vs := #[dv (hdS r.2), dv r.1]) rfl (D.fn _) (by simp [e36, e37]) (by go_simp) ?_
          refine (node_calls _ _ HR2.out HR1.out w4 hS4.tab).mono ?_
          rintro e w5 ⟨rfl, hb5⟩
          exact ⟨_, rfl, hb5, rfl⟩
      case hturn =>
        intro o ho E w4 hS4 D
        have ho2 := (Array.getElem?_eq_some_iff.1 ho).2
        simp only [List.getElem_toArray, List.getElem_cons_succ, List.getElem_cons_zero] at ho2
        subst ho2
        clear ho
        have e35 := D.is { on := 0, ground := .data } (by simp) rfl rfl 35 rfl
        refine wk.does_fn_t (f := 68) (vs := #[.pointer (some ⟨B, 0, none⟩), .pointer (some ⟨B + 2, 0, none⟩)]) rfl (by rw [e35]; rfl) (by simp) (by go_simp) ?_
        refine (next_calls B r.2.1 r.2.2 w4 hS4.nx).mono ?_
        rintro e w5 ⟨rfl, hn5, hk5⟩
        exact ⟨_, rfl, rfl, hS4.turn hB1 hk5 hn5⟩
      case hdone =>
        intro w4 hS4
        simp only [List.drop_succ_cons, List.drop_zero, Act.put, wk.setL, List.setIfInBounds_toArray, List.set_cons_zero, List.set_cons_succ, Nat.zero_add, Nat.reduceAdd, List.getD_cons_zero, List.getD_cons_succ]
        have q0 := hS4.q0
        have HS4 := Lib.hid hS4
        clear hS4
        have hel : (nodeD (hdS r.2) r.1).length = 16 := dig_length _ _
        have hz := dv_size hel
        have hz2 := dv_sizeA hel
        have hz3 : hi.z16.size = (wp.bc (nodeD (hdS r.2) r.1)).length := by rw [wp.bc_length, hel]; rfl
        have ho := wk.ones_bc (nodeD (hdS r.2) r.1)
        have hdv : dv (nodeD (hdS r.2) r.1) = .agg (wp.bc (nodeD (hdS r.2) r.1)).toArray := rfl
        rw [hdv]
        generalize hcs : wp.bc (nodeD (hdS r.2) r.1) = cs at *
        go_wp2_with (refine wk.store_row rfl 31 (.tmp 7) (.tmp 38) rfl G cs rfl rfl 31 hi.z16 q0 hz hz3 ho ?_)
        refine bodyPost_ret (v := .agg cs.toArray) (results_cell_row (fn := Tryd.f56) rfl _ _ G 31 cs.toArray (0, 0) _ rfl (setRow_heap _ _ _ _ _ _ q0) Tryd.underlying31 rfl hz2) rfl ⟨by rw [HE.out]; unfold dv; rw [hcs], by rw [HE.out]; exact HS4.out.nx.set HS4.out.g0 _, HS4.out.keep.setNew HG0.out _⟩
end Go.Proofs.YtmjmkkdmphgdnaaDoor.mk
/- CheckInclusion, whole. -/
namespace Go.Proofs.YtmjmkkdmphgdnaaDoor.mk

open Go.ChangeShapes Go.WideShapes Go.ChangeAt Go.RowKit

set_option linter.unusedVariables false
theorem infoRF : (Tryd.prog.info? 89).map (·.size) = some 1 := by kernel_rfl
structure ChkT (B H pl pr pn : Nat) (leaf root : D) (i n : Nat) (wS : World) (s : St) (w : World) : Prop where
  env : CEnv B pl pr pn leaf w
  nx : Nx B w s.1 s.2
  tab : Tab w
  ci : w.heap[H + 1]? = some (.cells #[.int .i64 i] 3 (0, 0))
  cn : w.heap[H + 1 + 1]? = some (.cells #[.int .i64 n] 3 (0, 0))
  cr : w.heap[H + 1 + 1 + 1]? = some (.cells (wp.bc root).toArray 31 (0, 0))
  keep : Keep B wS w
  low : H + 1 + 1 + 1 < B
theorem ChkT.turn {B H pl pr pn : Nat} {leaf root : D} {i n : Nat} {wS : World} {s s' : St} {w w' : World} (h : ChkT B H pl pr pn leaf root i n wS s w) (hB1 : 1 < B) (hk : Keep B w w') (hn : Nx B w' s'.1 s'.2) : ChkT B H pl pr pn leaf root i n wS s' w' :=
  ⟨h.env.keep hk, hn, h.tab.keep hB1 hk (by have := h.nx.lt; omega), hk.row h.ci (by have := h.low; omega) (by have := h.low; omega), hk.row h.cn (by have := h.low; omega) (by have := h.low; omega), hk.row h.cr (by have := h.low; omega) (by have := h.low; omega), h.keep.trans hk, h.low⟩
theorem ChkT.next {B H pl pr pn : Nat} {leaf root : D} {i n : Nat} {wS : World} {s : St} {w w' : World} (h : ChkT B H pl pr pn leaf root i n wS s w) (hB1 : 1 < B) (hb : Below w.heap.size w w') : ChkT B H pl pr pn leaf root i n wS s w' :=
  h.turn hB1 (Keep.of hb) (h.nx.next hb)
theorem eq_dv (w : World) (a b : D) (ha : a.length = 16) (hb : b.length = 16) : (Op.equal 31 (dv a) (dv b)).run Tryd.prog w = .ok (a == b) w :=
  wk.run_eq_arr w 9998 31 5 16 Tryd.underlying31 Tryd.underlying5 hi.size_u8 a b ha hb
set_option maxRecDepth 100000 in
set_option maxHeartbeats 4000000 in
theorem lead_calls (B H : Nat) (hB1 : 1 < B) (leaf root : D) (hleaf : leaf.length = 16) (hroot : root.length = 16) (i n : Nat) (hin : i < n) (hn40 : n ≤ 1099511627776) (l : List D) (w : World) (hHB : H + 1 + 1 + 1 < B) (hN : Nx B w l false) (hT : Tab w)
    (h0 : w.heap[H]? = some (.cells (wp.bc leaf).toArray 31 (0, 0))) (h1 : w.heap[H + 1]? = some (.cells #[.int .i64 i] 3 (0, 0))) (h2 : w.heap[H + 1 + 1]? = some (.cells #[.int .i64 n] 3 (0, 0))) (h3 : w.heap[H + 1 + 1 + 1]? = some (.cells (wp.bc root).toArray 31 (0, 0))) :
    Calls Tryd.prog 55 #[nextV B, .pointer (some ⟨H, 0, none⟩), .pointer (some ⟨H + 1, 0, none⟩), .pointer (some ⟨H + 1 + 1, 0, none⟩), .pointer (some ⟨H + 1 + 1 + 1, 0, none⟩)] w fun e w' => e = .returned (.bool ((ckD leaf n i (l, false)).1 == root)) ∧ Nx B w' (ckD leaf n i (l, false)).2.1 (ckD leaf n i (l, false)).2.2 ∧ Keep B w w' := by
  have HN := Lib.hid hN
  have HT := Lib.hid hT
  have H0 := Lib.hid h0
  have H1 := Lib.hid h1
  have H2 := Lib.hid h2
  have H3 := Lib.hid h3
  have hmf := fun (fn : Fn) (first cap : Array Value) (w : World) => hmf (P := Tryd.prog) fn first cap w
  have HX := Lib.hid (fun pl pr pn => ck1_calls B pl pr pn hB1 leaf hleaf n i (l, false))
  have hr16 : (ckD leaf n i (l, false)).1.length = 16 := ck_16 hleaf _ _ _ _
  generalize ckD leaf n i (l, false) = r at *
  clear hN hT h0 h1 h2 h3
  go_enter Tryd.func55, Tryd.ntmps55
  go_upto_region 2 with fail
  change Code.wp _ _ _ _ ((w.alloc (.cells #[nextV B] 71)).alloc (.cells #[.nilFunc] 89))
  have b1 : Below w.heap.size w (w.alloc (.cells #[nextV B] 71)) := (Below.refl _ _).alloc (Nat.le_refl _) _
  have q1 : (w.alloc (.cells #[nextV B] 71)).heap[w.heap.size]? = some (.cells #[nextV B] 71 (0, 0)) := heap_alloc_new _ _
  have s1 : (w.alloc (.cells #[nextV B] 71)).heap.size = w.heap.size + 1 := Array.size_push ..
  generalize w.alloc (.cells #[nextV B] 71) = w1 at *
  have b2 : Below w1.heap.size w1 (w1.alloc (.cells #[.nilFunc] 89)) := (Below.refl _ _).alloc (Nat.le_refl _) _
  have q2 : (w1.alloc (.cells #[.nilFunc] 89)).heap[w1.heap.size]? = some (.cells #[.nilFunc] 89 (0, 0)) := heap_alloc_new _ _
  have q1' := wk.row_below q1 b2
  have b := b1.trans (b2.mono (by omega))
  rw [s1] at q2
  generalize w1.alloc (.cells #[.nilFunc] 89) = w2 at *
  have hlt := HN.out.lt
  generalize hG : w.heap.size = G at *
  have HG := Lib.hid hG
  have HB2 := Lib.hid b
  have Q1 := Lib.hid q1'
  have Q2 := Lib.hid q2
  clear q1 q2 q1' b1 b2 s1 b hG
  go_upto_region 3 with (refine wpList_store_oneTo rfl 89 (.tmp 7) (.tmp 8) rfl rfl (G + 1) (rootF H (G + 1) G) rfl rfl rfl 89 .nilFunc Q2.out infoRF ?_)
  have hk3 : Keep B w (w2.setRow (G + 1) #[rootF H (G + 1) G]) := (Keep.of (by rw [HG.out]; exact HB2.out)).setNew (by have := HG.out; omega) _
  have hn3 : Nx B (w2.setRow (G + 1) #[rootF H (G + 1) G]) l false := (HN.out.next (by rw [HG.out]; exact HB2.out)).set (by omega) _
  have henv : CEnv B H (G + 1) G leaf (w2.setRow (G + 1) #[rootF H (G + 1) G]) := ⟨hk3.row H0.out (by omega) (by omega), setRow_heap _ _ _ _ _ _ Q2.out, by rw [heap_setRow_ne (by omega)]; exact Q1.out, by omega, by omega, by omega, by omega, by omega, by omega⟩
  have HS3 : Hid (ChkT B H H (G + 1) G leaf root i n w (l, false) (w2.setRow (G + 1) #[rootF H (G + 1) G])) :=
    ⟨henv, hn3, HT.out.keep hB1 hk3 (by have := HG.out; omega), hk3.row H1.out (by omega) (by omega), hk3.row H2.out (by omega) (by omega), hk3.row H3.out (by omega) (by omega), hk3, hHB⟩
  generalize w2.setRow (G + 1) #[rootF H (G + 1) G] = w3 at *
  have HX2 := Lib.hid (HX.out H (G + 1) G)
  have HR16 := Lib.hid hr16
  clear hk3 hn3 henv HN HT HX H0 H1 H2 H3 HB2 Q1 Q2 hr16
  refine wk.region_state 7 3 [rootF H (G + 1) G, .int .i64 i, .int .i64 n, dv r.1, dv root, .bool (r.1 == root), .bool (r.1 == root)] [some 9, some 10, some 11, some 12, some 13, some 14, some 6] (fun b u => ChkT B H H (G + 1) G leaf root i n w (if b then r.2 else (l, false)) u) (fun b w w' h hb => h.next hB1 hb) (HS3.out.next hB1 (Below.refl _ _).drew) rfl (by omega) (by kernel_rfl) (by kernel_rfl) (by kernel_rfl) (by kernel_rfl) (by kernel_rfl) (by kernel_rfl) ?hstep ?hturn ?hdone
  case hstep =>
    intro i o ho hi hic E b w4 hS4 D
    have hi2 : i = 0 ∨ i = 1 ∨ i = 2 ∨ i = 3 ∨ i = 4 ∨ i = 5 ∨ i = 6 := by omega
    clear hi
    rcases hi2 with rfl | rfl | rfl | rfl | rfl | rfl | rfl
    ·
      have ho2 := (Array.getElem?_eq_some_iff.1 ho).2
      simp only [List.getElem_toArray, List.getElem_cons_zero] at ho2
      subst ho2
      clear ho
      have e7 := D.old 7 (by kernel_rfl)
      exact wk.does_load1 rfl (by rw [e7]; rfl) (wk.cell_row1 hS4.env.rf) Tryd.underlying89 rfl rfl
    ·
      have ho2 := (Array.getElem?_eq_some_iff.1 ho).2
      simp only [List.getElem_toArray, List.getElem_cons_succ, List.getElem_cons_zero] at ho2
      subst ho2
      clear ho
      have e2 := D.old 2 (by kernel_rfl)
      exact wk.does_load1 rfl (by rw [e2]; rfl) (wk.cell_row1 hS4.ci) Tryd.underlying3 rfl rfl
    ·
      have ho2 := (Array.getElem?_eq_some_iff.1 ho).2
      simp only [List.getElem_toArray, List.getElem_cons_succ, List.getElem_cons_zero] at ho2
      subst ho2
      clear ho
      have e3 := D.old 3 (by kernel_rfl)
      exact wk.does_load1 rfl (by rw [e3]; rfl) (wk.cell_row1 hS4.cn) Tryd.underlying3 rfl rfl
    · exact absurd rfl hic
    ·
      have ho2 := (Array.getElem?_eq_some_iff.1 ho).2
      simp only [List.getElem_toArray, List.getElem_cons_succ, List.getElem_cons_zero] at ho2
      subst ho2
      clear ho
      have e4 := D.old 4 (by kernel_rfl)
      exact wk.does_load_row rfl (by rw [e4]; rfl) hS4.cr Tryd.underlying31 rfl (dv_sizeA hroot) rfl
    ·
      have ho2 := (Array.getElem?_eq_some_iff.1 ho).2
      simp only [List.getElem_toArray, List.getElem_cons_succ, List.getElem_cons_zero] at ho2
      subst ho2
      clear ho
      have e12 := D.is { on := 3, ground := .data } (by simp) rfl rfl 12 rfl
      have e13 := D.is { on := 4, ground := .data } (by simp) rfl rfl 13 rfl
      exact wk.does_eq_arr rfl e12 e13 (by kernel_rfl) (eq_dv _ _ _ HR16.out hroot) rfl
    ·
      have ho2 := (Array.getElem?_eq_some_iff.1 ho).2
      simp only [List.getElem_toArray, List.getElem_cons_succ, List.getElem_cons_zero] at ho2
      subst ho2
      clear ho
      have e14 := D.is { on := 5, ground := .data } (by simp) rfl rfl 14 rfl
      exact wk.does_assign rfl e14
  case hturn =>
    intro o ho E w4 hS4 D
    have ho2 := (Array.getElem?_eq_some_iff.1 ho).2
    simp only [List.getElem_toArray, List.getElem_cons_succ, List.getElem_cons_zero] at ho2
    subst ho2
    clear ho
    have e9 := D.is { on := 0, ground := .data } (by simp) rfl rfl 9 rfl
    have e10 := D.is { on := 1, ground := .data } (by simp) rfl rfl 10 rfl
    have e11 := D.is { on := 2, ground := .data } (by simp) rfl rfl 11 rfl
    refine wk.does_fn_t (f := 56) (vs := #[.int .i64 i, .int .i64 n, .pointer (some ⟨H, 0, none⟩), .pointer (some ⟨G + 1, 0, none⟩), .pointer (some ⟨G, 0, none⟩)]) rfl (by rw [e9]; rfl) (by simp [e10, e11]) (by go_simp) ?_
    refine (HX2.out w4 hin hn40 hS4.env hS4.nx hS4.tab).mono ?_
    rintro e w5 ⟨rfl, hn5, hk5⟩
    exact ⟨_, rfl, rfl, hS4.turn hB1 hk5 hn5⟩
  case hdone =>
    intro w4 hS4
    simp only [List.drop_succ_cons, List.drop_zero, wpList, wk.setL, List.setIfInBounds_toArray, List.set_cons_zero, List.set_cons_succ, Nat.zero_add, Nat.reduceAdd, List.getD_cons_zero, List.getD_cons_succ]
    go_wp2_with fail
    go_ret
    exact ⟨rfl, hS4.nx, hS4.keep⟩
/-- the whole check -/
noncomputable def chkI (leaf : D) (i n : Int) (l : List D) (root : D) : Bool := if 0 ≤ i ∧ i < n ∧ n ≤ 1099511627776 then ((ckD leaf n.toNat i.toNat (l, false)).1 == root) && !(ckD leaf n.toNat i.toNat (l, false)).2.2 && (ckD leaf n.toNat i.toNat (l, false)).2.1.isEmpty else false
set_option maxRecDepth 100000 in
set_option maxHeartbeats 4000000 in
theorem chkI_calls (leaf root : D) (hleaf : leaf.length = 16) (hroot : root.length = 16) (i n : Int) (A : Option Addr) (np c : Nat) (l : List D) (w : World) (h : IsD w A np c l) (hT : Tab w) :
    Calls Tryd.prog 29 #[dv leaf, .int .i64 i, .int .i64 n, .slice A np c, dv root] w fun e w' => e = .returned (.bool (chkI leaf i n l root)) ∧ Below w.heap.size w w' := by
  have HI := Lib.hid h
  have HT := Lib.hid hT
  have hmf := fun (fn : Fn) (first cap : Array Value) (w : World) => hmf (P := Tryd.prog) fn first cap w
  have hza := dv_size hleaf
  have hzb := dv_size hroot
  have hoa := wk.ones_bc leaf
  have hob := wk.ones_bc root
  have HLF := Lib.hid hleaf
  have HRT := Lib.hid hroot
  unfold dv
  clear h hT hleaf hroot
  go_enter Tryd.func29, Tryd.ntmps29
  go_upto_region 1 with fail
  change Code.wp _ _ _ _ ((((w.alloc (.cells (wp.bc leaf).toArray 31)).alloc (.cells #[.int .i64 i] 3)).alloc (.cells #[.int .i64 n] 3)).alloc (.cells (wp.bc root).toArray 31))
  have b1 : Below w.heap.size w (w.alloc (.cells (wp.bc leaf).toArray 31)) := (Below.refl _ _).alloc (Nat.le_refl _) _
  have q1 : (w.alloc (.cells (wp.bc leaf).toArray 31)).heap[w.heap.size]? = some (.cells (wp.bc leaf).toArray 31 (0, 0)) := heap_alloc_new _ _
  have s1 : (w.alloc (.cells (wp.bc leaf).toArray 31)).heap.size = w.heap.size + 1 := Array.size_push ..
  generalize w.alloc (.cells (wp.bc leaf).toArray 31) = w1 at *
  have b2 : Below w1.heap.size w1 (w1.alloc (.cells #[.int .i64 i] 3)) := (Below.refl _ _).alloc (Nat.le_refl _) _
  have q2 : (w1.alloc (.cells #[.int .i64 i] 3)).heap[w1.heap.size]? = some (.cells #[.int .i64 i] 3 (0, 0)) := heap_alloc_new _ _
  have s2 : (w1.alloc (.cells #[.int .i64 i] 3)).heap.size = w1.heap.size + 1 := Array.size_push ..
  generalize w1.alloc (.cells #[.int .i64 i] 3) = w2 at *
  have b3 : Below w2.heap.size w2 (w2.alloc (.cells #[.int .i64 n] 3)) := (Below.refl _ _).alloc (Nat.le_refl _) _
  have q3 : (w2.alloc (.cells #[.int .i64 n] 3)).heap[w2.heap.size]? = some (.cells #[.int .i64 n] 3 (0, 0)) := heap_alloc_new _ _
  have s3 : (w2.alloc (.cells #[.int .i64 n] 3)).heap.size = w2.heap.size + 1 := Array.size_push ..
  generalize w2.alloc (.cells #[.int .i64 n] 3) = w3 at *
  have b4 : Below w3.heap.size w3 (w3.alloc (.cells (wp.bc root).toArray 31)) := (Below.refl _ _).alloc (Nat.le_refl _) _
  have q4 : (w3.alloc (.cells (wp.bc root).toArray 31)).heap[w3.heap.size]? = some (.cells (wp.bc root).toArray 31 (0, 0)) := heap_alloc_new _ _
  have s4 : (w3.alloc (.cells (wp.bc root).toArray 31)).heap.size = w3.heap.size + 1 := Array.size_push ..
  generalize w3.alloc (.cells (wp.bc root).toArray 31) = w4 at *
  have q1' := wk.row_below (wk.row_below (wk.row_below q1 b2) b3) b4
  have q2' := wk.row_below (wk.row_below q2 b3) b4
  have q3' := wk.row_below q3 b4
  have b := ((b1.trans (b2.mono (by omega))).trans (b3.mono (by omega))).trans (b4.mono (by omega))
  rw [s3, s2, s1] at q4
  rw [s2, s1] at q3'
  rw [s1] at q2'
  have hsz : w4.heap.size = w.heap.size + 1 + 1 + 1 + 1 := by omega
  clear q1 q2 q3 b1 b2 b3 b4 s1 s2 s3 s4
  have HB4 := Lib.hid b
  have Q1 := Lib.hid q1'
  have Q2 := Lib.hid q2'
  have Q3 := Lib.hid q3'
  have Q4 := Lib.hid q4
  have HSZ := Lib.hid hsz
  have HI4 := Lib.hid (HI.out.below b)
  have HT4 := Lib.hid (HT.out.next b)
  have h1H := HT.out.1.1
  generalize hH : w.heap.size = H at *
  have HH := Lib.hid hH
  have hc2 := wk.cell_row1 Q2.out
  have hc3 := wk.cell_row1 Q3.out
  clear b q1' q2' q3' q4 hsz hH HI HT hza hzb hoa hob
  by_cases hok : 0 ≤ i ∧ i < n ∧ n ≤ 1099511627776
  · obtain ⟨hi0, hin, hn40⟩ := hok
    have hE : chkI leaf i n l root = (((ckD leaf n.toNat i.toNat (l, false)).1 == root) && !(ckD leaf n.toNat i.toNat (l, false)).2.2 && (ckD leaf n.toNat i.toNat (l, false)).2.1.isEmpty) := by unfold chkI; rw [if_pos ⟨hi0, hin, hn40⟩]
    have HE := Lib.hid hE
    clear hE
    obtain ⟨iN, rfl⟩ : ∃ k : Nat, i = k := ⟨i.toNat, by omega⟩
    obtain ⟨nN, rfl⟩ : ∃ k : Nat, n = k := ⟨n.toNat, by omega⟩
    rw [Int.toNat_natCast, Int.toNat_natCast] at HE
    have HLD : Hid (∀ w5, Nx w4.heap.size w5 l false → Below w4.heap.size w4 w5 → Calls Tryd.prog 55 (#[nextV w4.heap.size] ++ #[.pointer (some ⟨H, 0, none⟩), .pointer (some ⟨H + 1, 0, none⟩), .pointer (some ⟨H + 1 + 1, 0, none⟩), .pointer (some ⟨H + 1 + 1 + 1, 0, none⟩)]) w5 fun e w6 => e = .returned (.bool ((ckD leaf nN iN (l, false)).1 == root)) ∧ Nx w4.heap.size w6 (ckD leaf nN iN (l, false)).2.1 (ckD leaf nN iN (l, false)).2.2 ∧ Keep w4.heap.size w5 w6) :=
      fun w5 hn5 hb5 => lead_calls w4.heap.size H (by have := HSZ.out; omega) leaf root HLF.out HRT.out iN nN (by omega) (by omega) l w5 (by have := HSZ.out; omega) hn5 (HT4.out.next hb5) (wk.row_below Q1.out hb5) (wk.row_below Q2.out hb5) (wk.row_below Q3.out hb5) (wk.row_below Q4.out hb5)
    go_wp2_with fail
    refine (through_calls A np c l 55 #[.pointer (some ⟨H, 0, none⟩), .pointer (some ⟨H + 1, 0, none⟩), .pointer (some ⟨H + 1 + 1, 0, none⟩), .pointer (some ⟨H + 1 + 1 + 1, 0, none⟩)] w4 HI4.out _ _ _ (fun vs w => by go_simp) HLD.out).mono ?_
    rintro e w6 ⟨rfl, hb6⟩
    have HB6 := Lib.hid hb6
    clear hb6
    go_wp2_with fail
    go_ret
    refine ⟨by rw [HE.out]; rfl, ?_⟩
    rw [HH.out]
    exact HB4.out.trans (HB6.out.mono (by have := HSZ.out; omega))
  · have hE : chkI leaf i n l root = false := by unfold chkI; rw [if_neg hok]
    have HE := Lib.hid hE
    clear hE
    rcases (by omega : i < 0 ∨ (¬ i < 0 ∧ n ≤ i) ∨ (¬ i < 0 ∧ ¬ n ≤ i ∧ 1099511627776 < n)) with h1 | ⟨h1, h2⟩ | ⟨h1, h2, h3⟩
    all_goals
      clear hok
      go_wp2_with fail
      go_ret
      refine ⟨by rw [HE.out]; rfl, ?_⟩
      rw [HH.out]
      exact HB4.out
end Go.Proofs.YtmjmkkdmphgdnaaDoor.mk
