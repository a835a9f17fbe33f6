/- VectorReadsBack: its walk. -/
import Derived.Test.YtbnemcggiopdmaaQp

import Derived.Test.YtbnemcggiopdmaaPl3

import Derived.Test.YtbnemcggiopdmaaVal2

namespace Go.Proofs.Ytbnemcggiopdmaa.vq
theorem getL_enc {v : List Int} (h : ∀ x ∈ v, -9223372036854775808 ≤ x ∧ x ≤ 9223372036854775807) (hl : v.length ≤ 1000) : wp.getL wp.getI 1 (wp.encIs v) = (v, ((wp.encIs v).length : Int), 0) := by
  have := wp.getL_round (one := wp.getI) (enc := wp.encI) v 1 (by omega) (by omega) (fun x hx => wp.encI_pos x) (fun x hx t => wp.getI_encI (h x hx).1 (h x hx).2 t) []
  rw [List.append_nil] at this
  exact this
theorem dec_enc {v : List Int} (h : ∀ x ∈ v, -9223372036854775808 ≤ x ∧ x ≤ 9223372036854775807) (hl : v.length ≤ 1000) : dec (wp.encIs v) = if valid v then (v, 0) else ([], 40) := by
  rw [dec, getL_enc h hl]
  simp
theorem enc_dec (l : List UInt8) : ((dec l).2 = 0 ∧ wp.encIs (dec l).1 = l ∧ (dec l).1.length ≤ 32) ∨ ((dec l).2 ≠ 0 ∧ (dec l).1 = []) := by
  unfold dec
  split
  · rename_i h; exact .inr ⟨h, rfl⟩
  · rename_i h
    have h0 : (wp.getL wp.getI 1 l).2.2 = 0 := by omega
    split
    · exact .inr ⟨by simp, rfl⟩
    · rename_i h1
      split
      · rename_i h2
        have hc := wp.getL_canon (one := wp.getI) (enc := wp.encI) wp.getI_one 1 (by omega) l h0
        refine .inl ⟨rfl, ?_, (valid_iff.1 h2).le⟩
        have : l.take (wp.getL wp.getI 1 l).2.1.toNat = l := List.take_of_length_le (by omega)
        rw [this] at hc
        exact hc.1.symm
      · exact .inr ⟨by simp, rfl⟩
end Go.Proofs.Ytbnemcggiopdmaa.vq

namespace Go.Proofs.Ytbnemcggiopdmaa.vk

open Go.ChangeShapes Go.WideShapes Go.ChangeAt Go.RowKit
theorem isB_below {w w' : World} {A : Option Addr} {n c : Nat} {l : List UInt8} (h : wo.IsB w A n c l) (hb : Below w.heap.size w w') : wo.IsB w' A n c l := ⟨h.1, h.2.1, h.2.2.1, wk.RB.below h.2.2.2 hb⟩
theorem conv_b {w : World} {A : Option Addr} {n c : Nat} {l : List UInt8} (h : wo.IsB w A n c l) : (convert 38 9 (.slice A n c)).run Try.prog w = .ok (.string ⟨l.toArray⟩) w :=
  wk.conv_str (P := Try.prog) w 38 5 9 Try.underlying38 Try.underlying5 Try.underlying9 A n c _ h.1 h.2.2.2
theorem does_conv {P : Program} {Q : Exit → Act → World → Prop} {o : Oper} {E : Operand → Value} {w : World} {R : World → Value → Prop} {src dst : TypeId} {x : Operand} {V v : Value} (ho : o.op = .convert src dst x) (hx : E x = V) (hrun : (convert src dst V).run P w = .ok v w) (hR : R w v) : wk.Does P Q o E w R :=
  wk.does_run (v := v) (by unfold execOp; simp only [ho, hx]; rw [Sem.run_bind, hrun]; rfl) hR
end Go.Proofs.Ytbnemcggiopdmaa.vk

namespace Go.Proofs.Ytbnemcggiopdmaa.vectorReadsBack

open Go.ChangeShapes Go.WideShapes Go.ChangeAt Go.RowKit

open Go.Proofs.Ytbnemcggiopdmaa.vk

set_option linter.unusedVariables false
set_option maxRecDepth 100000 in
set_option maxHeartbeats 4000000 in
theorem walk (w : World) {A1 A2 : Option Addr} {n1 n2 c1 c2 : Nat} {v : List Int} {b : List UInt8} (h1 : wo.IsI w A1 n1 c1 v) (h2 : wo.IsB w A2 n2 c2 b) :
    Calls Try.prog 9 #[.slice A1 n1 c1, .slice A2 n2 c2] w fun e w' => e = .returned (.bool true) ∧ Below w.heap.size w w' := by
  have HS := Lib.hid (fun w' => sanity_calls w')
  by_cases hbig : 40 < n1 ∨ 400 < n2
  · have : 40 < n1 ∨ (400 < n2 ∧ ¬ 40 < n1) := by omega
    clear h1 h2 hbig
    rcases this with h | ⟨h, h'⟩
    all_goals
      go_enter Try.func9, Try.ntmps9
      go_wp2_with fail
      refine (HS.out _).mono ?_
      rintro e w' ⟨rfl, hb⟩
      have HB := Lib.hid hb
      clear hb
      go_wp2_with fail
      go_ret
      exact ⟨rfl, HB.out⟩
  have q1 : n1 ≤ 40 := by omega
  have q2 : n2 ≤ 400 := by omega
  have hm2 := h2.2.2.1
  have hnc2 := h2.2.1
  clear hbig
  have HDE := Lib.hid (vq.dec_enc h1.2.2.2.2 (by have := h1.1; omega))
  have hEL := vq.encIs_length v h1.2.2.2.2 (by have := h1.1; omega)
  have hv40 := h1.1
  have H1 := Lib.hid h1
  have H2 := Lib.hid h2
  have HENC := Lib.hid (encode_calls A1 n1 c1 v w h1 (by omega))
  have HDEC := Lib.hid (fun A' c' w' (hi : wo.IsB w' A' (wp.encIs v).length c' (wp.encIs v)) => decode_calls A' _ c' _ w' hi (by omega))
  have HDB := Lib.hid (fun w' hb => decode_calls A2 n2 c2 b w' (isB_below H2.out hb) (by omega))
  have HV := Lib.hid (fun w' hb => valid_calls A1 n1 c1 v w' (isI_below H1.out hb))
  have HED := Lib.hid (vq.enc_dec b)
  rw [HDE.out] at HDEC
  clear h1 h2 HDE
  generalize hE : wp.encIs v = E at *
  have HE := Lib.hid hE
  clear hE
  generalize vq.dec b = D at *
  obtain ⟨y, f⟩ := D
  dsimp only at *
  cases hva : vq.valid v
  · rw [hva] at HV HDEC
    rw [if_neg (by simp)] at HDEC
    dsimp only at HDEC
    go_enter Try.func9, Try.ntmps9
    go_wp2_with fail
    refine HENC.out.mono ?_
    rintro e w1 ⟨A3, c3, rfl, hI3, hb1⟩
    have HD1 := Lib.hid (HDEC.out A3 c3 w1 hI3)
    have HB1 := Lib.hid hb1
    clear hI3 hb1 HENC HDEC
    go_wp2_with fail
    refine HD1.out.mono ?_
    rintro e w2 ⟨A4, n4, c4, rfl, hI4, hb2⟩
    have HB2 := Lib.hid (Below.andThen HB1.out hb2)
    clear hb2 hI4 HB1 HD1
    go_wp2_with fail
    refine (HV.out w2 HB2.out).mono ?_
    rintro e w3 ⟨rfl, hb3⟩
    have HB3 := Lib.hid (Below.andThen HB2.out hb3)
    clear hb3 HB2
    go_wp2_with fail
    refine (HV.out w3 HB3.out).mono ?_
    rintro e w4 ⟨rfl, hb4⟩
    have HB4 := Lib.hid (Below.andThen HB3.out hb4)
    clear hb4 HB3
    go_wp2_with fail
    refine (HDB.out w4 HB4.out).mono ?_
    rintro e w5 ⟨A5, n5, c5, rfl, hI5, hb5⟩
    have HB5 := Lib.hid (Below.andThen HB4.out hb5)
    have HI5 := Lib.hid hI5
    clear hI5 hb5 HB4 HDB HV
    have HCV := Lib.hid (fun w' (hb : Below w5.heap.size w5 w') => conv_b (isB_below (isB_below H2.out HB5.out) hb))
    have hn5 := HI5.out.1
    rcases HED.out with ⟨rfl, hy, hyl⟩ | ⟨hf, hy⟩
    · have HEN := Lib.hid (fun w' (hb : Below w5.heap.size w5 w') => encode_calls A5 n5 c5 y w' (isI_below HI5.out hb) (by omega))
      rw [hy] at HEN
      clear hy hyl hn5 HED
      go_wp2_with fail
      refine wk.region_tailS 23 [.is (.bool true), .is (.bool true), .is (.int .i64 0), .is (.bool false), .is (.bool false), .is (.slice A5 n5 c5), .st (fun u x => ∃ A c, x = .slice A b.length c ∧ wo.IsB u A b.length c b) (fun u u2 x h hb => by obtain ⟨A, c, rfl, hi⟩ := h; exact ⟨A, c, rfl, isB_below hi hb⟩), .is (.string ⟨b.toArray⟩), .is (.slice A2 n2 c2), .is (.string ⟨b.toArray⟩), .is (.bool true), .is (.bool true), .is (.bool true), .is (.bool true), .is (.int .i64 0), .is (.bool true), .is (.bool true), .is undef, .is undef, .is undef, .is (Value.bool true), .is (Value.bool true), .is (Value.bool true)] [some 50, some 51, some 52, some 53, some 54, some 55, some 56, some 57, some 58, some 59, some 60, some 61, some 62, some 63, some 64, some 65, some 66, some 67, some 68, some 69, some 70, some 71, some 4] (by kernel_rfl) (by kernel_rfl) (by kernel_rfl) (by kernel_rfl) [17, 18, 19] (by kernel_rfl) (by intro p hp; simp only [List.mem_cons, List.not_mem_nil, or_false] at hp; rcases hp with rfl | rfl | rfl <;> rfl) (by kernel_rfl) (by kernel_rfl) ?hstep ?hdone
      case hstep =>
        intro i o ho hi hns E w6 hb4 D
        have hi2 : i = 0 ∨ i = 1 ∨ i = 2 ∨ i = 3 ∨ i = 4 ∨ i = 5 ∨ i = 6 ∨ i = 7 ∨ i = 8 ∨ i = 9 ∨ i = 10 ∨ i = 11 ∨ i = 12 ∨ i = 13 ∨ i = 14 ∨ i = 15 ∨ i = 16 ∨ i = 17 ∨ i = 18 ∨ i = 19 ∨ i = 20 ∨ i = 21 ∨ i = 22 := by omega
        clear hi
        rcases hi2 with rfl | rfl | rfl | rfl | rfl | rfl | rfl | rfl | rfl | rfl | rfl | rfl | rfl | rfl | rfl | rfl | rfl | rfl | rfl | rfl | rfl | rfl | rfl
        ·
          have ho2 := (Array.getElem?_eq_some_iff.1 ho).2
          simp only [List.getElem_toArray, List.getElem_cons_zero] at ho2
          subst ho2
          clear ho
          refine wk.does_fn (f := 11) (vs := #[]) rfl (D.fn _) (by simp) (by go_simp) ?_
          refine (HS.out w6).mono ?_
          rintro e w7 ⟨rfl, hb7⟩
          exact ⟨_, rfl, hb7, rfl⟩
        ·
          have ho2 := (Array.getElem?_eq_some_iff.1 ho).2
          simp only [List.getElem_toArray, List.getElem_cons_succ, List.getElem_cons_zero] at ho2
          subst ho2
          clear ho
          have e50 := D.is { on := 0, ground := .data } (by simp) rfl rfl 50 rfl
          exact wk.does_move rfl e50
        ·
          have ho2 := (Array.getElem?_eq_some_iff.1 ho).2
          simp only [List.getElem_toArray, List.getElem_cons_succ, List.getElem_cons_zero] at ho2
          subst ho2
          clear ho
          have e8 := D.old 8 (by kernel_rfl)
          exact wk.does_move rfl (by rw [e8]; rfl)
        ·
          have ho2 := (Array.getElem?_eq_some_iff.1 ho).2
          simp only [List.getElem_toArray, List.getElem_cons_succ, List.getElem_cons_zero] at ho2
          subst ho2
          clear ho
          have e52 := D.is { on := 2, ground := .data } (by simp) rfl rfl 52 rfl
          exact wk.does_bin rfl (by rw [e52, D.con]; go_simp) rfl
        ·
          have ho2 := (Array.getElem?_eq_some_iff.1 ho).2
          simp only [List.getElem_toArray, List.getElem_cons_succ, List.getElem_cons_zero] at ho2
          subst ho2
          clear ho
          have e53 := D.is { on := 3, ground := .data } (by simp) rfl rfl 53 rfl
          exact wk.does_move rfl e53
        ·
          have ho2 := (Array.getElem?_eq_some_iff.1 ho).2
          simp only [List.getElem_toArray, List.getElem_cons_succ, List.getElem_cons_zero] at ho2
          subst ho2
          clear ho
          have e7 := D.old 7 (by kernel_rfl)
          exact wk.does_move rfl (by rw [e7]; rfl)
        ·
          have ho2 := (Array.getElem?_eq_some_iff.1 ho).2
          simp only [List.getElem_toArray, List.getElem_cons_succ, List.getElem_cons_zero] at ho2
          subst ho2
          clear ho
          have e55 := D.is { on := 5, ground := .data } (by simp) rfl rfl 55 rfl
          refine wk.does_fn (f := 34) (vs := #[.slice A5 n5 c5]) rfl (D.fn _) (by simp [e55]) (by go_simp) ?_
          refine (HEN.out w6 ((Below.refl _ _).drew.trans hb4)).mono ?_
          rintro e w7 ⟨A7, c7, rfl, hI7, hb7⟩
          exact ⟨_, rfl, hb7, A7, c7, rfl, hI7⟩
        ·
          have ho2 := (Array.getElem?_eq_some_iff.1 ho).2
          simp only [List.getElem_toArray, List.getElem_cons_succ, List.getElem_cons_zero] at ho2
          subst ho2
          clear ho
          have s56 := D.st { on := 6, ground := .data } (by simp) rfl rfl 56 rfl
          obtain ⟨A7, c7, e7, hI7⟩ := s56
          exact does_conv rfl e7 (conv_b hI7) rfl
        ·
          have ho2 := (Array.getElem?_eq_some_iff.1 ho).2
          simp only [List.getElem_toArray, List.getElem_cons_succ, List.getElem_cons_zero] at ho2
          subst ho2
          clear ho
          have e1 := D.old 1 (by kernel_rfl)
          exact wk.does_move rfl (by rw [e1]; rfl)
        ·
          have ho2 := (Array.getElem?_eq_some_iff.1 ho).2
          simp only [List.getElem_toArray, List.getElem_cons_succ, List.getElem_cons_zero] at ho2
          subst ho2
          clear ho
          have e58 := D.is { on := 8, ground := .data } (by simp) rfl rfl 58 rfl
          exact does_conv rfl e58 (HCV.out w6 ((Below.refl _ _).drew.trans hb4)) rfl
        ·
          have ho2 := (Array.getElem?_eq_some_iff.1 ho).2
          simp only [List.getElem_toArray, List.getElem_cons_succ, List.getElem_cons_zero] at ho2
          subst ho2
          clear ho
          have e57 := D.is { on := 7, ground := .data } (by simp) rfl rfl 57 rfl
          have e59 := D.is { on := 9, ground := .data } (by simp) rfl rfl 59 rfl
          exact wk.does_bin rfl (by rw [e57, e59]; go_simp) rfl
        ·
          have ho2 := (Array.getElem?_eq_some_iff.1 ho).2
          simp only [List.getElem_toArray, List.getElem_cons_succ, List.getElem_cons_zero] at ho2
          subst ho2
          clear ho
          have e54 := D.is { on := 4, ground := .data } (by simp) rfl rfl 54 rfl
          have e60 := D.is { on := 10, ground := .data } (by simp) rfl rfl 60 rfl
          exact wk.does_pick rfl e54 e60
        ·
          have ho2 := (Array.getElem?_eq_some_iff.1 ho).2
          simp only [List.getElem_toArray, List.getElem_cons_succ, List.getElem_cons_zero] at ho2
          subst ho2
          clear ho
          have e51 := D.is { on := 1, ground := .data } (by simp) rfl rfl 51 rfl
          have e61 := D.is { on := 11, ground := .data } (by simp) rfl rfl 61 rfl
          exact wk.does_pick rfl e51 e61
        ·
          have ho2 := (Array.getElem?_eq_some_iff.1 ho).2
          simp only [List.getElem_toArray, List.getElem_cons_succ, List.getElem_cons_zero] at ho2
          subst ho2
          clear ho
          have e62 := D.is { on := 12, ground := .data } (by simp) rfl rfl 62 rfl
          exact wk.does_move rfl e62
        ·
          have ho2 := (Array.getElem?_eq_some_iff.1 ho).2
          simp only [List.getElem_toArray, List.getElem_cons_succ, List.getElem_cons_zero] at ho2
          subst ho2
          clear ho
          have e8 := D.old 8 (by kernel_rfl)
          exact wk.does_move rfl (by rw [e8]; rfl)
        ·
          have ho2 := (Array.getElem?_eq_some_iff.1 ho).2
          simp only [List.getElem_toArray, List.getElem_cons_succ, List.getElem_cons_zero] at ho2
          subst ho2
          clear ho
          have e64 := D.is { on := 14, ground := .data } (by simp) rfl rfl 64 rfl
          exact wk.does_bin rfl (by rw [e64, D.con]; go_simp) rfl
        ·
          have ho2 := (Array.getElem?_eq_some_iff.1 ho).2
          simp only [List.getElem_toArray, List.getElem_cons_succ, List.getElem_cons_zero] at ho2
          subst ho2
          clear ho
          have e65 := D.is { on := 15, ground := .data } (by simp) rfl rfl 65 rfl
          exact wk.does_move rfl e65
        · cases (show false = true from hns.symm.trans (by kernel_rfl))
        · cases (show false = true from hns.symm.trans (by kernel_rfl))
        · cases (show false = true from hns.symm.trans (by kernel_rfl))
        ·
          have ho2 := (Array.getElem?_eq_some_iff.1 ho).2
          simp only [List.getElem_toArray, List.getElem_cons_succ, List.getElem_cons_zero] at ho2
          subst ho2
          clear ho
          have e66 := D.is { on := 16, ground := .data } (by simp) rfl rfl 66 rfl
          have e69 := D.is { on := 19, ground := .data } (by simp) rfl rfl 69 rfl
          exact wk.does_pick rfl e66 (D.con _)
        ·
          have ho2 := (Array.getElem?_eq_some_iff.1 ho).2
          simp only [List.getElem_toArray, List.getElem_cons_succ, List.getElem_cons_zero] at ho2
          subst ho2
          clear ho
          have e63 := D.is { on := 13, ground := .data } (by simp) rfl rfl 63 rfl
          have e70 := D.is { on := 20, ground := .data } (by simp) rfl rfl 70 rfl
          exact wk.does_pick rfl e63 e70
        ·
          have ho2 := (Array.getElem?_eq_some_iff.1 ho).2
          simp only [List.getElem_toArray, List.getElem_cons_succ, List.getElem_cons_zero] at ho2
          subst ho2
          clear ho
          have e71 := D.is { on := 21, ground := .data } (by simp) rfl rfl 71 rfl
          exact wk.does_assign rfl e71
      case hdone =>
        intro vals w6 hb4 hv
        have h22 := hv 22 (by omega)
        clear hv
        replace h22 : vals 22 = (Value.bool true) := h22
        simp only [List.drop_succ_cons, List.drop_zero, wpList, Act.put, wk.setL, List.setIfInBounds_toArray, List.set_cons_zero, List.set_cons_succ, Nat.zero_add, Nat.reduceAdd, h22]
        generalize vals 0 = x0
        generalize vals 1 = x1
        generalize vals 2 = x2
        generalize vals 3 = x3
        generalize vals 4 = x4
        generalize vals 5 = x5
        generalize vals 6 = x6
        generalize vals 7 = x7
        generalize vals 8 = x8
        generalize vals 9 = x9
        generalize vals 10 = x10
        generalize vals 11 = x11
        generalize vals 12 = x12
        generalize vals 13 = x13
        generalize vals 14 = x14
        generalize vals 15 = x15
        generalize vals 16 = x16
        generalize vals 17 = x17
        generalize vals 18 = x18
        generalize vals 19 = x19
        generalize vals 20 = x20
        generalize vals 21 = x21
        have HBZ := Lib.hid (Below.andThen HB5.out ((Below.refl _ _).drew.trans hb4))
        clear hb4
        go_wp2_with fail
        go_ret
        exact ⟨rfl, HBZ.out⟩
    · have hn0 : n5 = 0 := by rw [← hn5, hy]; rfl
      clear hn5 hy HED
      subst hn0
      go_wp2_with fail
      refine wk.region_tailS 23 [.is (.bool true), .is (.bool true), .is (.int .i64 f), .is (.bool true), .is (.bool true), .is undef, .is undef, .is undef, .is undef, .is undef, .is undef, .is (Value.bool true), .is (Value.bool true), .is (Value.bool true), .is (.int .i64 f), .is (.bool false), .is (.bool false), .is (.slice A5 0 c5), .is (.int .i64 0), .is (.bool true), .is (.bool true), .is (.bool true), .is (.bool true)] [some 50, some 51, some 52, some 53, some 54, some 55, some 56, some 57, some 58, some 59, some 60, some 61, some 62, some 63, some 64, some 65, some 66, some 67, some 68, some 69, some 70, some 71, some 4] (by kernel_rfl) (by kernel_rfl) (by kernel_rfl) (by kernel_rfl) [5, 6, 7, 8, 9, 10] (by kernel_rfl) (by intro p hp; simp only [List.mem_cons, List.not_mem_nil, or_false] at hp; rcases hp with rfl | rfl | rfl | rfl | rfl | rfl <;> rfl) (by kernel_rfl) (by kernel_rfl) ?hstep ?hdone
      case hstep =>
        intro i o ho hi hns E w6 hb4 D
        have hi2 : i = 0 ∨ i = 1 ∨ i = 2 ∨ i = 3 ∨ i = 4 ∨ i = 5 ∨ i = 6 ∨ i = 7 ∨ i = 8 ∨ i = 9 ∨ i = 10 ∨ i = 11 ∨ i = 12 ∨ i = 13 ∨ i = 14 ∨ i = 15 ∨ i = 16 ∨ i = 17 ∨ i = 18 ∨ i = 19 ∨ i = 20 ∨ i = 21 ∨ i = 22 := by omega
        clear hi
        rcases hi2 with rfl | rfl | rfl | rfl | rfl | rfl | rfl | rfl | rfl | rfl | rfl | rfl | rfl | rfl | rfl | rfl | rfl | rfl | rfl | rfl | rfl | rfl | rfl
        ·
          have ho2 := (Array.getElem?_eq_some_iff.1 ho).2
          simp only [List.getElem_toArray, List.getElem_cons_zero] at ho2
          subst ho2
          clear ho
          refine wk.does_fn (f := 11) (vs := #[]) rfl (D.fn _) (by simp) (by go_simp) ?_
          refine (HS.out w6).mono ?_
          rintro e w7 ⟨rfl, hb7⟩
          exact ⟨_, rfl, hb7, rfl⟩
        ·
          have ho2 := (Array.getElem?_eq_some_iff.1 ho).2
          simp only [List.getElem_toArray, List.getElem_cons_succ, List.getElem_cons_zero] at ho2
          subst ho2
          clear ho
          have e50 := D.is { on := 0, ground := .data } (by simp) rfl rfl 50 rfl
          exact wk.does_move rfl e50
        ·
          have ho2 := (Array.getElem?_eq_some_iff.1 ho).2
          simp only [List.getElem_toArray, List.getElem_cons_succ, List.getElem_cons_zero] at ho2
          subst ho2
          clear ho
          have e8 := D.old 8 (by kernel_rfl)
          exact wk.does_move rfl (by rw [e8]; rfl)
        ·
          have ho2 := (Array.getElem?_eq_some_iff.1 ho).2
          simp only [List.getElem_toArray, List.getElem_cons_succ, List.getElem_cons_zero] at ho2
          subst ho2
          clear ho
          have e52 := D.is { on := 2, ground := .data } (by simp) rfl rfl 52 rfl
          exact wk.does_bin rfl (by rw [e52, D.con]; go_simp) rfl
        ·
          have ho2 := (Array.getElem?_eq_some_iff.1 ho).2
          simp only [List.getElem_toArray, List.getElem_cons_succ, List.getElem_cons_zero] at ho2
          subst ho2
          clear ho
          have e53 := D.is { on := 3, ground := .data } (by simp) rfl rfl 53 rfl
          exact wk.does_move rfl e53
        · cases (show false = true from hns.symm.trans (by kernel_rfl))
        · cases (show false = true from hns.symm.trans (by kernel_rfl))
        · cases (show false = true from hns.symm.trans (by kernel_rfl))
        · cases (show false = true from hns.symm.trans (by kernel_rfl))
        · cases (show false = true from hns.symm.trans (by kernel_rfl))
        · cases (show false = true from hns.symm.trans (by kernel_rfl))
        ·
          have ho2 := (Array.getElem?_eq_some_iff.1 ho).2
          simp only [List.getElem_toArray, List.getElem_cons_succ, List.getElem_cons_zero] at ho2
          subst ho2
          clear ho
          have e54 := D.is { on := 4, ground := .data } (by simp) rfl rfl 54 rfl
          have e60 := D.is { on := 10, ground := .data } (by simp) rfl rfl 60 rfl
          exact wk.does_pick rfl e54 (D.con _)
        ·
          have ho2 := (Array.getElem?_eq_some_iff.1 ho).2
          simp only [List.getElem_toArray, List.getElem_cons_succ, List.getElem_cons_zero] at ho2
          subst ho2
          clear ho
          have e51 := D.is { on := 1, ground := .data } (by simp) rfl rfl 51 rfl
          have e61 := D.is { on := 11, ground := .data } (by simp) rfl rfl 61 rfl
          exact wk.does_pick rfl e51 e61
        ·
          have ho2 := (Array.getElem?_eq_some_iff.1 ho).2
          simp only [List.getElem_toArray, List.getElem_cons_succ, List.getElem_cons_zero] at ho2
          subst ho2
          clear ho
          have e62 := D.is { on := 12, ground := .data } (by simp) rfl rfl 62 rfl
          exact wk.does_move rfl e62
        ·
          have ho2 := (Array.getElem?_eq_some_iff.1 ho).2
          simp only [List.getElem_toArray, List.getElem_cons_succ, List.getElem_cons_zero] at ho2
          subst ho2
          clear ho
          have e8 := D.old 8 (by kernel_rfl)
          exact wk.does_move rfl (by rw [e8]; rfl)
        ·
          have ho2 := (Array.getElem?_eq_some_iff.1 ho).2
          simp only [List.getElem_toArray, List.getElem_cons_succ, List.getElem_cons_zero] at ho2
          subst ho2
          clear ho
          have e64 := D.is { on := 14, ground := .data } (by simp) rfl rfl 64 rfl
          exact wk.does_bin rfl (by rw [e64, D.con]; go_simp) rfl
        ·
          have ho2 := (Array.getElem?_eq_some_iff.1 ho).2
          simp only [List.getElem_toArray, List.getElem_cons_succ, List.getElem_cons_zero] at ho2
          subst ho2
          clear ho
          have e65 := D.is { on := 15, ground := .data } (by simp) rfl rfl 65 rfl
          exact wk.does_move rfl e65
        ·
          have ho2 := (Array.getElem?_eq_some_iff.1 ho).2
          simp only [List.getElem_toArray, List.getElem_cons_succ, List.getElem_cons_zero] at ho2
          subst ho2
          clear ho
          have e7 := D.old 7 (by kernel_rfl)
          exact wk.does_move rfl (by rw [e7]; rfl)
        ·
          have ho2 := (Array.getElem?_eq_some_iff.1 ho).2
          simp only [List.getElem_toArray, List.getElem_cons_succ, List.getElem_cons_zero] at ho2
          subst ho2
          clear ho
          have e67 := D.is { on := 17, ground := .data } (by simp) rfl rfl 67 rfl
          exact wk.does_run (by unfold execOp; simp only [List.map_toArray, List.map_cons, List.map_nil, e67]; go_simp) rfl
        ·
          have ho2 := (Array.getElem?_eq_some_iff.1 ho).2
          simp only [List.getElem_toArray, List.getElem_cons_succ, List.getElem_cons_zero] at ho2
          subst ho2
          clear ho
          have e68 := D.is { on := 18, ground := .data } (by simp) rfl rfl 68 rfl
          exact wk.does_bin rfl (by rw [e68, D.con]; go_simp) rfl
        ·
          have ho2 := (Array.getElem?_eq_some_iff.1 ho).2
          simp only [List.getElem_toArray, List.getElem_cons_succ, List.getElem_cons_zero] at ho2
          subst ho2
          clear ho
          have e66 := D.is { on := 16, ground := .data } (by simp) rfl rfl 66 rfl
          have e69 := D.is { on := 19, ground := .data } (by simp) rfl rfl 69 rfl
          exact wk.does_pick rfl e66 e69
        ·
          have ho2 := (Array.getElem?_eq_some_iff.1 ho).2
          simp only [List.getElem_toArray, List.getElem_cons_succ, List.getElem_cons_zero] at ho2
          subst ho2
          clear ho
          have e63 := D.is { on := 13, ground := .data } (by simp) rfl rfl 63 rfl
          have e70 := D.is { on := 20, ground := .data } (by simp) rfl rfl 70 rfl
          exact wk.does_pick rfl e63 e70
        ·
          have ho2 := (Array.getElem?_eq_some_iff.1 ho).2
          simp only [List.getElem_toArray, List.getElem_cons_succ, List.getElem_cons_zero] at ho2
          subst ho2
          clear ho
          have e71 := D.is { on := 21, ground := .data } (by simp) rfl rfl 71 rfl
          exact wk.does_assign rfl e71
      case hdone =>
        intro vals w6 hb4 hv
        have h22 := hv 22 (by omega)
        clear hv
        replace h22 : vals 22 = (.bool true) := h22
        simp only [List.drop_succ_cons, List.drop_zero, wpList, Act.put, wk.setL, List.setIfInBounds_toArray, List.set_cons_zero, List.set_cons_succ, Nat.zero_add, Nat.reduceAdd, h22]
        generalize vals 0 = x0
        generalize vals 1 = x1
        generalize vals 2 = x2
        generalize vals 3 = x3
        generalize vals 4 = x4
        generalize vals 5 = x5
        generalize vals 6 = x6
        generalize vals 7 = x7
        generalize vals 8 = x8
        generalize vals 9 = x9
        generalize vals 10 = x10
        generalize vals 11 = x11
        generalize vals 12 = x12
        generalize vals 13 = x13
        generalize vals 14 = x14
        generalize vals 15 = x15
        generalize vals 16 = x16
        generalize vals 17 = x17
        generalize vals 18 = x18
        generalize vals 19 = x19
        generalize vals 20 = x20
        generalize vals 21 = x21
        have HBZ := Lib.hid (Below.andThen HB5.out ((Below.refl _ _).drew.trans hb4))
        clear hb4
        go_wp2_with fail
        go_ret
        exact ⟨rfl, HBZ.out⟩
  · rw [hva] at HV HDEC
    rw [if_pos rfl] at HDEC
    dsimp only at HDEC
    go_enter Try.func9, Try.ntmps9
    go_wp2_with fail
    refine HENC.out.mono ?_
    rintro e w1 ⟨A3, c3, rfl, hI3, hb1⟩
    have HD1 := Lib.hid (HDEC.out A3 c3 w1 hI3)
    have HB1 := Lib.hid hb1
    clear hI3 hb1 HENC HDEC
    go_wp2_with fail
    refine HD1.out.mono ?_
    rintro e w2 ⟨A4, n4, c4, rfl, hI4, hb2⟩
    have HB2 := Lib.hid (Below.andThen HB1.out hb2)
    have HI4 := Lib.hid hI4
    clear hb2 hI4 HB1 HD1
    go_wp2_with fail
    refine (HV.out w2 HB2.out).mono ?_
    rintro e w3 ⟨rfl, hb3⟩
    have HB3 := Lib.hid (Below.andThen HB2.out hb3)
    have HI3 := Lib.hid (isI_below HI4.out hb3)
    clear hb3 HB2 HI4
    go_wp2_with fail
    refine (same_calls A4 A1 n4 n1 c4 c1 v v w3 HI3.out (isI_below H1.out HB3.out)).mono ?_
    rw [beq_self_eq_true]
    rintro e w' ⟨rfl, q, rfl⟩
    have HB3' := Lib.hid (below_drewN HB3.out q)
    generalize w3.drewN q = w3' at *
    clear HB3 HI3
    go_wp2_with fail
    refine (HV.out w3' HB3'.out).mono ?_
    rintro e w4 ⟨rfl, hb4⟩
    have HB4 := Lib.hid (Below.andThen HB3'.out hb4)
    clear hb4 HB3'
    go_wp2_with fail
    refine (HDB.out w4 HB4.out).mono ?_
    rintro e w5 ⟨A5, n5, c5, rfl, hI5, hb5⟩
    have HB5 := Lib.hid (Below.andThen HB4.out hb5)
    have HI5 := Lib.hid hI5
    clear hI5 hb5 HB4 HDB HV
    have HCV := Lib.hid (fun w' (hb : Below w5.heap.size w5 w') => conv_b (isB_below (isB_below H2.out HB5.out) hb))
    have hn5 := HI5.out.1
    rcases HED.out with ⟨rfl, hy, hyl⟩ | ⟨hf, hy⟩
    · have HEN := Lib.hid (fun w' (hb : Below w5.heap.size w5 w') => encode_calls A5 n5 c5 y w' (isI_below HI5.out hb) (by omega))
      rw [hy] at HEN
      clear hy hyl hn5 HED
      go_wp2_with fail
      refine wk.region_tailS 23 [.is (.bool true), .is (.bool true), .is (.int .i64 0), .is (.bool false), .is (.bool false), .is (.slice A5 n5 c5), .st (fun u x => ∃ A c, x = .slice A b.length c ∧ wo.IsB u A b.length c b) (fun u u2 x h hb => by obtain ⟨A, c, rfl, hi⟩ := h; exact ⟨A, c, rfl, isB_below hi hb⟩), .is (.string ⟨b.toArray⟩), .is (.slice A2 n2 c2), .is (.string ⟨b.toArray⟩), .is (.bool true), .is (.bool true), .is (.bool true), .is (.bool true), .is (.int .i64 0), .is (.bool true), .is (.bool true), .is undef, .is undef, .is undef, .is (Value.bool true), .is (Value.bool true), .is (Value.bool true)] [some 50, some 51, some 52, some 53, some 54, some 55, some 56, some 57, some 58, some 59, some 60, some 61, some 62, some 63, some 64, some 65, some 66, some 67, some 68, some 69, some 70, some 71, some 4] (by kernel_rfl) (by kernel_rfl) (by kernel_rfl) (by kernel_rfl) [17, 18, 19] (by kernel_rfl) (by intro p hp; simp only [List.mem_cons, List.not_mem_nil, or_false] at hp; rcases hp with rfl | rfl | rfl <;> rfl) (by kernel_rfl) (by kernel_rfl) ?hstep ?hdone
      case hstep =>
        intro i o ho hi hns E w6 hb4 D
        have hi2 : i = 0 ∨ i = 1 ∨ i = 2 ∨ i = 3 ∨ i = 4 ∨ i = 5 ∨ i = 6 ∨ i = 7 ∨ i = 8 ∨ i = 9 ∨ i = 10 ∨ i = 11 ∨ i = 12 ∨ i = 13 ∨ i = 14 ∨ i = 15 ∨ i = 16 ∨ i = 17 ∨ i = 18 ∨ i = 19 ∨ i = 20 ∨ i = 21 ∨ i = 22 := by omega
        clear hi
        rcases hi2 with rfl | rfl | rfl | rfl | rfl | rfl | rfl | rfl | rfl | rfl | rfl | rfl | rfl | rfl | rfl | rfl | rfl | rfl | rfl | rfl | rfl | rfl | rfl
        ·
          have ho2 := (Array.getElem?_eq_some_iff.1 ho).2
          simp only [List.getElem_toArray, List.getElem_cons_zero] at ho2
          subst ho2
          clear ho
          refine wk.does_fn (f := 11) (vs := #[]) rfl (D.fn _) (by simp) (by go_simp) ?_
          refine (HS.out w6).mono ?_
          rintro e w7 ⟨rfl, hb7⟩
          exact ⟨_, rfl, hb7, rfl⟩
        ·
          have ho2 := (Array.getElem?_eq_some_iff.1 ho).2
          simp only [List.getElem_toArray, List.getElem_cons_succ, List.getElem_cons_zero] at ho2
          subst ho2
          clear ho
          have e50 := D.is { on := 0, ground := .data } (by simp) rfl rfl 50 rfl
          exact wk.does_move rfl e50
        ·
          have ho2 := (Array.getElem?_eq_some_iff.1 ho).2
          simp only [List.getElem_toArray, List.getElem_cons_succ, List.getElem_cons_zero] at ho2
          subst ho2
          clear ho
          have e8 := D.old 8 (by kernel_rfl)
          exact wk.does_move rfl (by rw [e8]; rfl)
        ·
          have ho2 := (Array.getElem?_eq_some_iff.1 ho).2
          simp only [List.getElem_toArray, List.getElem_cons_succ, List.getElem_cons_zero] at ho2
          subst ho2
          clear ho
          have e52 := D.is { on := 2, ground := .data } (by simp) rfl rfl 52 rfl
          exact wk.does_bin rfl (by rw [e52, D.con]; go_simp) rfl
        ·
          have ho2 := (Array.getElem?_eq_some_iff.1 ho).2
          simp only [List.getElem_toArray, List.getElem_cons_succ, List.getElem_cons_zero] at ho2
          subst ho2
          clear ho
          have e53 := D.is { on := 3, ground := .data } (by simp) rfl rfl 53 rfl
          exact wk.does_move rfl e53
        ·
          have ho2 := (Array.getElem?_eq_some_iff.1 ho).2
          simp only [List.getElem_toArray, List.getElem_cons_succ, List.getElem_cons_zero] at ho2
          subst ho2
          clear ho
          have e7 := D.old 7 (by kernel_rfl)
          exact wk.does_move rfl (by rw [e7]; rfl)
        ·
          have ho2 := (Array.getElem?_eq_some_iff.1 ho).2
          simp only [List.getElem_toArray, List.getElem_cons_succ, List.getElem_cons_zero] at ho2
          subst ho2
          clear ho
          have e55 := D.is { on := 5, ground := .data } (by simp) rfl rfl 55 rfl
          refine wk.does_fn (f := 34) (vs := #[.slice A5 n5 c5]) rfl (D.fn _) (by simp [e55]) (by go_simp) ?_
          refine (HEN.out w6 ((Below.refl _ _).drew.trans hb4)).mono ?_
          rintro e w7 ⟨A7, c7, rfl, hI7, hb7⟩
          exact ⟨_, rfl, hb7, A7, c7, rfl, hI7⟩
        ·
          have ho2 := (Array.getElem?_eq_some_iff.1 ho).2
          simp only [List.getElem_toArray, List.getElem_cons_succ, List.getElem_cons_zero] at ho2
          subst ho2
          clear ho
          have s56 := D.st { on := 6, ground := .data } (by simp) rfl rfl 56 rfl
          obtain ⟨A7, c7, e7, hI7⟩ := s56
          exact does_conv rfl e7 (conv_b hI7) rfl
        ·
          have ho2 := (Array.getElem?_eq_some_iff.1 ho).2
          simp only [List.getElem_toArray, List.getElem_cons_succ, List.getElem_cons_zero] at ho2
          subst ho2
          clear ho
          have e1 := D.old 1 (by kernel_rfl)
          exact wk.does_move rfl (by rw [e1]; rfl)
        ·
          have ho2 := (Array.getElem?_eq_some_iff.1 ho).2
          simp only [List.getElem_toArray, List.getElem_cons_succ, List.getElem_cons_zero] at ho2
          subst ho2
          clear ho
          have e58 := D.is { on := 8, ground := .data } (by simp) rfl rfl 58 rfl
          exact does_conv rfl e58 (HCV.out w6 ((Below.refl _ _).drew.trans hb4)) rfl
        ·
          have ho2 := (Array.getElem?_eq_some_iff.1 ho).2
          simp only [List.getElem_toArray, List.getElem_cons_succ, List.getElem_cons_zero] at ho2
          subst ho2
          clear ho
          have e57 := D.is { on := 7, ground := .data } (by simp) rfl rfl 57 rfl
          have e59 := D.is { on := 9, ground := .data } (by simp) rfl rfl 59 rfl
          exact wk.does_bin rfl (by rw [e57, e59]; go_simp) rfl
        ·
          have ho2 := (Array.getElem?_eq_some_iff.1 ho).2
          simp only [List.getElem_toArray, List.getElem_cons_succ, List.getElem_cons_zero] at ho2
          subst ho2
          clear ho
          have e54 := D.is { on := 4, ground := .data } (by simp) rfl rfl 54 rfl
          have e60 := D.is { on := 10, ground := .data } (by simp) rfl rfl 60 rfl
          exact wk.does_pick rfl e54 e60
        ·
          have ho2 := (Array.getElem?_eq_some_iff.1 ho).2
          simp only [List.getElem_toArray, List.getElem_cons_succ, List.getElem_cons_zero] at ho2
          subst ho2
          clear ho
          have e51 := D.is { on := 1, ground := .data } (by simp) rfl rfl 51 rfl
          have e61 := D.is { on := 11, ground := .data } (by simp) rfl rfl 61 rfl
          exact wk.does_pick rfl e51 e61
        ·
          have ho2 := (Array.getElem?_eq_some_iff.1 ho).2
          simp only [List.getElem_toArray, List.getElem_cons_succ, List.getElem_cons_zero] at ho2
          subst ho2
          clear ho
          have e62 := D.is { on := 12, ground := .data } (by simp) rfl rfl 62 rfl
          exact wk.does_move rfl e62
        ·
          have ho2 := (Array.getElem?_eq_some_iff.1 ho).2
          simp only [List.getElem_toArray, List.getElem_cons_succ, List.getElem_cons_zero] at ho2
          subst ho2
          clear ho
          have e8 := D.old 8 (by kernel_rfl)
          exact wk.does_move rfl (by rw [e8]; rfl)
        ·
          have ho2 := (Array.getElem?_eq_some_iff.1 ho).2
          simp only [List.getElem_toArray, List.getElem_cons_succ, List.getElem_cons_zero] at ho2
          subst ho2
          clear ho
          have e64 := D.is { on := 14, ground := .data } (by simp) rfl rfl 64 rfl
          exact wk.does_bin rfl (by rw [e64, D.con]; go_simp) rfl
        ·
          have ho2 := (Array.getElem?_eq_some_iff.1 ho).2
          simp only [List.getElem_toArray, List.getElem_cons_succ, List.getElem_cons_zero] at ho2
          subst ho2
          clear ho
          have e65 := D.is { on := 15, ground := .data } (by simp) rfl rfl 65 rfl
          exact wk.does_move rfl e65
        · cases (show false = true from hns.symm.trans (by kernel_rfl))
        · cases (show false = true from hns.symm.trans (by kernel_rfl))
        · cases (show false = true from hns.symm.trans (by kernel_rfl))
        ·
          have ho2 := (Array.getElem?_eq_some_iff.1 ho).2
          simp only [List.getElem_toArray, List.getElem_cons_succ, List.getElem_cons_zero] at ho2
          subst ho2
          clear ho
          have e66 := D.is { on := 16, ground := .data } (by simp) rfl rfl 66 rfl
          have e69 := D.is { on := 19, ground := .data } (by simp) rfl rfl 69 rfl
          exact wk.does_pick rfl e66 (D.con _)
        ·
          have ho2 := (Array.getElem?_eq_some_iff.1 ho).2
          simp only [List.getElem_toArray, List.getElem_cons_succ, List.getElem_cons_zero] at ho2
          subst ho2
          clear ho
          have e63 := D.is { on := 13, ground := .data } (by simp) rfl rfl 63 rfl
          have e70 := D.is { on := 20, ground := .data } (by simp) rfl rfl 70 rfl
          exact wk.does_pick rfl e63 e70
        ·
          have ho2 := (Array.getElem?_eq_some_iff.1 ho).2
          simp only [List.getElem_toArray, List.getElem_cons_succ, List.getElem_cons_zero] at ho2
          subst ho2
          clear ho
          have e71 := D.is { on := 21, ground := .data } (by simp) rfl rfl 71 rfl
          exact wk.does_assign rfl e71
      case hdone =>
        intro vals w6 hb4 hv
        have h22 := hv 22 (by omega)
        clear hv
        replace h22 : vals 22 = (Value.bool true) := h22
        simp only [List.drop_succ_cons, List.drop_zero, wpList, Act.put, wk.setL, List.setIfInBounds_toArray, List.set_cons_zero, List.set_cons_succ, Nat.zero_add, Nat.reduceAdd, h22]
        generalize vals 0 = x0
        generalize vals 1 = x1
        generalize vals 2 = x2
        generalize vals 3 = x3
        generalize vals 4 = x4
        generalize vals 5 = x5
        generalize vals 6 = x6
        generalize vals 7 = x7
        generalize vals 8 = x8
        generalize vals 9 = x9
        generalize vals 10 = x10
        generalize vals 11 = x11
        generalize vals 12 = x12
        generalize vals 13 = x13
        generalize vals 14 = x14
        generalize vals 15 = x15
        generalize vals 16 = x16
        generalize vals 17 = x17
        generalize vals 18 = x18
        generalize vals 19 = x19
        generalize vals 20 = x20
        generalize vals 21 = x21
        have HBZ := Lib.hid (Below.andThen HB5.out ((Below.refl _ _).drew.trans hb4))
        clear hb4
        go_wp2_with fail
        go_ret
        exact ⟨rfl, HBZ.out⟩
    · have hn0 : n5 = 0 := by rw [← hn5, hy]; rfl
      clear hn5 hy HED
      subst hn0
      go_wp2_with fail
      refine wk.region_tailS 23 [.is (.bool true), .is (.bool true), .is (.int .i64 f), .is (.bool true), .is (.bool true), .is undef, .is undef, .is undef, .is undef, .is undef, .is undef, .is (Value.bool true), .is (Value.bool true), .is (Value.bool true), .is (.int .i64 f), .is (.bool false), .is (.bool false), .is (.slice A5 0 c5), .is (.int .i64 0), .is (.bool true), .is (.bool true), .is (.bool true), .is (.bool true)] [some 50, some 51, some 52, some 53, some 54, some 55, some 56, some 57, some 58, some 59, some 60, some 61, some 62, some 63, some 64, some 65, some 66, some 67, some 68, some 69, some 70, some 71, some 4] (by kernel_rfl) (by kernel_rfl) (by kernel_rfl) (by kernel_rfl) [5, 6, 7, 8, 9, 10] (by kernel_rfl) (by intro p hp; simp only [List.mem_cons, List.not_mem_nil, or_false] at hp; rcases hp with rfl | rfl | rfl | rfl | rfl | rfl <;> rfl) (by kernel_rfl) (by kernel_rfl) ?hstep ?hdone
      case hstep =>
        intro i o ho hi hns E w6 hb4 D
        have hi2 : i = 0 ∨ i = 1 ∨ i = 2 ∨ i = 3 ∨ i = 4 ∨ i = 5 ∨ i = 6 ∨ i = 7 ∨ i = 8 ∨ i = 9 ∨ i = 10 ∨ i = 11 ∨ i = 12 ∨ i = 13 ∨ i = 14 ∨ i = 15 ∨ i = 16 ∨ i = 17 ∨ i = 18 ∨ i = 19 ∨ i = 20 ∨ i = 21 ∨ i = 22 := by omega
        clear hi
        rcases hi2 with rfl | rfl | rfl | rfl | rfl | rfl | rfl | rfl | rfl | rfl | rfl | rfl | rfl | rfl | rfl | rfl | rfl | rfl | rfl | rfl | rfl | rfl | rfl
        ·
          have ho2 := (Array.getElem?_eq_some_iff.1 ho).2
          simp only [List.getElem_toArray, List.getElem_cons_zero] at ho2
          subst ho2
          clear ho
          refine wk.does_fn (f := 11) (vs := #[]) rfl (D.fn _) (by simp) (by go_simp) ?_
          refine (HS.out w6).mono ?_
          rintro e w7 ⟨rfl, hb7⟩
          exact ⟨_, rfl, hb7, rfl⟩
        ·
          have ho2 := (Array.getElem?_eq_some_iff.1 ho).2
          simp only [List.getElem_toArray, List.getElem_cons_succ, List.getElem_cons_zero] at ho2
          subst ho2
          clear ho
          have e50 := D.is { on := 0, ground := .data } (by simp) rfl rfl 50 rfl
          exact wk.does_move rfl e50
        ·
          have ho2 := (Array.getElem?_eq_some_iff.1 ho).2
          simp only [List.getElem_toArray, List.getElem_cons_succ, List.getElem_cons_zero] at ho2
          subst ho2
          clear ho
          have e8 := D.old 8 (by kernel_rfl)
          exact wk.does_move rfl (by rw [e8]; rfl)
        ·
          have ho2 := (Array.getElem?_eq_some_iff.1 ho).2
          simp only [List.getElem_toArray, List.getElem_cons_succ, List.getElem_cons_zero] at ho2
          subst ho2
          clear ho
          have e52 := D.is { on := 2, ground := .data } (by simp) rfl rfl 52 rfl
          exact wk.does_bin rfl (by rw [e52, D.con]; go_simp) rfl
        ·
          have ho2 := (Array.getElem?_eq_some_iff.1 ho).2
          simp only [List.getElem_toArray, List.getElem_cons_succ, List.getElem_cons_zero] at ho2
          subst ho2
          clear ho
          have e53 := D.is { on := 3, ground := .data } (by simp) rfl rfl 53 rfl
          exact wk.does_move rfl e53
        · cases (show false = true from hns.symm.trans (by kernel_rfl))
        · cases (show false = true from hns.symm.trans (by kernel_rfl))
        · cases (show false = true from hns.symm.trans (by kernel_rfl))
        · cases (show false = true from hns.symm.trans (by kernel_rfl))
        · cases (show false = true from hns.symm.trans (by kernel_rfl))
        · cases (show false = true from hns.symm.trans (by kernel_rfl))
        ·
          have ho2 := (Array.getElem?_eq_some_iff.1 ho).2
          simp only [List.getElem_toArray, List.getElem_cons_succ, List.getElem_cons_zero] at ho2
          subst ho2
          clear ho
          have e54 := D.is { on := 4, ground := .data } (by simp) rfl rfl 54 rfl
          have e60 := D.is { on := 10, ground := .data } (by simp) rfl rfl 60 rfl
          exact wk.does_pick rfl e54 (D.con _)
        ·
          have ho2 := (Array.getElem?_eq_some_iff.1 ho).2
          simp only [List.getElem_toArray, List.getElem_cons_succ, List.getElem_cons_zero] at ho2
          subst ho2
          clear ho
          have e51 := D.is { on := 1, ground := .data } (by simp) rfl rfl 51 rfl
          have e61 := D.is { on := 11, ground := .data } (by simp) rfl rfl 61 rfl
          exact wk.does_pick rfl e51 e61
        ·
          have ho2 := (Array.getElem?_eq_some_iff.1 ho).2
          simp only [List.getElem_toArray, List.getElem_cons_succ, List.getElem_cons_zero] at ho2
          subst ho2
          clear ho
          have e62 := D.is { on := 12, ground := .data } (by simp) rfl rfl 62 rfl
          exact wk.does_move rfl e62
        ·
          have ho2 := (Array.getElem?_eq_some_iff.1 ho).2
          simp only [List.getElem_toArray, List.getElem_cons_succ, List.getElem_cons_zero] at ho2
          subst ho2
          clear ho
          have e8 := D.old 8 (by kernel_rfl)
          exact wk.does_move rfl (by rw [e8]; rfl)
        ·
          have ho2 := (Array.getElem?_eq_some_iff.1 ho).2
          simp only [List.getElem_toArray, List.getElem_cons_succ, List.getElem_cons_zero] at ho2
          subst ho2
          clear ho
          have e64 := D.is { on := 14, ground := .data } (by simp) rfl rfl 64 rfl
          exact wk.does_bin rfl (by rw [e64, D.con]; go_simp) rfl
        ·
          have ho2 := (Array.getElem?_eq_some_iff.1 ho).2
          simp only [List.getElem_toArray, List.getElem_cons_succ, List.getElem_cons_zero] at ho2
          subst ho2
          clear ho
          have e65 := D.is { on := 15, ground := .data } (by simp) rfl rfl 65 rfl
          exact wk.does_move rfl e65
        ·
          have ho2 := (Array.getElem?_eq_some_iff.1 ho).2
          simp only [List.getElem_toArray, List.getElem_cons_succ, List.getElem_cons_zero] at ho2
          subst ho2
          clear ho
          have e7 := D.old 7 (by kernel_rfl)
          exact wk.does_move rfl (by rw [e7]; rfl)
        ·
          have ho2 := (Array.getElem?_eq_some_iff.1 ho).2
          simp only [List.getElem_toArray, List.getElem_cons_succ, List.getElem_cons_zero] at ho2
          subst ho2
          clear ho
          have e67 := D.is { on := 17, ground := .data } (by simp) rfl rfl 67 rfl
          exact wk.does_run (by unfold execOp; simp only [List.map_toArray, List.map_cons, List.map_nil, e67]; go_simp) rfl
        ·
          have ho2 := (Array.getElem?_eq_some_iff.1 ho).2
          simp only [List.getElem_toArray, List.getElem_cons_succ, List.getElem_cons_zero] at ho2
          subst ho2
          clear ho
          have e68 := D.is { on := 18, ground := .data } (by simp) rfl rfl 68 rfl
          exact wk.does_bin rfl (by rw [e68, D.con]; go_simp) rfl
        ·
          have ho2 := (Array.getElem?_eq_some_iff.1 ho).2
          simp only [List.getElem_toArray, List.getElem_cons_succ, List.getElem_cons_zero] at ho2
          subst ho2
          clear ho
          have e66 := D.is { on := 16, ground := .data } (by simp) rfl rfl 66 rfl
          have e69 := D.is { on := 19, ground := .data } (by simp) rfl rfl 69 rfl
          exact wk.does_pick rfl e66 e69
        ·
          have ho2 := (Array.getElem?_eq_some_iff.1 ho).2
          simp only [List.getElem_toArray, List.getElem_cons_succ, List.getElem_cons_zero] at ho2
          subst ho2
          clear ho
          have e63 := D.is { on := 13, ground := .data } (by simp) rfl rfl 63 rfl
          have e70 := D.is { on := 20, ground := .data } (by simp) rfl rfl 70 rfl
          exact wk.does_pick rfl e63 e70
        ·
          have ho2 := (Array.getElem?_eq_some_iff.1 ho).2
          simp only [List.getElem_toArray, List.getElem_cons_succ, List.getElem_cons_zero] at ho2
          subst ho2
          clear ho
          have e71 := D.is { on := 21, ground := .data } (by simp) rfl rfl 71 rfl
          exact wk.does_assign rfl e71
      case hdone =>
        intro vals w6 hb4 hv
        have h22 := hv 22 (by omega)
        clear hv
        replace h22 : vals 22 = (.bool true) := h22
        simp only [List.drop_succ_cons, List.drop_zero, wpList, Act.put, wk.setL, List.setIfInBounds_toArray, List.set_cons_zero, List.set_cons_succ, Nat.zero_add, Nat.reduceAdd, h22]
        generalize vals 0 = x0
        generalize vals 1 = x1
        generalize vals 2 = x2
        generalize vals 3 = x3
        generalize vals 4 = x4
        generalize vals 5 = x5
        generalize vals 6 = x6
        generalize vals 7 = x7
        generalize vals 8 = x8
        generalize vals 9 = x9
        generalize vals 10 = x10
        generalize vals 11 = x11
        generalize vals 12 = x12
        generalize vals 13 = x13
        generalize vals 14 = x14
        generalize vals 15 = x15
        generalize vals 16 = x16
        generalize vals 17 = x17
        generalize vals 18 = x18
        generalize vals 19 = x19
        generalize vals 20 = x20
        generalize vals 21 = x21
        have HBZ := Lib.hid (Below.andThen HB5.out ((Below.refl _ _).drew.trans hb4))
        clear hb4
        go_wp2_with fail
        go_ret
        exact ⟨rfl, HBZ.out⟩
end Go.Proofs.Ytbnemcggiopdmaa.vectorReadsBack
