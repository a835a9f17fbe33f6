/- The reference's: Inclusion and Consistency. -/
import Derived.Test.YtmjmkkdmphgdnaaDoorNl

namespace Go.Proofs.YtmjmkkdmphgdnaaDoor.mk

open Go.ChangeShapes Go.WideShapes Go.ChangeAt Go.RowKit

set_option linter.unusedVariables false
theorem infoPath : (Tryd.prog.info? 28).map (·.size) = some 2 := by kernel_rfl
theorem own_slice {w : World} {base m : Nat} {v : Value} {ys : List Value} (h : w.ownsRow base 31 16 v m ys) : ∃ A c, v = .slice A m c := by
  rcases h.2 with ⟨hv, hm⟩ | ⟨g, cap, cur, hv, _⟩
  · exact ⟨none, 0, by rw [hv, hm]⟩
  · exact ⟨_, _, hv⟩
theorem own_one {w : World} {base m : Nat} {v : Value} {ys : List Value} (h : w.ownsRow base 31 16 v m ys) (x : Int) : wk.Ones [v, .int .i64 x] := by
  intro u hu
  rcases List.mem_cons.1 hu with rfl | hu
  · rcases h.2 with ⟨hv, _⟩ | ⟨g, cap, cur, hv, _⟩ <;> rw [hv] <;> rfl
  · rw [List.mem_singleton.1 hu]; rfl
theorem own_nil (x : Int) : wk.Ones [.slice none 0 0, .int .i64 x] := fun u hu => by
  rcases List.mem_cons.1 hu with rfl | hu
  · rfl
  · rw [List.mem_singleton.1 hu]; rfl
set_option maxRecDepth 100000 in
set_option maxHeartbeats 4000000 in
theorem rinclP_calls (n : Nat) (A : Option Addr) (c : Nat) (l : List D) (i : Int) (w : World) (h : IsD w A n c l) (hn : n ≤ 1000) (hT : Tab w) :
    Calls Tryd.prog 12 #[.slice A n c, .int .i64 i] w fun e w' => ∃ v, e = .returned (.agg #[v, .int .i64 (inclE n i)]) ∧ w'.ownsRow w.heap.size 31 16 v (inclP l i).length ((inclP l i).flatMap wp.bc) ∧ Below w.heap.size w w' := by
  have hlen := h.len
  have HI := Lib.hid h
  have HT := Lib.hid hT
  go_enter Tryd.func12, Tryd.ntmps12
  go_upto_region 1 with fail
  change Code.wp _ _ _ _ (w.alloc (.cells #[.slice none 0 0, .int .i64 0] 28))
  have q0 : (w.alloc (.cells #[.slice none 0 0, .int .i64 0] 28)).heap[w.heap.size]? = some (.cells #[.slice none 0 0, .int .i64 0] 28 (0, 0)) := heap_alloc_new _ _
  have hb1 : Below w.heap.size w (w.alloc (.cells #[.slice none 0 0, .int .i64 0] 28)) := (Below.refl _ _).alloc (Nat.le_refl _) _
  generalize w.alloc (.cells #[.slice none 0 0, .int .i64 0] 28) = w1 at *
  have HI1 := Lib.hid (HI.out.below hb1)
  have HT1 := Lib.hid (HT.out.next hb1)
  have hs1 : w.heap.size < w1.heap.size := wk.row_lt q0
  clear h hT HI HT
  have HB1 := Lib.hid hb1
  have Q0 := Lib.hid q0
  clear hb1 q0
  by_cases hi : 0 ≤ i ∧ i < n
  · obtain ⟨h0, h1⟩ := hi
    have hE : inclE n i = 0 := by unfold inclE; rw [if_pos ⟨h0, h1⟩]
    have hPp : inclP l i = inclD l i.toNat := by unfold inclP; rw [hlen, if_pos ⟨h0, h1⟩]
    have HE := Lib.hid hE
    have HP := Lib.hid hPp
    clear hE hPp
    obtain ⟨k, rfl⟩ : ∃ k : Nat, i = k := ⟨i.toNat, by omega⟩
    have hk0 : decide ((k : Int) < 0) = false := by simp
    have HX := Lib.hid (rincl_calls n A c l k w1 HI1.out hn (by omega) HT1.out)
    go_wp2_with fail
    refine HX.out.mono ?_
    rintro e w2 ⟨v, rfl, ho, hb2⟩
    have q2 := wk.row_below Q0.out hb2
    have HO := Lib.hid ho
    have HB2 := Lib.hid (HB1.out.trans (hb2.mono (Nat.le_of_lt hs1)))
    have hones := own_one ho 0
    obtain ⟨A3, c3, rfl⟩ := own_slice ho
    clear ho hb2 HX
    go_wp2_with (refine wk.store_row rfl 28 (.tmp 4) (.tmp 17) rfl w.heap.size [(.slice A3 _ c3), .int .i64 0] rfl rfl 28 #[.slice none 0 0, .int .i64 0] q2 infoPath rfl hones ?_)
    refine bodyPost_ret (v := .agg #[(.slice A3 _ c3), .int .i64 0]) (results_cell_row (fn := Tryd.f12) rfl _ _ w.heap.size 28 #[(.slice A3 _ c3), .int .i64 0] (0, 0) _ rfl (setRow_heap _ _ _ _ _ _ q2) Tryd.underlying28 rfl infoPath) rfl ⟨(.slice A3 _ c3), by rw [HE.out], ?_, ?_⟩
    · rw [HP.out]
      have := ownsRow_setRow HO.out (B := w.heap.size) (by omega) #[(.slice A3 (inclD l k).length c3), .int .i64 0]
      exact ownsRow_weak this (by omega)
    · exact wk.below_setRow HB2.out (Nat.le_refl _) _
  · have hE : inclE n i = 1 := by unfold inclE; rw [if_neg hi]
    have hPp : inclP l i = [] := by unfold inclP; rw [hlen, if_neg hi]
    have HE := Lib.hid hE
    have HP := Lib.hid hPp
    clear hE hPp
    have q2 := Q0.out
    have hones : wk.Ones [.slice none 0 0, .int .i64 1] := fun u hu => by
      rcases List.mem_cons.1 hu with rfl | hu
      · rfl
      · rw [List.mem_singleton.1 hu]; rfl
    have hor : i < 0 ∨ (n : Int) ≤ i := by omega
    clear hi
    rcases hor with h0 | h0
    · go_wp2_with (refine wk.store_row rfl 28 (.tmp 4) (.tmp 13) rfl w.heap.size [.slice none 0 0, .int .i64 1] rfl rfl 28 #[.slice none 0 0, .int .i64 0] q2 infoPath rfl hones ?_)
      refine bodyPost_ret (v := .agg #[.slice none 0 0, .int .i64 1]) (results_cell_row (fn := Tryd.f12) rfl _ _ w.heap.size 28 #[.slice none 0 0, .int .i64 1] (0, 0) _ rfl (setRow_heap _ _ _ _ _ _ q2) Tryd.underlying28 rfl infoPath) rfl ⟨_, by rw [HE.out], by rw [HP.out]; exact ⟨rfl, .inl ⟨rfl, rfl⟩⟩, wk.below_setRow HB1.out (Nat.le_refl _) _⟩
    · have h00 : 0 ≤ i := by omega
      go_wp2_with (refine wk.store_row rfl 28 (.tmp 4) (.tmp 13) rfl w.heap.size [.slice none 0 0, .int .i64 1] rfl rfl 28 #[.slice none 0 0, .int .i64 0] q2 infoPath rfl hones ?_)
      refine bodyPost_ret (v := .agg #[.slice none 0 0, .int .i64 1]) (results_cell_row (fn := Tryd.f12) rfl _ _ w.heap.size 28 #[.slice none 0 0, .int .i64 1] (0, 0) _ rfl (setRow_heap _ _ _ _ _ _ q2) Tryd.underlying28 rfl infoPath) rfl ⟨_, by rw [HE.out], by rw [HP.out]; exact ⟨rfl, .inl ⟨rfl, rfl⟩⟩, wk.below_setRow HB1.out (Nat.le_refl _) _⟩
set_option maxRecDepth 100000 in
set_option maxHeartbeats 4000000 in
theorem rconsP_calls (n : Nat) (A : Option Addr) (c : Nat) (l : List D) (i : Int) (w : World) (h : IsD w A n c l) (hn : n ≤ 1000) (hT : Tab w) :
    Calls Tryd.prog 13 #[.slice A n c, .int .i64 i] w fun e w' => ∃ v, e = .returned (.agg #[v, .int .i64 (consE n i)]) ∧ w'.ownsRow w.heap.size 31 16 v (consP l i).length ((consP l i).flatMap wp.bc) ∧ Below w.heap.size w w' := by
  have hlen := h.len
  have HI := Lib.hid h
  have HT := Lib.hid hT
  go_enter Tryd.func13, Tryd.ntmps13
  go_upto_region 1 with fail
  change Code.wp _ _ _ _ (w.alloc (.cells #[.slice none 0 0, .int .i64 0] 28))
  have q0 : (w.alloc (.cells #[.slice none 0 0, .int .i64 0] 28)).heap[w.heap.size]? = some (.cells #[.slice none 0 0, .int .i64 0] 28 (0, 0)) := heap_alloc_new _ _
  have hb1 : Below w.heap.size w (w.alloc (.cells #[.slice none 0 0, .int .i64 0] 28)) := (Below.refl _ _).alloc (Nat.le_refl _) _
  generalize w.alloc (.cells #[.slice none 0 0, .int .i64 0] 28) = w1 at *
  have HI1 := Lib.hid (HI.out.below hb1)
  have HT1 := Lib.hid (HT.out.next hb1)
  have hs1 : w.heap.size < w1.heap.size := wk.row_lt q0
  clear h hT HI HT
  have HB1 := Lib.hid hb1
  have Q0 := Lib.hid q0
  clear hb1 q0
  by_cases hi : 0 ≤ i ∧ i ≤ n
  · obtain ⟨h0, h1⟩ := hi
    have HE := Lib.hid (show consE n i = 0 by unfold consE; rw [if_pos ⟨h0, h1⟩])
    obtain ⟨k, rfl⟩ : ∃ k : Nat, i = k := ⟨i.toNat, by omega⟩
    have hk0 : decide ((k : Int) < 0) = false := by simp
    have hkn : decide ((k : Int) > (n : Int)) = false := by simp; omega
    have q2 := Q0.out
    rcases (by omega : k = 0 ∨ (0 < k ∧ k = n) ∨ (0 < k ∧ k < n)) with hz | ⟨hz, hz2⟩ | ⟨hz, hz2⟩
    · have HP := Lib.hid (show consP l k = [] by unfold consP; rw [if_neg (by omega)])
      subst hz
      have hones : wk.Ones [.slice none 0 0, .int .i64 0] := own_nil 0
      go_wp2_with (refine wk.store_row rfl 28 (.tmp 4) (.tmp 22) rfl w.heap.size [.slice none 0 0, .int .i64 0] rfl rfl 28 #[.slice none 0 0, .int .i64 0] q2 infoPath rfl hones ?_)
      refine bodyPost_ret (v := .agg #[.slice none 0 0, .int .i64 0]) (results_cell_row (fn := Tryd.f13) rfl _ _ w.heap.size 28 #[.slice none 0 0, .int .i64 0] (0, 0) _ rfl (setRow_heap _ _ _ _ _ _ q2) Tryd.underlying28 rfl infoPath) rfl ⟨_, by rw [HE.out], by rw [HP.out]; exact ⟨rfl, .inl ⟨rfl, rfl⟩⟩, wk.below_setRow HB1.out (Nat.le_refl _) _⟩
    · have HP := Lib.hid (show consP l k = [] by unfold consP; rw [if_pos (by omega), Int.toNat_natCast, consD_all true (by omega) (by omega)]; rfl)
      have hz1 : ((k : Int) == 0) = false := by simp; omega
      subst hz2
      have hones : wk.Ones [.slice none 0 0, .int .i64 0] := own_nil 0
      go_wp2_with (refine wk.store_row rfl 28 (.tmp 4) (.tmp 22) rfl w.heap.size [.slice none 0 0, .int .i64 0] rfl rfl 28 #[.slice none 0 0, .int .i64 0] q2 infoPath rfl hones ?_)
      refine bodyPost_ret (v := .agg #[.slice none 0 0, .int .i64 0]) (results_cell_row (fn := Tryd.f13) rfl _ _ w.heap.size 28 #[.slice none 0 0, .int .i64 0] (0, 0) _ rfl (setRow_heap _ _ _ _ _ _ q2) Tryd.underlying28 rfl infoPath) rfl ⟨_, by rw [HE.out], by rw [HP.out]; exact ⟨rfl, .inl ⟨rfl, rfl⟩⟩, wk.below_setRow HB1.out (Nat.le_refl _) _⟩
    · have HP := Lib.hid (show consP l k = consD l k true by unfold consP; rw [if_pos (by omega), Int.toNat_natCast])
      have hz1 : ((k : Int) == 0) = false := by simp; omega
      have hz3 : ((k : Int) == (n : Int)) = false := by simp; omega
      have HX := Lib.hid (rcons_calls n A c l k true w1 HI1.out hn hz (by omega) HT1.out)
      clear q2
      go_wp2_with fail
      refine HX.out.mono ?_
      rintro e w2 ⟨v, rfl, ho, hb2⟩
      have q2 := wk.row_below Q0.out hb2
      have HO := Lib.hid ho
      have HB2 := Lib.hid (HB1.out.trans (hb2.mono (Nat.le_of_lt hs1)))
      have hones := own_one ho 0
      obtain ⟨A3, c3, rfl⟩ := own_slice ho
      clear ho hb2 HX
      go_wp2_with (refine wk.store_row rfl 28 (.tmp 4) (.tmp 26) rfl w.heap.size [(.slice A3 _ c3), .int .i64 0] rfl rfl 28 #[.slice none 0 0, .int .i64 0] q2 infoPath rfl hones ?_)
      refine bodyPost_ret (v := .agg #[(.slice A3 _ c3), .int .i64 0]) (results_cell_row (fn := Tryd.f13) rfl _ _ w.heap.size 28 #[(.slice A3 _ c3), .int .i64 0] (0, 0) _ rfl (setRow_heap _ _ _ _ _ _ q2) Tryd.underlying28 rfl infoPath) rfl ⟨(.slice A3 _ c3), by rw [HE.out], ?_, ?_⟩
      · rw [HP.out]
        have := ownsRow_setRow HO.out (B := w.heap.size) (by omega) #[(.slice A3 (consD l k true).length c3), .int .i64 0]
        exact ownsRow_weak this (by omega)
      · exact wk.below_setRow HB2.out (Nat.le_refl _) _
  · have HE := Lib.hid (show consE n i = 1 by unfold consE; rw [if_neg hi])
    have HP := Lib.hid (show consP l i = [] by unfold consP; rw [if_neg (by omega)])
    have q2 := Q0.out
    have hones : wk.Ones [.slice none 0 0, .int .i64 1] := own_nil 1
    have hor : i < 0 ∨ (n : Int) < i := by omega
    clear hi
    rcases hor with h0 | h0
    · skip
      go_wp2_with (refine wk.store_row rfl 28 (.tmp 4) (.tmp 13) rfl w.heap.size [.slice none 0 0, .int .i64 1] rfl rfl 28 #[.slice none 0 0, .int .i64 0] q2 infoPath rfl hones ?_)
      refine bodyPost_ret (v := .agg #[.slice none 0 0, .int .i64 1]) (results_cell_row (fn := Tryd.f13) rfl _ _ w.heap.size 28 #[.slice none 0 0, .int .i64 1] (0, 0) _ rfl (setRow_heap _ _ _ _ _ _ q2) Tryd.underlying28 rfl infoPath) rfl ⟨_, by rw [HE.out], by rw [HP.out]; exact ⟨rfl, .inl ⟨rfl, rfl⟩⟩, wk.below_setRow HB1.out (Nat.le_refl _) _⟩
    · have h00 : 0 ≤ i := by omega
      go_wp2_with (refine wk.store_row rfl 28 (.tmp 4) (.tmp 13) rfl w.heap.size [.slice none 0 0, .int .i64 1] rfl rfl 28 #[.slice none 0 0, .int .i64 0] q2 infoPath rfl hones ?_)
      refine bodyPost_ret (v := .agg #[.slice none 0 0, .int .i64 1]) (results_cell_row (fn := Tryd.f13) rfl _ _ w.heap.size 28 #[.slice none 0 0, .int .i64 1] (0, 0) _ rfl (setRow_heap _ _ _ _ _ _ q2) Tryd.underlying28 rfl infoPath) rfl ⟨_, by rw [HE.out], by rw [HP.out]; exact ⟨rfl, .inl ⟨rfl, rfl⟩⟩, wk.below_setRow HB1.out (Nat.le_refl _) _⟩
end Go.Proofs.YtmjmkkdmphgdnaaDoor.mk
