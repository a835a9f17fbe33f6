/- The law's inner. -/
import Derived.Test.YtlcdjabfkfmpdaaBr

namespace Go.Proofs.Ytlcdjabfkfmpdaa.bk

open Go.ChangeShapes Go.WideShapes Go.ChangeAt Go.RowKit

open Go.Proofs.Ytlcdjabfkfmpdaa.bq Go.Proofs.Ytlcdjabfkfmpdaa.vk Go.Proofs.Ytlcdjabfkfmpdaa.wk

set_option linter.unusedVariables false
/-- a slice of small numbers -/
def IsU (w : World) (A : Option Addr) (n c : Nat) (l : List Int) : Prop := l.length = n ∧ n ≤ c ∧ c ≤ 9223372036854775807 ∧ wp.RC w A (l.map (Value.int .u16)) ∧ ∀ x ∈ l, 0 ≤ x ∧ x ≤ 65535
theorem isU_below {w w' : World} {A : Option Addr} {n c : Nat} {l : List Int} (h : IsU w A n c l) (hb : Below w.heap.size w w') : IsU w' A n c l := ⟨h.1, h.2.1, h.2.2.1, h.2.2.2.1.below hb, h.2.2.2.2⟩
theorem isU_get {w : World} {A : Option Addr} {n c k : Nat} {l : List Int} (h : IsU w A n c l) (hk : k < n) : ∃ b o, A = some ⟨b, o, none⟩ ∧ w.cell? ⟨b, o + k, none⟩ = some (.int .u16 (at' l k)) ∧ b < w.heap.size ∧ 0 ≤ at' l k ∧ at' l k ≤ 65535 := by
  have hl : k < l.length := by have := h.1; omega
  have hx := of_at hl
  obtain ⟨b, o, hA, hc⟩ := wi.RC_at h.2.2.2.1 (k := k) (u := .int .u16 (at' l k)) (by simp [hx])
  exact ⟨b, o, hA, hc, block_lt_of_cell hc, h.2.2.2.2 _ (List.mem_of_getElem? hx)⟩
def innf (a b x : Int) : Int := a + x % (b - a + 1)
def inner (p : Pair) (pk : List Int) : List Int := (List.range p.1.length).map fun i => innf (at' p.1 i) (at' p.2 i) (at' pk i)
set_option maxRecDepth 100000 in
set_option maxHeartbeats 4000000 in
theorem inner_calls (bv : Value) (p : Pair) (A : Option Addr) (m c : Nat) (pk : List Int) (w : World) (h : IsX w bv p) (h2 : IsU w A m c pk) (hp : IsBox p) :
    Calls Try.prog 37 #[bv, .slice A m c] w fun e w' => ∃ x, e = .returned x ∧ IsV w' x (inner p pk) ∧ Below w.heap.size w w' := by
  obtain ⟨i0, hi, hz0, hz1, hz2⟩ := info_parts wi.infoI
  obtain ⟨A1, n1, c1, A1', n1', c1', rfl, hi1, hi2⟩ := h
  have hm := h2.2.2.1
  have hm1 := hi1.2.2.1
  have hm2 := hi2.2.2.1
  have hnc := h2.2.1
  have hnc1 := hi1.2.1
  have hnc2 := hi2.2.1
  have hn32 := hp.lo.le
  rw [hi1.1] at hn32
  have hee : n1' = n1 := by rw [← hi2.1, ← hp.len, hi1.1]
  rw [hee] at hi2 hnc2
  rw [hee]
  clear hee
  have H1 := Lib.hid hi1
  have H2 := Lib.hid hi2
  have H := Lib.hid h2
  have HP := Lib.hid hp
  have HR : Hid (∀ i, i < n1 → -1000 ≤ at' p.1 i ∧ at' p.1 i ≤ at' p.2 i ∧ at' p.2 i ≤ 1000 ∧ 0 ≤ at' pk i ∧ 0 ≤ at' pk i % (at' p.2 i - at' p.1 i + 1) ∧ at' pk i % (at' p.2 i - at' p.1 i + 1) ≤ at' p.2 i - at' p.1 i) := fun i hi => by
    have q1 := vec_at HP.out.lo (i := i) (by rw [H1.out.1]; exact hi)
    have q2 := vec_at HP.out.hi (i := i) (by rw [H2.out.1]; exact hi)
    have q3 := HP.out.le i (by rw [H1.out.1]; exact hi)
    have q4 : 0 ≤ at' pk i := by
      rcases Nat.lt_or_ge i pk.length with hh | hh
      · exact (H.out.2.2.2.2 _ (List.mem_of_getElem? (of_at hh))).1
      · simp [at', List.getD, List.getElem?_eq_none hh]
    have q5 := Int.emod_nonneg (at' pk i) (show at' p.2 i - at' p.1 i + 1 ≠ 0 by omega)
    have q6 := Int.emod_lt_of_pos (at' pk i) (show 0 < at' p.2 i - at' p.1 i + 1 by omega)
    omega
  have HBN : Hid (∀ x ∈ inner p pk, -9223372036854775808 ≤ x ∧ x ≤ 9223372036854775807) := fun x hx => by
    simp only [inner, List.mem_map, List.mem_range] at hx
    obtain ⟨i, hi, rfl⟩ := hx
    rw [H1.out.1] at hi
    have := HR.out i hi
    unfold innf
    omega
  have HLN : Hid ((inner p pk).length = n1) := by show _ = _; rw [inner, List.length_map, List.length_range, H1.out.1]
  have HSN : Hid (∀ k, k < n1 → (inner p pk).take (k + 1) = (inner p pk).take k ++ [at' p.1 k + at' pk k % (at' p.2 k - at' p.1 k + 1)]) := fun k hk => map_snoc' _ _ (by rw [H1.out.1]; exact hk)
  obtain ⟨ls, hls⟩ : ∃ ls, inner p pk = ls := ⟨_, rfl⟩
  rw [hls] at HBN HLN HSN ⊢
  have HB0 := Lib.hid (below_new w (.cells #[.slice A1 n1 c1, .slice A1' n1 c1'] 25))
  have HT0 := Lib.hid (Two.new w (.slice A1 n1 c1) (.slice A1' n1 c1') 25)
  clear h2 hi1 hi2 hls hp
  go_enter Try.func37, Try.ntmps37
  go_wp2_with fail
  generalize hG : w.heap.size = B at *
  have HG := Lib.hid hG
  clear hG
  go_loopg [5, 6] n1 (fun g v x wr => ∃ (k : Nat), k + g = n1 ∧ x = .int .i64 (k : Int) ∧ wr.ownsRow (B + 1) 3 1 v k (iv (ls.take k)) ∧ Below B w wr ∧ Two wr B (.slice A1 n1 c1) (.slice A1' n1 c1'))
  case atStart => exact ⟨0, by omega, rfl, World.ownsRow_nil _ _ _ _, HB0.out, HT0.out⟩
  case round =>
    obtain ⟨k, hk, rfl, hown, hbel, hT⟩ := hrel
    have HK := Lib.hid hk
    have HOWN := Lib.hid hown
    have HBEL := Lib.hid hbel
    have HT := Lib.hid hT
    have hTc0 := hT.c0
    have hTc1 := hT.c1
    have hkn : k ≤ n1 := by omega
    have HBW : Hid (B + 1 ≤ wr.heap.size) := by have := hT.lt; show _ ≤ _; omega
    by_cases hlt : k < n1
    · have hbb : Below w.heap.size w wr := by rw [HG.out]; exact hbel
      obtain ⟨b2, o2, rfl, hc2, hb2⟩ := isI_get (isI_below H1.out hbb) hlt
      obtain ⟨b3, o3, rfl, hc3, hb3⟩ := isI_get (isI_below H2.out hbb) hlt
      have hlt1 : (k : Int) < (n1 : Int) := by omega
      have hS := HSN.out k hlt
      have hrr := HR.out k hlt
      have htm : Int.tmod (at' pk k) (at' p.2 k - at' p.1 k + 1) = at' pk k % (at' p.2 k - at' p.1 k + 1) := Int.tmod_eq_emod_of_nonneg hrr.2.2.2.1
      by_cases hpk : k < m
      · obtain ⟨b1, o1, rfl, hc1, hb1, hu1, hu2⟩ := isU_get (isU_below H.out hbb) hpk
        have hlt2 : (k : Int) < (m : Int) := by omega
        generalize at' pk k = x at *
        generalize at' p.1 k = y at *
        generalize at' p.2 k = z at *
        obtain ⟨r, hr⟩ : ∃ r, x % (z - y + 1) = r := ⟨_, rfl⟩
        rw [hr] at hS htm hrr
        have HRB : Hid (0 ≤ r ∧ r ≤ z - y) := hrr.2.2.2.2
        have HTM := Lib.hid htm
        have HS := Lib.hid hS
        clear hk hown hbel hbb hS hT htm hr
        go_wp2_with fail
        refine wk.region_tailK 22 [.is u5, .is (.pointer (some ⟨B, 0, none⟩)), .is (.slice (some ⟨b2, o2, none⟩) n1 c1), .is (.int .i64 (k : Int)), .is (.pointer (some ⟨b2, o2 + k, none⟩)), .is (.int .i64 y), .is (.int .i64 (x)), .is (.pointer (some ⟨B, 1, none⟩)), .is (.slice (some ⟨b3, o3, none⟩) n1 c1'), .is (.int .i64 (k : Int)), .is (.pointer (some ⟨b3, o3 + k, none⟩)), .is (.int .i64 z), .is (.pointer (some ⟨B, 0, none⟩)), .is (.slice (some ⟨b2, o2, none⟩) n1 c1), .is (.int .i64 (k : Int)), .is (.pointer (some ⟨b2, o2 + k, none⟩)), .is (.int .i64 y), .is (.int .i64 (z - y)), .is (.int .i64 (z - y + 1)), .is (.int .i64 r), .is (.int .i64 (y + r)), .st (fun u x => ∃ g, x = .slice (some ⟨g, 0, none⟩) 1 1 ∧ One u g 3 (.int .i64 (y + r))) (fun u u2 x h hb => by obtain ⟨g, h1, h2⟩ := h; exact ⟨g, h1, h2.below hb⟩)] [some 24, some 25, some 26, some 27, some 28, some 29, some 30, some 31, some 32, some 33, some 34, some 35, some 36, some 37, some 38, some 39, some 40, some 41, some 42, some 43, some 44, some 45] (by kernel_rfl) (by kernel_rfl) (by kernel_rfl) (by kernel_rfl) [] (by kernel_rfl) (by intro p hp; cases hp) (by kernel_rfl) (by kernel_rfl) ?hstep ?hdone
        case hstep =>
          intro i o ho hi hns E w4 hb4 D hold
          have hi2 : i = 0 ∨ i = 1 ∨ i = 2 ∨ i = 3 ∨ i = 4 ∨ i = 5 ∨ i = 6 ∨ i = 7 ∨ i = 8 ∨ i = 9 ∨ i = 10 ∨ i = 11 ∨ i = 12 ∨ i = 13 ∨ i = 14 ∨ i = 15 ∨ i = 16 ∨ i = 17 ∨ i = 18 ∨ i = 19 ∨ i = 20 ∨ i = 21 := by omega
          clear hi
          rcases hi2 with rfl | rfl | rfl | rfl | rfl | rfl | rfl | rfl | rfl | rfl | rfl | rfl | rfl | rfl | rfl | rfl | rfl | rfl | rfl | rfl | rfl | rfl
          ·
            have ho2 := (Array.getElem?_eq_some_iff.1 ho).2
            simp only [List.getElem_toArray, List.getElem_cons_zero] at ho2
            subst ho2
            clear ho
            have e5 := hold 5 (by kernel_rfl)
            exact wk.does_move rfl (by rw [e5]; rfl)
          ·
            have ho2 := (Array.getElem?_eq_some_iff.1 ho).2
            simp only [List.getElem_toArray, List.getElem_cons_succ, List.getElem_cons_zero] at ho2
            subst ho2
            clear ho
            have e2 := D.old 2 (by kernel_rfl)
            exact wk.does_run (by simp only [execOp]; rw [show E (.tmp 2) = .pointer (some ⟨B, 0, none⟩) by rw [e2]; rfl]; go_simp) rfl
          ·
            have ho2 := (Array.getElem?_eq_some_iff.1 ho).2
            simp only [List.getElem_toArray, List.getElem_cons_succ, List.getElem_cons_zero] at ho2
            subst ho2
            clear ho
            have e25 := D.is { on := 1, ground := .data } (by simp) rfl rfl 25 rfl
            exact wk.does_load1 rfl e25 ((HT.out.below ((Below.refl _ _).drew.trans hb4)).c0) Try.underlying23 rfl rfl
          ·
            have ho2 := (Array.getElem?_eq_some_iff.1 ho).2
            simp only [List.getElem_toArray, List.getElem_cons_succ, List.getElem_cons_zero] at ho2
            subst ho2
            clear ho
            have e6 := D.old 6 (by kernel_rfl)
            exact wk.does_move rfl (by rw [e6]; rfl)
          ·
            have ho2 := (Array.getElem?_eq_some_iff.1 ho).2
            simp only [List.getElem_toArray, List.getElem_cons_succ, List.getElem_cons_zero] at ho2
            subst ho2
            clear ho
            have e26 := D.is { on := 2, ground := .data } (by simp) rfl rfl 26 rfl
            have e27 := D.is { on := 3, ground := .data } (by simp) rfl rfl 27 rfl
            exact wk.does_run (by simp only [execOp]; rw [e26, e27]; go_simp) rfl
          ·
            have ho2 := (Array.getElem?_eq_some_iff.1 ho).2
            simp only [List.getElem_toArray, List.getElem_cons_succ, List.getElem_cons_zero] at ho2
            subst ho2
            clear ho
            have e28 := D.is { on := 4, ground := .data } (by simp) rfl rfl 28 rfl
            exact wk.does_load1 rfl e28 ((((Below.refl _ _).drew.trans hb4 : Below wr.heap.size wr w4).cell (p := ⟨_, _, none⟩) hb2).trans hc2) Try.underlying3 rfl rfl
          ·
            have ho2 := (Array.getElem?_eq_some_iff.1 ho).2
            simp only [List.getElem_toArray, List.getElem_cons_succ, List.getElem_cons_zero] at ho2
            subst ho2
            clear ho
            have e7 := D.old 7 (by kernel_rfl)
            exact wk.does_move rfl (by rw [e7]; rfl)
          ·
            have ho2 := (Array.getElem?_eq_some_iff.1 ho).2
            simp only [List.getElem_toArray, List.getElem_cons_succ, List.getElem_cons_zero] at ho2
            subst ho2
            clear ho
            have e2 := D.old 2 (by kernel_rfl)
            exact wk.does_run (by simp only [execOp]; rw [show E (.tmp 2) = .pointer (some ⟨B, 0, none⟩) by rw [e2]; rfl]; go_simp) rfl
          ·
            have ho2 := (Array.getElem?_eq_some_iff.1 ho).2
            simp only [List.getElem_toArray, List.getElem_cons_succ, List.getElem_cons_zero] at ho2
            subst ho2
            clear ho
            have e31 := D.is { on := 7, ground := .data } (by simp) rfl rfl 31 rfl
            exact wk.does_load1 rfl e31 ((HT.out.below ((Below.refl _ _).drew.trans hb4)).c1) Try.underlying23 rfl rfl
          ·
            have ho2 := (Array.getElem?_eq_some_iff.1 ho).2
            simp only [List.getElem_toArray, List.getElem_cons_succ, List.getElem_cons_zero] at ho2
            subst ho2
            clear ho
            have e6 := D.old 6 (by kernel_rfl)
            exact wk.does_move rfl (by rw [e6]; rfl)
          ·
            have ho2 := (Array.getElem?_eq_some_iff.1 ho).2
            simp only [List.getElem_toArray, List.getElem_cons_succ, List.getElem_cons_zero] at ho2
            subst ho2
            clear ho
            have e32 := D.is { on := 8, ground := .data } (by simp) rfl rfl 32 rfl
            have e33 := D.is { on := 9, ground := .data } (by simp) rfl rfl 33 rfl
            exact wk.does_run (by simp only [execOp]; rw [e32, e33]; go_simp) rfl
          ·
            have ho2 := (Array.getElem?_eq_some_iff.1 ho).2
            simp only [List.getElem_toArray, List.getElem_cons_succ, List.getElem_cons_zero] at ho2
            subst ho2
            clear ho
            have e34 := D.is { on := 10, ground := .data } (by simp) rfl rfl 34 rfl
            exact wk.does_load1 rfl e34 ((((Below.refl _ _).drew.trans hb4 : Below wr.heap.size wr w4).cell (p := ⟨_, _, none⟩) hb3).trans hc3) Try.underlying3 rfl rfl
          ·
            have ho2 := (Array.getElem?_eq_some_iff.1 ho).2
            simp only [List.getElem_toArray, List.getElem_cons_succ, List.getElem_cons_zero] at ho2
            subst ho2
            clear ho
            have e2 := D.old 2 (by kernel_rfl)
            exact wk.does_run (by simp only [execOp]; rw [show E (.tmp 2) = .pointer (some ⟨B, 0, none⟩) by rw [e2]; rfl]; go_simp) rfl
          ·
            have ho2 := (Array.getElem?_eq_some_iff.1 ho).2
            simp only [List.getElem_toArray, List.getElem_cons_succ, List.getElem_cons_zero] at ho2
            subst ho2
            clear ho
            have e36 := D.is { on := 12, ground := .data } (by simp) rfl rfl 36 rfl
            exact wk.does_load1 rfl e36 ((HT.out.below ((Below.refl _ _).drew.trans hb4)).c0) Try.underlying23 rfl rfl
          ·
            have ho2 := (Array.getElem?_eq_some_iff.1 ho).2
            simp only [List.getElem_toArray, List.getElem_cons_succ, List.getElem_cons_zero] at ho2
            subst ho2
            clear ho
            have e6 := D.old 6 (by kernel_rfl)
            exact wk.does_move rfl (by rw [e6]; rfl)
          ·
            have ho2 := (Array.getElem?_eq_some_iff.1 ho).2
            simp only [List.getElem_toArray, List.getElem_cons_succ, List.getElem_cons_zero] at ho2
            subst ho2
            clear ho
            have e37 := D.is { on := 13, ground := .data } (by simp) rfl rfl 37 rfl
            have e38 := D.is { on := 14, ground := .data } (by simp) rfl rfl 38 rfl
            exact wk.does_run (by simp only [execOp]; rw [e37, e38]; go_simp) rfl
          ·
            have ho2 := (Array.getElem?_eq_some_iff.1 ho).2
            simp only [List.getElem_toArray, List.getElem_cons_succ, List.getElem_cons_zero] at ho2
            subst ho2
            clear ho
            have e39 := D.is { on := 15, ground := .data } (by simp) rfl rfl 39 rfl
            exact wk.does_load1 rfl e39 ((((Below.refl _ _).drew.trans hb4 : Below wr.heap.size wr w4).cell (p := ⟨_, _, none⟩) hb2).trans hc2) Try.underlying3 rfl rfl
          ·
            have ho2 := (Array.getElem?_eq_some_iff.1 ho).2
            simp only [List.getElem_toArray, List.getElem_cons_succ, List.getElem_cons_zero] at ho2
            subst ho2
            clear ho
            have e35 := D.is { on := 11, ground := .data } (by simp) rfl rfl 35 rfl
            have e40 := D.is { on := 16, ground := .data } (by simp) rfl rfl 40 rfl
            have hw : IntKind.i64.wrap (z - y) = z - y := by rw [IntKind.wrap_i64]; omega
            exact wk.does_bin rfl (by rw [e35, e40]; go_simp) rfl
          ·
            have ho2 := (Array.getElem?_eq_some_iff.1 ho).2
            simp only [List.getElem_toArray, List.getElem_cons_succ, List.getElem_cons_zero] at ho2
            subst ho2
            clear ho
            have e41 := D.is { on := 17, ground := .data } (by simp) rfl rfl 41 rfl
            have hw : IntKind.i64.wrap (z - y + 1) = z - y + 1 := by rw [IntKind.wrap_i64]; omega
            exact wk.does_bin rfl (by rw [e41, D.con]; go_simp) rfl
          ·
            have ho2 := (Array.getElem?_eq_some_iff.1 ho).2
            simp only [List.getElem_toArray, List.getElem_cons_succ, List.getElem_cons_zero] at ho2
            subst ho2
            clear ho
            have e30 := D.is { on := 6, ground := .data } (by simp) rfl rfl 30 rfl
            have e42 := D.is { on := 18, ground := .data } (by simp) rfl rfl 42 rfl
            have hne : ¬ (z - y + 1 = 0) := by omega
            have htm := HTM.out
            have hw : IntKind.i64.wrap r = r := by rw [IntKind.wrap_i64]; have := HRB.out; omega
            exact wk.does_bin rfl (by rw [e30, e42]; go_simp) rfl
          ·
            have ho2 := (Array.getElem?_eq_some_iff.1 ho).2
            simp only [List.getElem_toArray, List.getElem_cons_succ, List.getElem_cons_zero] at ho2
            subst ho2
            clear ho
            have e29 := D.is { on := 5, ground := .data } (by simp) rfl rfl 29 rfl
            have e43 := D.is { on := 19, ground := .data } (by simp) rfl rfl 43 rfl
            have hw : IntKind.i64.wrap (y + r) = y + r := by rw [IntKind.wrap_i64]; have := HRB.out; omega
            exact wk.does_bin rfl (by rw [e29, e43]; go_simp) rfl
          ·
            have ho2 := (Array.getElem?_eq_some_iff.1 ho).2
            simp only [List.getElem_toArray, List.getElem_cons_succ, List.getElem_cons_zero] at ho2
            subst ho2
            clear ho
            have e44 := D.is { on := 20, ground := .data } (by simp) rfl rfl 44 rfl
            refine wk.does_new (v := .slice (some ⟨w4.heap.size, 0, none⟩) 1 1) (w' := w4.alloc (.cells #[.int .i64 (y + r)] 3)) (by simp only [execOp, List.map_toArray, List.map_cons, List.map_nil]; rw [e44]; go_simp) (below_new _ _) ⟨_, rfl, One.new _ _ _⟩
        case hdone =>
          intro vals w4 hb4 hv
          have h0 := hv 0 (by omega)
          have h21 := hv 21 (by omega)
          clear hv
          replace h0 : vals 0 = u5 := h0
          simp only [List.drop_succ_cons, List.drop_zero, wk.setL, List.setIfInBounds_toArray, List.set_cons_zero, List.set_cons_succ, Nat.zero_add, Nat.reduceAdd, h0]
          generalize vals 1 = x1
          generalize vals 2 = x2
          generalize vals 3 = x3
          generalize vals 4 = x4
          generalize vals 5 = x5
          generalize vals 6 = x6
          generalize vals 7 = x7
          generalize vals 8 = x8
          generalize vals 9 = x9
          generalize vals 10 = x10
          generalize vals 11 = x11
          generalize vals 12 = x12
          generalize vals 13 = x13
          generalize vals 14 = x14
          generalize vals 15 = x15
          generalize vals 16 = x16
          generalize vals 17 = x17
          generalize vals 18 = x18
          generalize vals 19 = x19
          generalize vals 20 = x20
          generalize vals 21 = x21 at *
          obtain ⟨g, rfl, hg⟩ := h21
          have hb5 := ((Below.refl _ _).drew.trans hb4 : Below wr.heap.size wr w4)
          have hbe5 := HBEL.out.trans (hb5.mono (by have := HBW.out; omega))
          have HOW : Hid (w4.ownsRow (B + 1) 3 1 u5 k (iv (ls.take k))) := World.ownsRow.kept HOWN.out (grown_of hb5) (by cases u5.ownBlock <;> simp)
          have hgl := (Array.getElem?_eq_some_iff.1 hg).1
          have hcg : ∀ j u, [Value.int .i64 (y + r)][j]? = some u → w4.cell? ((⟨g, 0, none⟩ : Addr).add j) = some u := fun j u hu => by
            cases j with
            | zero => simp at hu; subst hu; rw [wk.add_at]; exact hg.cell
            | succ j => simp at hu
          have hB4 : B + 1 ≤ w4.heap.size := by have := hb5.size; have := HBW.out; omega
          have HT5 := Lib.hid (HT.out.below hb5)
          have HBE5 := Lib.hid hbe5
          have HCG := Lib.hid hcg
          clear hb4 hb5 hg hcg hbe5
          go_wp2_with (at_builtin; refine wpList_append_own _ rfl _ _ 23 rfl (B + 1) 3 i0 (.int .i64 0) 1 8 Try.underlying23 hi hz0 hz1 hz2 rfl (by decide) _ _ _ rfl HOW.out ⟨g, 0, none⟩ 1 1 [.int .i64 (y + r)] rfl rfl HCG.out ?c2 ?c3 ?c4 ?c5 ?_)
          case c2 => simp [Value.oneCell']
          case c3 => unfold maxLen; omega
          case c4 => omega
          case c5 => omega
          intro v' w2 hown2 hgrow _
          have HT9 := Lib.hid (HT5.out.at (hgrow.block B HT5.out.lt (fun e => by have := (HOW.out.lt B e.symm).1; omega)))
          have hbe : Below B w w2 := HBE5.out.grown hgrow (by omega) (fun q hq => by have := (HOW.out.lt q hq).1; omega)
          have HB2 := Lib.hid hbe
          have HO2 := Lib.hid hown2
          clear hown2 hgrow hbe
          go_wp2_with fail
          go_roundg (gk - 1)
          case measure => have := HK.out; omega
          case rel =>
            refine ⟨k + 1, by have := HK.out; omega, by go_num, ?_, HB2.out, HT9.out⟩
            have h := HO2.out
            rw [HS.out]
            unfold iv at h ⊢
            rw [List.map_append]
            simpa using h
      · have hx0 : at' pk k = 0 := by simp [at', List.getD, List.getElem?_eq_none (show pk.length ≤ k by rw [H.out.1]; omega)]
        rw [hx0] at hS htm hrr
        generalize at' p.1 k = y at *
        generalize at' p.2 k = z at *
        obtain ⟨r, hr⟩ : ∃ r, 0 % (z - y + 1) = r := ⟨_, rfl⟩
        rw [hr] at hS htm hrr
        have HRB : Hid (0 ≤ r ∧ r ≤ z - y) := hrr.2.2.2.2
        have HTM := Lib.hid htm
        have HS := Lib.hid hS
        clear hk hown hbel hbb hS hT htm hr hx0
        go_wp2_with fail
        refine wk.region_tailK 22 [.is u5, .is (.pointer (some ⟨B, 0, none⟩)), .is (.slice (some ⟨b2, o2, none⟩) n1 c1), .is (.int .i64 (k : Int)), .is (.pointer (some ⟨b2, o2 + k, none⟩)), .is (.int .i64 y), .is (.int .i64 (0)), .is (.pointer (some ⟨B, 1, none⟩)), .is (.slice (some ⟨b3, o3, none⟩) n1 c1'), .is (.int .i64 (k : Int)), .is (.pointer (some ⟨b3, o3 + k, none⟩)), .is (.int .i64 z), .is (.pointer (some ⟨B, 0, none⟩)), .is (.slice (some ⟨b2, o2, none⟩) n1 c1), .is (.int .i64 (k : Int)), .is (.pointer (some ⟨b2, o2 + k, none⟩)), .is (.int .i64 y), .is (.int .i64 (z - y)), .is (.int .i64 (z - y + 1)), .is (.int .i64 r), .is (.int .i64 (y + r)), .st (fun u x => ∃ g, x = .slice (some ⟨g, 0, none⟩) 1 1 ∧ One u g 3 (.int .i64 (y + r))) (fun u u2 x h hb => by obtain ⟨g, h1, h2⟩ := h; exact ⟨g, h1, h2.below hb⟩)] [some 24, some 25, some 26, some 27, some 28, some 29, some 30, some 31, some 32, some 33, some 34, some 35, some 36, some 37, some 38, some 39, some 40, some 41, some 42, some 43, some 44, some 45] (by kernel_rfl) (by kernel_rfl) (by kernel_rfl) (by kernel_rfl) [] (by kernel_rfl) (by intro p hp; cases hp) (by kernel_rfl) (by kernel_rfl) ?hstep ?hdone
        case hstep =>
          intro i o ho hi hns E w4 hb4 D hold
          have hi2 : i = 0 ∨ i = 1 ∨ i = 2 ∨ i = 3 ∨ i = 4 ∨ i = 5 ∨ i = 6 ∨ i = 7 ∨ i = 8 ∨ i = 9 ∨ i = 10 ∨ i = 11 ∨ i = 12 ∨ i = 13 ∨ i = 14 ∨ i = 15 ∨ i = 16 ∨ i = 17 ∨ i = 18 ∨ i = 19 ∨ i = 20 ∨ i = 21 := by omega
          clear hi
          rcases hi2 with rfl | rfl | rfl | rfl | rfl | rfl | rfl | rfl | rfl | rfl | rfl | rfl | rfl | rfl | rfl | rfl | rfl | rfl | rfl | rfl | rfl | rfl
          ·
            have ho2 := (Array.getElem?_eq_some_iff.1 ho).2
            simp only [List.getElem_toArray, List.getElem_cons_zero] at ho2
            subst ho2
            clear ho
            have e5 := hold 5 (by kernel_rfl)
            exact wk.does_move rfl (by rw [e5]; rfl)
          ·
            have ho2 := (Array.getElem?_eq_some_iff.1 ho).2
            simp only [List.getElem_toArray, List.getElem_cons_succ, List.getElem_cons_zero] at ho2
            subst ho2
            clear ho
            have e2 := D.old 2 (by kernel_rfl)
            exact wk.does_run (by simp only [execOp]; rw [show E (.tmp 2) = .pointer (some ⟨B, 0, none⟩) by rw [e2]; rfl]; go_simp) rfl
          ·
            have ho2 := (Array.getElem?_eq_some_iff.1 ho).2
            simp only [List.getElem_toArray, List.getElem_cons_succ, List.getElem_cons_zero] at ho2
            subst ho2
            clear ho
            have e25 := D.is { on := 1, ground := .data } (by simp) rfl rfl 25 rfl
            exact wk.does_load1 rfl e25 ((HT.out.below ((Below.refl _ _).drew.trans hb4)).c0) Try.underlying23 rfl rfl
          ·
            have ho2 := (Array.getElem?_eq_some_iff.1 ho).2
            simp only [List.getElem_toArray, List.getElem_cons_succ, List.getElem_cons_zero] at ho2
            subst ho2
            clear ho
            have e6 := D.old 6 (by kernel_rfl)
            exact wk.does_move rfl (by rw [e6]; rfl)
          ·
            have ho2 := (Array.getElem?_eq_some_iff.1 ho).2
            simp only [List.getElem_toArray, List.getElem_cons_succ, List.getElem_cons_zero] at ho2
            subst ho2
            clear ho
            have e26 := D.is { on := 2, ground := .data } (by simp) rfl rfl 26 rfl
            have e27 := D.is { on := 3, ground := .data } (by simp) rfl rfl 27 rfl
            exact wk.does_run (by simp only [execOp]; rw [e26, e27]; go_simp) rfl
          ·
            have ho2 := (Array.getElem?_eq_some_iff.1 ho).2
            simp only [List.getElem_toArray, List.getElem_cons_succ, List.getElem_cons_zero] at ho2
            subst ho2
            clear ho
            have e28 := D.is { on := 4, ground := .data } (by simp) rfl rfl 28 rfl
            exact wk.does_load1 rfl e28 ((((Below.refl _ _).drew.trans hb4 : Below wr.heap.size wr w4).cell (p := ⟨_, _, none⟩) hb2).trans hc2) Try.underlying3 rfl rfl
          ·
            have ho2 := (Array.getElem?_eq_some_iff.1 ho).2
            simp only [List.getElem_toArray, List.getElem_cons_succ, List.getElem_cons_zero] at ho2
            subst ho2
            clear ho
            have e7 := D.old 7 (by kernel_rfl)
            exact wk.does_move rfl (by rw [e7]; rfl)
          ·
            have ho2 := (Array.getElem?_eq_some_iff.1 ho).2
            simp only [List.getElem_toArray, List.getElem_cons_succ, List.getElem_cons_zero] at ho2
            subst ho2
            clear ho
            have e2 := D.old 2 (by kernel_rfl)
            exact wk.does_run (by simp only [execOp]; rw [show E (.tmp 2) = .pointer (some ⟨B, 0, none⟩) by rw [e2]; rfl]; go_simp) rfl
          ·
            have ho2 := (Array.getElem?_eq_some_iff.1 ho).2
            simp only [List.getElem_toArray, List.getElem_cons_succ, List.getElem_cons_zero] at ho2
            subst ho2
            clear ho
            have e31 := D.is { on := 7, ground := .data } (by simp) rfl rfl 31 rfl
            exact wk.does_load1 rfl e31 ((HT.out.below ((Below.refl _ _).drew.trans hb4)).c1) Try.underlying23 rfl rfl
          ·
            have ho2 := (Array.getElem?_eq_some_iff.1 ho).2
            simp only [List.getElem_toArray, List.getElem_cons_succ, List.getElem_cons_zero] at ho2
            subst ho2
            clear ho
            have e6 := D.old 6 (by kernel_rfl)
            exact wk.does_move rfl (by rw [e6]; rfl)
          ·
            have ho2 := (Array.getElem?_eq_some_iff.1 ho).2
            simp only [List.getElem_toArray, List.getElem_cons_succ, List.getElem_cons_zero] at ho2
            subst ho2
            clear ho
            have e32 := D.is { on := 8, ground := .data } (by simp) rfl rfl 32 rfl
            have e33 := D.is { on := 9, ground := .data } (by simp) rfl rfl 33 rfl
            exact wk.does_run (by simp only [execOp]; rw [e32, e33]; go_simp) rfl
          ·
            have ho2 := (Array.getElem?_eq_some_iff.1 ho).2
            simp only [List.getElem_toArray, List.getElem_cons_succ, List.getElem_cons_zero] at ho2
            subst ho2
            clear ho
            have e34 := D.is { on := 10, ground := .data } (by simp) rfl rfl 34 rfl
            exact wk.does_load1 rfl e34 ((((Below.refl _ _).drew.trans hb4 : Below wr.heap.size wr w4).cell (p := ⟨_, _, none⟩) hb3).trans hc3) Try.underlying3 rfl rfl
          ·
            have ho2 := (Array.getElem?_eq_some_iff.1 ho).2
            simp only [List.getElem_toArray, List.getElem_cons_succ, List.getElem_cons_zero] at ho2
            subst ho2
            clear ho
            have e2 := D.old 2 (by kernel_rfl)
            exact wk.does_run (by simp only [execOp]; rw [show E (.tmp 2) = .pointer (some ⟨B, 0, none⟩) by rw [e2]; rfl]; go_simp) rfl
          ·
            have ho2 := (Array.getElem?_eq_some_iff.1 ho).2
            simp only [List.getElem_toArray, List.getElem_cons_succ, List.getElem_cons_zero] at ho2
            subst ho2
            clear ho
            have e36 := D.is { on := 12, ground := .data } (by simp) rfl rfl 36 rfl
            exact wk.does_load1 rfl e36 ((HT.out.below ((Below.refl _ _).drew.trans hb4)).c0) Try.underlying23 rfl rfl
          ·
            have ho2 := (Array.getElem?_eq_some_iff.1 ho).2
            simp only [List.getElem_toArray, List.getElem_cons_succ, List.getElem_cons_zero] at ho2
            subst ho2
            clear ho
            have e6 := D.old 6 (by kernel_rfl)
            exact wk.does_move rfl (by rw [e6]; rfl)
          ·
            have ho2 := (Array.getElem?_eq_some_iff.1 ho).2
            simp only [List.getElem_toArray, List.getElem_cons_succ, List.getElem_cons_zero] at ho2
            subst ho2
            clear ho
            have e37 := D.is { on := 13, ground := .data } (by simp) rfl rfl 37 rfl
            have e38 := D.is { on := 14, ground := .data } (by simp) rfl rfl 38 rfl
            exact wk.does_run (by simp only [execOp]; rw [e37, e38]; go_simp) rfl
          ·
            have ho2 := (Array.getElem?_eq_some_iff.1 ho).2
            simp only [List.getElem_toArray, List.getElem_cons_succ, List.getElem_cons_zero] at ho2
            subst ho2
            clear ho
            have e39 := D.is { on := 15, ground := .data } (by simp) rfl rfl 39 rfl
            exact wk.does_load1 rfl e39 ((((Below.refl _ _).drew.trans hb4 : Below wr.heap.size wr w4).cell (p := ⟨_, _, none⟩) hb2).trans hc2) Try.underlying3 rfl rfl
          ·
            have ho2 := (Array.getElem?_eq_some_iff.1 ho).2
            simp only [List.getElem_toArray, List.getElem_cons_succ, List.getElem_cons_zero] at ho2
            subst ho2
            clear ho
            have e35 := D.is { on := 11, ground := .data } (by simp) rfl rfl 35 rfl
            have e40 := D.is { on := 16, ground := .data } (by simp) rfl rfl 40 rfl
            have hw : IntKind.i64.wrap (z - y) = z - y := by rw [IntKind.wrap_i64]; omega
            exact wk.does_bin rfl (by rw [e35, e40]; go_simp) rfl
          ·
            have ho2 := (Array.getElem?_eq_some_iff.1 ho).2
            simp only [List.getElem_toArray, List.getElem_cons_succ, List.getElem_cons_zero] at ho2
            subst ho2
            clear ho
            have e41 := D.is { on := 17, ground := .data } (by simp) rfl rfl 41 rfl
            have hw : IntKind.i64.wrap (z - y + 1) = z - y + 1 := by rw [IntKind.wrap_i64]; omega
            exact wk.does_bin rfl (by rw [e41, D.con]; go_simp) rfl
          ·
            have ho2 := (Array.getElem?_eq_some_iff.1 ho).2
            simp only [List.getElem_toArray, List.getElem_cons_succ, List.getElem_cons_zero] at ho2
            subst ho2
            clear ho
            have e30 := D.is { on := 6, ground := .data } (by simp) rfl rfl 30 rfl
            have e42 := D.is { on := 18, ground := .data } (by simp) rfl rfl 42 rfl
            have hne : ¬ (z - y + 1 = 0) := by omega
            have htm := HTM.out
            have hw : IntKind.i64.wrap r = r := by rw [IntKind.wrap_i64]; have := HRB.out; omega
            exact wk.does_bin rfl (by rw [e30, e42]; go_simp) rfl
          ·
            have ho2 := (Array.getElem?_eq_some_iff.1 ho).2
            simp only [List.getElem_toArray, List.getElem_cons_succ, List.getElem_cons_zero] at ho2
            subst ho2
            clear ho
            have e29 := D.is { on := 5, ground := .data } (by simp) rfl rfl 29 rfl
            have e43 := D.is { on := 19, ground := .data } (by simp) rfl rfl 43 rfl
            have hw : IntKind.i64.wrap (y + r) = y + r := by rw [IntKind.wrap_i64]; have := HRB.out; omega
            exact wk.does_bin rfl (by rw [e29, e43]; go_simp) rfl
          ·
            have ho2 := (Array.getElem?_eq_some_iff.1 ho).2
            simp only [List.getElem_toArray, List.getElem_cons_succ, List.getElem_cons_zero] at ho2
            subst ho2
            clear ho
            have e44 := D.is { on := 20, ground := .data } (by simp) rfl rfl 44 rfl
            refine wk.does_new (v := .slice (some ⟨w4.heap.size, 0, none⟩) 1 1) (w' := w4.alloc (.cells #[.int .i64 (y + r)] 3)) (by simp only [execOp, List.map_toArray, List.map_cons, List.map_nil]; rw [e44]; go_simp) (below_new _ _) ⟨_, rfl, One.new _ _ _⟩
        case hdone =>
          intro vals w4 hb4 hv
          have h0 := hv 0 (by omega)
          have h21 := hv 21 (by omega)
          clear hv
          replace h0 : vals 0 = u5 := h0
          simp only [List.drop_succ_cons, List.drop_zero, wk.setL, List.setIfInBounds_toArray, List.set_cons_zero, List.set_cons_succ, Nat.zero_add, Nat.reduceAdd, h0]
          generalize vals 1 = x1
          generalize vals 2 = x2
          generalize vals 3 = x3
          generalize vals 4 = x4
          generalize vals 5 = x5
          generalize vals 6 = x6
          generalize vals 7 = x7
          generalize vals 8 = x8
          generalize vals 9 = x9
          generalize vals 10 = x10
          generalize vals 11 = x11
          generalize vals 12 = x12
          generalize vals 13 = x13
          generalize vals 14 = x14
          generalize vals 15 = x15
          generalize vals 16 = x16
          generalize vals 17 = x17
          generalize vals 18 = x18
          generalize vals 19 = x19
          generalize vals 20 = x20
          generalize vals 21 = x21 at *
          obtain ⟨g, rfl, hg⟩ := h21
          have hb5 := ((Below.refl _ _).drew.trans hb4 : Below wr.heap.size wr w4)
          have hbe5 := HBEL.out.trans (hb5.mono (by have := HBW.out; omega))
          have HOW : Hid (w4.ownsRow (B + 1) 3 1 u5 k (iv (ls.take k))) := World.ownsRow.kept HOWN.out (grown_of hb5) (by cases u5.ownBlock <;> simp)
          have hgl := (Array.getElem?_eq_some_iff.1 hg).1
          have hcg : ∀ j u, [Value.int .i64 (y + r)][j]? = some u → w4.cell? ((⟨g, 0, none⟩ : Addr).add j) = some u := fun j u hu => by
            cases j with
            | zero => simp at hu; subst hu; rw [wk.add_at]; exact hg.cell
            | succ j => simp at hu
          have hB4 : B + 1 ≤ w4.heap.size := by have := hb5.size; have := HBW.out; omega
          have HT5 := Lib.hid (HT.out.below hb5)
          have HBE5 := Lib.hid hbe5
          have HCG := Lib.hid hcg
          clear hb4 hb5 hg hcg hbe5
          go_wp2_with (at_builtin; refine wpList_append_own _ rfl _ _ 23 rfl (B + 1) 3 i0 (.int .i64 0) 1 8 Try.underlying23 hi hz0 hz1 hz2 rfl (by decide) _ _ _ rfl HOW.out ⟨g, 0, none⟩ 1 1 [.int .i64 (y + r)] rfl rfl HCG.out ?c2 ?c3 ?c4 ?c5 ?_)
          case c2 => simp [Value.oneCell']
          case c3 => unfold maxLen; omega
          case c4 => omega
          case c5 => omega
          intro v' w2 hown2 hgrow _
          have HT9 := Lib.hid (HT5.out.at (hgrow.block B HT5.out.lt (fun e => by have := (HOW.out.lt B e.symm).1; omega)))
          have hbe : Below B w w2 := HBE5.out.grown hgrow (by omega) (fun q hq => by have := (HOW.out.lt q hq).1; omega)
          have HB2 := Lib.hid hbe
          have HO2 := Lib.hid hown2
          clear hown2 hgrow hbe
          go_wp2_with fail
          go_roundg (gk - 1)
          case measure => have := HK.out; omega
          case rel =>
            refine ⟨k + 1, by have := HK.out; omega, by go_num, ?_, HB2.out, HT9.out⟩
            have h := HO2.out
            rw [HS.out]
            unfold iv at h ⊢
            rw [List.map_append]
            simpa using h
    · obtain rfl : k = n1 := by omega
      have ho := HOWN.out
      rw [List.take_of_length_le (by have := HLN.out; omega)] at ho
      obtain ⟨A2, c2, rfl, hI⟩ := isI_of_own ho HBN.out
      have HI := Lib.hid hI
      clear ho hI hown hbel hT
      go_wp2_with fail
      go_ret
      exact ⟨_, rfl, ⟨A2, k, c2, rfl, HI.out⟩, by rw [HG.out]; exact HBEL.out⟩
end Go.Proofs.Ytlcdjabfkfmpdaa.bk
