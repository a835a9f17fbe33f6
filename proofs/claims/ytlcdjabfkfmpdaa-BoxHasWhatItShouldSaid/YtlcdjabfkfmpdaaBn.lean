/- Split. -/
import Derived.Test.YtlcdjabfkfmpdaaBf

import Derived.Test.YtlcdjabfkfmpdaaVal5

import Derived.Laws.EntriesVeiled

namespace Go.Proofs.Ytlcdjabfkfmpdaa.bq
def splS (d : Nat → Int) (s : Nat × Int) (i : Nat) : Nat × Int := if s.2 < d i then (i, d i) else s
def spl (d : Nat → Int) (l : List Nat) : Nat × Int := l.foldl (splS d) (0, 0)
theorem spl_snoc (d : Nat → Int) (l : List Nat) (i : Nat) : spl d (l ++ [i]) = splS d (spl d l) i := by simp [spl]
def side (p : Pair) (i : Nat) : Int := at' p.2 i - at' p.1 i
def splitR (p : Pair) : Int × Int × Int :=
  if bvalid p then (if (spl (side p) (List.range p.1.length)).2 = 0 then (0, 0, 4) else ((spl (side p) (List.range p.1.length)).1, (at' p.1 (spl (side p) (List.range p.1.length)).1 + at' p.2 (spl (side p) (List.range p.1.length)).1) / 2, 0)) else (0, 0, 1)
theorem spl_fold_bd (d : Nat → Int) (n : Nat) (hd : ∀ i, i < n → 0 ≤ d i ∧ d i ≤ 2000) : ∀ (l : List Nat) (s : Nat × Int), (∀ i ∈ l, i < n) → (0 ≤ s.2 ∧ s.2 ≤ 2000) → (s.1 < n ∨ s = (0, 0)) → (0 ≤ (l.foldl (splS d) s).2 ∧ (l.foldl (splS d) s).2 ≤ 2000) ∧ ((l.foldl (splS d) s).1 < n ∨ l.foldl (splS d) s = (0, 0))
  | [], s, _, h, h' => ⟨h, h'⟩
  | i :: l, s, hl, h, h' => by
    have hi := hd i (hl i (by simp))
    simp only [List.foldl_cons]
    refine spl_fold_bd d n hd l (splS d s i) (fun j hj => hl j (by simp [hj])) ?_ ?_
    · unfold splS; split <;> omega
    · unfold splS
      split
      · exact .inl (hl i (by simp))
      · exact h'
theorem spl_bd (d : Nat → Int) (n : Nat) (hd : ∀ i, i < n → 0 ≤ d i ∧ d i ≤ 2000) (l : List Nat) (hl : ∀ i ∈ l, i < n) (hn : 1 ≤ n) : 0 ≤ (spl d l).2 ∧ (spl d l).2 ≤ 2000 ∧ (spl d l).1 < n := by
  have := spl_fold_bd d n hd l (0, 0) hl (by omega) (.inr rfl)
  unfold spl
  refine ⟨this.1.1, this.1.2, ?_⟩
  rcases this.2 with h | h
  · exact h
  · rw [h]; exact hn
end Go.Proofs.Ytlcdjabfkfmpdaa.bq

namespace Go.Proofs.Ytlcdjabfkfmpdaa.bk

open Go.ChangeShapes Go.WideShapes Go.ChangeAt Go.RowKit

open Go.Proofs.Ytlcdjabfkfmpdaa.bq Go.Proofs.Ytlcdjabfkfmpdaa.vk Go.Proofs.Ytlcdjabfkfmpdaa.wk

set_option linter.unusedVariables false
attribute [local go_sem] Oper.semAt_some
theorem _root_.Go.Proofs.Ytlcdjabfkfmpdaa.wk.Exc.cell {B m : Nat} {W u : World} (h : Exc [m] B W u) {p : Addr} (hb : p.block < B) (hne : p.block ≠ m) : u.cell? p = W.cell? p := World.cell?_of_block (h.block p.block hb (by simpa using hne))
structure SplS (W : World) (G S Bx : Nat) (ax wd lo hi : Int) (u : World) : Prop where
  o1 : One u (G + 1) 3 (.int .i64 ax)
  o2 : One u S 3 (.int .i64 wd)
  tb : Two u Bx (.int .i64 lo) (.int .i64 hi)
  tu : Turn [G + 1, S] (S + 2) W u
theorem SplS.next {W : World} {G S Bx : Nat} {ax wd lo hi : Int} {u u' : World} (h : SplS W G S Bx ax wd lo hi u) (hb : Below u.heap.size u u') (hs : S + 2 ≤ u.heap.size) : SplS W G S Bx ax wd lo hi u' :=
  ⟨h.o1.below hb, h.o2.below hb, h.tb.below hb, h.tu.trans (Turn.of_below hb hs)⟩
theorem SplS.store {W : World} {G S Bx : Nat} {ax wd lo hi : Int} {u : World} (h : SplS W G S Bx ax wd lo hi u) (hS : S ≠ G + 1) (hB : Bx ≠ G + 1) {x : Int} : SplS W G S Bx x wd lo hi (u.setCell ⟨G + 1, 0, none⟩ (.int .i64 x)) :=
  ⟨h.o1.set _, h.o2.other _ hS, h.tb.at (Below.heap_setCell _ _ _ _ hB), h.tu.trans (Turn.setCell _ (by simp))⟩
theorem res_i2 {fn : Func} {p u v : Tmp} (h : fn.results = #[.cell p 3, .tmp u, .tmp v]) (tmps : Array Value) (w : World) (g : Nat) (a : Value) (hp : tmps.getD p undef = .pointer (some ⟨g, 0, none⟩)) (hg : One w g 3 a) :
    (results fn tmps).run Try.prog w = .ok (.tuple #[a, tmps.getD u undef, tmps.getD v undef]) w := by
  have hp' : tmps[p]?.getD undef = .pointer (some ⟨g, 0, none⟩) := by simpa using hp
  have hagg : (isAgg 3).run Try.prog w = .ok false w := by
    unfold isAgg
    rw [Sem.run_bind, run_underlying Try.underlying3 w]
    rfl
  simp [results, h, hp', asAddr, loadVar, hagg, hg.cell]
set_option maxRecDepth 100000 in
set_option maxHeartbeats 8000000 in
theorem split_calls (v : Value) (p : Pair) (w : World) (h : IsX w v p) :
    Calls Try.prog 27 #[v] w fun e w' => e = .returned (.tuple #[.int .i64 (splitR p).1, .int .i64 (splitR p).2.1, .int .i64 (splitR p).2.2]) ∧ Below w.heap.size w w' := by
  obtain ⟨R, hR⟩ : ∃ R, splitR p = R := ⟨_, rfl⟩
  rw [hR]
  have HR := Lib.hid hR
  clear hR
  have HV := Lib.hid (fun w' hb => valid_calls v p w' (h.below hb))
  have HX := Lib.hid h
  obtain ⟨A, n, c, A', n', c', rfl, hi, hi'⟩ := h
  have hl := hi.1
  have HI := Lib.hid hi
  have HI' := Lib.hid hi'
  have HB0 := Lib.hid (Below.andThen (below_new w (.cells #[.slice A n c, .slice A' n' c'] 25)) (below_new _ (.cells #[.int .i64 0] 3)))
  have hT := (TwoX.new w (.slice A n c) (.slice A' n' c')).below (below_new _ (.cells #[.int .i64 0] 3))
  have hO := One.new (w.alloc (.cells #[.slice A n c, .slice A' n' c'] 25)) 3 (.int .i64 0)
  rw [size_new] at hO
  clear hi hi'
  refine enter_marks Try.func27 rfl ?_
  simp only [Try.ntmps27, List.size_toArray, List.length_cons, List.length_nil, Nat.reduceAdd, Nat.reduceSub, Array.replicate_succ, Array.replicate_zero, List.push_toArray, List.append_toArray, List.nil_append, List.cons_append]
  go_wp2_with fail
  refine (HV.out _ HB0.out).mono ?_
  rintro e w1 ⟨rfl, hb⟩
  have HB1 := Lib.hid (HB0.out.trans (hb.mono HB0.out.size))
  have HT := Lib.hid (hT.below hb)
  have HO := Lib.hid (hO.below hb)
  clear hb hT hO
  have hcO := HO.out.cell
  have hfO := HO.out.frozen
  by_cases hv : bvalid p = true
  · rw [hv]
    have hp := bvalid_iff.1 hv
    have hx1 := HT.out.below (below_new w1 (.cells #[.int .i64 0] 3))
    have hc0 := hx1.two.c0
    have hc1 := hx1.two.c1
    have HP := Lib.hid hp
    have HVV := Lib.hid hv
    clear hx1 hp hv hl
    go_wp2_with fail
    refine (sides_calls _ _ _).mono ?_
    rintro e w2 ⟨rfl, rfl⟩
    go_wp2_with fail
    generalize hG : w.heap.size = G at *
    generalize hSS : w1.heap.size = S at *
    have hGS : G + 1 < S := by rw [← hSS]; exact HO.out.lt
    have hs2 : ∀ o1 o2, ((w1.alloc o1).alloc o2).heap.size = S + 2 := fun o1 o2 => by simp only [size_new, hSS]
    have hbx := below_new w1 (.cells #[.int .i64 0] 3)
    have hby := below_new (w1.alloc (.cells #[.int .i64 0] 3)) (.cells #[.slice A n c, .slice A' n' c'] 25)
    have hbz := Below.andThen hbx hby
    have hOb := (One.new w1 3 (.int .i64 0)).below hby
    have hTw := Two.new (w1.alloc (.cells #[.int .i64 0] 3)) (.slice A n c) (.slice A' n' c') 25
    rw [hSS] at hOb
    simp only [size_new, hSS] at hTw
    have hOa := HO.out.below hbz
    have HT2 := Lib.hid (HT.out.below hbz)
    have hB2 : Below G w ((w1.alloc (.cells #[.int .i64 0] 3)).alloc (.cells #[.slice A n c, .slice A' n' c'] 25)) := HB1.out.trans (hbz.mono (by omega))
    clear hbx hby hbz hc0 hc1 hcO hfO
    obtain ⟨K, hK⟩ : ∃ K : List (Nth p.1.length) → Nat × Int, K = fun pre => spl (bq.side p) (pre.map (·.1)) := ⟨_, rfl⟩
    have hsd : ∀ i, i < p.1.length → 0 ≤ bq.side p i ∧ bq.side p i ≤ 2000 := fun i hi => by
      have h1 := HP.out.le i hi
      have h2 := vec_at HP.out.lo hi
      have h3 := vec_at HP.out.hi (i := i) (by have := HP.out.len; omega)
      unfold bq.side
      omega
    have HKB : Hid (∀ pre, 0 ≤ (K pre).2 ∧ (K pre).2 ≤ 2000 ∧ (K pre).1 < p.1.length) := by
      intro pre
      rw [hK]
      exact spl_bd (bq.side p) p.1.length hsd _ (fun i hi => by obtain ⟨y, _, rfl⟩ := List.mem_map.1 hi; exact y.2) HP.out.lo.pos
    have HK0 : Hid (K [] = (0, 0)) := by show _ = _; rw [hK]; rfl
    have HKS : Hid (∀ pre x, K (pre ++ [x]) = if (K pre).2 < bq.side p x.1 then (x.1, bq.side p x.1) else K pre) := by
      intro pre x
      rw [hK]
      show spl (bq.side p) ((pre ++ [x]).map (·.1)) = _
      rw [List.map_append, List.map_singleton, spl_snoc]; rfl
    have HKE : Hid (∀ ys : List (Nth p.1.length), ys.map (·.1) = List.range p.1.length → K ys = spl (bq.side p) (List.range p.1.length)) := by
      intro ys hys
      rw [hK, ← hys]
    have HSD := Lib.hid hsd
    clear hK hsd
    refine range_sides' (some 6) 7 G (S + 1) [G + 1, S] p (.slice A n c) (.slice A' n' c') rfl ?c1 ?c2 ?c0 ?c3 ?c4 ?c5 ?c6 (fun pre W => One W (G + 1) 3 (.int .i64 ((K pre).1 : Nat)) ∧ One W S 3 (.int .i64 (K pre).2)) (fun c W => False) ?c7 ?c8 ?c9 ?rassign ?rbody ?rdone ?rstop
    case c0 => exact hTw
    case c1 => intro j hj; simp only [List.mem_cons, List.not_mem_nil, or_false] at hj; omega
    case c2 => rw [hs2]; omega
    case c3 => intro hj; simp only [List.mem_cons, List.not_mem_nil, or_false] at hj; omega
    case c4 => intro j hj; rw [hs2]; simp only [List.mem_cons, List.not_mem_nil, or_false] at hj; omega
    case c5 => have := HP.out.len; omega
    case c6 =>
      intro w' hb
      exact HX.out.below (by rw [hG]; exact hB2.trans hb)
    case c7 => exact OwnFrom.and (own_one (by rw [hs2]; omega)) (own_one (by rw [hs2]; omega))
    case c8 => intro c' s W W' row hs _ _; exact hs
    case c9 => rw [HK0.out]; exact ⟨hOa, hOb⟩
    case rassign =>
      intro l m i a b W K hK
      unfold rng at hK ⊢
      simp only [roundT, List.setIfInBounds_toArray, List.set_cons_succ, List.set_cons_zero] at hK ⊢
      gi_wp2
      exact hK
    case rbody =>
      rintro l m' pre x Bx W hBx hTB hx ⟨hO1, hO2⟩ hlen
      have HTB := Lib.hid hTB
      have HO1 := Lib.hid hO1
      have HO2 := Lib.hid hO2
      have hT0 := hTB.c0
      have hT1 := hTB.c1
      have hc2 := hO2.cell
      have hkb := HKB.out pre
      have hsd := HSD.out x.1 x.2
      have hks := HKS.out pre x
      have HXB : Hid (0 ≤ at' p.2 x.1 - at' p.1 x.1 ∧ at' p.2 x.1 - at' p.1 x.1 ≤ 2000) := hsd
      have HWB : Hid (S + 2 ≤ W.heap.size) := by have := hx.size; rw [hs2] at this; exact this
      have HSG : Hid (S ≠ G + 1) := by show _ ≠ _; omega
      have HBX : Hid (Bx ≠ G + 1) := by rw [hs2] at hBx; show _ ≠ _; omega
      unfold bq.side at hsd hks
      clear hTB hO1 hO2 hx
      simp only [roundT, List.setIfInBounds_toArray, List.set_cons_succ, List.set_cons_zero]
      by_cases hlt : (K pre).2 < at' p.2 x.1 - at' p.1 x.1
      · rw [if_pos hlt] at hks
        have HKT := Lib.hid hks
        clear hks
        gi_wp2
        refine wk.region_many_in l (by kernel_rfl) (fun ⟨_, _, h⟩ => h) 7 [.int .i64 (x.1 : Int), .pointer (some ⟨Bx, 1, none⟩), .int .i64 (at' p.2 x.1), .pointer (some ⟨Bx, 0, none⟩), .int .i64 (at' p.1 x.1), .int .i64 (at' p.2 x.1 - at' p.1 x.1), undef] [some 22, some 23, some 24, some 25, some 26, some 27, none] (fun L u => SplS W G S Bx (if L 6 then (x.1 : Int) else ((K pre).1 : Nat)) (K pre).2 (at' p.1 x.1) (at' p.2 x.1) u) (⟨HO1.out, HO2.out, HTB.out, Turn.of_below ((Below.refl _ _).drew) HWB.out⟩) rfl (by kernel_rfl) (by kernel_rfl) (by kernel_rfl) (by kernel_rfl) (by kernel_rfl) (by kernel_rfl) ?hstep ?hdone
        case hstep =>
          intro i o ho hi E L w4 hS4 hL hdeps D
          have hi2 : i = 0 ∨ i = 1 ∨ i = 2 ∨ i = 3 ∨ i = 4 ∨ i = 5 ∨ i = 6 := by omega
          clear hi
          rcases hi2 with rfl | rfl | rfl | rfl | rfl | rfl | rfl
          ·
            have ho2 := (Array.getElem?_eq_some_iff.1 ho).2
            simp only [List.getElem_toArray, List.getElem_cons_zero] at ho2
            subst ho2
            clear ho
            have e6 := D.old 6 (by kernel_rfl)
            refine wk.Does.weak (R := fun _ v => v = _) ?_ fun w' v hb hr => ⟨hr, hS4.next hb (Nat.le_trans HWB.out hS4.tu.exc.size)⟩
            exact wk.does_move rfl (by rw [e6]; rfl)
          ·
            have ho2 := (Array.getElem?_eq_some_iff.1 ho).2
            simp only [List.getElem_toArray, List.getElem_cons_succ, List.getElem_cons_zero] at ho2
            subst ho2
            clear ho
            have e7 := D.old 7 (by kernel_rfl)
            refine wk.Does.weak (R := fun _ v => v = _) ?_ fun w' v hb hr => ⟨hr, hS4.next hb (Nat.le_trans HWB.out hS4.tu.exc.size)⟩
            exact wk.does_run (by simp only [execOp]; rw [show E (.tmp 7) = .pointer (some ⟨Bx, 0, none⟩) by rw [e7]; rfl]; go_simp) rfl
          ·
            have ho2 := (Array.getElem?_eq_some_iff.1 ho).2
            simp only [List.getElem_toArray, List.getElem_cons_succ, List.getElem_cons_zero] at ho2
            subst ho2
            clear ho
            have e23 := D.is { on := 1, ground := .data } (by simp) rfl rfl 23 rfl
            refine wk.Does.weak (R := fun _ v => v = _) ?_ fun w' v hb hr => ⟨hr, hS4.next hb (Nat.le_trans HWB.out hS4.tu.exc.size)⟩
            exact wk.does_load1 rfl e23 hS4.tb.c1 Try.underlying3 rfl rfl
          ·
            have ho2 := (Array.getElem?_eq_some_iff.1 ho).2
            simp only [List.getElem_toArray, List.getElem_cons_succ, List.getElem_cons_zero] at ho2
            subst ho2
            clear ho
            have e7 := D.old 7 (by kernel_rfl)
            refine wk.Does.weak (R := fun _ v => v = _) ?_ fun w' v hb hr => ⟨hr, hS4.next hb (Nat.le_trans HWB.out hS4.tu.exc.size)⟩
            exact wk.does_run (by simp only [execOp]; rw [show E (.tmp 7) = .pointer (some ⟨Bx, 0, none⟩) by rw [e7]; rfl]; go_simp) rfl
          ·
            have ho2 := (Array.getElem?_eq_some_iff.1 ho).2
            simp only [List.getElem_toArray, List.getElem_cons_succ, List.getElem_cons_zero] at ho2
            subst ho2
            clear ho
            have e25 := D.is { on := 3, ground := .data } (by simp) rfl rfl 25 rfl
            refine wk.Does.weak (R := fun _ v => v = _) ?_ fun w' v hb hr => ⟨hr, hS4.next hb (Nat.le_trans HWB.out hS4.tu.exc.size)⟩
            exact wk.does_load1 rfl e25 hS4.tb.c0 Try.underlying3 rfl rfl
          ·
            have ho2 := (Array.getElem?_eq_some_iff.1 ho).2
            simp only [List.getElem_toArray, List.getElem_cons_succ, List.getElem_cons_zero] at ho2
            subst ho2
            clear ho
            have e24 := D.is { on := 2, ground := .data } (by simp) rfl rfl 24 rfl
            have e26 := D.is { on := 4, ground := .data } (by simp) rfl rfl 26 rfl
            refine wk.Does.weak (R := fun _ v => v = _) ?_ fun w' v hb hr => ⟨hr, hS4.next hb (Nat.le_trans HWB.out hS4.tu.exc.size)⟩
            have hw : IntKind.i64.wrap (at' p.2 x.1 - at' p.1 x.1) = at' p.2 x.1 - at' p.1 x.1 := by rw [IntKind.wrap_i64]; have := HXB.out; omega
            exact wk.does_bin rfl (by rw [e24, e26]; go_simp) rfl
          ·
            have ho2 := (Array.getElem?_eq_some_iff.1 ho).2
            simp only [List.getElem_toArray, List.getElem_cons_succ, List.getElem_cons_zero] at ho2
            subst ho2
            clear ho
            have e2 := D.old 2 (by kernel_rfl)
            have e22 := D.is { on := 0, ground := .data } (by simp) rfl rfl 22 rfl
            have hc5 := hS4.o1.cell
            have hf5 := hS4.o1.frozen
            refine wk.does_skip_t (w' := w4.setCell ⟨G + 1, 0, none⟩ (.int .i64 (x.1 : Int))) ?_ ⟨rfl, hS4.store HSG.out HBX.out⟩
            simp only [execOp]
            rw [e22, show E (.tmp 2) = .pointer (some ⟨G + 1, 0, none⟩) by rw [e2]; rfl]
            go_simp
        case hdone =>
          intro L w4 hall hS4
          simp only [List.drop_succ_cons, List.drop_zero, wk.setL, List.setIfInBounds_toArray, List.set_cons_zero, List.set_cons_succ, Nat.zero_add, Nat.reduceAdd, List.getD_cons_zero, List.getD_cons_succ]
          have h6 := hall 6 (by omega)
          rw [h6] at hS4
          simp only [if_true] at hS4
          have hc6 := hS4.o2.cell
          have hf6 := hS4.o2.frozen
          have HS5 := Lib.hid hS4
          clear hS4 h6
          go_wp2_with fail
          rw [hs2]
          refine ⟨HS5.out.tu.trans (Turn.setCell (p := ⟨S, 0, none⟩) _ (by simp)), ?_, ?_⟩
          · rw [HKT.out]; exact HS5.out.o1.other _ (Ne.symm HSG.out)
          · rw [HKT.out]; exact HS5.out.o2.set _
      · rw [if_neg hlt] at hks
        have HKT := Lib.hid hks
        clear hks
        gi_wp2
        refine ⟨Turn.refl _ _ _, ?_, ?_⟩
        · rw [HKT.out]; exact HO1.out
        · rw [HKT.out]; exact HO2.out
    case rdone =>
      rintro D ys W hD hys hx ⟨hO1, hO2⟩ hK
      rw [hs2] at hD
      have hke := HKE.out ys hys
      have hkb := HKB.out ys
      rw [hke] at hO1 hO2 hkb
      have hR := HR.out
      rw [splitR, if_pos HVV.out] at hR
      generalize spl (bq.side p) (List.range p.1.length) = s at *
      obtain ⟨s1, s2⟩ := s
      simp only at hO1 hO2 hkb hR
      have hbW : Below G w W := hB2.trans (hx.below (by rw [hs2]; omega) (by intro j hj; simp only [List.mem_cons, List.not_mem_nil, or_false] at hj; omega))
      have hc2 := hO2.cell
      have hc3 := hO1.cell
      have hf3 := hO1.frozen
      have hTW : TwoX W G (.slice A n c) (.slice A' n' c') := (hx.block G (by rw [hs2]; omega) (by simp only [List.mem_cons, List.not_mem_nil, or_false]; omega)).trans HT2.out
      have hc0 := hTW.two.c0
      have hc1 := hTW.two.c1
      have hlen := HP.out.len
      rw [HI.out.1] at hkb
      rw [HI.out.1, HI'.out.1] at hlen
      obtain ⟨b, o, rfl, hcl0, hbl⟩ := isI_get HI.out hkb.2.2
      obtain ⟨b', o', rfl, hch0, hbh⟩ := isI_get HI'.out (show s1 < n' by omega)
      rw [hG] at hbl hbh
      have hcl := (hbW.cell (p := ⟨b, o + s1, none⟩) hbl).trans hcl0
      have hch := (hbW.cell (p := ⟨b', o' + s1, none⟩) hbh).trans hch0
      have hne1 : b ≠ G + 1 := by omega
      have hne2 : b' ≠ G + 1 := by omega
      have hne3 : G ≠ G + 1 := by omega
      clear hcl0 hch0
      have hlo := vec_at HP.out.lo (i := s1) (by rw [HI.out.1]; exact hkb.2.2)
      have hhi := vec_at HP.out.hi (i := s1) (by rw [HI'.out.1]; omega)
      have hm := HI.out.2.2.1
      have hm' := HI'.out.2.2.1
      have hnc := HI.out.2.1
      have hnc' := HI'.out.2.1
      have hk1 : (s1 : Int) < (n : Int) := by omega
      have hk2 : (s1 : Int) < (n' : Int) := by omega
      have HBW := Lib.hid hbW
      have HO1 := Lib.hid hO1
      have HKK := Lib.hid hK
      have HDN := Lib.hid hD
      generalize at' p.1 s1 = lo at *
      generalize at' p.2 s1 = hi at *
      have hTW' : W.heap[G]? = _ := hTW
      clear hbW hO1 hO2 hTW hke hys hx hK
      by_cases h0 : s2 = 0
      · rw [if_pos h0] at hR
        have HRR := Lib.hid hR.symm
        clear hR
        go_wp2_with fail
        rw [HRR.out]
        refine leave_mark ?_ (res_i2 (fn := Try.f27) rfl _ _ (G + 1) _ rfl ((HO1.out.set _).put (by have := HDN.out; omega))) ⟨rfl, ?_⟩
        · exact (Below.heap_setCell _ _ _ _ (by have := HDN.out; show D ≠ G + 1; omega)).trans HKK.out
        · rw [hG]; exact below_mark (HBW.out.setCell (p := ⟨G + 1, 0, none⟩) (by show G ≤ G + 1; omega) _) (by have := HDN.out; omega)
      · rw [if_neg h0] at hR
        have HRR := Lib.hid hR.symm
        clear hR
        have hGW : G < W.heap.size := (Array.getElem?_eq_some_iff.1 hTW').1
        have hbW1 : b < W.heap.size := by omega
        have hbW2 : b' < W.heap.size := by omega
        clear hTW'
        go_wp2_with fail
        refine wk.region_many 14 [.int .i64 (s1 : Int), .pointer (some ⟨G, 0, none⟩), .slice (some ⟨b, o, none⟩) n c, .int .i64 (s1 : Int), .pointer (some ⟨b, o + s1, none⟩), .int .i64 lo, .pointer (some ⟨G, 1, none⟩), .slice (some ⟨b', o', none⟩) n' c', .int .i64 (s1 : Int), .pointer (some ⟨b', o' + s1, none⟩), .int .i64 hi, .int .i64 (lo + hi), .int .i64 ((lo + hi) / 2), undef] [some 30, some 31, some 32, some 33, some 34, some 35, some 36, some 37, some 38, some 39, some 40, some 41, some 42, none] (fun L u => One u (G + 1) 3 (.int .i64 (s1 : Int)) ∧ Exc [G + 1] W.heap.size W u) (⟨HO1.out, Exc.of_below (Below.refl _ _).drew⟩) rfl (by kernel_rfl) (by kernel_rfl) (by kernel_rfl) (by kernel_rfl) (by kernel_rfl) (by kernel_rfl) ?hstep ?hdone
        case hstep =>
          intro i o ho hi E L w4 hS4 hL hdeps D
          have hi2 : i = 0 ∨ i = 1 ∨ i = 2 ∨ i = 3 ∨ i = 4 ∨ i = 5 ∨ i = 6 ∨ i = 7 ∨ i = 8 ∨ i = 9 ∨ i = 10 ∨ i = 11 ∨ i = 12 ∨ i = 13 := by omega
          clear hi
          rcases hi2 with rfl | rfl | rfl | rfl | rfl | rfl | rfl | rfl | rfl | rfl | rfl | rfl | rfl | rfl
          ·
            have ho2 := (Array.getElem?_eq_some_iff.1 ho).2
            simp only [List.getElem_toArray, List.getElem_cons_zero] at ho2
            subst ho2
            clear ho
            have e2 := D.old 2 (by kernel_rfl)
            refine wk.Does.weak (R := fun _ v => v = _) ?_ fun w' v hb hr => ⟨hr, ⟨hS4.1.below hb, hS4.2.trans (Exc.of_below (hb.mono hS4.2.size))⟩⟩
            have hc5 := hS4.1.cell
            exact wk.does_load1 rfl (by rw [e2]; rfl) hc5 Try.underlying3 rfl rfl
          ·
            have ho2 := (Array.getElem?_eq_some_iff.1 ho).2
            simp only [List.getElem_toArray, List.getElem_cons_succ, List.getElem_cons_zero] at ho2
            subst ho2
            clear ho
            have e1 := D.old 1 (by kernel_rfl)
            refine wk.Does.weak (R := fun _ v => v = _) ?_ fun w' v hb hr => ⟨hr, ⟨hS4.1.below hb, hS4.2.trans (Exc.of_below (hb.mono hS4.2.size))⟩⟩
            exact wk.does_run (by simp only [execOp]; rw [show E (.tmp 1) = .pointer (some ⟨G, 0, none⟩) by rw [e1]; rfl]; go_simp) rfl
          ·
            have ho2 := (Array.getElem?_eq_some_iff.1 ho).2
            simp only [List.getElem_toArray, List.getElem_cons_succ, List.getElem_cons_zero] at ho2
            subst ho2
            clear ho
            have e31 := D.is { on := 1, ground := .data } (by simp) rfl rfl 31 rfl
            refine wk.Does.weak (R := fun _ v => v = _) ?_ fun w' v hb hr => ⟨hr, ⟨hS4.1.below hb, hS4.2.trans (Exc.of_below (hb.mono hS4.2.size))⟩⟩
            exact wk.does_load1 rfl e31 ((hS4.2.cell hGW hne3).trans hc0) Try.underlying23 rfl rfl
          ·
            have ho2 := (Array.getElem?_eq_some_iff.1 ho).2
            simp only [List.getElem_toArray, List.getElem_cons_succ, List.getElem_cons_zero] at ho2
            subst ho2
            clear ho
            have e2 := D.old 2 (by kernel_rfl)
            refine wk.Does.weak (R := fun _ v => v = _) ?_ fun w' v hb hr => ⟨hr, ⟨hS4.1.below hb, hS4.2.trans (Exc.of_below (hb.mono hS4.2.size))⟩⟩
            have hc5 := hS4.1.cell
            exact wk.does_load1 rfl (by rw [e2]; rfl) hc5 Try.underlying3 rfl rfl
          ·
            have ho2 := (Array.getElem?_eq_some_iff.1 ho).2
            simp only [List.getElem_toArray, List.getElem_cons_succ, List.getElem_cons_zero] at ho2
            subst ho2
            clear ho
            have e32 := D.is { on := 2, ground := .data } (by simp) rfl rfl 32 rfl
            have e33 := D.is { on := 3, ground := .data } (by simp) rfl rfl 33 rfl
            refine wk.Does.weak (R := fun _ v => v = _) ?_ fun w' v hb hr => ⟨hr, ⟨hS4.1.below hb, hS4.2.trans (Exc.of_below (hb.mono hS4.2.size))⟩⟩
            exact wk.does_run (by simp only [execOp]; rw [e32, e33]; go_simp) rfl
          ·
            have ho2 := (Array.getElem?_eq_some_iff.1 ho).2
            simp only [List.getElem_toArray, List.getElem_cons_succ, List.getElem_cons_zero] at ho2
            subst ho2
            clear ho
            have e34 := D.is { on := 4, ground := .data } (by simp) rfl rfl 34 rfl
            refine wk.Does.weak (R := fun _ v => v = _) ?_ fun w' v hb hr => ⟨hr, ⟨hS4.1.below hb, hS4.2.trans (Exc.of_below (hb.mono hS4.2.size))⟩⟩
            exact wk.does_load1 rfl e34 ((hS4.2.cell hbW1 hne1).trans hcl) Try.underlying3 rfl rfl
          ·
            have ho2 := (Array.getElem?_eq_some_iff.1 ho).2
            simp only [List.getElem_toArray, List.getElem_cons_succ, List.getElem_cons_zero] at ho2
            subst ho2
            clear ho
            have e1 := D.old 1 (by kernel_rfl)
            refine wk.Does.weak (R := fun _ v => v = _) ?_ fun w' v hb hr => ⟨hr, ⟨hS4.1.below hb, hS4.2.trans (Exc.of_below (hb.mono hS4.2.size))⟩⟩
            exact wk.does_run (by simp only [execOp]; rw [show E (.tmp 1) = .pointer (some ⟨G, 0, none⟩) by rw [e1]; rfl]; go_simp) rfl
          ·
            have ho2 := (Array.getElem?_eq_some_iff.1 ho).2
            simp only [List.getElem_toArray, List.getElem_cons_succ, List.getElem_cons_zero] at ho2
            subst ho2
            clear ho
            have e36 := D.is { on := 6, ground := .data } (by simp) rfl rfl 36 rfl
            refine wk.Does.weak (R := fun _ v => v = _) ?_ fun w' v hb hr => ⟨hr, ⟨hS4.1.below hb, hS4.2.trans (Exc.of_below (hb.mono hS4.2.size))⟩⟩
            exact wk.does_load1 rfl e36 ((hS4.2.cell hGW hne3).trans hc1) Try.underlying23 rfl rfl
          ·
            have ho2 := (Array.getElem?_eq_some_iff.1 ho).2
            simp only [List.getElem_toArray, List.getElem_cons_succ, List.getElem_cons_zero] at ho2
            subst ho2
            clear ho
            have e2 := D.old 2 (by kernel_rfl)
            refine wk.Does.weak (R := fun _ v => v = _) ?_ fun w' v hb hr => ⟨hr, ⟨hS4.1.below hb, hS4.2.trans (Exc.of_below (hb.mono hS4.2.size))⟩⟩
            have hc5 := hS4.1.cell
            exact wk.does_load1 rfl (by rw [e2]; rfl) hc5 Try.underlying3 rfl rfl
          ·
            have ho2 := (Array.getElem?_eq_some_iff.1 ho).2
            simp only [List.getElem_toArray, List.getElem_cons_succ, List.getElem_cons_zero] at ho2
            subst ho2
            clear ho
            have e37 := D.is { on := 7, ground := .data } (by simp) rfl rfl 37 rfl
            have e38 := D.is { on := 8, ground := .data } (by simp) rfl rfl 38 rfl
            refine wk.Does.weak (R := fun _ v => v = _) ?_ fun w' v hb hr => ⟨hr, ⟨hS4.1.below hb, hS4.2.trans (Exc.of_below (hb.mono hS4.2.size))⟩⟩
            exact wk.does_run (by simp only [execOp]; rw [e37, e38]; go_simp) rfl
          ·
            have ho2 := (Array.getElem?_eq_some_iff.1 ho).2
            simp only [List.getElem_toArray, List.getElem_cons_succ, List.getElem_cons_zero] at ho2
            subst ho2
            clear ho
            have e39 := D.is { on := 9, ground := .data } (by simp) rfl rfl 39 rfl
            refine wk.Does.weak (R := fun _ v => v = _) ?_ fun w' v hb hr => ⟨hr, ⟨hS4.1.below hb, hS4.2.trans (Exc.of_below (hb.mono hS4.2.size))⟩⟩
            exact wk.does_load1 rfl e39 ((hS4.2.cell hbW2 hne2).trans hch) Try.underlying3 rfl rfl
          ·
            have ho2 := (Array.getElem?_eq_some_iff.1 ho).2
            simp only [List.getElem_toArray, List.getElem_cons_succ, List.getElem_cons_zero] at ho2
            subst ho2
            clear ho
            have e35 := D.is { on := 5, ground := .data } (by simp) rfl rfl 35 rfl
            have e40 := D.is { on := 10, ground := .data } (by simp) rfl rfl 40 rfl
            refine wk.Does.weak (R := fun _ v => v = _) ?_ fun w' v hb hr => ⟨hr, ⟨hS4.1.below hb, hS4.2.trans (Exc.of_below (hb.mono hS4.2.size))⟩⟩
            have hw : IntKind.i64.wrap (lo + hi) = lo + hi := by rw [IntKind.wrap_i64]; omega
            exact wk.does_bin rfl (by rw [e35, e40]; go_simp) rfl
          ·
            have ho2 := (Array.getElem?_eq_some_iff.1 ho).2
            simp only [List.getElem_toArray, List.getElem_cons_succ, List.getElem_cons_zero] at ho2
            subst ho2
            clear ho
            have e41 := D.is { on := 11, ground := .data } (by simp) rfl rfl 41 rfl
            refine wk.Does.weak (R := fun _ v => v = _) ?_ fun w' v hb hr => ⟨hr, ⟨hS4.1.below hb, hS4.2.trans (Exc.of_below (hb.mono hS4.2.size))⟩⟩
            exact wk.does_bin rfl (by rw [e41, D.con]; go_simp) rfl
          ·
            have ho2 := (Array.getElem?_eq_some_iff.1 ho).2
            simp only [List.getElem_toArray, List.getElem_cons_succ, List.getElem_cons_zero] at ho2
            subst ho2
            clear ho
            have e2 := D.old 2 (by kernel_rfl)
            have e30 := D.is { on := 0, ground := .data } (by simp) rfl rfl 30 rfl
            have hc5 := hS4.1.cell
            have hf5 := hS4.1.frozen
            refine wk.does_skip_t (w' := w4.setCell ⟨G + 1, 0, none⟩ (.int .i64 (s1 : Int))) ?_ ⟨rfl, hS4.1.set _, hS4.2.trans (Exc.setCell _ (.inl (by simp)))⟩
            simp only [execOp]
            rw [e30, show E (.tmp 2) = .pointer (some ⟨G + 1, 0, none⟩) by rw [e2]; rfl]
            go_simp
        case hdone =>
          intro L w4 hall hS4
          simp only [List.drop_succ_cons, List.drop_zero, wk.setL, List.setIfInBounds_toArray, List.set_cons_zero, List.set_cons_succ, Nat.zero_add, Nat.reduceAdd, List.getD_cons_zero, List.getD_cons_succ]
          have hK4 := (hS4.2.block D (by have := (Array.getElem?_eq_some_iff.1 HKK.out).1; omega) (by have := HDN.out; simp only [List.mem_singleton]; omega)).trans HKK.out
          have HO4 := Lib.hid hS4.1
          have HB4 := Lib.hid (HBW.out.trans (hS4.2.below (n := G) (by omega) (by intro j hj; rw [List.mem_singleton] at hj; omega)))
          clear hS4 hall
          go_wp2_with fail
          rw [HRR.out]
          refine leave_mark hK4 (res_i2 (fn := Try.f27) rfl _ _ (G + 1) _ rfl (HO4.out.put (by have := HDN.out; omega))) ⟨rfl, ?_⟩
          rw [hG]; exact below_mark HB4.out (by have := HDN.out; omega)
    case rstop =>
      rintro D c W hD hx hF hK
      exact hF.elim
  · have hv' : bvalid p = false := by simpa using hv
    rw [hv']
    have hr : R = (0, 0, 1) := by rw [← HR.out, splitR, if_neg hv]
    have HRR := Lib.hid hr
    go_wp2_with fail
    rw [HRR.out]
    exact leave_bare (res_i2 (fn := Try.f27) rfl _ _ (w.heap.size + 1) _ rfl (HO.out.set _)) ⟨rfl, HB1.out.setCell (p := ⟨w.heap.size + 1, 0, none⟩) (by show w.heap.size ≤ w.heap.size + 1; omega) _⟩
end Go.Proofs.Ytlcdjabfkfmpdaa.bk
