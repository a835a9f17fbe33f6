/- Joined: Mk Ml Mm Mn Mo. -/
import Derived.Test.YtmjmkkdmphgdnaaDoorG9
/- CheckConsistency. -/
namespace Go.Proofs.YtmjmkkdmphgdnaaDoor.mk

open Go.ChangeShapes Go.WideShapes Go.ChangeAt Go.RowKit

set_option linter.unusedVariables false
/-- the middle of a check: its closure, the path, and rows of digests -/
structure ES (B pr pn : Nat) (fv : Value) (ft : TypeId) (Gs : List (Nat × List Value)) (wS : World) (s : St) (w : World) : Prop where
  rf : w.heap[pr]? = some (.cells #[fv] ft (0, 0))
  nb : w.heap[pn]? = some (.cells #[nextV B] 71 (0, 0))
  n3 : pr ≠ B
  n4 : pr ≠ B + 2
  n5 : pn ≠ B
  n6 : pn ≠ B + 2
  nx : Nx B w s.1 s.2
  tab : Tab w
  rows : ∀ p ∈ Gs, w.heap[p.1]? = some (.cells p.2.toArray 31 (0, 0))
  ne : ∀ p ∈ Gs, p.1 ≠ B ∧ p.1 ≠ B + 2
  keep : Keep B wS w
section

variable {B pr pn : Nat} {fv : Value} {ft : TypeId} {Gs : List (Nat × List Value)} {wS : World} {s s' : St} {w w' : World}
theorem ES.turn (h : ES B pr pn fv ft Gs wS s w) (hB1 : 1 < B) (hk : Keep B w w') (hn : Nx B w' s'.1 s'.2) : ES B pr pn fv ft Gs wS s' w' :=
  ⟨hk.row h.rf h.n3 h.n4, hk.row h.nb h.n5 h.n6, h.n3, h.n4, h.n5, h.n6, hn, h.tab.keep hB1 hk (by have := h.nx.lt; omega), fun p hp => hk.row (h.rows p hp) (h.ne p hp).1 (h.ne p hp).2, h.ne, h.keep.trans hk⟩
theorem ES.next (h : ES B pr pn fv ft Gs wS s w) (hB1 : 1 < B) (hb : Below w.heap.size w w') : ES B pr pn fv ft Gs wS s w' := h.turn hB1 (Keep.of hb) (h.nx.next hb)
theorem ES.start (h : ES B pr pn fv ft Gs wS s w) : ES B pr pn fv ft Gs w s w := ⟨h.rf, h.nb, h.n3, h.n4, h.n5, h.n6, h.nx, h.tab, h.rows, h.ne, Keep.refl _ _⟩
theorem ES.from (h : ES B pr pn fv ft Gs wS s w) {w0 : World} (hk : Keep B w0 wS) : ES B pr pn fv ft Gs w0 s w := ⟨h.rf, h.nb, h.n3, h.n4, h.n5, h.n6, h.nx, h.tab, h.rows, h.ne, hk.trans h.keep⟩
/-- a new row -/
theorem ES.row (h : ES B pr pn fv ft Gs wS s w) {g : Nat} {cs : List Value} (hg : w.heap[g]? = some (.cells cs.toArray 31 (0, 0))) (h2 : B + 2 < g) : ES B pr pn fv ft ((g, cs) :: Gs) wS s w :=
  ⟨h.rf, h.nb, h.n3, h.n4, h.n5, h.n6, h.nx, h.tab, fun p hp => by
    rcases List.mem_cons.1 hp with rfl | hp
    · exact hg
    · exact h.rows p hp, fun p hp => by
    rcases List.mem_cons.1 hp with rfl | hp
    · show g ≠ B ∧ g ≠ B + 2
      omega
    · exact h.ne p hp, h.keep⟩
/-- a row laid anew -/
theorem ES.set (h : ES B pr pn fv ft Gs wS s w) {g : Nat} {old : Array Value} (hg : w.heap[g]? = some (.cells old 31 (0, 0))) (h2 : B + 2 < g) (hw : wS.heap.size ≤ g) (hpr : pr ≠ g) (hpn : pn ≠ g) (cs : List Value) {Gs' : List (Nat × List Value)}
    (hGs : ∀ p ∈ Gs', (p = (g, cs)) ∨ (p ∈ Gs ∧ p.1 ≠ g)) (hB1 : 1 < B) : ES B pr pn fv ft Gs' wS s (w.setRow g cs.toArray) :=
  ⟨by rw [heap_setRow_ne (fun e => hpr e.symm)]; exact h.rf, by rw [heap_setRow_ne (fun e => hpn e.symm)]; exact h.nb, h.n3, h.n4, h.n5, h.n6, h.nx.set h2 _, h.tab.below (B := B) hB1 (wk.below_setRow (Below.refl _ _) (by omega) _), fun p hp => by
    rcases hGs p hp with rfl | ⟨h1, h3⟩
    · exact setRow_heap _ _ _ _ _ _ hg
    · rw [heap_setRow_ne (fun e => h3 e.symm)]; exact h.rows p h1, fun p hp => by
    rcases hGs p hp with rfl | ⟨h1, h3⟩
    · show g ≠ B ∧ g ≠ B + 2
      omega
    · exact h.ne p h1, h.keep.setNew hw _⟩
end
def zc : List Value := wp.bc z16l
theorem results_cells2 {fn : Func} {p q : Tmp} (h : fn.results = #[.cell p 31, .cell q 31]) (tmps : Array Value) (w : World) (g g2 : Nat) (a b : D)
    (hp : tmps.getD p undef = .pointer (some ⟨g, 0, none⟩)) (hq : tmps.getD q undef = .pointer (some ⟨g2, 0, none⟩)) (hg : w.heap[g]? = some (.cells (wp.bc a).toArray 31 (0, 0))) (hg2 : w.heap[g2]? = some (.cells (wp.bc b).toArray 31 (0, 0))) (ha : a.length = 16) (hb : b.length = 16) :
    (results fn tmps).run Tryd.prog w = .ok (.tuple #[dv a, dv b]) w := by
  have hp' : tmps[p]?.getD undef = .pointer (some ⟨g, 0, none⟩) := by simpa using hp
  have hq' : tmps[q]?.getD undef = .pointer (some ⟨g2, 0, none⟩) := by simpa using hq
  simp [results, h, hp', hq', asAddr, dv, run_loadVar_row w g _ _ (wp.bc a).toArray (0, 0) _ hg Tryd.underlying31 rfl (dv_sizeA ha), run_loadVar_row w g2 _ _ (wp.bc b).toArray (0, 0) _ hg2 Tryd.underlying31 rfl (dv_sizeA hb)]
/-- the two roots that a path leads to -/
noncomputable def kc (old : D) : Nat → Nat → Nat → Bool → St → (D × D) × St
  | 0, _, _, _, s => ((old, old), s)
  | f + 1, n, m, mark, s => if m = n ∨ n ≤ 1 then (if mark then ((old, old), s) else ((hdS s, hdS s), nxS s))
    else if m ≤ split n then (((kc old f (split n) m mark s).1.1, nodeD (kc old f (split n) m mark s).1.2 (hdS (kc old f (split n) m mark s).2)), nxS (kc old f (split n) m mark s).2)
    else ((nodeD (hdS (kc old f (n - split n) (m - split n) false s).2) (kc old f (n - split n) (m - split n) false s).1.1, nodeD (hdS (kc old f (n - split n) (m - split n) false s).2) (kc old f (n - split n) (m - split n) false s).1.2), nxS (kc old f (n - split n) (m - split n) false s).2)
theorem kc_fuel (old : D) : ∀ (f g n m : Nat) (mark : Bool) (s : St), 1 ≤ n → n ≤ f → n ≤ g → kc old f n m mark s = kc old g n m mark s
  | 0, _, _, _, _, _, h, h1, _ => by omega
  | _ + 1, 0, _, _, _, _, h, _, h1 => by omega
  | f + 1, g + 1, n, m, mark, s, h, h1, h2 => by
    rw [kc, kc]
    split
    · rfl
    · rename_i hmn
      have hl := split_lt (n := n) (by omega)
      have hp := split_pos n
      rw [kc_fuel old f g (split n) m mark s (by omega) (by omega) (by omega), kc_fuel old f g (n - split n) (m - split n) false s (by omega) (by omega) (by omega)]
noncomputable def kcD (old : D) (n m : Nat) (mark : Bool) (s : St) : (D × D) × St := kc old n n m mark s
theorem kcD_all (old : D) {n : Nat} (mark : Bool) (s : St) (h1 : 1 ≤ n) : kcD old n n mark s = if mark then ((old, old), s) else ((hdS s, hdS s), nxS s) := by
  unfold kcD
  obtain ⟨k, rfl⟩ : ∃ k, n = k + 1 := ⟨n - 1, by omega⟩
  rw [kc, if_pos (Or.inl rfl)]
theorem kcD_two (old : D) {n m : Nat} (mark : Bool) (s : St) (h : m < n) (h1 : 1 ≤ m) : kcD old n m mark s = if m ≤ split n then (((kcD old (split n) m mark s).1.1, nodeD (kcD old (split n) m mark s).1.2 (hdS (kcD old (split n) m mark s).2)), nxS (kcD old (split n) m mark s).2)
    else ((nodeD (hdS (kcD old (n - split n) (m - split n) false s).2) (kcD old (n - split n) (m - split n) false s).1.1, nodeD (hdS (kcD old (n - split n) (m - split n) false s).2) (kcD old (n - split n) (m - split n) false s).1.2), nxS (kcD old (n - split n) (m - split n) false s).2) := by
  have hl := split_lt (n := n) (by omega)
  have hp := split_pos n
  unfold kcD
  obtain ⟨k, hk⟩ : ∃ k, n = k + 1 := ⟨n - 1, by omega⟩
  conv => lhs; arg 2; rw [hk]
  rw [kc, if_neg (by omega), kc_fuel old k _ (split n) _ _ _ (by omega) (by omega) (Nat.le_refl _), kc_fuel old k _ (n - split n) _ _ _ (by omega) (by omega) (Nat.le_refl _)]
theorem Nx.dl {w : World} {B : Nat} {l : List D} {s : Bool} (h : Nx B w l s) : ∀ d ∈ l, d.length = 16 := by
  obtain ⟨A, n, c, _, hl⟩ := h.path
  exact hl.is.dl
theorem hd_16 {s : St} (h : ∀ d ∈ s.1, d.length = 16) : (hdS s).length = 16 := by
  unfold hdS
  cases hs : s.1 with
  | nil => rfl
  | cons x r => exact h x (by rw [hs]; simp)
theorem kc_16 {old : D} (ho : old.length = 16) : ∀ (f n m : Nat) (mark : Bool) (s : St), (∀ d ∈ s.1, d.length = 16) → (kc old f n m mark s).1.1.length = 16 ∧ (kc old f n m mark s).1.2.length = 16 ∧ ∀ d ∈ (kc old f n m mark s).2.1, d.length = 16
  | 0, _, _, _, s, h => ⟨ho, ho, h⟩
  | f + 1, n, m, mark, s, h => by
    rw [kc]
    split
    · cases mark
      · exact ⟨hd_16 h, hd_16 h, fun d hd => h d (List.mem_of_mem_tail hd)⟩
      · exact ⟨ho, ho, h⟩
    · split
      · have := kc_16 ho f (split n) m mark s h
        exact ⟨this.1, dig_length _ _, fun d hd => this.2.2 d (List.mem_of_mem_tail hd)⟩
      · have := kc_16 ho f (n - split n) (m - split n) false s h
        exact ⟨dig_length _ _, dig_length _ _, fun d hd => this.2.2 d (List.mem_of_mem_tail hd)⟩
theorem ES.sub {B pr pn : Nat} {fv : Value} {ft : TypeId} {Gs Gs' : List (Nat × List Value)} {wS w : World} {s : St} (h : ES B pr pn fv ft Gs wS s w) (hs : ∀ p ∈ Gs', p ∈ Gs) : ES B pr pn fv ft Gs' wS s w :=
  ⟨h.rf, h.nb, h.n3, h.n4, h.n5, h.n6, h.nx, h.tab, fun p hp => h.rows p (hs p hp), fun p hp => h.ne p (hs p hp), h.keep⟩
theorem ES.setHead {B pr pn g : Nat} {fv : Value} {ft : TypeId} {o : List Value} {F : List (Nat × List Value)} {wS w : World} {s : St} (h : ES B pr pn fv ft ((g, o) :: F) wS s w) (hB1 : 1 < B) (h2 : B + 2 < g) (hw : wS.heap.size ≤ g) (hpr : pr ≠ g) (hpn : pn ≠ g) (hne : ∀ p ∈ F, p.1 ≠ g) (cs : List Value) : ES B pr pn fv ft ((g, cs) :: F) wS s (w.setRow g cs.toArray) :=
  h.set (h.rows (g, o) List.mem_cons_self) h2 hw hpr hpn cs (fun p hp => by
    rcases List.mem_cons.1 hp with rfl | hp
    · exact Or.inl rfl
    · exact Or.inr ⟨List.mem_cons_of_mem _ hp, hne p hp⟩) hB1
def rootsF (po pr pn : Nat) : Value := .func (.func 58) #[] #[.pointer (some ⟨po, 0, none⟩), .pointer (some ⟨pn, 0, none⟩), .pointer (some ⟨pr, 0, none⟩)]
theorem zc_len : zc.length = 16 := rfl
theorem bc_len {d : D} (h : d.length = 16) : (wp.bc d).length = 16 := by rw [wp.bc_length]; exact h
set_option maxRecDepth 100000 in
set_option maxHeartbeats 4000000 in
theorem kc_all_true (B po pr pn : Nat) (hB1 : 1 < B) (old : D) (hold : old.length = 16) (n : Nat) (s : St) (w : World) (h1 : 1 ≤ n) (hS : ES B pr pn (rootsF po pr pn) 90 [(po, wp.bc old)] w s w) :
    Calls Tryd.prog 58 #[.int .i64 n, .int .i64 n, .bool true, .pointer (some ⟨po, 0, none⟩), .pointer (some ⟨pn, 0, none⟩), .pointer (some ⟨pr, 0, none⟩)] w fun e w' => e = .returned (.tuple #[dv (kcD old n n true s).1.1, dv (kcD old n n true s).1.2]) ∧ Nx B w' (kcD old n n true s).2.1 (kcD old n n true s).2.2 ∧ Keep B w w' := by
    have HE := Lib.hid (kcD_all old true s h1)
    have HS := Lib.hid hS
    clear hS
    go_enter Tryd.func58, Tryd.ntmps58
    go_upto_region 1 with fail
    change Code.wp _ _ _ _ ((w.alloc (.cells hi.z16 31)).alloc (.cells hi.z16 31))
    have q0 : (w.alloc (.cells hi.z16 31)).heap[w.heap.size]? = some (.cells zc.toArray 31 (0, 0)) := zrow w
    have hb1 := zbelow w
    have s1 : (w.alloc (.cells hi.z16 31)).heap.size = w.heap.size + 1 := Array.size_push ..
    generalize w.alloc (.cells hi.z16 31) = w1 at *
    have q1 : (w1.alloc (.cells hi.z16 31)).heap[w1.heap.size]? = some (.cells zc.toArray 31 (0, 0)) := zrow w1
    have hb2 := zbelow w1
    have s2 : (w1.alloc (.cells hi.z16 31)).heap.size = w1.heap.size + 1 := Array.size_push ..
    rw [s1] at q1
    generalize w1.alloc (.cells hi.z16 31) = w2 at *
    have hlt := HS.out.nx.lt
    have hltr : pr < w.heap.size := wk.row_lt HS.out.rf
    have hltn : pn < w.heap.size := wk.row_lt HS.out.nb
    have hlto : po < w.heap.size := wk.row_lt (HS.out.rows (po, wp.bc old) (by simp))
    have HS2 : Hid (ES B pr pn (rootsF po pr pn) 90 [(w.heap.size, zc), (w.heap.size + 1, zc), (po, wp.bc old)] w s w2) :=
      (((HS.out.next hB1 hb1).next hB1 hb2).row q1 (by omega)).row (wk.row_below q0 hb2) (by omega)
    have HSZ : Hid (w2.heap.size = w.heap.size + 1 + 1) := by show _ = _; omega
    generalize hGG : w.heap.size = G at *
    have HGG := Lib.hid hGG
    have HLT : Hid (pr < G ∧ pn < G ∧ po < G) := ⟨hltr, hltn, hlto⟩
    clear q0 q1 hb1 hb2 s1 s2 hGG hltr hltn HS
    have hqo := HS2.out.rows (po, wp.bc old) (by simp)
    have hz := dv_size hold
    have hz2 := dv_sizeA hold
    have hz3 : hi.z16.size = (wp.bc old).length := by rw [bc_len hold]; rfl
    have ho := wk.ones_bc old
    unfold hi.z16 at hz3
    go_upto_region 5 with (first | (refine wpList_load_row rfl 31 (.tmp 3) rfl po rfl 31 (wp.bc old).toArray (0, 0) _ hqo Tryd.underlying31 rfl hz2 ?_) | (refine wk.store_new rfl 31 (.tmp 11) (.tmp 21) rfl 31 _ (wp.bc old) rfl rfl hz hz3 ho ?_))
    have q11 : (w2.alloc (.cells (wp.bc old).toArray 31)).heap[w2.heap.size]? = some (.cells (wp.bc old).toArray 31 (0, 0)) := heap_alloc_new _ _
    have hb3 : Below w2.heap.size w2 (w2.alloc (.cells (wp.bc old).toArray 31)) := (Below.refl _ _).alloc (Nat.le_refl _) _
    have HS3 := Lib.hid (((HS2.out.next hB1 hb3).row q11 (by have := HSZ.out; omega)).sub (Gs' := [(G, zc), (G + 1, zc), (w2.heap.size, wp.bc old), (po, wp.bc old)]) (by simp))
    generalize w2.alloc (.cells (wp.bc old).toArray 31) = w3 at *
    obtain ⟨G11, hG11⟩ : ∃ g, g = w2.heap.size := ⟨_, rfl⟩
    rw [← hG11] at HS3 HSZ ⊢
    have HG11 : Hid (G11 = G + 1 + 1) := HSZ.out
    clear hqo hz hz2 hz3 ho q11 hb3 hG11 HS2
    refine wk.region_many 3 [dv (old), dv (old), undef] [some 26, some 27, none] (fun L u => ES B pr pn (rootsF po pr pn) 90 [(G, if L 2 then wp.bc (old) else zc), (G + 1, zc), (G11, wp.bc (old)), (po, wp.bc old)] w s u) (by show ES _ _ _ _ _ _ _ _ _; exact HS3.out.next hB1 (Below.refl _ _).drew) rfl (by kernel_rfl) (by kernel_rfl) (by kernel_rfl) (by kernel_rfl) (by kernel_rfl) (by kernel_rfl) ?hstep ?hdone
    case hstep =>
      intro i o ho hi E L w4 hS4 hL hdeps D
      have hi2 : i = 0 ∨ i = 1 ∨ i = 2 := by omega
      clear hi
      rcases hi2 with rfl | rfl | rfl
      ·
        have ho2 := (Array.getElem?_eq_some_iff.1 ho).2
        simp only [List.getElem_toArray, List.getElem_cons_zero] at ho2
        subst ho2
        clear ho
        have e11 := D.old 11 (by kernel_rfl)
        refine wk.Does.weak (R := fun _ v => v = _) ?_ fun w' v hb hr => ⟨hr, hS4.next hB1 hb⟩
        exact wk.does_load_row rfl (by rw [e11]; rfl) (hS4.rows (G11, wp.bc (old)) (by simp)) Tryd.underlying31 rfl (dv_sizeA hold) rfl
      ·
        have ho2 := (Array.getElem?_eq_some_iff.1 ho).2
        simp only [List.getElem_toArray, List.getElem_cons_succ, List.getElem_cons_zero] at ho2
        subst ho2
        clear ho
        have e11 := D.old 11 (by kernel_rfl)
        refine wk.Does.weak (R := fun _ v => v = _) ?_ fun w' v hb hr => ⟨hr, hS4.next hB1 hb⟩
        exact wk.does_load_row rfl (by rw [e11]; rfl) (hS4.rows (G11, wp.bc (old)) (by simp)) Tryd.underlying31 rfl (dv_sizeA hold) rfl
      ·
        have ho2 := (Array.getElem?_eq_some_iff.1 ho).2
        simp only [List.getElem_toArray, List.getElem_cons_succ, List.getElem_cons_zero] at ho2
        subst ho2
        clear ho
        have e9 := D.old 9 (by kernel_rfl)
        have e26 := D.is { on := 0, ground := .data } (by simp) rfl rfl 26 rfl
        have hq := hS4.rows _ List.mem_cons_self
        rw [hL] at hq
        have hS5 := hS4
        rw [hL] at hS5
        exact wk.does_store_t rfl (by rw [e9]; rfl) e26 hq (dv_size hold) (by rw [bc_len hold]; rfl) (wk.ones_bc _) ⟨rfl, hS5.setHead hB1 (by omega) (by have := HGG.out; omega) (by have := HLT.out; have := HGG.out; omega) (by have := HLT.out; have := HGG.out; omega) (fun p hp => by have := HG11.out; have := HLT.out; simp only [List.mem_cons, List.not_mem_nil, or_false] at hp; rcases hp with rfl | rfl | rfl <;> (show _ ≠ G; omega)) _⟩
    case hdone =>
      intro L w4 hall hS4
      simp only [List.drop_succ_cons, List.drop_zero, Act.put, wk.setL, List.setIfInBounds_toArray, List.set_cons_zero, List.set_cons_succ, Nat.zero_add, Nat.reduceAdd, List.getD_cons_zero, List.getD_cons_succ]
      have hall2 := hall 2 (by omega)
      rw [hall2] at hS4
      clear hall hall2
      replace hS4 : ES B pr pn (rootsF po pr pn) 90 [(G, wp.bc (old)), (G + 1, zc), (G11, wp.bc (old)), (po, wp.bc old)] w s w4 := hS4
      have q9 := hS4.rows (G, wp.bc (old)) (by simp)
      have q10 := hS4.rows (G + 1, zc) (by simp)
      have HS4 := Lib.hid hS4
      clear hS4
      have hz := dv_size hold
      have hz3 : zc.toArray.size = (wp.bc (old)).length := by rw [bc_len hold]; rfl
      go_wp2_with (refine wk.store_row rfl 31 (.tmp 10) (.tmp 27) rfl (G + 1) (wp.bc (old)) rfl rfl 31 zc.toArray q10 hz hz3 (wk.ones_bc _) ?_)
      refine bodyPost_ret (results_cells2 (fn := Tryd.f58) rfl _ _ G (G + 1) (old) (old) rfl rfl (by rw [heap_setRow_ne (by omega)]; exact q9) (setRow_heap _ _ _ _ _ _ q10) hold hold) rfl ⟨by rw [HE.out] <;> rfl, by rw [HE.out]; exact HS4.out.nx.set (by omega) _, HS4.out.keep.setNew (by have := HGG.out; omega) _⟩
set_option maxRecDepth 100000 in
set_option maxHeartbeats 4000000 in
theorem kc_all_false (B po pr pn : Nat) (hB1 : 1 < B) (old : D) (hold : old.length = 16) (n : Nat) (s : St) (w : World) (h1 : 1 ≤ n) (hS : ES B pr pn (rootsF po pr pn) 90 [(po, wp.bc old)] w s w) :
    Calls Tryd.prog 58 #[.int .i64 n, .int .i64 n, .bool false, .pointer (some ⟨po, 0, none⟩), .pointer (some ⟨pn, 0, none⟩), .pointer (some ⟨pr, 0, none⟩)] w fun e w' => e = .returned (.tuple #[dv (kcD old n n false s).1.1, dv (kcD old n n false s).1.2]) ∧ Nx B w' (kcD old n n false s).2.1 (kcD old n n false s).2.2 ∧ Keep B w w' := by
    have HE := Lib.hid (kcD_all old false s h1)
    have HD := Lib.hid (hd_16 hS.nx.dl)
    have HS := Lib.hid hS
    clear hS
    go_enter Tryd.func58, Tryd.ntmps58
    go_upto_region 1 with fail
    change Code.wp _ _ _ _ ((w.alloc (.cells hi.z16 31)).alloc (.cells hi.z16 31))
    have q0 : (w.alloc (.cells hi.z16 31)).heap[w.heap.size]? = some (.cells zc.toArray 31 (0, 0)) := zrow w
    have hb1 := zbelow w
    have s1 : (w.alloc (.cells hi.z16 31)).heap.size = w.heap.size + 1 := Array.size_push ..
    generalize w.alloc (.cells hi.z16 31) = w1 at *
    have q1 : (w1.alloc (.cells hi.z16 31)).heap[w1.heap.size]? = some (.cells zc.toArray 31 (0, 0)) := zrow w1
    have hb2 := zbelow w1
    have s2 : (w1.alloc (.cells hi.z16 31)).heap.size = w1.heap.size + 1 := Array.size_push ..
    rw [s1] at q1
    generalize w1.alloc (.cells hi.z16 31) = w2 at *
    have hlt := HS.out.nx.lt
    have hltr : pr < w.heap.size := wk.row_lt HS.out.rf
    have hltn : pn < w.heap.size := wk.row_lt HS.out.nb
    have hlto : po < w.heap.size := wk.row_lt (HS.out.rows (po, wp.bc old) (by simp))
    have HS2 : Hid (ES B pr pn (rootsF po pr pn) 90 [(w.heap.size, zc), (w.heap.size + 1, zc), (po, wp.bc old)] w s w2) :=
      (((HS.out.next hB1 hb1).next hB1 hb2).row q1 (by omega)).row (wk.row_below q0 hb2) (by omega)
    have HSZ : Hid (w2.heap.size = w.heap.size + 1 + 1) := by show _ = _; omega
    generalize hGG : w.heap.size = G at *
    have HGG := Lib.hid hGG
    have HLT : Hid (pr < G ∧ pn < G ∧ po < G) := ⟨hltr, hltn, hlto⟩
    clear q0 q1 hb1 hb2 s1 s2 hGG hltr hltn HS
    have hqo := HS2.out.rows (po, wp.bc old) (by simp)
    have hz := dv_size hold
    have hz2 := dv_sizeA hold
    have hz3 : hi.z16.size = (wp.bc old).length := by rw [bc_len hold]; rfl
    have ho := wk.ones_bc old
    unfold hi.z16 at hz3
    go_upto_region 4 with (first | (refine wpList_load_row rfl 31 (.tmp 3) rfl po rfl 31 (wp.bc old).toArray (0, 0) _ hqo Tryd.underlying31 rfl hz2 ?_) | (refine wk.store_new rfl 31 (.tmp 11) (.tmp 21) rfl 31 _ (wp.bc old) rfl rfl hz hz3 ho ?_))
    have q11 : (w2.alloc (.cells (wp.bc old).toArray 31)).heap[w2.heap.size]? = some (.cells (wp.bc old).toArray 31 (0, 0)) := heap_alloc_new _ _
    have hb3 : Below w2.heap.size w2 (w2.alloc (.cells (wp.bc old).toArray 31)) := (Below.refl _ _).alloc (Nat.le_refl _) _
    have HS3 := Lib.hid (((HS2.out.next hB1 hb3).row q11 (by have := HSZ.out; omega)).sub (Gs' := [(G, zc), (G + 1, zc), (w2.heap.size, wp.bc old), (po, wp.bc old)]) (by simp))
    generalize w2.alloc (.cells (wp.bc old).toArray 31) = w3 at *
    obtain ⟨G11, hG11⟩ : ∃ g, g = w2.heap.size := ⟨_, rfl⟩
    rw [← hG11] at HS3 HSZ ⊢
    have HG11 : Hid (G11 = G + 1 + 1) := HSZ.out
    clear hqo hz hz2 hz3 ho q11 hb3 hG11 HS2
    have hnb := wk.cell_row1 HS3.out.nb
    unfold nextV at hnb
    have HN := Lib.hid (next_calls B s.1 s.2 w3 HS3.out.nx)
    go_wp2_with fail
    refine HN.out.mono ?_
    rintro e w5 ⟨rfl, hn5, hk5⟩
    have HS5 := Lib.hid (HS3.out.turn (s' := nxS s) hB1 hk5 hn5)
    clear hn5 hk5 hnb HN HS3
    have q11 := HS5.out.rows (G11, wp.bc old) (by simp)
    have hz := dv_size HD.out
    have hz3 : (wp.bc old).toArray.size = (wp.bc (hdS s)).length := by rw [List.size_toArray, bc_len hold, bc_len HD.out]
    have hdv : dv (s.1.headD z16l) = .agg (wp.bc (hdS s)).toArray := rfl
    rw [hdv]
    go_upto_region 5 with (refine wk.store_row rfl 31 (.tmp 11) (.tmp 25) rfl G11 (wp.bc (hdS s)) rfl rfl 31 _ q11 hz hz3 (wk.ones_bc _) ?_)
    have HS3 : Hid (ES B pr pn (rootsF po pr pn) 90 [(G, zc), (G + 1, zc), (G11, wp.bc (hdS s)), (po, wp.bc old)] w (nxS s) (w5.setRow G11 (wp.bc (hdS s)).toArray)) :=
      ((HS5.out.sub (Gs' := [(G11, wp.bc old), (G, zc), (G + 1, zc), (po, wp.bc old)]) (by simp)).setHead hB1 (by have := HG11.out; omega) (by have := HG11.out; have := HGG.out; omega) (by have := HG11.out; have := HLT.out; omega) (by have := HG11.out; have := HLT.out; omega) (fun p hp => by have := HG11.out; simp only [List.mem_cons, List.not_mem_nil, or_false] at hp; have := HLT.out; rcases hp with rfl | rfl | rfl <;> (show _ ≠ G11; omega)) _).sub (by simp)
    generalize w5.setRow G11 (wp.bc (hdS s)).toArray = w6 at *
    clear q11 hz hz3 HS5 hdv
    refine wk.region_many 3 [dv (hdS s), dv (hdS s), undef] [some 26, some 27, none] (fun L u => ES B pr pn (rootsF po pr pn) 90 [(G, if L 2 then wp.bc (hdS s) else zc), (G + 1, zc), (G11, wp.bc (hdS s)), (po, wp.bc old)] w (nxS s) u) (by show ES _ _ _ _ _ _ _ _ _; exact HS3.out.next hB1 (Below.refl _ _).drew) rfl (by kernel_rfl) (by kernel_rfl) (by kernel_rfl) (by kernel_rfl) (by kernel_rfl) (by kernel_rfl) ?hstep ?hdone
    case hstep =>
      intro i o ho hi E L w4 hS4 hL hdeps D
      have hi2 : i = 0 ∨ i = 1 ∨ i = 2 := by omega
      clear hi
      rcases hi2 with rfl | rfl | rfl
      ·
        have ho2 := (Array.getElem?_eq_some_iff.1 ho).2
        simp only [List.getElem_toArray, List.getElem_cons_zero] at ho2
        subst ho2
        clear ho
        have e11 := D.old 11 (by kernel_rfl)
        refine wk.Does.weak (R := fun _ v => v = _) ?_ fun w' v hb hr => ⟨hr, hS4.next hB1 hb⟩
        exact wk.does_load_row rfl (by rw [e11]; rfl) (hS4.rows (G11, wp.bc (hdS s)) (by simp)) Tryd.underlying31 rfl (dv_sizeA HD.out) rfl
      ·
        have ho2 := (Array.getElem?_eq_some_iff.1 ho).2
        simp only [List.getElem_toArray, List.getElem_cons_succ, List.getElem_cons_zero] at ho2
        subst ho2
        clear ho
        have e11 := D.old 11 (by kernel_rfl)
        refine wk.Does.weak (R := fun _ v => v = _) ?_ fun w' v hb hr => ⟨hr, hS4.next hB1 hb⟩
        exact wk.does_load_row rfl (by rw [e11]; rfl) (hS4.rows (G11, wp.bc (hdS s)) (by simp)) Tryd.underlying31 rfl (dv_sizeA HD.out) rfl
      ·
        have ho2 := (Array.getElem?_eq_some_iff.1 ho).2
        simp only [List.getElem_toArray, List.getElem_cons_succ, List.getElem_cons_zero] at ho2
        subst ho2
        clear ho
        have e9 := D.old 9 (by kernel_rfl)
        have e26 := D.is { on := 0, ground := .data } (by simp) rfl rfl 26 rfl
        have hq := hS4.rows _ List.mem_cons_self
        rw [hL] at hq
        have hS5 := hS4
        rw [hL] at hS5
        exact wk.does_store_t rfl (by rw [e9]; rfl) e26 hq (dv_size HD.out) (by rw [bc_len HD.out]; rfl) (wk.ones_bc _) ⟨rfl, hS5.setHead hB1 (by omega) (by have := HGG.out; omega) (by have := HLT.out; have := HGG.out; omega) (by have := HLT.out; have := HGG.out; omega) (fun p hp => by have := HG11.out; have := HLT.out; simp only [List.mem_cons, List.not_mem_nil, or_false] at hp; rcases hp with rfl | rfl | rfl <;> (show _ ≠ G; omega)) _⟩
    case hdone =>
      intro L w4 hall hS4
      simp only [List.drop_succ_cons, List.drop_zero, Act.put, wk.setL, List.setIfInBounds_toArray, List.set_cons_zero, List.set_cons_succ, Nat.zero_add, Nat.reduceAdd, List.getD_cons_zero, List.getD_cons_succ]
      have hall2 := hall 2 (by omega)
      rw [hall2] at hS4
      clear hall hall2
      replace hS4 : ES B pr pn (rootsF po pr pn) 90 [(G, wp.bc (hdS s)), (G + 1, zc), (G11, wp.bc (hdS s)), (po, wp.bc old)] w (nxS s) w4 := hS4
      have q9 := hS4.rows (G, wp.bc (hdS s)) (by simp)
      have q10 := hS4.rows (G + 1, zc) (by simp)
      have HS4 := Lib.hid hS4
      clear hS4
      have hz := dv_size HD.out
      have hz3 : zc.toArray.size = (wp.bc (hdS s)).length := by rw [bc_len HD.out]; rfl
      go_wp2_with (refine wk.store_row rfl 31 (.tmp 10) (.tmp 27) rfl (G + 1) (wp.bc (hdS s)) rfl rfl 31 zc.toArray q10 hz hz3 (wk.ones_bc _) ?_)
      refine bodyPost_ret (results_cells2 (fn := Tryd.f58) rfl _ _ G (G + 1) (hdS s) (hdS s) rfl rfl (by rw [heap_setRow_ne (by omega)]; exact q9) (setRow_heap _ _ _ _ _ _ q10) HD.out HD.out) rfl ⟨by rw [HE.out] <;> rfl, by rw [HE.out]; exact HS4.out.nx.set (by omega) _, HS4.out.keep.setNew (by have := HGG.out; omega) _⟩
end Go.Proofs.YtmjmkkdmphgdnaaDoor.mk
/- CheckConsistency's closure, whole. -/
namespace Go.Proofs.YtmjmkkdmphgdnaaDoor.mk

open Go.ChangeShapes Go.WideShapes Go.ChangeAt Go.RowKit

set_option linter.unusedVariables false
set_option maxRecDepth 100000 in
set_option maxHeartbeats 4000000 in
theorem kc1_calls (B po pr pn : Nat) (hB1 : 1 < B) (old : D) (hold : old.length = 16) : ∀ (n m : Nat) (mark : Bool) (s : St) (w : World), 1 ≤ m → m ≤ n → n ≤ 1099511627776 → ES B pr pn (rootsF po pr pn) 90 [(po, wp.bc old)] w s w →
    Calls Tryd.prog 58 #[.int .i64 m, .int .i64 n, .bool mark, .pointer (some ⟨po, 0, none⟩), .pointer (some ⟨pn, 0, none⟩), .pointer (some ⟨pr, 0, none⟩)] w fun e w' => e = .returned (.tuple #[dv (kcD old n m mark s).1.1, dv (kcD old n m mark s).1.2]) ∧ Nx B w' (kcD old n m mark s).2.1 (kcD old n m mark s).2.2 ∧ Keep B w w' := by
  intro n
  induction n using Nat.strongRecOn with
  | ind n ih =>
  intro m mark s w h1 hmn hn40 hS
  by_cases hmn' : m = n
  · subst hmn'
    cases mark
    · exact kc_all_false B po pr pn hB1 old hold m s w h1 hS
    · exact kc_all_true B po pr pn hB1 old hold m s w h1 hS
  · have hlt2 : m < n := by omega
    have h2 : 2 ≤ n := by omega
    have hs := split_lt h2
    have hp := split_pos n
    have hr2 := kcD_two old mark s hlt2 h1
    have HF := Lib.hid (fun w => firstSize_calls n w h2 (by omega))
    have HS := Lib.hid hS
    have HD16 := Lib.hid hS.nx.dl
    have IH := Lib.hid ih
    clear hS ih
    go_enter Tryd.func58, Tryd.ntmps58
    go_upto_region 1 with fail
    change Code.wp _ _ _ _ ((w.alloc (.cells hi.z16 31)).alloc (.cells hi.z16 31))
    have q0 : (w.alloc (.cells hi.z16 31)).heap[w.heap.size]? = some (.cells zc.toArray 31 (0, 0)) := zrow w
    have hb1 := zbelow w
    have s1 : (w.alloc (.cells hi.z16 31)).heap.size = w.heap.size + 1 := Array.size_push ..
    generalize w.alloc (.cells hi.z16 31) = w1 at *
    have q1 : (w1.alloc (.cells hi.z16 31)).heap[w1.heap.size]? = some (.cells zc.toArray 31 (0, 0)) := zrow w1
    have hb2 := zbelow w1
    have s2 : (w1.alloc (.cells hi.z16 31)).heap.size = w1.heap.size + 1 := Array.size_push ..
    rw [s1] at q1
    generalize w1.alloc (.cells hi.z16 31) = w2 at *
    have hlt := HS.out.nx.lt
    have hltr : pr < w.heap.size := wk.row_lt HS.out.rf
    have hltn : pn < w.heap.size := wk.row_lt HS.out.nb
    have hlto : po < w.heap.size := wk.row_lt (HS.out.rows (po, wp.bc old) (by simp))
    have HS2 : Hid (ES B pr pn (rootsF po pr pn) 90 [(w.heap.size, zc), (w.heap.size + 1, zc), (po, wp.bc old)] w s w2) :=
      (((HS.out.next hB1 hb1).next hB1 hb2).row q1 (by omega)).row (wk.row_below q0 hb2) (by omega)
    have HSZ : Hid (w2.heap.size = w.heap.size + 1 + 1) := by show _ = _; omega
    generalize hGG : w.heap.size = G at *
    have HGG := Lib.hid hGG
    have HLT : Hid (pr < G ∧ pn < G ∧ po < G) := ⟨hltr, hltn, hlto⟩
    clear q0 q1 hb1 hb2 s1 s2 hGG hltr hltn HS
    have hcf := wk.cell_row1 HS2.out.rf
    have HR := Lib.hid hr2
    clear hr2
    generalize split n = k at *
    unfold rootsF at hcf
    by_cases hik : m ≤ k
    · have HEQ := HR.out
      rw [if_pos hik] at HEQ
      clear HR
      go_upto_region 8 with (go_at_call 50; refine (HF.out _).mono ?_; rintro e w' ⟨rfl, hw'⟩; rw [hw']; clear hw')
      go_wp2_with fail
      refine (IH.out k hs m mark s w2 h1 hik (by omega) (HS2.out.sub (by simp)).start).mono ?_
      rintro e w3 ⟨rfl, hn3, hk3⟩
      obtain ⟨hr1, hr2, hr3⟩ := kc_16 hold k k m mark s HD16.out
      have HE : Hid (kcD old n m mark s = _) := HEQ
      obtain ⟨r, hr⟩ : ∃ r, r = kcD old k m mark s := ⟨_, rfl⟩
      have HR1 : Hid (r.1.1.length = 16) := by rw [hr]; exact hr1
      have HR2 : Hid (r.1.2.length = 16) := by rw [hr]; exact hr2
      have HR3 : Hid ((hdS r.2).length = 16) := by rw [hr]; exact hd_16 hr3
      have HS3 : Hid (ES B pr pn (rootsF po pr pn) 90 [(G, zc), (G + 1, zc), (po, wp.bc old)] w r.2 w3) := by rw [hr]; exact HS2.out.turn hB1 hk3 hn3
      rw [← hr] at HE ⊢
      clear hr hr1 hr2 hr3 hn3 hk3 HEQ HS2
      have qa : ((w3.alloc (.cells hi.z16 31)).alloc (.cells hi.z16 31)).heap[w3.heap.size]? = some (.cells hi.z16 31 (0, 0)) := wk.row_below (zrow w3) (zbelow _)
      have sa : (w3.alloc (.cells hi.z16 31)).heap.size = w3.heap.size + 1 := Array.size_push ..
      have qb0 : ((w3.alloc (.cells hi.z16 31)).alloc (.cells hi.z16 31)).heap[w3.heap.size + 1]? = some (.cells hi.z16 31 (0, 0)) := by rw [← sa]; exact zrow _
      have qb : (((w3.alloc (.cells hi.z16 31)).alloc (.cells hi.z16 31)).setRow w3.heap.size (wp.bc r.1.1).toArray).heap[w3.heap.size + 1]? = some (.cells hi.z16 31 (0, 0)) := by rw [heap_setRow_ne (by omega)]; exact qb0
      have HS4 : Hid (ES B pr pn (rootsF po pr pn) 90 [(w3.heap.size + 1, zc), (w3.heap.size, zc), (G, zc), (G + 1, zc), (po, wp.bc old)] w r.2 ((w3.alloc (.cells hi.z16 31)).alloc (.cells hi.z16 31))) :=
        (((HS3.out.next hB1 (zbelow _)).next hB1 (zbelow _)).row qa (by have := HS3.out.nx.lt; omega)).row qb0 (by have := HS3.out.nx.lt; omega)
      have hG1 : G + 1 < w3.heap.size := wk.row_lt (HS3.out.rows (G + 1, zc) (by simp))
      have hG0 : po < w3.heap.size := wk.row_lt (HS3.out.rows (po, wp.bc old) (by simp))
      have HS5 : Hid (ES B pr pn (rootsF po pr pn) 90 [(G, zc), (G + 1, zc), (w3.heap.size, wp.bc r.1.1), (w3.heap.size + 1, wp.bc r.1.2), (po, wp.bc old)] w r.2 ((((w3.alloc (.cells hi.z16 31)).alloc (.cells hi.z16 31)).setRow w3.heap.size (wp.bc r.1.1).toArray).setRow (w3.heap.size + 1) (wp.bc r.1.2).toArray)) :=
        ((((HS4.out.sub (Gs' := [(w3.heap.size, zc), (w3.heap.size + 1, zc), (G, zc), (G + 1, zc), (po, wp.bc old)]) (by simp)).setHead hB1 (by have := HS3.out.nx.lt; omega) (by have := HGG.out; omega) (by have := HLT.out; omega) (by have := HLT.out; omega) (fun p hp => by simp only [List.mem_cons, List.not_mem_nil, or_false] at hp; have := HLT.out; rcases hp with rfl | rfl | rfl | rfl <;> (show _ ≠ w3.heap.size; omega)) (wp.bc r.1.1)).sub (Gs' := [(w3.heap.size + 1, zc), (w3.heap.size, wp.bc r.1.1), (G, zc), (G + 1, zc), (po, wp.bc old)]) (by simp)).setHead hB1 (by have := HS3.out.nx.lt; omega) (by have := HGG.out; omega) (by have := HLT.out; omega) (by have := HLT.out; omega) (fun p hp => by simp only [List.mem_cons, List.not_mem_nil, or_false] at hp; have := HLT.out; rcases hp with rfl | rfl | rfl | rfl <;> (show _ ≠ w3.heap.size + 1; omega)) (wp.bc r.1.2)).sub (by simp)
      have hza := dv_size HR1.out
      have hzb := dv_size HR2.out
      have hzc : hi.z16.size = (wp.bc r.1.1).length := by rw [bc_len HR1.out]; rfl
      have hzd : hi.z16.size = (wp.bc r.1.2).length := by rw [bc_len HR2.out]; rfl
      have hoa := wk.ones_bc r.1.1
      have hob := wk.ones_bc r.1.2
      have HG1 := Lib.hid hG1
      clear sa qb0 HS3 HS4 hG0 hG1 hcf
      unfold dv
      go_upto_region 9 with (first | (refine wk.store_row rfl 31 (.tmp 13) _ rfl w3.heap.size (wp.bc r.1.1) rfl rfl 31 hi.z16 qa hza hzc hoa ?_) | (refine wk.store_row rfl 31 (.tmp 14) _ rfl (w3.heap.size + 1) (wp.bc r.1.2) rfl rfl 31 hi.z16 qb hzb hzd hob ?_))
      change Code.wp _ _ _ _ ((((w3.alloc (.cells hi.z16 31)).alloc (.cells hi.z16 31)).setRow w3.heap.size (wp.bc r.1.1).toArray).setRow (w3.heap.size + 1) (wp.bc r.1.2).toArray)
      generalize (((w3.alloc (.cells hi.z16 31)).alloc (.cells hi.z16 31)).setRow w3.heap.size (wp.bc r.1.1).toArray).setRow (w3.heap.size + 1) (wp.bc r.1.2).toArray = w5 at *
      generalize w3.heap.size = g at *
      clear qa qb hza hzb hzc hzd hoa hob
      have HND : Hid ((nodeD r.1.2 (hdS r.2)).length = 16) := dig_length _ _
      refine wk.region_many 6 [dv r.1.1, dv r.1.2, nextV B, dv (hdS r.2), dv (nodeD r.1.2 (hdS r.2)), undef] [some 41, some 42, some 43, some 44, some 45, none] (fun L u => ES B pr pn (rootsF po pr pn) 90 [(G, if L 5 then wp.bc r.1.1 else zc), (G + 1, zc), (g, wp.bc r.1.1), (g + 1, wp.bc r.1.2), (po, wp.bc old)] w (if L 3 then nxS r.2 else r.2) u) (by show ES _ _ _ _ _ _ _ _ _; exact HS5.out.next hB1 (Below.refl _ _).drew) rfl (by kernel_rfl) (by kernel_rfl) (by kernel_rfl) (by kernel_rfl) (by kernel_rfl) (by kernel_rfl) ?hstep ?hdone
      case hstep =>
        intro i o ho hi E L w4 hS4 hL hdeps D
        have hi2 : i = 0 ∨ i = 1 ∨ i = 2 ∨ i = 3 ∨ i = 4 ∨ i = 5 := by omega
        clear hi
        rcases hi2 with rfl | rfl | rfl | rfl | rfl | rfl
        ·
          have ho2 := (Array.getElem?_eq_some_iff.1 ho).2
          simp only [List.getElem_toArray, List.getElem_cons_zero] at ho2
          subst ho2
          clear ho
          have e13 := D.old 13 (by kernel_rfl)
          refine wk.Does.weak (R := fun _ v => v = _) ?_ fun w' v hb hr => ⟨hr, hS4.next hB1 hb⟩
          exact wk.does_load_row rfl (by rw [e13]; rfl) (hS4.rows (g, wp.bc (r.1.1)) (by simp)) Tryd.underlying31 rfl (dv_sizeA HR1.out) rfl
        ·
          have ho2 := (Array.getElem?_eq_some_iff.1 ho).2
          simp only [List.getElem_toArray, List.getElem_cons_succ, List.getElem_cons_zero] at ho2
          subst ho2
          clear ho
          have e14 := D.old 14 (by kernel_rfl)
          refine wk.Does.weak (R := fun _ v => v = _) ?_ fun w' v hb hr => ⟨hr, hS4.next hB1 hb⟩
          exact wk.does_load_row rfl (by rw [e14]; rfl) (hS4.rows (g + 1, wp.bc (r.1.2)) (by simp)) Tryd.underlying31 rfl (dv_sizeA HR2.out) rfl
        ·
          have ho2 := (Array.getElem?_eq_some_iff.1 ho).2
          simp only [List.getElem_toArray, List.getElem_cons_succ, List.getElem_cons_zero] at ho2
          subst ho2
          clear ho
          have e4 := D.old 4 (by kernel_rfl)
          refine wk.Does.weak (R := fun _ v => v = _) ?_ fun w' v hb hr => ⟨hr, hS4.next hB1 hb⟩
          exact wk.does_load1 rfl (by rw [e4]; rfl) (wk.cell_row1 hS4.nb) Tryd.underlying71 rfl rfl
        ·
          have ho2 := (Array.getElem?_eq_some_iff.1 ho).2
          simp only [List.getElem_toArray, List.getElem_cons_succ, List.getElem_cons_zero] at ho2
          subst ho2
          clear ho
          have e43 := D.is { on := 2, ground := .data } (by simp) rfl rfl 43 rfl
          have hS5 := hS4
          rw [hL] at hS5
          refine wk.does_fn_t (f := 68) (vs := #[.pointer (some ⟨B, 0, none⟩), .pointer (some ⟨B + 2, 0, none⟩)]) rfl (by rw [e43]; rfl) (by simp) (by go_simp) ?_
          refine (next_calls B r.2.1 r.2.2 w4 hS5.nx).mono ?_
          rintro e w6 ⟨rfl, hn5, hk5⟩
          exact ⟨_, rfl, rfl, hS5.turn hB1 hk5 hn5⟩
        ·
          have ho2 := (Array.getElem?_eq_some_iff.1 ho).2
          simp only [List.getElem_toArray, List.getElem_cons_succ, List.getElem_cons_zero] at ho2
          subst ho2
          clear ho
          have e42 := D.is { on := 1, ground := .data } (by simp) rfl rfl 42 rfl
          have e44 := D.is { on := 3, ground := .data } (by simp) rfl rfl 44 rfl
          refine wk.Does.weak (R := fun _ v => v = _) ?_ fun w' v hb hr => ⟨hr, hS4.next hB1 hb⟩
          refine wk.does_fn (f := 19) (vs := #[dv (r.1.2), dv (hdS r.2)]) rfl (D.fn _) (by simp [e42, e44]) (by go_simp) ?_
          refine (node_calls _ _ HR2.out HR3.out w4 hS4.tab).mono ?_
          rintro e w5 ⟨rfl, hb5⟩
          exact ⟨_, rfl, hb5, rfl⟩
        ·
          have ho2 := (Array.getElem?_eq_some_iff.1 ho).2
          simp only [List.getElem_toArray, List.getElem_cons_succ, List.getElem_cons_zero] at ho2
          subst ho2
          clear ho
          have e9 := D.old 9 (by kernel_rfl)
          have e41 := D.is { on := 0, ground := .data } (by simp) rfl rfl 41 rfl
          have hS5 := hS4
          rw [hL] at hS5
          have hq := hS5.rows _ List.mem_cons_self
          exact wk.does_store_t rfl (by rw [e9]; rfl) e41 hq (dv_size HR1.out) (by rw [bc_len HR1.out]; rfl) (wk.ones_bc _) ⟨rfl, hS5.setHead hB1 (by omega) (by have := HGG.out; omega) (by have := HLT.out; have := HGG.out; omega) (by have := HLT.out; have := HGG.out; omega) (fun p hp => by have := HLT.out; have := HG1.out; simp only [List.mem_cons, List.not_mem_nil, or_false] at hp; rcases hp with rfl | rfl | rfl | rfl <;> (show _ ≠ G; omega)) _⟩
      case hdone =>
        intro L w4 hall hS4
        simp only [List.drop_succ_cons, List.drop_zero, Act.put, wk.setL, List.setIfInBounds_toArray, List.set_cons_zero, List.set_cons_succ, Nat.zero_add, Nat.reduceAdd, List.getD_cons_zero, List.getD_cons_succ]
        have hall5 := hall 5 (by omega)
        have hall3 := hall 3 (by omega)
        rw [hall5, hall3] at hS4
        clear hall hall5 hall3
        replace hS4 : ES B pr pn (rootsF po pr pn) 90 [(G, wp.bc r.1.1), (G + 1, zc), (g, wp.bc r.1.1), (g + 1, wp.bc r.1.2), (po, wp.bc old)] w (nxS r.2) w4 := hS4
        have q9 := hS4.rows (G, wp.bc (r.1.1)) (by simp)
        have q10 := hS4.rows (G + 1, zc) (by simp)
        have HS4 := Lib.hid hS4
        clear hS4
        have hz := dv_size HND.out
        have hz3 : zc.toArray.size = (wp.bc (nodeD r.1.2 (hdS r.2))).length := by rw [bc_len HND.out]; rfl
        go_wp2_with (refine wk.store_row rfl 31 (.tmp 10) (.tmp 45) rfl (G + 1) (wp.bc (nodeD r.1.2 (hdS r.2))) rfl rfl 31 zc.toArray q10 hz hz3 (wk.ones_bc _) ?_)
        refine bodyPost_ret (results_cells2 (fn := Tryd.f58) rfl _ _ G (G + 1) (r.1.1) (nodeD r.1.2 (hdS r.2)) rfl rfl (by rw [heap_setRow_ne (by omega)]; exact q9) (setRow_heap _ _ _ _ _ _ q10) HR1.out HND.out) rfl ⟨by rw [HE.out] <;> rfl, by rw [HE.out]; exact HS4.out.nx.set (by omega) _, HS4.out.keep.setNew (by have := HGG.out; omega) _⟩
    · have HEQ := HR.out
      rw [if_neg hik] at HEQ
      clear HR
      have hci : ((m : Int) - (k : Int)) = ((m - k : Nat) : Int) := by omega
      have hcn : ((n : Int) - (k : Int)) = ((n - k : Nat) : Int) := by omega
      go_upto_region 10 with (go_at_call 50; refine (HF.out _).mono ?_; rintro e w' ⟨rfl, hw'⟩; rw [hw']; clear hw')
      go_wp2_with fail
      refine (IH.out (n - k) (by omega) (m - k) false s w2 (by omega) (by omega) (by omega) (HS2.out.sub (by simp)).start).mono ?_
      rintro e w3 ⟨rfl, hn3, hk3⟩
      obtain ⟨hr1, hr2, hr3⟩ := kc_16 hold (n - k) (n - k) (m - k) false s HD16.out
      have HE : Hid (kcD old n m mark s = _) := HEQ
      obtain ⟨r, hr⟩ : ∃ r, r = kcD old (n - k) (m - k) false s := ⟨_, rfl⟩
      have HR1 : Hid (r.1.1.length = 16) := by rw [hr]; exact hr1
      have HR2 : Hid (r.1.2.length = 16) := by rw [hr]; exact hr2
      have HR3 : Hid ((hdS r.2).length = 16) := by rw [hr]; exact hd_16 hr3
      have HS3 : Hid (ES B pr pn (rootsF po pr pn) 90 [(G, zc), (G + 1, zc), (po, wp.bc old)] w r.2 w3) := by rw [hr]; exact HS2.out.turn hB1 hk3 hn3
      rw [← hr] at HE ⊢
      clear hr hr1 hr2 hr3 hn3 hk3 HEQ HS2
      have qa : ((w3.alloc (.cells hi.z16 31)).alloc (.cells hi.z16 31)).heap[w3.heap.size]? = some (.cells hi.z16 31 (0, 0)) := wk.row_below (zrow w3) (zbelow _)
      have sa : (w3.alloc (.cells hi.z16 31)).heap.size = w3.heap.size + 1 := Array.size_push ..
      have qb0 : ((w3.alloc (.cells hi.z16 31)).alloc (.cells hi.z16 31)).heap[w3.heap.size + 1]? = some (.cells hi.z16 31 (0, 0)) := by rw [← sa]; exact zrow _
      have qb : (((w3.alloc (.cells hi.z16 31)).alloc (.cells hi.z16 31)).setRow w3.heap.size (wp.bc r.1.1).toArray).heap[w3.heap.size + 1]? = some (.cells hi.z16 31 (0, 0)) := by rw [heap_setRow_ne (by omega)]; exact qb0
      have HS4 : Hid (ES B pr pn (rootsF po pr pn) 90 [(w3.heap.size + 1, zc), (w3.heap.size, zc), (G, zc), (G + 1, zc), (po, wp.bc old)] w r.2 ((w3.alloc (.cells hi.z16 31)).alloc (.cells hi.z16 31))) :=
        (((HS3.out.next hB1 (zbelow _)).next hB1 (zbelow _)).row qa (by have := HS3.out.nx.lt; omega)).row qb0 (by have := HS3.out.nx.lt; omega)
      have hG1 : G + 1 < w3.heap.size := wk.row_lt (HS3.out.rows (G + 1, zc) (by simp))
      have hG0 : po < w3.heap.size := wk.row_lt (HS3.out.rows (po, wp.bc old) (by simp))
      have HS5 : Hid (ES B pr pn (rootsF po pr pn) 90 [(G, zc), (G + 1, zc), (w3.heap.size, wp.bc r.1.1), (w3.heap.size + 1, wp.bc r.1.2), (po, wp.bc old)] w r.2 ((((w3.alloc (.cells hi.z16 31)).alloc (.cells hi.z16 31)).setRow w3.heap.size (wp.bc r.1.1).toArray).setRow (w3.heap.size + 1) (wp.bc r.1.2).toArray)) :=
        ((((HS4.out.sub (Gs' := [(w3.heap.size, zc), (w3.heap.size + 1, zc), (G, zc), (G + 1, zc), (po, wp.bc old)]) (by simp)).setHead hB1 (by have := HS3.out.nx.lt; omega) (by have := HGG.out; omega) (by have := HLT.out; omega) (by have := HLT.out; omega) (fun p hp => by simp only [List.mem_cons, List.not_mem_nil, or_false] at hp; have := HLT.out; rcases hp with rfl | rfl | rfl | rfl <;> (show _ ≠ w3.heap.size; omega)) (wp.bc r.1.1)).sub (Gs' := [(w3.heap.size + 1, zc), (w3.heap.size, wp.bc r.1.1), (G, zc), (G + 1, zc), (po, wp.bc old)]) (by simp)).setHead hB1 (by have := HS3.out.nx.lt; omega) (by have := HGG.out; omega) (by have := HLT.out; omega) (by have := HLT.out; omega) (fun p hp => by simp only [List.mem_cons, List.not_mem_nil, or_false] at hp; have := HLT.out; rcases hp with rfl | rfl | rfl | rfl <;> (show _ ≠ w3.heap.size + 1; omega)) (wp.bc r.1.2)).sub (by simp)
      have hza := dv_size HR1.out
      have hzb := dv_size HR2.out
      have hzc : hi.z16.size = (wp.bc r.1.1).length := by rw [bc_len HR1.out]; rfl
      have hzd : hi.z16.size = (wp.bc r.1.2).length := by rw [bc_len HR2.out]; rfl
      have hoa := wk.ones_bc r.1.1
      have hob := wk.ones_bc r.1.2
      have HG1 := Lib.hid hG1
      clear sa qb0 HS3 HS4 hG0 hG1 hcf
      unfold dv
      go_upto_region 11 with (first | (refine wk.store_row rfl 31 (.tmp 15) _ rfl w3.heap.size (wp.bc r.1.1) rfl rfl 31 hi.z16 qa hza hzc hoa ?_) | (refine wk.store_row rfl 31 (.tmp 16) _ rfl (w3.heap.size + 1) (wp.bc r.1.2) rfl rfl 31 hi.z16 qb hzb hzd hob ?_))
      change Code.wp _ _ _ _ ((((w3.alloc (.cells hi.z16 31)).alloc (.cells hi.z16 31)).setRow w3.heap.size (wp.bc r.1.1).toArray).setRow (w3.heap.size + 1) (wp.bc r.1.2).toArray)
      generalize (((w3.alloc (.cells hi.z16 31)).alloc (.cells hi.z16 31)).setRow w3.heap.size (wp.bc r.1.1).toArray).setRow (w3.heap.size + 1) (wp.bc r.1.2).toArray = w5 at *
      generalize w3.heap.size = g at *
      clear qa qb hza hzb hzc hzd hoa hob
      have hnb := wk.cell_row1 HS5.out.nb
      unfold nextV at hnb
      have HN := Lib.hid (next_calls B r.2.1 r.2.2 w5 HS5.out.nx)
      go_wp2_with fail
      refine HN.out.mono ?_
      rintro e w6 ⟨rfl, hn6, hk6⟩
      have HS6 := Lib.hid (HS5.out.turn (s' := nxS r.2) hB1 hk6 hn6)
      clear hn6 hk6 hnb HN HS5
      have hz := dv_size HR3.out
      have hz3 : hi.z16.size = (wp.bc (hdS r.2)).length := by rw [bc_len HR3.out]; rfl
      have ho := wk.ones_bc (hdS r.2)
      unfold hi.z16 at hz3
      have hdv : dv (r.2.1.headD z16l) = .agg (wp.bc (hdS r.2)).toArray := rfl
      rw [hdv]
      go_upto_region 12 with (refine wk.store_new rfl 31 (.tmp 17) (.tmp 58) rfl 31 _ (wp.bc (hdS r.2)) rfl rfl hz hz3 ho ?_)
      have q17 : (w6.alloc (.cells (wp.bc (hdS r.2)).toArray 31)).heap[w6.heap.size]? = some (.cells (wp.bc (hdS r.2)).toArray 31 (0, 0)) := heap_alloc_new _ _
      have hb7 : Below w6.heap.size w6 (w6.alloc (.cells (wp.bc (hdS r.2)).toArray 31)) := (Below.refl _ _).alloc (Nat.le_refl _) _
      have hg17 : g + 1 < w6.heap.size := wk.row_lt (HS6.out.rows (g + 1, wp.bc r.1.2) (by simp))
      have HS7 := Lib.hid (((HS6.out.next hB1 hb7).row q17 (by have := HS6.out.nx.lt; omega)).sub (Gs' := [(G, zc), (G + 1, zc), (w6.heap.size, wp.bc (hdS r.2)), (g, wp.bc r.1.1), (g + 1, wp.bc r.1.2), (po, wp.bc old)]) (by simp))
      generalize w6.alloc (.cells (wp.bc (hdS r.2)).toArray 31) = w7 at *
      generalize w6.heap.size = g17 at *
      have HG17 := Lib.hid hg17
      clear q17 hb7 hg17 hz hz3 ho hdv HS6
      have HND : Hid ((nodeD (hdS r.2) r.1.1).length = 16) := dig_length _ _
      have HND2 : Hid ((nodeD (hdS r.2) r.1.2).length = 16) := dig_length _ _
      refine wk.region_many 7 [dv (hdS r.2), dv r.1.1, dv (nodeD (hdS r.2) r.1.1), dv (hdS r.2), dv r.1.2, dv (nodeD (hdS r.2) r.1.2), undef] [some 59, some 60, some 61, some 62, some 63, some 64, none] (fun L u => ES B pr pn (rootsF po pr pn) 90 [(G, if L 6 then wp.bc (nodeD (hdS r.2) r.1.1) else zc), (G + 1, zc), (g17, wp.bc (hdS r.2)), (g, wp.bc r.1.1), (g + 1, wp.bc r.1.2), (po, wp.bc old)] w (nxS r.2) u) (by show ES _ _ _ _ _ _ _ _ _; exact HS7.out.next hB1 (Below.refl _ _).drew) rfl (by kernel_rfl) (by kernel_rfl) (by kernel_rfl) (by kernel_rfl) (by kernel_rfl) (by kernel_rfl) ?hstep ?hdone
      case hstep =>
        intro i o ho hi E L w4 hS4 hL hdeps D
        have hi2 : i = 0 ∨ i = 1 ∨ i = 2 ∨ i = 3 ∨ i = 4 ∨ i = 5 ∨ i = 6 := by omega
        clear hi
        rcases hi2 with rfl | rfl | rfl | rfl | rfl | rfl | rfl
        ·
          have ho2 := (Array.getElem?_eq_some_iff.1 ho).2
          simp only [List.getElem_toArray, List.getElem_cons_zero] at ho2
          subst ho2
          clear ho
          have e17 := D.old 17 (by kernel_rfl)
          refine wk.Does.weak (R := fun _ v => v = _) ?_ fun w' v hb hr => ⟨hr, hS4.next hB1 hb⟩
          exact wk.does_load_row rfl (by rw [e17]; rfl) (hS4.rows (g17, wp.bc (hdS r.2)) (by simp)) Tryd.underlying31 rfl (dv_sizeA HR3.out) rfl
        ·
          have ho2 := (Array.getElem?_eq_some_iff.1 ho).2
          simp only [List.getElem_toArray, List.getElem_cons_succ, List.getElem_cons_zero] at ho2
          subst ho2
          clear ho
          have e15 := D.old 15 (by kernel_rfl)
          refine wk.Does.weak (R := fun _ v => v = _) ?_ fun w' v hb hr => ⟨hr, hS4.next hB1 hb⟩
          exact wk.does_load_row rfl (by rw [e15]; rfl) (hS4.rows (g, wp.bc (r.1.1)) (by simp)) Tryd.underlying31 rfl (dv_sizeA HR1.out) rfl
        ·
          have ho2 := (Array.getElem?_eq_some_iff.1 ho).2
          simp only [List.getElem_toArray, List.getElem_cons_succ, List.getElem_cons_zero] at ho2
          subst ho2
          clear ho
          have e59 := D.is { on := 0, ground := .data } (by simp) rfl rfl 59 rfl
          have e60 := D.is { on := 1, ground := .data } (by simp) rfl rfl 60 rfl
          refine wk.Does.weak (R := fun _ v => v = _) ?_ fun w' v hb hr => ⟨hr, hS4.next hB1 hb⟩
          refine wk.does_fn (f := 19) (vs := #[dv (hdS r.2), dv (r.1.1)]) rfl (D.fn _) (by simp [e59, e60]) (by go_simp) ?_
          refine (node_calls _ _ HR3.out HR1.out w4 hS4.tab).mono ?_
          rintro e w5 ⟨rfl, hb5⟩
          exact ⟨_, rfl, hb5, rfl⟩
        ·
          have ho2 := (Array.getElem?_eq_some_iff.1 ho).2
          simp only [List.getElem_toArray, List.getElem_cons_succ, List.getElem_cons_zero] at ho2
          subst ho2
          clear ho
          have e17 := D.old 17 (by kernel_rfl)
          refine wk.Does.weak (R := fun _ v => v = _) ?_ fun w' v hb hr => ⟨hr, hS4.next hB1 hb⟩
          exact wk.does_load_row rfl (by rw [e17]; rfl) (hS4.rows (g17, wp.bc (hdS r.2)) (by simp)) Tryd.underlying31 rfl (dv_sizeA HR3.out) rfl
        ·
          have ho2 := (Array.getElem?_eq_some_iff.1 ho).2
          simp only [List.getElem_toArray, List.getElem_cons_succ, List.getElem_cons_zero] at ho2
          subst ho2
          clear ho
          have e16 := D.old 16 (by kernel_rfl)
          refine wk.Does.weak (R := fun _ v => v = _) ?_ fun w' v hb hr => ⟨hr, hS4.next hB1 hb⟩
          exact wk.does_load_row rfl (by rw [e16]; rfl) (hS4.rows (g + 1, wp.bc (r.1.2)) (by simp)) Tryd.underlying31 rfl (dv_sizeA HR2.out) rfl
        ·
          have ho2 := (Array.getElem?_eq_some_iff.1 ho).2
          simp only [List.getElem_toArray, List.getElem_cons_succ, List.getElem_cons_zero] at ho2
          subst ho2
          clear ho
          have e62 := D.is { on := 3, ground := .data } (by simp) rfl rfl 62 rfl
          have e63 := D.is { on := 4, ground := .data } (by simp) rfl rfl 63 rfl
          refine wk.Does.weak (R := fun _ v => v = _) ?_ fun w' v hb hr => ⟨hr, hS4.next hB1 hb⟩
          refine wk.does_fn (f := 19) (vs := #[dv (hdS r.2), dv (r.1.2)]) rfl (D.fn _) (by simp [e62, e63]) (by go_simp) ?_
          refine (node_calls _ _ HR3.out HR2.out w4 hS4.tab).mono ?_
          rintro e w5 ⟨rfl, hb5⟩
          exact ⟨_, rfl, hb5, rfl⟩
        ·
          have ho2 := (Array.getElem?_eq_some_iff.1 ho).2
          simp only [List.getElem_toArray, List.getElem_cons_succ, List.getElem_cons_zero] at ho2
          subst ho2
          clear ho
          have e9 := D.old 9 (by kernel_rfl)
          have e61 := D.is { on := 2, ground := .data } (by simp) rfl rfl 61 rfl
          have hS5 := hS4
          rw [hL] at hS5
          have hq := hS5.rows _ List.mem_cons_self
          exact wk.does_store_t rfl (by rw [e9]; rfl) e61 hq (dv_size HND.out) (by rw [bc_len HND.out]; rfl) (wk.ones_bc _) ⟨rfl, hS5.setHead hB1 (by omega) (by have := HGG.out; omega) (by have := HLT.out; have := HGG.out; omega) (by have := HLT.out; have := HGG.out; omega) (fun p hp => by have := HLT.out; have := HG1.out; have := HG17.out; simp only [List.mem_cons, List.not_mem_nil, or_false] at hp; rcases hp with rfl | rfl | rfl | rfl | rfl <;> (show _ ≠ G; omega)) _⟩
      case hdone =>
        intro L w4 hall hS4
        simp only [List.drop_succ_cons, List.drop_zero, Act.put, wk.setL, List.setIfInBounds_toArray, List.set_cons_zero, List.set_cons_succ, Nat.zero_add, Nat.reduceAdd, List.getD_cons_zero, List.getD_cons_succ]
        have hall6 := hall 6 (by omega)
        rw [hall6] at hS4
        clear hall hall6
        replace hS4 : ES B pr pn (rootsF po pr pn) 90 [(G, wp.bc (nodeD (hdS r.2) r.1.1)), (G + 1, zc), (g17, wp.bc (hdS r.2)), (g, wp.bc r.1.1), (g + 1, wp.bc r.1.2), (po, wp.bc old)] w (nxS r.2) w4 := hS4
        have q9 := hS4.rows (G, wp.bc (nodeD (hdS r.2) r.1.1)) (by simp)
        have q10 := hS4.rows (G + 1, zc) (by simp)
        have HS4 := Lib.hid hS4
        clear hS4
        have hz := dv_size HND2.out
        have hz3 : zc.toArray.size = (wp.bc (nodeD (hdS r.2) r.1.2)).length := by rw [bc_len HND2.out]; rfl
        go_wp2_with (refine wk.store_row rfl 31 (.tmp 10) (.tmp 64) rfl (G + 1) (wp.bc (nodeD (hdS r.2) r.1.2)) rfl rfl 31 zc.toArray q10 hz hz3 (wk.ones_bc _) ?_)
        refine bodyPost_ret (results_cells2 (fn := Tryd.f58) rfl _ _ G (G + 1) (nodeD (hdS r.2) r.1.1) (nodeD (hdS r.2) r.1.2) rfl rfl (by rw [heap_setRow_ne (by omega)]; exact q9) (setRow_heap _ _ _ _ _ _ q10) HND.out HND2.out) rfl ⟨by rw [HE.out] <;> rfl, by rw [HE.out]; exact HS4.out.nx.set (by omega) _, HS4.out.keep.setNew (by have := HGG.out; omega) _⟩
end Go.Proofs.YtmjmkkdmphgdnaaDoor.mk
/- CheckConsistency, whole. -/
namespace Go.Proofs.YtmjmkkdmphgdnaaDoor.mk

open Go.ChangeShapes Go.WideShapes Go.ChangeAt Go.RowKit

set_option linter.unusedVariables false
theorem infoRF2 : (Tryd.prog.info? 90).map (·.size) = some 1 := by kernel_rfl
theorem eqGD : (Tryd.prog).eqGuardType (Tryd.prog).depth 31 = false := by kernel_rfl
set_option maxRecDepth 100000 in
set_option maxHeartbeats 4000000 in
theorem leadC0_calls (B H : Nat) (hB1 : 1 < B) (old : D) (hold : old.length = 16) (l : List D) (w : World) (hHB : H + 1 + 1 + 1 < B) (hN : Nx B w l false) (hT : Tab w)
    (h0 : w.heap[H]? = some (.cells #[.int .i64 0] 3 (0, 0))) (h2 : w.heap[H + 1 + 1]? = some (.cells (wp.bc old).toArray 31 (0, 0))) :
    Calls Tryd.prog 57 #[nextV B, .pointer (some ⟨H, 0, none⟩), .pointer (some ⟨H + 1 + 1, 0, none⟩), .pointer (some ⟨H + 1, 0, none⟩), .pointer (some ⟨H + 1 + 1 + 1, 0, none⟩)] w fun e w' => e = .returned (.bool (old == emptyD)) ∧ Nx B w' l false ∧ Keep B w w' := by
  have HN := Lib.hid hN
  have HT := Lib.hid hT
  have H2 := Lib.hid h2
  have hc0 := wk.cell_row1 h0
  clear hN hT h0 h2
  go_enter Tryd.func57, Tryd.ntmps57
  have b1 : Below w.heap.size w (w.alloc (.cells #[nextV B] 71)) := (Below.refl _ _).alloc (Nat.le_refl _) _
  have hc1 : (w.alloc (.cells #[nextV B] 71)).cell? ⟨H, 0, none⟩ = some (.int .i64 0) := (b1.cell (p := ⟨H, 0, none⟩) (World.block_lt_of_cell? _ _ hc0)).trans hc0
  go_upto_region 1 with fail
  change Code.wp _ _ _ _ (w.alloc (.cells #[nextV B] 71))
  generalize w.alloc (.cells #[nextV B] 71) = w1 at *
  have HB1 := Lib.hid b1
  have HN1 := Lib.hid (HN.out.next b1)
  have HT1 := Lib.hid (HT.out.next b1.drew)
  have Q2 := Lib.hid (wk.row_below H2.out b1.drew)
  clear b1 hc0
  go_upto_region 2 with fail
  refine wk.region_tail 4 [.is (dv old), .is (dv emptyD), .is (.bool (old == emptyD)), .is (.bool (old == emptyD))] [some 12, some 13, some 14, some 6] (by kernel_rfl) (by kernel_rfl) (by kernel_rfl) (by kernel_rfl) (by kernel_rfl) (by kernel_rfl) ?hstep ?hdone
  case hstep =>
    intro i o ho hi E w4 hb4 D
    have hi2 : i = 0 ∨ i = 1 ∨ i = 2 ∨ i = 3 := by omega
    clear hi
    rcases hi2 with rfl | rfl | rfl | rfl
    ·
      have ho2 := (Array.getElem?_eq_some_iff.1 ho).2
      simp only [List.getElem_toArray, List.getElem_cons_zero] at ho2
      subst ho2
      clear ho
      have e2 := D.old 2 (by kernel_rfl)
      exact wk.does_load_row rfl (by rw [e2]; rfl) (wk.row_below Q2.out hb4) Tryd.underlying31 rfl (dv_sizeA hold) rfl
    ·
      have ho2 := (Array.getElem?_eq_some_iff.1 ho).2
      simp only [List.getElem_toArray, List.getElem_cons_succ, List.getElem_cons_zero] at ho2
      subst ho2
      clear ho
      refine wk.does_fn (f := 38) (vs := #[]) rfl (D.fn _) (by simp) (by go_simp) ?_
      refine (empty_calls w4 (HT1.out.next hb4)).mono ?_
      rintro e w5 ⟨rfl, hb5⟩
      exact ⟨_, rfl, hb5, rfl⟩
    ·
      have ho2 := (Array.getElem?_eq_some_iff.1 ho).2
      simp only [List.getElem_toArray, List.getElem_cons_succ, List.getElem_cons_zero] at ho2
      subst ho2
      clear ho
      have e12 := D.is { on := 0, ground := .data } (by simp) rfl rfl 12 rfl
      have e13 := D.is { on := 1, ground := .data } (by simp) rfl rfl 13 rfl
      exact wk.does_eq_arr rfl e12 e13 (by kernel_rfl) (eq_dv _ _ _ hold (dig_length _ _)) rfl
    ·
      have ho2 := (Array.getElem?_eq_some_iff.1 ho).2
      simp only [List.getElem_toArray, List.getElem_cons_succ, List.getElem_cons_zero] at ho2
      subst ho2
      clear ho
      have e14 := D.is { on := 2, ground := .data } (by simp) rfl rfl 14 rfl
      exact wk.does_assign rfl e14
  case hdone =>
    intro vals w4 hb4 hv
    have h3 := hv 3 (by omega)
    clear hv
    replace h3 : vals 3 = (.bool (old == emptyD)) := h3
    simp only [List.drop_succ_cons, List.drop_zero, wpList, Act.put, wk.setL, List.setIfInBounds_toArray, List.set_cons_zero, List.set_cons_succ, Nat.zero_add, Nat.reduceAdd, h3]
    generalize vals 0 = x0
    generalize vals 1 = x1
    generalize vals 2 = x2
    have hbb : Below w1.heap.size w1 w4 := (Below.refl _ _).drew.trans hb4
    have hbw : Below w.heap.size w w4 := HB1.out.trans (hbb.mono HB1.out.size)
    have HBB := Lib.hid hbb
    have HBW := Lib.hid hbw
    clear hb4 hbb hbw
    go_wp2_with fail
    go_ret
    exact ⟨rfl, HN1.out.next HBB.out, Keep.of HBW.out⟩
set_option maxRecDepth 100000 in
set_option maxHeartbeats 4000000 in
theorem leadC1_calls (B H : Nat) (hB1 : 1 < B) (old root : D) (hold : old.length = 16) (hroot : root.length = 16) (m n : Nat) (hm : 1 ≤ m) (hmn : m ≤ n) (hn40 : n ≤ 1099511627776) (l : List D) (w : World) (hHB : H + 1 + 1 + 1 < B) (hN : Nx B w l false) (hT : Tab w)
    (h0 : w.heap[H]? = some (.cells #[.int .i64 m] 3 (0, 0))) (h1 : w.heap[H + 1]? = some (.cells #[.int .i64 n] 3 (0, 0))) (h2 : w.heap[H + 1 + 1]? = some (.cells (wp.bc old).toArray 31 (0, 0))) (h3 : w.heap[H + 1 + 1 + 1]? = some (.cells (wp.bc root).toArray 31 (0, 0))) :
    Calls Tryd.prog 57 #[nextV B, .pointer (some ⟨H, 0, none⟩), .pointer (some ⟨H + 1 + 1, 0, none⟩), .pointer (some ⟨H + 1, 0, none⟩), .pointer (some ⟨H + 1 + 1 + 1, 0, none⟩)] w fun e w' => e = .returned (.bool ((kcD old n m true (l, false)).1.1 == old && (kcD old n m true (l, false)).1.2 == root)) ∧ Nx B w' (kcD old n m true (l, false)).2.1 (kcD old n m true (l, false)).2.2 ∧ Keep B w w' := by
  have HN := Lib.hid hN
  have HT := Lib.hid hT
  have H1 := Lib.hid h1
  have H0 := Lib.hid h0
  have H2 := Lib.hid h2
  have H3 := Lib.hid h3
  have hmf := fun (fn : Fn) (first cap : Array Value) (w : World) => hmf (P := Tryd.prog) fn first cap w
  have HX := Lib.hid (fun po pr pn => kc1_calls B po pr pn hB1 old hold n m true (l, false))
  obtain ⟨hr1, hr2, _⟩ := kc_16 hold n n m true (l, false) hN.dl
  have HR1 : Hid ((kcD old n m true (l, false)).1.1.length = 16) := hr1
  have HR2 : Hid ((kcD old n m true (l, false)).1.2.length = 16) := hr2
  generalize kcD old n m true (l, false) = r at *
  have hm0 : ¬ (m : Int) = 0 := by omega
  clear hN hT h0 h1 h2 h3 hr1 hr2
  go_enter Tryd.func57, Tryd.ntmps57
  have b1 : Below w.heap.size w (w.alloc (.cells #[nextV B] 71)) := (Below.refl _ _).alloc (Nat.le_refl _) _
  have hc1 : (w.alloc (.cells #[nextV B] 71)).cell? ⟨H, 0, none⟩ = some (.int .i64 m) := wk.cell_row1 (wk.row_below H0.out b1)
  have q1 : (w.alloc (.cells #[nextV B] 71)).heap[w.heap.size]? = some (.cells #[nextV B] 71 (0, 0)) := heap_alloc_new _ _
  have s1 : (w.alloc (.cells #[nextV B] 71)).heap.size = w.heap.size + 1 := Array.size_push ..
  go_upto_region 1 with fail
  change Code.wp _ _ _ _ (w.alloc (.cells #[nextV B] 71))
  generalize w.alloc (.cells #[nextV B] 71) = w1 at *
  have HSZ1 := Lib.hid s1
  clear s1
  go_upto_region 4 with fail
  have b2 : Below w1.heap.size w1 (w1.alloc (.cells #[.nilFunc] 90)) := (Below.refl _ _).alloc (Nat.le_refl _) _
  have q2 : (w1.alloc (.cells #[.nilFunc] 90)).heap[w1.heap.size]? = some (.cells #[.nilFunc] 90 (0, 0)) := heap_alloc_new _ _
  change Code.wp _ _ _ _ (w1.alloc (.cells #[.nilFunc] 90))
  have q1' := wk.row_below q1 b2
  have b := b1.trans (b2.mono b1.size)
  generalize w1.alloc (.cells #[.nilFunc] 90) = w2 at *
  have hlt := HN.out.lt
  generalize hG1 : w1.heap.size = G1 at *
  generalize hG : w.heap.size = G at *
  have HG := Lib.hid hG
  have HG1 : Hid (G1 = G + 1) := HSZ1.out
  have HB2 := Lib.hid b
  have Q1 := Lib.hid q1'
  have Q2 := Lib.hid q2
  clear q1 q2 q1' b1 b2 b hG hG1 HSZ1 hc1
  go_upto_region 5 with (refine wpList_store_oneTo rfl 90 (.tmp 7) (.tmp 15) rfl rfl G1 (rootsF (H + 1 + 1) G1 G) rfl rfl rfl 90 .nilFunc Q2.out infoRF2 ?_)
  have hg1 := HG1.out
  have hk3 : Keep B w (w2.setRow G1 #[rootsF (H + 1 + 1) G1 G]) := (Keep.of (by rw [HG.out]; exact HB2.out)).setNew (by have := HG.out; omega) _
  have hn3 : Nx B (w2.setRow G1 #[rootsF (H + 1 + 1) G1 G]) l false := (HN.out.next (by rw [HG.out]; exact HB2.out)).set (by omega) _
  have HS3 : Hid (ES B G1 G (rootsF (H + 1 + 1) G1 G) 90 [(H + 1 + 1, wp.bc old), (H + 1 + 1 + 1, wp.bc root)] w (l, false) (w2.setRow G1 #[rootsF (H + 1 + 1) G1 G])) :=
    ⟨setRow_heap _ _ _ _ _ _ Q2.out, by rw [heap_setRow_ne (by omega)]; exact Q1.out, by omega, by omega, by omega, by omega, hn3, HT.out.keep hB1 hk3 (by have := HG.out; omega), fun p hp => by
      simp only [List.mem_cons, List.not_mem_nil, or_false] at hp
      rcases hp with rfl | rfl
      · exact hk3.row H2.out (by omega) (by omega)
      · exact hk3.row H3.out (by omega) (by omega), fun p hp => by
      simp only [List.mem_cons, List.not_mem_nil, or_false] at hp
      rcases hp with rfl | rfl
      · show H + 1 + 1 ≠ B ∧ H + 1 + 1 ≠ B + 2
        omega
      · show H + 1 + 1 + 1 ≠ B ∧ H + 1 + 1 + 1 ≠ B + 2
        omega, hk3⟩
  have hcm := wk.cell_row1 (hk3.row H0.out (by omega) (by omega))
  have hcn := wk.cell_row1 (hk3.row H1.out (by omega) (by omega))
  generalize w2.setRow G1 #[rootsF (H + 1 + 1) G1 G] = w3 at *
  have hcf := wk.cell_row1 HS3.out.rf
  have HX2 := Lib.hid (HX.out (H + 1 + 1) G1 G)
  clear hk3 hn3 HN HT HX H0 H1 H2 H3 HB2 Q1 Q2 hg1
  unfold rootsF at hcf
  go_wp2_with fail
  refine (HX2.out w3 hm hmn hn40 (HS3.out.sub (by simp)).start).mono ?_
  rintro e w4 ⟨rfl, hn4, hk4⟩
  have HS4 := Lib.hid (HS3.out.turn (s' := r.2) hB1 hk4 hn4)
  have HGW : Hid (w3.heap.size ≤ w4.heap.size) := hk4.size
  have HGL : Hid (G1 < w3.heap.size) := wk.row_lt HS3.out.rf
  clear hn4 hk4 HS3 HX2 hcm hcn hcf
  have qa : ((w4.alloc (.cells hi.z16 31)).alloc (.cells hi.z16 31)).heap[w4.heap.size]? = some (.cells hi.z16 31 (0, 0)) := wk.row_below (zrow w4) (zbelow _)
  have sa : (w4.alloc (.cells hi.z16 31)).heap.size = w4.heap.size + 1 := Array.size_push ..
  have qb0 : ((w4.alloc (.cells hi.z16 31)).alloc (.cells hi.z16 31)).heap[w4.heap.size + 1]? = some (.cells hi.z16 31 (0, 0)) := by rw [← sa]; exact zrow _
  have qb : (((w4.alloc (.cells hi.z16 31)).alloc (.cells hi.z16 31)).setRow w4.heap.size (wp.bc r.1.1).toArray).heap[w4.heap.size + 1]? = some (.cells hi.z16 31 (0, 0)) := by rw [heap_setRow_ne (by omega)]; exact qb0
  have hltB := HS4.out.nx.lt
  have HS5 : Hid (ES B G1 G (rootsF (H + 1 + 1) G1 G) 90 [(w4.heap.size + 1, wp.bc r.1.2), (w4.heap.size, wp.bc r.1.1), (H + 1 + 1, wp.bc old), (H + 1 + 1 + 1, wp.bc root)] w r.2 ((((w4.alloc (.cells hi.z16 31)).alloc (.cells hi.z16 31)).setRow w4.heap.size (wp.bc r.1.1).toArray).setRow (w4.heap.size + 1) (wp.bc r.1.2).toArray)) :=
    ((((((HS4.out.next hB1 (zbelow _)).next hB1 (zbelow _)).row qb0 (by omega)).row qa (by omega)).setHead hB1 (by omega) (by have := HG.out; have := HGW.out; have := HGL.out; have := HG1.out; omega) (by have := HGL.out; have := HGW.out; omega) (by have := HGL.out; have := HGW.out; have := HG1.out; omega) (fun p hp => by simp only [List.mem_cons, List.not_mem_nil, or_false] at hp; rcases hp with rfl | rfl | rfl <;> (show _ ≠ w4.heap.size; omega)) (wp.bc r.1.1)).sub (Gs' := [(w4.heap.size + 1, zc), (w4.heap.size, wp.bc r.1.1), (H + 1 + 1, wp.bc old), (H + 1 + 1 + 1, wp.bc root)]) (fun p hp => by
      have hzc : hi.z16.toList = zc := rfl
      simp only [List.mem_cons, List.not_mem_nil, or_false] at hp ⊢
      rcases hp with h | h | h | h
      · exact Or.inr (Or.inl h)
      · exact Or.inl h
      · exact Or.inr (Or.inr (Or.inl h))
      · exact Or.inr (Or.inr (Or.inr h)))).setHead hB1 (by omega) (by have := HG.out; have := HGW.out; have := HGL.out; have := HG1.out; omega) (by have := HGL.out; have := HGW.out; omega) (by have := HGL.out; have := HGW.out; have := HG1.out; omega) (fun p hp => by simp only [List.mem_cons, List.not_mem_nil, or_false] at hp; rcases hp with rfl | rfl | rfl <;> (show _ ≠ w4.heap.size + 1; omega)) (wp.bc r.1.2)
  have hza := dv_size HR1.out
  have hzb := dv_size HR2.out
  have hzc : hi.z16.size = (wp.bc r.1.1).length := by rw [bc_len HR1.out]; rfl
  have hzd : hi.z16.size = (wp.bc r.1.2).length := by rw [bc_len HR2.out]; rfl
  have hoa := wk.ones_bc r.1.1
  have hob := wk.ones_bc r.1.2
  clear sa qb0 HS4
  unfold dv
  go_upto_region 6 with (first | (refine wk.store_row rfl 31 (.tmp 8) _ rfl w4.heap.size (wp.bc r.1.1) rfl rfl 31 hi.z16 qa hza hzc hoa ?_) | (refine wk.store_row rfl 31 (.tmp 9) _ rfl (w4.heap.size + 1) (wp.bc r.1.2) rfl rfl 31 hi.z16 qb hzb hzd hob ?_))
  change Code.wp _ _ _ _ ((((w4.alloc (.cells hi.z16 31)).alloc (.cells hi.z16 31)).setRow w4.heap.size (wp.bc r.1.1).toArray).setRow (w4.heap.size + 1) (wp.bc r.1.2).toArray)
  generalize (((w4.alloc (.cells hi.z16 31)).alloc (.cells hi.z16 31)).setRow w4.heap.size (wp.bc r.1.1).toArray).setRow (w4.heap.size + 1) (wp.bc r.1.2).toArray = w5 at *
  generalize w4.heap.size = g at *
  have hq8 := HS5.out.rows (g, wp.bc r.1.1) (by simp)
  have hq9 := HS5.out.rows (g + 1, wp.bc r.1.2) (by simp)
  have hqo := HS5.out.rows (H + 1 + 1, wp.bc old) (by simp)
  have hqr := HS5.out.rows (H + 1 + 1 + 1, wp.bc root) (by simp)
  have hz8 := dv_sizeA HR1.out
  have hz9 := dv_sizeA HR2.out
  have hzo := dv_sizeA hold
  have hzr := dv_sizeA hroot
  have heq1 := eq_dv w5 r.1.1 old HR1.out hold
  have heq2 := eq_dv w5 r.1.2 root HR2.out hroot
  clear qa qb hza hzb hzc hzd hoa hob
  cases hb1 : (r.1.1 == old)
  · rw [hb1] at heq1
    have HBb := Lib.hid hb1
    clear hb1
    go_wp2_with (first | (refine wpList_load_row rfl 31 (.tmp 8) rfl g rfl 31 (wp.bc r.1.1).toArray (0, 0) _ hq8 Tryd.underlying31 rfl hz8 ?_) | (refine wpList_load_row rfl 31 (.tmp 2) rfl (H + 1 + 1) rfl 31 (wp.bc old).toArray (0, 0) _ hqo Tryd.underlying31 rfl hzo ?_) | (refine wk.list_run rfl (some 25) rfl (.bool false) (wk.op_eq rfl rfl rfl eqGD heq1) ?_))
    go_ret
    exact ⟨by rw [HBb.out]; rfl, HS5.out.nx, HS5.out.keep⟩
  · rw [hb1] at heq1
    have HBb := Lib.hid hb1
    clear hb1
    go_wp2_with (first | (refine wpList_load_row rfl 31 (.tmp 8) rfl g rfl 31 (wp.bc r.1.1).toArray (0, 0) _ hq8 Tryd.underlying31 rfl hz8 ?_) | (refine wpList_load_row rfl 31 (.tmp 2) rfl (H + 1 + 1) rfl 31 (wp.bc old).toArray (0, 0) _ hqo Tryd.underlying31 rfl hzo ?_) | (refine wk.list_run rfl (some 25) rfl (.bool true) (wk.op_eq rfl rfl rfl eqGD heq1) ?_) | (refine wk.load_due rfl 31 (.tmp 9) rfl (g + 1) rfl 31 (wp.bc r.1.2).toArray (0, 0) _ hq9 Tryd.underlying31 rfl hz9 ?_) | (refine wk.load_due rfl 31 (.tmp 4) rfl (H + 1 + 1 + 1) rfl 31 (wp.bc root).toArray (0, 0) _ hqr Tryd.underlying31 rfl hzr ?_) | (refine wk.list_run_due rfl (some 29) rfl (.bool (r.1.2 == root)) (wk.op_eq rfl rfl rfl eqGD heq2) ?_))
    go_ret
    exact ⟨by rw [HBb.out]; rfl, HS5.out.nx, HS5.out.keep⟩
end Go.Proofs.YtmjmkkdmphgdnaaDoor.mk
/- CheckConsistency, the function. -/
namespace Go.Proofs.YtmjmkkdmphgdnaaDoor.mk

open Go.ChangeShapes Go.WideShapes Go.ChangeAt Go.RowKit

set_option linter.unusedVariables false
/-- the whole check -/
noncomputable def chkC (m n : Int) (old root : D) (l : List D) : Bool := if 0 ≤ m ∧ m ≤ n ∧ n ≤ 1099511627776 then (if m = 0 then (old == emptyD) && l.isEmpty else ((kcD old n.toNat m.toNat true (l, false)).1.1 == old && (kcD old n.toNat m.toNat true (l, false)).1.2 == root) && !(kcD old n.toNat m.toNat true (l, false)).2.2 && (kcD old n.toNat m.toNat true (l, false)).2.1.isEmpty) else false
set_option maxRecDepth 100000 in
set_option maxHeartbeats 4000000 in
theorem chkC_calls (old root : D) (hold : old.length = 16) (hroot : root.length = 16) (m n : Int) (A : Option Addr) (np c : Nat) (l : List D) (w : World) (h : IsD w A np c l) (hT : Tab w) :
    Calls Tryd.prog 30 #[.int .i64 m, .int .i64 n, dv old, dv root, .slice A np c] w fun e w' => e = .returned (.bool (chkC m n old root l)) ∧ Below w.heap.size w w' := by
  have HI := Lib.hid h
  have HT := Lib.hid hT
  have hmf := fun (fn : Fn) (first cap : Array Value) (w : World) => hmf (P := Tryd.prog) fn first cap w
  have hza := dv_size hold
  have hzb := dv_size hroot
  have hoa := wk.ones_bc old
  have hob := wk.ones_bc root
  have HLF := Lib.hid hold
  have HRT := Lib.hid hroot
  unfold dv
  clear h hT hold hroot
  go_enter Tryd.func30, Tryd.ntmps30
  go_upto_region 1 with fail
  change Code.wp _ _ _ _ ((((w.alloc (.cells #[.int .i64 m] 3)).alloc (.cells #[.int .i64 n] 3)).alloc (.cells (wp.bc old).toArray 31)).alloc (.cells (wp.bc root).toArray 31))
  have b1 : Below w.heap.size w (w.alloc (.cells #[.int .i64 m] 3)) := (Below.refl _ _).alloc (Nat.le_refl _) _
  have q1 : (w.alloc (.cells #[.int .i64 m] 3)).heap[w.heap.size]? = some (.cells #[.int .i64 m] 3 (0, 0)) := heap_alloc_new _ _
  have s1 : (w.alloc (.cells #[.int .i64 m] 3)).heap.size = w.heap.size + 1 := Array.size_push ..
  generalize w.alloc (.cells #[.int .i64 m] 3) = w1 at *
  have b2 : Below w1.heap.size w1 (w1.alloc (.cells #[.int .i64 n] 3)) := (Below.refl _ _).alloc (Nat.le_refl _) _
  have q2 : (w1.alloc (.cells #[.int .i64 n] 3)).heap[w1.heap.size]? = some (.cells #[.int .i64 n] 3 (0, 0)) := heap_alloc_new _ _
  have s2 : (w1.alloc (.cells #[.int .i64 n] 3)).heap.size = w1.heap.size + 1 := Array.size_push ..
  generalize w1.alloc (.cells #[.int .i64 n] 3) = w2 at *
  have b3 : Below w2.heap.size w2 (w2.alloc (.cells (wp.bc old).toArray 31)) := (Below.refl _ _).alloc (Nat.le_refl _) _
  have q3 : (w2.alloc (.cells (wp.bc old).toArray 31)).heap[w2.heap.size]? = some (.cells (wp.bc old).toArray 31 (0, 0)) := heap_alloc_new _ _
  have s3 : (w2.alloc (.cells (wp.bc old).toArray 31)).heap.size = w2.heap.size + 1 := Array.size_push ..
  generalize w2.alloc (.cells (wp.bc old).toArray 31) = w3 at *
  have b4 : Below w3.heap.size w3 (w3.alloc (.cells (wp.bc root).toArray 31)) := (Below.refl _ _).alloc (Nat.le_refl _) _
  have q4 : (w3.alloc (.cells (wp.bc root).toArray 31)).heap[w3.heap.size]? = some (.cells (wp.bc root).toArray 31 (0, 0)) := heap_alloc_new _ _
  have s4 : (w3.alloc (.cells (wp.bc root).toArray 31)).heap.size = w3.heap.size + 1 := Array.size_push ..
  generalize w3.alloc (.cells (wp.bc root).toArray 31) = w4 at *
  have q1' := wk.row_below (wk.row_below (wk.row_below q1 b2) b3) b4
  have q2' := wk.row_below (wk.row_below q2 b3) b4
  have q3' := wk.row_below q3 b4
  have b := ((b1.trans (b2.mono (by omega))).trans (b3.mono (by omega))).trans (b4.mono (by omega))
  rw [s3, s2, s1] at q4
  rw [s2, s1] at q3'
  rw [s1] at q2'
  have hsz : w4.heap.size = w.heap.size + 1 + 1 + 1 + 1 := by omega
  clear q1 q2 q3 b1 b2 b3 b4 s1 s2 s3 s4
  have HB4 := Lib.hid b
  have Q1 := Lib.hid q1'
  have Q2 := Lib.hid q2'
  have Q3 := Lib.hid q3'
  have Q4 := Lib.hid q4
  have HSZ := Lib.hid hsz
  have HI4 := Lib.hid (HI.out.below b)
  have HT4 := Lib.hid (HT.out.next b)
  have h1H := HT.out.1.1
  generalize hH : w.heap.size = H at *
  have HH := Lib.hid hH
  have hc2 := wk.cell_row1 Q1.out
  have hc3 := wk.cell_row1 Q2.out
  clear b q1' q2' q3' q4 hsz hH HI HT hza hzb hoa hob
  by_cases hok : 0 ≤ m ∧ m ≤ n ∧ n ≤ 1099511627776
  · obtain ⟨hi0, hin, hn40⟩ := hok
    obtain ⟨mN, rfl⟩ : ∃ k : Nat, m = k := ⟨m.toNat, by omega⟩
    obtain ⟨nN, rfl⟩ : ∃ k : Nat, n = k := ⟨n.toNat, by omega⟩
    by_cases hm0 : mN = 0
    · subst hm0
      have hE : chkC (0 : Nat) nN old root l = ((old == emptyD) && l.isEmpty) := by unfold chkC; rw [if_pos ⟨hi0, hin, hn40⟩]; exact if_pos rfl
      have HE := Lib.hid hE
      clear hE
      have HLD : Hid (∀ w5, Nx w4.heap.size w5 l false → Below w4.heap.size w4 w5 → Calls Tryd.prog 57 (#[nextV w4.heap.size] ++ #[.pointer (some ⟨H, 0, none⟩), .pointer (some ⟨H + 1 + 1, 0, none⟩), .pointer (some ⟨H + 1, 0, none⟩), .pointer (some ⟨H + 1 + 1 + 1, 0, none⟩)]) w5 fun e w6 => e = .returned (.bool (old == emptyD)) ∧ Nx w4.heap.size w6 l false ∧ Keep w4.heap.size w5 w6) :=
        fun w5 hn5 hb5 => leadC0_calls w4.heap.size H (by have := HSZ.out; omega) old HLF.out l w5 (by have := HSZ.out; omega) hn5 (HT4.out.next hb5) (wk.row_below Q1.out hb5) (wk.row_below Q3.out hb5)
      go_wp2_with fail
      refine (through_calls A np c l 57 #[.pointer (some ⟨H, 0, none⟩), .pointer (some ⟨H + 1 + 1, 0, none⟩), .pointer (some ⟨H + 1, 0, none⟩), .pointer (some ⟨H + 1 + 1 + 1, 0, none⟩)] w4 HI4.out _ _ _ (fun vs w => by go_simp) HLD.out).mono ?_
      rintro e w6 ⟨rfl, hb6⟩
      have HB6 := Lib.hid hb6
      clear hb6
      go_wp2_with fail
      go_ret
      refine ⟨by rw [HE.out]; rfl, ?_⟩
      rw [HH.out]
      exact HB4.out.trans (HB6.out.mono (by have := HSZ.out; omega))
    · have hE : chkC mN nN old root l = (((kcD old nN mN true (l, false)).1.1 == old && (kcD old nN mN true (l, false)).1.2 == root) && !(kcD old nN mN true (l, false)).2.2 && (kcD old nN mN true (l, false)).2.1.isEmpty) := by unfold chkC; rw [if_pos ⟨hi0, hin, hn40⟩, if_neg (by omega), Int.toNat_natCast, Int.toNat_natCast]
      have HE := Lib.hid hE
      clear hE
      have HLD : Hid (∀ w5, Nx w4.heap.size w5 l false → Below w4.heap.size w4 w5 → Calls Tryd.prog 57 (#[nextV w4.heap.size] ++ #[.pointer (some ⟨H, 0, none⟩), .pointer (some ⟨H + 1 + 1, 0, none⟩), .pointer (some ⟨H + 1, 0, none⟩), .pointer (some ⟨H + 1 + 1 + 1, 0, none⟩)]) w5 fun e w6 => e = .returned (.bool ((kcD old nN mN true (l, false)).1.1 == old && (kcD old nN mN true (l, false)).1.2 == root)) ∧ Nx w4.heap.size w6 (kcD old nN mN true (l, false)).2.1 (kcD old nN mN true (l, false)).2.2 ∧ Keep w4.heap.size w5 w6) :=
        fun w5 hn5 hb5 => leadC1_calls w4.heap.size H (by have := HSZ.out; omega) old root HLF.out HRT.out mN nN (by omega) (by omega) (by omega) l w5 (by have := HSZ.out; omega) hn5 (HT4.out.next hb5) (wk.row_below Q1.out hb5) (wk.row_below Q2.out hb5) (wk.row_below Q3.out hb5) (wk.row_below Q4.out hb5)
      go_wp2_with fail
      refine (through_calls A np c l 57 #[.pointer (some ⟨H, 0, none⟩), .pointer (some ⟨H + 1 + 1, 0, none⟩), .pointer (some ⟨H + 1, 0, none⟩), .pointer (some ⟨H + 1 + 1 + 1, 0, none⟩)] w4 HI4.out _ _ _ (fun vs w => by go_simp) HLD.out).mono ?_
      rintro e w6 ⟨rfl, hb6⟩
      have HB6 := Lib.hid hb6
      clear hb6
      go_wp2_with fail
      go_ret
      refine ⟨by rw [HE.out]; rfl, ?_⟩
      rw [HH.out]
      exact HB4.out.trans (HB6.out.mono (by have := HSZ.out; omega))
  · have hE : chkC m n old root l = false := by unfold chkC; rw [if_neg hok]
    have HE := Lib.hid hE
    clear hE
    rcases (by omega : m < 0 ∨ (¬ m < 0 ∧ n < m) ∨ (¬ m < 0 ∧ ¬ n < m ∧ 1099511627776 < n)) with h1 | ⟨h1, h2⟩ | ⟨h1, h2, h3⟩
    all_goals
      clear hok
      go_wp2_with fail
      go_ret
      refine ⟨by rw [HE.out]; rfl, ?_⟩
      rw [HH.out]
      exact HB4.out
end Go.Proofs.YtmjmkkdmphgdnaaDoor.mk
/- Places: searching among ascending integers. -/
namespace Go.Proofs.YtmjmkkdmphgdnaaDoor.mk

open Go.ChangeShapes Go.WideShapes Go.ChangeAt Go.RowKit

set_option linter.unusedVariables false
/-- a slice of integers -/
structure IsZ (w : World) (A : Option Addr) (n c : Nat) (p : List Int) : Prop where
  len : p.length = n
  le : n ≤ c
  cap : c ≤ maxLen
  mem : wp.RC w A (p.map (Value.int .i64))
  rng : ∀ x ∈ p, -9223372036854775808 ≤ x ∧ x ≤ 9223372036854775807
theorem IsZ.below {w w' : World} {A : Option Addr} {n c : Nat} {p : List Int} (h : IsZ w A n c p) (hb : Below w.heap.size w w') : IsZ w' A n c p := ⟨h.len, h.le, h.cap, h.mem.below hb, h.rng⟩
def Asc (p : List Int) : Prop := ∀ (i j : Nat) (a b : Int), i < j → p[i]? = some a → p[j]? = some b → a < b
/-- how many of them are below a number -/
def cnt (p : List Int) (x : Int) : Nat := (p.takeWhile fun y => decide (y < x)).length
theorem cnt_of : ∀ (p : List Int) (x : Int) (k : Nat), k ≤ p.length → (∀ i a, i < k → p[i]? = some a → a < x) → (∀ a, p[k]? = some a → ¬ a < x) → cnt p x = k
  | [], x, k, h, _, _ => by simp at h; subst h; rfl
  | y :: r, x, 0, h, _, h2 => by
    have := h2 y rfl
    unfold cnt
    rw [List.takeWhile_cons_of_neg (by simpa using this)]; rfl
  | y :: r, x, k + 1, h, h1, h2 => by
    have := h1 0 y (by omega) rfl
    unfold cnt
    rw [List.takeWhile_cons_of_pos (by simpa using this), List.length_cons]
    have := cnt_of r x k (by simpa using h) (fun i a hi ha => h1 (i + 1) a (by omega) (by simpa using ha)) (fun a ha => h2 a (by simpa using ha))
    unfold cnt at this
    rw [this]
theorem cnt_le (p : List Int) (x : Int) : cnt p x ≤ p.length := by
  unfold cnt
  exact (List.takeWhile_sublist _).length_le
theorem IsZ.load {w : World} {A : Option Addr} {n c : Nat} {p : List Int} (h : IsZ w A n c p) {i : Int} (h0 : 0 ≤ i) {x : Int} (hi : p[i.toNat]? = some x) :
    ∃ ad, (∀ w', (Instr.indexAt 37 (.slice A n c) (.int .i64 i)).run Tryd.prog w' = .ok (.pointer (some ad)) w') ∧ ∀ w', Below w.heap.size w w' → w'.cell? ad = some (.int .i64 x) := by
  have hil : i.toNat < p.length := by
    rcases Nat.lt_or_ge i.toNat p.length with h' | h'
    · exact h'
    · rw [List.getElem?_eq_none h'] at hi; cases hi
  obtain ⟨b, o, rfl, hb, hc⟩ := h.mem (by rw [List.length_map]; omega)
  have hu : Tryd.prog.underlying 37 = some (.slice (Tryd.prog.elem 37)) := by kernel_rfl
  have he : Tryd.prog.elem 37 = 3 := by kernel_rfl
  have hs : (Tryd.prog.info? 3).map (·.size) = some 1 := by kernel_rfl
  refine ⟨⟨b, o + i.toNat, none⟩, fun w' => ?_, fun w' hb' => ?_⟩
  · rw [run_indexAt_slice _ _ _ _ _ _ _ hu, he, if_pos ⟨h0, by rw [← h.len]; omega⟩, wk.run_sizeOf w' _ _ hs, Result.andThen_ok, wk.add_at, Nat.mul_one]
  · exact (hb'.cell (p := ⟨b, o + i.toNat, none⟩) hb).trans (hc i.toNat _ (by rw [List.getElem?_map, hi]; rfl))
set_option maxRecDepth 100000 in
set_option maxHeartbeats 4000000 in
theorem less_calls (a b : Int) (w : World) : Calls Tryd.prog 77 #[.int .i64 a, .int .i64 b] w fun e w' => e = .returned (.bool (decide (a < b))) ∧ w' = w := by
  go_enter Tryd.func77, Tryd.ntmps77
  go_wp2
  go_ret
  exact ⟨rfl, rfl⟩
theorem asc_cut {p : List Int} {x : Int} (h : Asc p) {m : Nat} {a : Int} (hm : p[m]? = some a) (ha : a < x) : ∀ i b, i < m + 1 → p[i]? = some b → b < x := fun i b hi hb => by
  rcases Nat.lt_or_ge i m with h1 | h1
  · have := h i m b a h1 hb hm; omega
  · have : i = m := by omega
    subst this; rw [hb] at hm; cases hm; exact ha
theorem asc_cut2 {p : List Int} {x : Int} (h : Asc p) {m : Nat} {a : Int} (hm : p[m]? = some a) (ha : ¬ a < x) : ∀ i b, m ≤ i → p[i]? = some b → ¬ b < x := fun i b hi hb => by
  rcases Nat.lt_or_ge m i with h1 | h1
  · have := h m i a b h1 hm hb; omega
  · have : i = m := by omega
    subst this; rw [hb] at hm; cases hm; exact ha
set_option maxRecDepth 100000 in
set_option maxHeartbeats 4000000 in
theorem search_calls (A : Option Addr) (n c : Nat) (p : List Int) (x : Int) (w : World) (h : IsZ w A n c p) (hA : Asc p) (hn : n ≤ 1099511627776) :
    Calls Tryd.prog 66 #[.slice A n c, .int .i64 x] w fun e w' => (∃ v, e = .returned (.tuple #[.int .i64 (cnt p x), v])) ∧ w' = w := by
  have HI := Lib.hid h
  have HA := Lib.hid hA
  have hlen := h.len
  clear h hA
  go_enter Tryd.func66, Tryd.ntmps66
  go_wp2_with fail
  go_loopg [7, 8] n (fun g u v wr => ∃ (lo hi : Nat), lo + g = hi ∧ hi ≤ n ∧ u = .int .i64 lo ∧ v = .int .i64 hi ∧ (∀ (i : Nat) (b : Int), i < lo → p[i]? = some b → b < x) ∧ (∀ (i : Nat) (b : Int), hi ≤ i → p[i]? = some b → ¬ b < x) ∧ wr = w)
  case atStart => exact ⟨0, n, by omega, Nat.le_refl _, rfl, rfl, fun i b hi _ => absurd hi (Nat.not_lt_zero _), (fun i b hi hb => by rw [List.getElem?_eq_none (by omega)] at hb; cases hb), rfl⟩
  case round =>
    obtain ⟨lo, hi, hg, hhi, rfl, rfl, h1, h2, rfl⟩ := hrel
    have H1 := Lib.hid h1
    have H2 := Lib.hid h2
    clear h1 h2
    by_cases hlt : lo < hi
    · have hsum : bits .shr .u64 0 0 = bits .shr .u64 0 0 := rfl
      have hmid : (lo + hi) / 2 < n := by omega
      have hpm : p[(lo + hi) / 2]? = some (p[(lo + hi) / 2]'(by omega)) := List.getElem?_eq_getElem (by omega)
      generalize p[(lo + hi) / 2]'(by omega) = a at *
      obtain ⟨ad, hix, hld⟩ := HI.out.load (i := ((lo : Int) + hi) / 2) (by omega) (x := a) (by rw [show (((lo : Int) + hi) / 2).toNat = (lo + hi) / 2 by omega]; exact hpm)
      have hcell := hld _ (Below.refl _ _)
      have HPM := Lib.hid hpm
      have HMID := Lib.hid hmid
      clear hpm hld hmid
      by_cases hax : a < x
      · go_wp2_with (go_at_call 77; refine (less_calls _ _ _).mono ?_; rintro e w' ⟨rfl, hw'⟩; rw [hw']; clear hw')
        go_roundg (hi - ((lo + hi) / 2 + 1))
        case measure => omega
        case rel => exact ⟨(lo + hi) / 2 + 1, hi, by omega, hhi, by go_num, rfl, asc_cut HA.out HPM.out hax, H2.out, rfl⟩
      · go_wp2_with (go_at_call 77; refine (less_calls _ _ _).mono ?_; rintro e w' ⟨rfl, hw'⟩; rw [hw']; clear hw')
        go_roundg ((lo + hi) / 2 - lo)
        case measure => omega
        case rel => exact ⟨lo, (lo + hi) / 2, by omega, by omega, rfl, by go_num, H1.out, fun i b hi' hb => by have := asc_cut2 (x := x) HA.out HPM.out (by omega) i b hi' hb; omega, rfl⟩
    · have hlh : lo = hi := by omega
      subst hlh
      have hcnt : cnt p x = lo := cnt_of p x lo (by omega) (fun i a hi ha => H1.out i a hi ha) (fun a ha => H2.out lo a (Nat.le_refl _) ha)
      have HC := Lib.hid hcnt
      clear hcnt
      by_cases hln : lo < n
      · have hpm : p[lo]? = some (p[lo]'(by omega)) := List.getElem?_eq_getElem (by omega)
        generalize p[lo]'(by omega) = a at *
        obtain ⟨ad, hix, hld⟩ := HI.out.load (i := (lo : Int)) (by omega) (x := a) (by rw [Int.toNat_natCast]; exact hpm)
        have hcell := hld _ (Below.refl _ _)
        clear hpm hld
        by_cases hax : a = x
        · go_wp2_with fail
          go_ret2
          exact ⟨⟨_, by rw [HC.out]; rfl⟩, rfl⟩
        · go_wp2
          all_goals (go_ret2; exact ⟨⟨_, by rw [HC.out]; rfl⟩, rfl⟩)
      · go_wp2_with fail
        go_ret2
        exact ⟨⟨_, by rw [HC.out]; rfl⟩, rfl⟩
set_option maxRecDepth 100000 in
set_option maxHeartbeats 4000000 in
theorem countBelow_calls (A : Option Addr) (n c : Nat) (p : List Int) (x : Int) (w : World) (h : IsZ w A n c p) (hA : Asc p) (hn : n ≤ 1099511627776) :
    Calls Tryd.prog 44 #[.slice A n c, .int .i64 x] w fun e w' => e = .returned (.int .i64 (cnt p x)) ∧ w' = w := by
  have HS := Lib.hid (search_calls A n c p x w h hA hn)
  clear h hA
  go_enter Tryd.func44, Tryd.ntmps44
  go_wp2_with fail
  refine HS.out.mono ?_
  rintro e w' ⟨⟨b, rfl⟩, rfl⟩
  go_wp2_with fail
  go_ret
  exact ⟨rfl, rfl⟩
/-- they are strictly ascending positions -/
def places (n : Int) : Int → List Int → Bool
  | _, [] => true
  | least, x :: r => if x < least ∨ n ≤ x then false else places n (x + 1) r
set_option maxRecDepth 100000 in
set_option maxHeartbeats 4000000 in
theorem places_calls (A : Option Addr) (m c : Nat) (p : List Int) (n : Int) (w : World) (h : IsZ w A m c p) (hn : n ≤ 9223372036854775806) (hm : m ≤ 1099511627776) :
    Calls Tryd.prog 42 #[.slice A m c, .int .i64 n] w fun e w' => e = .returned (.bool (places n 0 p)) ∧ w' = w := by
  have HI := Lib.hid h
  have hlen := h.len
  clear h
  go_enter Tryd.func42, Tryd.ntmps42
  go_wp2_with fail
  go_loopg [5, 10] m (fun g u v wr => ∃ (k : Nat) (least : Int), k + g = m ∧ u = .int .i64 least ∧ v = .int .i64 k ∧ -1 ≤ least ∧ least ≤ 9223372036854775807 ∧ places n 0 p = places n least (p.drop k) ∧ wr = w)
  case atStart => exact ⟨0, 0, by omega, rfl, rfl, by omega, by omega, rfl, rfl⟩
  case round =>
    obtain ⟨k, least, hk, rfl, rfl, hl0, hl1, hpl, rfl⟩ := hrel
    by_cases hkm : k < m
    · have hpm : p[k]? = some (p[k]'(by omega)) := List.getElem?_eq_getElem (by omega)
      have hdr : p.drop k = p[k]'(by omega) :: p.drop (k + 1) := List.drop_eq_getElem_cons (by omega)
      generalize p[k]'(by omega) = a at *
      rw [hdr, places] at hpl
      obtain ⟨ad, hix, hld⟩ := HI.out.load (i := (k : Int)) (by omega) (x := a) (by rw [Int.toNat_natCast]; exact hpm)
      have hcell := hld _ (Below.refl _ _)
      have HPL := Lib.hid hpl
      clear hpm hld hdr hpl
      by_cases hal : a < least
      · go_wp2_with fail
        go_ret
        exact ⟨by rw [HPL.out, if_pos (Or.inl hal)]; rfl, rfl⟩
      · by_cases han : n ≤ a
        · go_wp2_with fail
          go_ret
          exact ⟨by rw [HPL.out, if_pos (Or.inr han)]; rfl, rfl⟩
        · go_wp2_with fail
          go_roundg (m - (k + 1))
          case measure => omega
          case rel => exact ⟨k + 1, a + 1, by omega, rfl, by go_num, by omega, by omega, by rw [HPL.out, if_neg (by omega)], rfl⟩
    · have hkm2 : k = m := by omega
      subst hkm2
      rw [List.drop_eq_nil_of_le (by omega)] at hpl
      have HPL := Lib.hid hpl
      clear hpl
      go_wp2_with fail
      go_ret
      exact ⟨by rw [HPL.out]; rfl, rfl⟩
end Go.Proofs.YtmjmkkdmphgdnaaDoor.mk
