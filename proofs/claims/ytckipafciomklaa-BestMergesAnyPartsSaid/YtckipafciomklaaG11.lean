/- Joined: Ho Hp Hq Hr. -/
import Derived.Test.YtckipafciomklaaG10

import Derived.Laws.AppendOwn

import Derived.Lib.AppendZerosOnto

import Derived.Lib.SliceRun
/- merge. -/
namespace Go.Proofs.Ytckipafciomklaa.bk

open Go.ChangeShapes Go.WideShapes Go.ChangeAt Go.RowKit

open Go.Proofs.Ytckipafciomklaa.bq Go.Proofs.Ytckipafciomklaa.vk Go.Proofs.Ytckipafciomklaa.wk

set_option linter.unusedVariables false
/-- an append to a row of one's own: it stays where it is, or lies anew -/
theorem does_append_t {P : Program} {Q : Exit → Act → World → Prop} {o : Oper} {E : Operand → Value} {w : World} {R : World → Value → Prop} (s x : Operand) (t : TypeId) (ho : o.op = .call { callee := .builtin .append, args := #[s, x], argTypes := #[t, t] })
    (base : Nat) (e : TypeId) (i : TypeInfo) (z : Value) (size bytes : Nat) (ht : P.underlying t = some (.slice e)) (hi : P.info? e = some i) (hz : i.zero = some z)
    (hsize : i.size = size) (hby : i.bytes = bytes) (hzs : z.cells.size = size) (hsz : 0 < size)
    (v : Value) (n : Nat) (xs : List Value) (hs : E s = v) (hown : w.ownsRow base e size v n xs)
    (ad : Addr) (c : Nat) (news : List Value) (hx : E x = .slice (some ad) 1 c) (hl : news.length = 1 * size) (hnews : ∀ j u, news[j]? = some u → w.cell? (ad.add j) = some u) (h1 : ∀ u ∈ news, u.oneCell' = true)
    (hn : n ≤ 1000) (hb1 : bytes ≤ 1000) (hbase : base ≤ w.heap.size)
    (hR : ∀ v' w', w'.ownsRow base e size v' (n + 1) (xs ++ news) → w.grownBy w' v.ownBlock → (v'.ownBlock = v.ownBlock ∨ v'.ownBlock = some w.heap.size) → R w' v') : DoesT P Q o E w R := by
  subst hsize
  subst hby
  have hbytes : (n + 1) * i.bytes ≤ 140737488355328 := by
    have := Nat.mul_le_mul (show n + 1 ≤ 1001 by omega) hb1
    omega
  obtain ⟨v', w', hr, h2, h3, -⟩ := run_append_own (P := P) w base t o.type e i z i.size i.bytes ht hi hz rfl rfl hzs hsz v n xs hown ad 1 c news hl hnews h1 (by unfold maxLen; omega) hbytes hbase
  have hb : v'.ownBlock = v.ownBlock ∨ v'.ownBlock = some w.heap.size := by
    rcases hown.2 with ⟨rfl, rfl⟩ | ⟨g, cap, cur, rfl, hbg, hg, hnc, hcm, hcs, htake⟩
    · have hr2 := run_append_nil (P := P) w t o.type e i z ht hi hz ad 1 c news hl hnews (by omega) (by omega) (by simp only [Nat.zero_add] at hbytes; omega)
      rw [hr2] at hr
      injection hr with e1 e2
      right; rw [← e1]; rfl
    · by_cases hroom : n + 1 ≤ cap
      · have hfit : n * i.size + news.length ≤ cur.size := by rw [hl, hcs, ← Nat.add_mul]; exact Nat.mul_le_mul_right _ hroom
        have hr2 := run_append_room (P := P) w t o.type e i ht hi g n cap cur hg ad 1 c news hl hnews h1 hroom hfit
        rw [hr2] at hr
        injection hr with e1 e2
        left; rw [← e1]; rfl
      · have hr2 := run_append_grow (P := P) w t o.type e i z ht hi hz ⟨g, 0, none⟩ n cap xs hown.1 (hown.cells (g := g) rfl) ad 1 c news hl hnews (by omega) (by omega) (growslice_fits (by omega) hbytes)
        rw [hr2] at hr
        injection hr with e1 e2
        right; rw [← e1]; rfl
  refine wk.does_new_t (v := v') (w' := w') ?_ (hR v' w' h2 h3 hb)
  unfold execOp
  simp only [ho, resolve, invoke, builtin, Sem.run_bind, Sem.run_pure, Result.andThen_ok, List.map_toArray, List.map_cons, List.map_nil, hs, hx, hr]
def tlA (A : Option Addr) (c : Nat) : Option Addr := if c = 1 then A else A.map (·.add 3)
theorem isH_tail {w : World} {A : Option Addr} {n c : Nat} {l : List H} (h : IsH w A n c l) (h1 : 1 ≤ n) : IsH w (tlA A c) (n - 1) (c - 1) (l.drop 1) := by
  have hnc := h.2.1
  obtain ⟨b, o, rfl⟩ := isH_some h (by omega)
  refine ⟨by rw [List.length_drop, h.1], by omega, by have := h.2.2.1; omega, ?_, fun r hr => h.2.2.2.2.1 r (List.mem_of_mem_drop hr), fun e => ?_⟩
  · intro hlt
    obtain ⟨b', o', e, hb, hc⟩ := h.2.2.2.1 (by rw [fl_length, h.1]; omega)
    cases e
    have hd : fl (l.drop 1) = (fl l).drop 3 := (fl_drop l 1).symm
    rw [hd, List.length_drop, fl_length, h.1] at hlt
    have hc1 : c ≠ 1 := by omega
    refine ⟨b, o + 3, by unfold tlA; rw [if_neg hc1]; simp [wk.add_at], hb, fun j u hu => ?_⟩
    rw [hd, List.getElem?_drop] at hu
    rw [Nat.add_assoc]
    exact hc _ _ hu
  · unfold tlA at e
    split at e
    · cases e
    · cases e
theorem run_tl1 (w' : World) (A : Option Addr) (n c : Nat) (h1 : 1 ≤ n) (hc : n ≤ c) : (Instr.slice 22 (.slice A n c) (some (.int .i64 1)) none none).run Try.prog w' = .ok (.slice (tlA A c) (n - 1) (c - 1)) w' := by
  have ht : Try.prog.underlying 22 = some (.slice (Try.prog.elem 22)) := by simp [Program.elem, Try.underlying22]
  have he : Try.prog.elem 22 = 27 := by simp [Program.elem, Try.underlying22]
  rw [run_slice_l w' 22 A n c ht .i64 1 (by omega) (by omega), he, wk.run_sizeOf w' 27 3 infoH1]
  simp [Result.andThen, sliced, tlA]
theorem run_tl1At (w' : World) (A : Option Addr) (n c : Nat) (h1 : 1 ≤ n) (hc : n ≤ c) : (Instr.sliceAt 22 (.slice A n c) (some (.int .i64 1)) none none).run Try.prog w' = .ok (.slice (tlA A c) (n - 1) (c - 1)) w' := by
  have ht : Try.prog.underlying 22 = some (.slice (Try.prog.elem 22)) := by simp [Program.elem, Try.underlying22]
  rw [run_sliceAt_slice _ 22 _ _ _ _ ht]
  exact run_tl1 w' A n c h1 hc
theorem isH_head {w : World} {b o n c : Nat} {l : List H} {x : H} (h : IsH w (some ⟨b, o, none⟩) n c l) (hx : l[0]? = some x) : ∀ j u, (rv x)[j]? = some u → w.cell? ((⟨b, o, none⟩ : Addr).add j) = some u := fun j u hu => by
  have hn : 0 < n := by rw [← h.1]; exact (List.getElem?_eq_some_iff.1 hx).1
  obtain ⟨b', o', r, e, h1, h2, h3, _, hr, _⟩ := isH_get h hn
  cases e
  rw [hx] at hr
  cases hr
  rw [wk.add_at]
  have hj : j < 3 := by have := (List.getElem?_eq_some_iff.1 hu).1; simpa [rv] using this
  have h4 : j = 0 ∨ j = 1 ∨ j = 2 := by omega
  rcases h4 with rfl | rfl | rfl
  · simp [rv] at hu; rw [← hu]; simpa using h1
  · simp [rv] at hu; rw [← hu]; simpa using h2
  · simp [rv] at hu; rw [← hu]; simpa using h3
def MR (B : Nat) (v : Value) (A : Option Addr) (n c : Nat) (p : Addr) (x0 : H) (d : List H) (Lv : Nat → Bool) (i : Nat) (w : World) (x : Value) : Prop :=
  match i with
  | 0 => x = v
  | 1 => x = .slice A n c
  | 2 => x = .pointer (some p)
  | 3 => x = .agg #[.int .i64 x0.1, .int .i64 x0.2.1, .int .i64 x0.2.2]
  | 4 => ∃ g, x = .slice (some ⟨g, 0, none⟩) 1 1 ∧ (Lv 5 = false → RowH w g x0)
  | 5 => w.ownsRow B 27 3 x (d.length + 1) (fl d ++ rv x0)
  | 6 => x = .slice A n c
  | 7 => x = .slice (tlA A c) (n - 1) (c - 1)
  | 8 => w.ownsRow B 27 3 x (d.length + 1) (fl d ++ rv x0)
  | 9 => x = .slice (tlA A c) (n - 1) (c - 1)
  | _ => True
def MRS (w0 : World) (v : Value) (d : List H) (Lv : Nat → Bool) (u : World) : Prop := Below w0.heap.size w0 u ∧ (Lv 5 = false → u.ownsRow w0.heap.size 27 3 v d.length (fl d)) ∧ (Lv 8 = true → Lv 0 = true ∧ Lv 5 = true) ∧ (Lv 9 = true → Lv 1 = true ∧ Lv 6 = true)
theorem MR.next {B : Nat} {v : Value} {A : Option Addr} {n c : Nat} {p : Addr} {x0 : H} {d : List H} {Lv Lv' : Nat → Bool} {i : Nat} {w w' : World} {x : Value} (e : Lv' 5 = Lv 5) (hb : Below w.heap.size w w') (h : MR B v A n c p x0 d Lv i w x) : MR B v A n c p x0 d Lv' i w' x := by
  unfold MR at h ⊢
  split at h
  · exact h
  · exact h
  · exact h
  · exact h
  · obtain ⟨g, h1, h2⟩ := h; exact ⟨g, h1, fun h3 => (h2 (e ▸ h3)).below hb⟩
  · exact keptB h hb
  · exact h
  · exact h
  · exact keptB h hb
  · exact h
  · trivial
theorem MR.app {B : Nat} {v : Value} {A : Option Addr} {n c : Nat} {p : Addr} {x0 : H} {d : List H} {Lv Lv' : Nat → Bool} {i : Nat} {w w' : World} {x : Value} (hi : i ≠ 5) (hi8 : i ≠ 8) (e : Lv' 5 = true) (h : MR B v A n c p x0 d Lv i w x) : MR B v A n c p x0 d Lv' i w' x := by
  unfold MR at h ⊢
  split at h
  · exact h
  · exact h
  · exact h
  · exact h
  · obtain ⟨g, h1, h2⟩ := h; exact ⟨g, h1, fun h3 => by rw [e] at h3; cases h3⟩
  · exact absurd rfl hi
  · exact h
  · exact h
  · exact absurd rfl hi8
  · exact h
  · trivial
theorem MRS.next {w0 : World} {v : Value} {d : List H} {Lv : Nat → Bool} {u u' : World} (i : Nat) (hi : i ≠ 5) (h8 : i = 8 → Lv 0 = true ∧ Lv 5 = true) (h9 : i = 9 → Lv 1 = true ∧ Lv 6 = true) (hb : Below u.heap.size u u') (h : MRS w0 v d Lv u) : MRS w0 v d (fun j => if j = i then true else Lv j) u' := by
  refine ⟨h.1.trans (hb.mono h.1.size), fun h3 => keptB (h.2.1 ?_) hb, fun h3 => ?_, fun h3 => ?_⟩
  · simpa [Ne.symm hi] using h3
  · by_cases e : i = 8
    · have := h8 e; simp [this.1, this.2]
    · have h4 : Lv 8 = true := by simpa [Ne.symm e] using h3
      have := h.2.2.1 h4; simp [this.1, this.2]
  · by_cases e : i = 9
    · have := h9 e; simp [this.1, this.2]
    · have h4 : Lv 9 = true := by simpa [Ne.symm e] using h3
      have := h.2.2.2 h4; simp [this.1, this.2]
theorem MRS.app {w0 : World} {v : Value} {d : List H} {Lv : Nat → Bool} {u u' : World} (hb : Below w0.heap.size w0 u') (h : MRS w0 v d Lv u) : MRS w0 v d (fun j => if j = 5 then true else Lv j) u' := by
  refine ⟨hb, fun h3 => by simp at h3, fun h3 => ?_, fun h3 => ?_⟩
  · have h4 : Lv 8 = true := by simpa using h3
    have := h.2.2.1 h4; simp [this.1]
  · have h4 : Lv 9 = true := by simpa using h3
    have := h.2.2.2 h4; simp [this.1, this.2]
set_option maxRecDepth 100000 in
set_option maxHeartbeats 4000000 in
theorem merge_calls {a b : List H} {A A' : Option Addr} {n c n' c' : Nat} (w : World) (h : IsH w A n c a) (h' : IsH w A' n' c' b) (hn : n + n' ≤ 1000) : Calls Try.prog 47 #[.slice A n c, .slice A' n' c', .func (.func 56) #[] #[]] w fun e w' => ∃ A2 n2 c2, e = .returned (.slice A2 n2 c2) ∧ IsH w' A2 n2 c2 (mg a b) ∧ Below w.heap.size w w' := by
  obtain ⟨i0, hi, hz0, hz1, hz2⟩ := info_parts infoHt
  have hm := h.2.2.1
  have hnc := h.2.1
  have hm' := h'.2.2.1
  have hnc' := h'.2.1
  have hnI : (i0.bytes : Nat) * (n + n') ≤ 281474976710656 := by rw [hz2]; omega
  obtain ⟨w1, hmk, hown, hgr⟩ := run_make_own (P := Try.prog) w w.heap.size 22 27 i0 (.agg #[.int .i64 0, .int .i64 0, .int .i64 0]) 3 Try.underlying22 hi hz0 hz1 .i64 .i64 (n + n') hnI (by unfold maxLen; omega) (Nat.le_refl _)
  have HB1 : Hid (Below w.heap.size w w1) := (Below.refl _ _).grown hgr (Nat.le_refl _) (fun k hk => by cases hk)
  have HOWN1 := Lib.hid hown
  have HA0 := Lib.hid h
  have HB0 := Lib.hid h'
  have HWA : Hid (∀ r ∈ mg a b, Wd r) := fun r hr => by
    rcases mem_mg.1 hr with hr | hr
    · exact h.2.2.2.2.1 r hr
    · exact h'.2.2.2.2.1 r hr
  have hcast : ((n : Int) + (n' : Int)) = ((n + n' : Nat) : Int) := by omega
  have hcast2 : (((n + n' : Nat) : Int)) = (n : Int) + (n' : Int) := by omega
  rw [hcast2] at hmk
  clear h h' hown hgr hcast hcast2
  go_enter Try.func47, Try.ntmps47
  go_wp2_with fail
  clear hmk
  go_loopg [0, 1, 7] (n + n') (fun gg s0 s1 s7 wr => ∃ (A1 A2 : Option Addr) (n1 c1 n2 c2 : Nat) (v : Value) (l1 l2 d : List H), s0 = .slice A1 n1 c1 ∧ s1 = .slice A2 n2 c2 ∧ v = s7 ∧ IsH w A1 n1 c1 l1 ∧ IsH w A2 n2 c2 l2 ∧ wr.ownsRow w.heap.size 27 3 v d.length (fl d) ∧ Below w.heap.size w wr ∧ mg a b = d ++ mg l1 l2 ∧ n1 + n2 ≤ gg ∧ n1 + n2 + d.length ≤ n + n')
  case atStart => exact ⟨_, _, _, _, _, _, _, a, b, [], rfl, rfl, rfl, HA0.out, HB0.out, by simpa [fl] using HOWN1.out, HB1.out, rfl, Nat.le_refl _, by simp⟩
  case round =>
    obtain ⟨A1, A2, n1, c1, n2, c2, v, l1, l2, d, rfl, rfl, rfl, h1, h2, how, hbel, hmg, hgg, hsum⟩ := hrel
    have HOW := Lib.hid how
    have HBEL := Lib.hid hbel
    have HMG := Lib.hid hmg
    have HM : Hid (n1 + n2 ≤ gk ∧ n1 + n2 + d.length ≤ n + n') := ⟨hgg, hsum⟩
    have H1w := Lib.hid h1
    have H2w := Lib.hid h2
    have hc1 := h1.2.1
    have hc2 := h2.2.1
    have hl1 := h1.1
    have hl2 := h2.1
    have hcm1 := h1.2.2.1
    have hcm2 := h2.2.2.1
    have H1 := Lib.hid (h1.below hbel)
    have H2 := Lib.hid (h2.below hbel)
    by_cases hlt : 0 < n1 ∧ 0 < n2
    · obtain ⟨b1, o1, rfl⟩ := isH_some h1 hlt.1
      obtain ⟨b2, o2, rfl⟩ := isH_some h2 hlt.2
      obtain ⟨x, t1, rfl⟩ : ∃ x t, l1 = x :: t := by
        cases l1 with
        | nil => simp at hl1; omega
        | cons x t => exact ⟨x, t, rfl⟩
      obtain ⟨y, t2, rfl⟩ : ∃ y t, l2 = y :: t := by
        cases l2 with
        | nil => simp at hl2; omega
        | cons y t => exact ⟨y, t, rfl⟩
      have HX0 : Hid ((x :: t1)[0]? = some x) := rfl
      have HY0 : Hid ((y :: t2)[0]? = some y) := rfl
      have h01 : (0 : Int) < (n1 : Int) := by omega
      have h02 : (0 : Int) < (n2 : Int) := by omega
      have hn1 : 1 ≤ n1 := hlt.1
      have hn2 : 1 ≤ n2 := hlt.2
      have HMGE := Lib.hid (show mg (x :: t1) (y :: t2) = if cmpH x y < 0 then x :: mg t1 (y :: t2) else if 0 < cmpH x y then y :: mg (x :: t1) t2 else mg t1 (y :: t2) by rw [mg])
      have hd1000 : d.length ≤ 1000 := by omega
      generalize hl1e : x :: t1 = l1 at *
      generalize hl2e : y :: t2 = l2 at *
      have HL1E : Hid (l1.drop 1 = t1) := by show _ = _; rw [← hl1e]; rfl
      have HL2E : Hid (l2.drop 1 = t2) := by show _ = _; rw [← hl2e]; rfl
      clear hlt h1 h2 how hbel hmg hgg hsum hl1e hl2e hl1 hl2
      by_cases hlt : cmpH x y < 0
      · have HSA : Hid (mg l1 l2 = [x] ++ mg (l1.drop 1) l2) := by show _ = _; rw [HMGE.out, if_pos hlt, HL1E.out]; rfl
        go_wp2_with fail
        refine wk.region_tailS 9 [.is (.func (.func 56) #[] #[]), .is (.slice (some ⟨b1, o1, none⟩) n1 c1), .is (.pointer (some ⟨b1, o1, none⟩)), .is (.agg #[.int .i64 x.1, .int .i64 x.2.1, .int .i64 x.2.2]), .is (.slice (some ⟨b2, o2, none⟩) n2 c2), .is (.pointer (some ⟨b2, o2, none⟩)), .is (.agg #[.int .i64 y.1, .int .i64 y.2.1, .int .i64 y.2.2]), .is (.int .i64 (cmpH x y)), .is (.int .i64 (cmpH x y))] [some 23, some 24, some 25, some 26, some 27, some 28, some 29, some 30, some 8] (by kernel_rfl) (by kernel_rfl) (by kernel_rfl) (by kernel_rfl) [] (by kernel_rfl) (by intro p hp; cases hp) (by kernel_rfl) (by kernel_rfl) ?hstep ?hdone
        case hstep =>
          intro i o ho hi hns E w4 hb4 D
          have hi2 : i = 0 ∨ i = 1 ∨ i = 2 ∨ i = 3 ∨ i = 4 ∨ i = 5 ∨ i = 6 ∨ i = 7 ∨ i = 8 := by omega
          clear hi
          rcases hi2 with rfl | rfl | rfl | rfl | rfl | rfl | rfl | rfl | rfl
          ·
            have ho2 := (Array.getElem?_eq_some_iff.1 ho).2
            simp only [List.getElem_toArray, List.getElem_cons_zero] at ho2
            subst ho2
            clear ho
            have e2 := D.old 2 (by kernel_rfl)
            exact wk.does_move rfl (by rw [e2]; rfl)
          ·
            have ho2 := (Array.getElem?_eq_some_iff.1 ho).2
            simp only [List.getElem_toArray, List.getElem_cons_succ, List.getElem_cons_zero] at ho2
            subst ho2
            clear ho
            have e0 := D.old 0 (by kernel_rfl)
            exact wk.does_move rfl (by rw [e0]; rfl)
          ·
            have ho2 := (Array.getElem?_eq_some_iff.1 ho).2
            simp only [List.getElem_toArray, List.getElem_cons_succ, List.getElem_cons_zero] at ho2
            subst ho2
            clear ho
            have e24 := D.is { on := 1, ground := .data } (by simp) rfl rfl 24 rfl
            exact wk.does_run (by simp only [execOp]; rw [show E (.tmp 24) = _ from e24, show E (.const (.int .i64 0)) = .int .i64 0 from D.con _]; go_simp; try (intro h0; omega)) rfl
          ·
            have ho2 := (Array.getElem?_eq_some_iff.1 ho).2
            simp only [List.getElem_toArray, List.getElem_cons_succ, List.getElem_cons_zero] at ho2
            subst ho2
            clear ho
            have e25 := D.is { on := 2, ground := .data } (by simp) rfl rfl 25 rfl
            exact wk.does_load_agg rfl e25 (cs := rv x) (isH_head (H1.out.below ((Below.refl _ _).drew.trans hb4)) HX0.out) Try.underlying27 rfl (by kernel_rfl) rfl
          ·
            have ho2 := (Array.getElem?_eq_some_iff.1 ho).2
            simp only [List.getElem_toArray, List.getElem_cons_succ, List.getElem_cons_zero] at ho2
            subst ho2
            clear ho
            have e1 := D.old 1 (by kernel_rfl)
            exact wk.does_move rfl (by rw [e1]; rfl)
          ·
            have ho2 := (Array.getElem?_eq_some_iff.1 ho).2
            simp only [List.getElem_toArray, List.getElem_cons_succ, List.getElem_cons_zero] at ho2
            subst ho2
            clear ho
            have e27 := D.is { on := 4, ground := .data } (by simp) rfl rfl 27 rfl
            exact wk.does_run (by simp only [execOp]; rw [show E (.tmp 27) = _ from e27, show E (.const (.int .i64 0)) = .int .i64 0 from D.con _]; go_simp; try (intro h0; omega)) rfl
          ·
            have ho2 := (Array.getElem?_eq_some_iff.1 ho).2
            simp only [List.getElem_toArray, List.getElem_cons_succ, List.getElem_cons_zero] at ho2
            subst ho2
            clear ho
            have e28 := D.is { on := 5, ground := .data } (by simp) rfl rfl 28 rfl
            exact wk.does_load_agg rfl e28 (cs := rv y) (isH_head (H2.out.below ((Below.refl _ _).drew.trans hb4)) HY0.out) Try.underlying27 rfl (by kernel_rfl) rfl
          ·
            have ho2 := (Array.getElem?_eq_some_iff.1 ho).2
            simp only [List.getElem_toArray, List.getElem_cons_succ, List.getElem_cons_zero] at ho2
            subst ho2
            clear ho
            have e23 := D.is { on := 0, ground := .data } (by simp) rfl rfl 23 rfl
            have e26 := D.is { on := 3, ground := .data } (by simp) rfl rfl 26 rfl
            have e29 := D.is { on := 6, ground := .data } (by simp) rfl rfl 29 rfl
            refine wk.does_fn (f := 56) (vs := #[.agg #[.int .i64 x.1, .int .i64 x.2.1, .int .i64 x.2.2], .agg #[.int .i64 y.1, .int .i64 y.2.1, .int .i64 y.2.2]]) rfl e23 (by simp [e26, e29]) (by go_simp) ?_
            refine (cmpH_calls _ _ _).mono ?_
            rintro e w7 ⟨rfl, hg⟩
            exact ⟨_, rfl, hg.below, rfl⟩
          ·
            have ho2 := (Array.getElem?_eq_some_iff.1 ho).2
            simp only [List.getElem_toArray, List.getElem_cons_succ, List.getElem_cons_zero] at ho2
            subst ho2
            clear ho
            have e30 := D.is { on := 7, ground := .data } (by simp) rfl rfl 30 rfl
            exact wk.does_assign rfl e30
        case hdone =>
          intro vals w4 hb4 hv
          have h8 := hv 8 (by omega)
          clear hv
          replace h8 : vals 8 = (.int .i64 (cmpH x y)) := h8
          simp only [List.drop_succ_cons, List.drop_zero, wpList, wk.setL, List.setIfInBounds_toArray, List.set_cons_zero, List.set_cons_succ, Nat.zero_add, Nat.reduceAdd, h8]
          generalize vals 0 = x0
          generalize vals 1 = x1
          generalize vals 2 = x2
          generalize vals 3 = x3
          generalize vals 4 = x4
          generalize vals 5 = x5
          generalize vals 6 = x6
          generalize vals 7 = x7
          have hb5 := (Below.refl _ _).drew.trans hb4
          have HBEL5 := Lib.hid (HBEL.out.trans (hb5.mono HBEL.out.size))
          have HOW5 := Lib.hid (keptB HOW.out hb5)
          have H15 := Lib.hid (H1w.out.below HBEL5.out)
          clear hb4 hb5
          go_wp2_with fail
          refine wk.region_lev2W 10 (MR w.heap.size v (some ⟨b1, o1, none⟩) n1 c1 ⟨b1, o1, none⟩ x d) [some 36, some 37, some 38, some 39, some 40, some 41, some 42, some 43, some 7, some 0] (fun Lv u => MRS w v d Lv u) ?hstart (by kernel_rfl) (by kernel_rfl) (by kernel_rfl) (by kernel_rfl) (by kernel_rfl) (by kernel_rfl) ?hstep ?hdone
          case hstart => exact ⟨HBEL5.out.drew, fun _ => HOW5.out, by simp, by simp⟩
          case hstep =>
            intro i o ho hi9 E Lv w4 hS4 hL hdeps DG hold
            have hi2 : i = 0 ∨ i = 1 ∨ i = 2 ∨ i = 3 ∨ i = 4 ∨ i = 5 ∨ i = 6 ∨ i = 7 ∨ i = 8 ∨ i = 9 := by omega
            clear hi9
            rcases hi2 with rfl | rfl | rfl | rfl | rfl | rfl | rfl | rfl | rfl | rfl
            ·
              have ho2 := (Array.getElem?_eq_some_iff.1 ho).2
              simp only [List.getElem_toArray, List.getElem_cons_zero] at ho2
              subst ho2
              clear ho
              have e7 : E (.tmp 7) = v := (hold 7 (fun j hj hd => by
            have hj10 : j < 10 := by rcases Nat.lt_or_ge j 10 with h | h; exact h; exact absurd (wk.dst_lt hd) (by show ¬ j < 10; omega)
            have hjw : j = 8 := by
              have h10 : j = 0 ∨ j = 1 ∨ j = 2 ∨ j = 3 ∨ j = 4 ∨ j = 5 ∨ j = 6 ∨ j = 7 ∨ j = 8 ∨ j = 9 := by omega
              rcases h10 with rfl | rfl | rfl | rfl | rfl | rfl | rfl | rfl | rfl | rfl <;> first | rfl | (exfalso; revert hd; decide)
            subst hjw
            have h9 := hj
            have := (hS4.2.2.1 h9).1
            rw [hL] at this
            cases this)).trans rfl
              refine wk.Does.weak (R := fun w' x' => x' = v) ?_ (fun w' v' hb hr => ⟨hr, fun j u _ _ hj => MR.next rfl hb hj, MRS.next 0 (by omega) (by omega) (by omega) hb hS4⟩)
              exact wk.does_move rfl e7
            ·
              have ho2 := (Array.getElem?_eq_some_iff.1 ho).2
              simp only [List.getElem_toArray, List.getElem_cons_succ, List.getElem_cons_zero] at ho2
              subst ho2
              clear ho
              have e0 : E (.tmp 0) = .slice (some ⟨b1, o1, none⟩) n1 c1 := (hold 0 (fun j hj hd => by
            have hj10 : j < 10 := by rcases Nat.lt_or_ge j 10 with h | h; exact h; exact absurd (wk.dst_lt hd) (by show ¬ j < 10; omega)
            have hjw : j = 9 := by
              have h10 : j = 0 ∨ j = 1 ∨ j = 2 ∨ j = 3 ∨ j = 4 ∨ j = 5 ∨ j = 6 ∨ j = 7 ∨ j = 8 ∨ j = 9 := by omega
              rcases h10 with rfl | rfl | rfl | rfl | rfl | rfl | rfl | rfl | rfl | rfl <;> first | rfl | (exfalso; revert hd; decide)
            subst hjw
            have h9 := hj
            have := (hS4.2.2.2 h9).1
            rw [hL] at this
            cases this)).trans rfl
              refine wk.Does.weak (R := fun w' x' => x' = .slice (some ⟨b1, o1, none⟩) n1 c1) ?_ (fun w' v' hb hr => ⟨hr, fun j u _ _ hj => MR.next rfl hb hj, MRS.next 1 (by omega) (by omega) (by omega) hb hS4⟩)
              exact wk.does_move rfl e0
            ·
              have ho2 := (Array.getElem?_eq_some_iff.1 ho).2
              simp only [List.getElem_toArray, List.getElem_cons_succ, List.getElem_cons_zero] at ho2
              subst ho2
              clear ho
              have e37 := DG.is { on := 1, ground := .data } (by simp) rfl 37 rfl
              replace e37 : E (.tmp 37) = .slice (some ⟨b1, o1, none⟩) n1 c1 := e37
              refine wk.Does.weak (R := fun w' x' => x' = .pointer (some ⟨b1, o1, none⟩)) ?_ (fun w' v' hb hr => ⟨hr, fun j u _ _ hj => MR.next rfl hb hj, MRS.next 2 (by omega) (by omega) (by omega) hb hS4⟩)
              exact wk.does_run (by simp only [execOp]; rw [e37, show E (.const (.int .i64 0)) = .int .i64 0 from DG.con _]; go_simp) rfl
            ·
              have ho2 := (Array.getElem?_eq_some_iff.1 ho).2
              simp only [List.getElem_toArray, List.getElem_cons_succ, List.getElem_cons_zero] at ho2
              subst ho2
              clear ho
              have e38 := DG.is { on := 2, ground := .data } (by simp) rfl 38 rfl
              replace e38 : E (.tmp 38) = .pointer (some ⟨b1, o1, none⟩) := e38
              refine wk.Does.weak (R := fun w' x' => x' = .agg #[.int .i64 x.1, .int .i64 x.2.1, .int .i64 x.2.2]) ?_ (fun w' v' hb hr => ⟨hr, fun j u _ _ hj => MR.next rfl hb hj, MRS.next 3 (by omega) (by omega) (by omega) hb hS4⟩)
              exact wk.does_load_agg rfl e38 (cs := rv x) (isH_head (H1w.out.below (hS4.1)) HX0.out) Try.underlying27 rfl (by kernel_rfl) rfl
            ·
              have ho2 := (Array.getElem?_eq_some_iff.1 ho).2
              simp only [List.getElem_toArray, List.getElem_cons_succ, List.getElem_cons_zero] at ho2
              subst ho2
              clear ho
              have e39 := DG.is { on := 3, ground := .data } (by simp) rfl 39 rfl
              replace e39 : E (.tmp 39) = .agg #[.int .i64 x.1, .int .i64 x.2.1, .int .i64 x.2.2] := e39
              refine wk.Does.weak (R := fun w' x' => ∃ g, x' = .slice (some ⟨g, 0, none⟩) 1 1 ∧ RowH w' g x) ?_ (fun w' v' hb hr => ⟨by obtain ⟨g, h1, h2⟩ := hr; exact ⟨g, h1, fun _ => h2⟩, fun j u _ _ hj => MR.next rfl hb hj, MRS.next 4 (by omega) (by omega) (by omega) hb hS4⟩)
              exact wk.does_new (v := .slice (some ⟨w4.heap.size, 0, none⟩) 1 1) (w' := w4.alloc (.cells #[.int .i64 x.1, .int .i64 x.2.1, .int .i64 x.2.2] 27)) (by simp only [execOp, List.map_toArray, List.map_cons, List.map_nil]; rw [e39]; go_simp) (below_new _ _) ⟨_, rfl, RowH.new _ _⟩
            ·
              have ho2 := (Array.getElem?_eq_some_iff.1 ho).2
              simp only [List.getElem_toArray, List.getElem_cons_succ, List.getElem_cons_zero] at ho2
              subst ho2
              clear ho
              have e36 := DG.is { on := 0, ground := .data } (by simp) rfl 36 rfl
              replace e36 : E (.tmp 36) = v := e36
              have e40 := DG.is { on := 4, ground := .data } (by simp) rfl 40 rfl
              replace e40 : ∃ g, E (.tmp 40) = .slice (some ⟨g, 0, none⟩) 1 1 ∧ (Lv 5 = false → RowH w4 g x) := e40
              obtain ⟨g, eg, hone⟩ := e40
              have hL5 : Lv 5 = false := hL
              have hMw := hS4.2.1 hL5
              exact does_append_t (.tmp 36) (.tmp 40) 22 rfl w.heap.size 27 i0 (.agg #[.int .i64 0, .int .i64 0, .int .i64 0]) 3 24 Try.underlying22 hi hz0 hz1 hz2 rfl (by decide) v d.length (fl d) e36 hMw ⟨g, 0, none⟩ 1 (rv x) eg rfl (hone hL5).cells ones3 (by omega) (by omega) hS4.1.size (fun v' w' h5 h6 _ => ⟨h5, fun j' u hLj _ hj => MR.app (by rintro rfl; rw [hL5] at hLj; cases hLj) (by rintro rfl; have := (hS4.2.2.1 hLj).2; rw [hL5] at this; cases this) rfl hj, MRS.app (hS4.1.grown h6 hS4.1.size (fun q hq => (hMw.lt q hq).1)) hS4⟩)
            ·
              have ho2 := (Array.getElem?_eq_some_iff.1 ho).2
              simp only [List.getElem_toArray, List.getElem_cons_succ, List.getElem_cons_zero] at ho2
              subst ho2
              clear ho
              have e0 : E (.tmp 0) = .slice (some ⟨b1, o1, none⟩) n1 c1 := (hold 0 (fun j hj hd => by
            have hj10 : j < 10 := by rcases Nat.lt_or_ge j 10 with h | h; exact h; exact absurd (wk.dst_lt hd) (by show ¬ j < 10; omega)
            have hjw : j = 9 := by
              have h10 : j = 0 ∨ j = 1 ∨ j = 2 ∨ j = 3 ∨ j = 4 ∨ j = 5 ∨ j = 6 ∨ j = 7 ∨ j = 8 ∨ j = 9 := by omega
              rcases h10 with rfl | rfl | rfl | rfl | rfl | rfl | rfl | rfl | rfl | rfl <;> first | rfl | (exfalso; revert hd; decide)
            subst hjw
            have h9 := hj
            have := (hS4.2.2.2 h9).2
            rw [hL] at this
            cases this)).trans rfl
              refine wk.Does.weak (R := fun w' x' => x' = .slice (some ⟨b1, o1, none⟩) n1 c1) ?_ (fun w' v' hb hr => ⟨hr, fun j u _ _ hj => MR.next rfl hb hj, MRS.next 6 (by omega) (by omega) (by omega) hb hS4⟩)
              exact wk.does_move rfl e0
            ·
              have ho2 := (Array.getElem?_eq_some_iff.1 ho).2
              simp only [List.getElem_toArray, List.getElem_cons_succ, List.getElem_cons_zero] at ho2
              subst ho2
              clear ho
              have e42 := DG.is { on := 6, ground := .data } (by simp) rfl 42 rfl
              replace e42 : E (.tmp 42) = .slice (some ⟨b1, o1, none⟩) n1 c1 := e42
              refine wk.Does.weak (R := fun w' x' => x' = .slice (tlA (some ⟨b1, o1, none⟩) c1) (n1 - 1) (c1 - 1)) ?_ (fun w' v' hb hr => ⟨hr, fun j u _ _ hj => MR.next rfl hb hj, MRS.next 7 (by omega) (by omega) (by omega) hb hS4⟩)
              exact wk.does_run (wk.op_slice (LO := some (.int .i64 1)) (HI := none) (MX := none) rfl e42 (by show some (E (.const (.int .i64 1))) = _; rw [DG.con]) rfl rfl (run_tl1At w4 _ _ _ (by omega) (by omega))) rfl
            ·
              have ho2 := (Array.getElem?_eq_some_iff.1 ho).2
              simp only [List.getElem_toArray, List.getElem_cons_succ, List.getElem_cons_zero] at ho2
              subst ho2
              clear ho
              have e41 := DG.is { on := 5, ground := .data } (by simp) rfl 41 rfl
              replace e41 : w4.ownsRow w.heap.size 27 3 (E (.tmp 41)) (d.length + 1) (fl d ++ rv x) := e41
              refine wk.Does.weak (R := fun w' x' => w'.ownsRow w.heap.size 27 3 x' (d.length + 1) (fl d ++ rv x)) ?_ (fun w' v' hb hr => ⟨hr, fun j u _ _ hj => MR.next rfl hb hj, MRS.next 8 (by omega) (fun _ => ⟨hdeps { on := 0, ground := .phase } (by simp) rfl, hdeps { on := 5, ground := .data } (by simp) rfl⟩) (by omega) hb hS4⟩)
              exact wk.does_assign rfl e41
            ·
              have ho2 := (Array.getElem?_eq_some_iff.1 ho).2
              simp only [List.getElem_toArray, List.getElem_cons_succ, List.getElem_cons_zero] at ho2
              subst ho2
              clear ho
              have e43 := DG.is { on := 7, ground := .data } (by simp) rfl 43 rfl
              replace e43 : E (.tmp 43) = .slice (tlA (some ⟨b1, o1, none⟩) c1) (n1 - 1) (c1 - 1) := e43
              refine wk.Does.weak (R := fun w' x' => x' = .slice (tlA (some ⟨b1, o1, none⟩) c1) (n1 - 1) (c1 - 1)) ?_ (fun w' v' hb hr => ⟨hr, fun j u _ _ hj => MR.next rfl hb hj, MRS.next 9 (by omega) (by omega) (fun _ => ⟨hdeps { on := 1, ground := .phase } (by simp) rfl, hdeps { on := 6, ground := .phase } (by simp) rfl⟩) hb hS4⟩)
              exact wk.does_assign rfl e43
          case hdone =>
            intro vals Lv w4 hall hS4 hv
            have h5 : w4.ownsRow w.heap.size 27 3 (vals 8) (d.length + 1) (fl d ++ rv x) := hv 8 (by omega)
            have h7 : vals 9 = .slice (tlA (some ⟨b1, o1, none⟩) c1) (n1 - 1) (c1 - 1) := hv 9 (by omega)
            have hB6 := Lib.hid hS4.1
            have hO6 := Lib.hid h5
            clear hv hall hS4 h5
            simp only [List.drop_succ_cons, List.drop_zero, wpList, wk.setL, List.setIfInBounds_toArray, List.set_cons_zero, List.set_cons_succ, Nat.zero_add, Nat.reduceAdd, h7]
            clear h7
            generalize vals 0 = x0 at *
            generalize vals 1 = x1 at *
            generalize vals 2 = x2 at *
            generalize vals 3 = x3 at *
            generalize vals 4 = x4 at *
            generalize vals 5 = x5 at *
            generalize vals 6 = x6 at *
            generalize vals 7 = x7 at *
            generalize vals 8 = x8 at *
            go_wp2_with fail
            go_roundg (n1 + n2 - 1)
            case measure => have := HM.out; omega
            case rel => exact ⟨_, _, _, _, _, _, _, l1.drop 1, l2, d ++ [x], rfl, rfl, rfl, isH_tail H1w.out (by omega), H2w.out, by have := hO6.out; rw [List.length_append, fl_append]; simpa [fl] using this, hB6.out, by rw [HMG.out, HSA.out, List.append_assoc], by have := HM.out; omega, by have := HM.out; rw [List.length_append, List.length_singleton]; omega⟩
      · by_cases hgt : 0 < cmpH x y
        · have HSB : Hid (mg l1 l2 = [y] ++ mg l1 (l2.drop 1)) := by show _ = _; rw [HMGE.out, if_neg hlt, if_pos hgt, HL2E.out]; rfl
          go_wp2_with fail
          refine wk.region_tailS 9 [.is (.func (.func 56) #[] #[]), .is (.slice (some ⟨b1, o1, none⟩) n1 c1), .is (.pointer (some ⟨b1, o1, none⟩)), .is (.agg #[.int .i64 x.1, .int .i64 x.2.1, .int .i64 x.2.2]), .is (.slice (some ⟨b2, o2, none⟩) n2 c2), .is (.pointer (some ⟨b2, o2, none⟩)), .is (.agg #[.int .i64 y.1, .int .i64 y.2.1, .int .i64 y.2.2]), .is (.int .i64 (cmpH x y)), .is (.int .i64 (cmpH x y))] [some 23, some 24, some 25, some 26, some 27, some 28, some 29, some 30, some 8] (by kernel_rfl) (by kernel_rfl) (by kernel_rfl) (by kernel_rfl) [] (by kernel_rfl) (by intro p hp; cases hp) (by kernel_rfl) (by kernel_rfl) ?hstep ?hdone
          case hstep =>
            intro i o ho hi hns E w4 hb4 D
            have hi2 : i = 0 ∨ i = 1 ∨ i = 2 ∨ i = 3 ∨ i = 4 ∨ i = 5 ∨ i = 6 ∨ i = 7 ∨ i = 8 := by omega
            clear hi
            rcases hi2 with rfl | rfl | rfl | rfl | rfl | rfl | rfl | rfl | rfl
            ·
              have ho2 := (Array.getElem?_eq_some_iff.1 ho).2
              simp only [List.getElem_toArray, List.getElem_cons_zero] at ho2
              subst ho2
              clear ho
              have e2 := D.old 2 (by kernel_rfl)
              exact wk.does_move rfl (by rw [e2]; rfl)
            ·
              have ho2 := (Array.getElem?_eq_some_iff.1 ho).2
              simp only [List.getElem_toArray, List.getElem_cons_succ, List.getElem_cons_zero] at ho2
              subst ho2
              clear ho
              have e0 := D.old 0 (by kernel_rfl)
              exact wk.does_move rfl (by rw [e0]; rfl)
            ·
              have ho2 := (Array.getElem?_eq_some_iff.1 ho).2
              simp only [List.getElem_toArray, List.getElem_cons_succ, List.getElem_cons_zero] at ho2
              subst ho2
              clear ho
              have e24 := D.is { on := 1, ground := .data } (by simp) rfl rfl 24 rfl
              exact wk.does_run (by simp only [execOp]; rw [show E (.tmp 24) = _ from e24, show E (.const (.int .i64 0)) = .int .i64 0 from D.con _]; go_simp; try (intro h0; omega)) rfl
            ·
              have ho2 := (Array.getElem?_eq_some_iff.1 ho).2
              simp only [List.getElem_toArray, List.getElem_cons_succ, List.getElem_cons_zero] at ho2
              subst ho2
              clear ho
              have e25 := D.is { on := 2, ground := .data } (by simp) rfl rfl 25 rfl
              exact wk.does_load_agg rfl e25 (cs := rv x) (isH_head (H1.out.below ((Below.refl _ _).drew.trans hb4)) HX0.out) Try.underlying27 rfl (by kernel_rfl) rfl
            ·
              have ho2 := (Array.getElem?_eq_some_iff.1 ho).2
              simp only [List.getElem_toArray, List.getElem_cons_succ, List.getElem_cons_zero] at ho2
              subst ho2
              clear ho
              have e1 := D.old 1 (by kernel_rfl)
              exact wk.does_move rfl (by rw [e1]; rfl)
            ·
              have ho2 := (Array.getElem?_eq_some_iff.1 ho).2
              simp only [List.getElem_toArray, List.getElem_cons_succ, List.getElem_cons_zero] at ho2
              subst ho2
              clear ho
              have e27 := D.is { on := 4, ground := .data } (by simp) rfl rfl 27 rfl
              exact wk.does_run (by simp only [execOp]; rw [show E (.tmp 27) = _ from e27, show E (.const (.int .i64 0)) = .int .i64 0 from D.con _]; go_simp; try (intro h0; omega)) rfl
            ·
              have ho2 := (Array.getElem?_eq_some_iff.1 ho).2
              simp only [List.getElem_toArray, List.getElem_cons_succ, List.getElem_cons_zero] at ho2
              subst ho2
              clear ho
              have e28 := D.is { on := 5, ground := .data } (by simp) rfl rfl 28 rfl
              exact wk.does_load_agg rfl e28 (cs := rv y) (isH_head (H2.out.below ((Below.refl _ _).drew.trans hb4)) HY0.out) Try.underlying27 rfl (by kernel_rfl) rfl
            ·
              have ho2 := (Array.getElem?_eq_some_iff.1 ho).2
              simp only [List.getElem_toArray, List.getElem_cons_succ, List.getElem_cons_zero] at ho2
              subst ho2
              clear ho
              have e23 := D.is { on := 0, ground := .data } (by simp) rfl rfl 23 rfl
              have e26 := D.is { on := 3, ground := .data } (by simp) rfl rfl 26 rfl
              have e29 := D.is { on := 6, ground := .data } (by simp) rfl rfl 29 rfl
              refine wk.does_fn (f := 56) (vs := #[.agg #[.int .i64 x.1, .int .i64 x.2.1, .int .i64 x.2.2], .agg #[.int .i64 y.1, .int .i64 y.2.1, .int .i64 y.2.2]]) rfl e23 (by simp [e26, e29]) (by go_simp) ?_
              refine (cmpH_calls _ _ _).mono ?_
              rintro e w7 ⟨rfl, hg⟩
              exact ⟨_, rfl, hg.below, rfl⟩
            ·
              have ho2 := (Array.getElem?_eq_some_iff.1 ho).2
              simp only [List.getElem_toArray, List.getElem_cons_succ, List.getElem_cons_zero] at ho2
              subst ho2
              clear ho
              have e30 := D.is { on := 7, ground := .data } (by simp) rfl rfl 30 rfl
              exact wk.does_assign rfl e30
          case hdone =>
            intro vals w4 hb4 hv
            have h8 := hv 8 (by omega)
            clear hv
            replace h8 : vals 8 = (.int .i64 (cmpH x y)) := h8
            simp only [List.drop_succ_cons, List.drop_zero, wpList, wk.setL, List.setIfInBounds_toArray, List.set_cons_zero, List.set_cons_succ, Nat.zero_add, Nat.reduceAdd, h8]
            generalize vals 0 = x0
            generalize vals 1 = x1
            generalize vals 2 = x2
            generalize vals 3 = x3
            generalize vals 4 = x4
            generalize vals 5 = x5
            generalize vals 6 = x6
            generalize vals 7 = x7
            have hb5 := (Below.refl _ _).drew.trans hb4
            have HBEL5 := Lib.hid (HBEL.out.trans (hb5.mono HBEL.out.size))
            have HOW5 := Lib.hid (keptB HOW.out hb5)
            have H15 := Lib.hid (H1w.out.below HBEL5.out)
            clear hb4 hb5
            go_wp2_with fail
            refine wk.region_lev2W 10 (MR w.heap.size v (some ⟨b2, o2, none⟩) n2 c2 ⟨b2, o2, none⟩ y d) [some 47, some 48, some 49, some 50, some 51, some 52, some 53, some 54, some 7, some 1] (fun Lv u => MRS w v d Lv u) ?hstart (by kernel_rfl) (by kernel_rfl) (by kernel_rfl) (by kernel_rfl) (by kernel_rfl) (by kernel_rfl) ?hstep ?hdone
            case hstart => exact ⟨HBEL5.out.drew, fun _ => HOW5.out, by simp, by simp⟩
            case hstep =>
              intro i o ho hi9 E Lv w4 hS4 hL hdeps DG hold
              have hi2 : i = 0 ∨ i = 1 ∨ i = 2 ∨ i = 3 ∨ i = 4 ∨ i = 5 ∨ i = 6 ∨ i = 7 ∨ i = 8 ∨ i = 9 := by omega
              clear hi9
              rcases hi2 with rfl | rfl | rfl | rfl | rfl | rfl | rfl | rfl | rfl | rfl
              ·
                have ho2 := (Array.getElem?_eq_some_iff.1 ho).2
                simp only [List.getElem_toArray, List.getElem_cons_zero] at ho2
                subst ho2
                clear ho
                have e7 : E (.tmp 7) = v := (hold 7 (fun j hj hd => by
              have hj10 : j < 10 := by rcases Nat.lt_or_ge j 10 with h | h; exact h; exact absurd (wk.dst_lt hd) (by show ¬ j < 10; omega)
              have hjw : j = 8 := by
                have h10 : j = 0 ∨ j = 1 ∨ j = 2 ∨ j = 3 ∨ j = 4 ∨ j = 5 ∨ j = 6 ∨ j = 7 ∨ j = 8 ∨ j = 9 := by omega
                rcases h10 with rfl | rfl | rfl | rfl | rfl | rfl | rfl | rfl | rfl | rfl <;> first | rfl | (exfalso; revert hd; decide)
              subst hjw
              have h9 := hj
              have := (hS4.2.2.1 h9).1
              rw [hL] at this
              cases this)).trans rfl
                refine wk.Does.weak (R := fun w' x' => x' = v) ?_ (fun w' v' hb hr => ⟨hr, fun j u _ _ hj => MR.next rfl hb hj, MRS.next 0 (by omega) (by omega) (by omega) hb hS4⟩)
                exact wk.does_move rfl e7
              ·
                have ho2 := (Array.getElem?_eq_some_iff.1 ho).2
                simp only [List.getElem_toArray, List.getElem_cons_succ, List.getElem_cons_zero] at ho2
                subst ho2
                clear ho
                have e1 : E (.tmp 1) = .slice (some ⟨b2, o2, none⟩) n2 c2 := (hold 1 (fun j hj hd => by
              have hj10 : j < 10 := by rcases Nat.lt_or_ge j 10 with h | h; exact h; exact absurd (wk.dst_lt hd) (by show ¬ j < 10; omega)
              have hjw : j = 9 := by
                have h10 : j = 0 ∨ j = 1 ∨ j = 2 ∨ j = 3 ∨ j = 4 ∨ j = 5 ∨ j = 6 ∨ j = 7 ∨ j = 8 ∨ j = 9 := by omega
                rcases h10 with rfl | rfl | rfl | rfl | rfl | rfl | rfl | rfl | rfl | rfl <;> first | rfl | (exfalso; revert hd; decide)
              subst hjw
              have h9 := hj
              have := (hS4.2.2.2 h9).1
              rw [hL] at this
              cases this)).trans rfl
                refine wk.Does.weak (R := fun w' x' => x' = .slice (some ⟨b2, o2, none⟩) n2 c2) ?_ (fun w' v' hb hr => ⟨hr, fun j u _ _ hj => MR.next rfl hb hj, MRS.next 1 (by omega) (by omega) (by omega) hb hS4⟩)
                exact wk.does_move rfl e1
              ·
                have ho2 := (Array.getElem?_eq_some_iff.1 ho).2
                simp only [List.getElem_toArray, List.getElem_cons_succ, List.getElem_cons_zero] at ho2
                subst ho2
                clear ho
                have e48 := DG.is { on := 1, ground := .data } (by simp) rfl 48 rfl
                replace e48 : E (.tmp 48) = .slice (some ⟨b2, o2, none⟩) n2 c2 := e48
                refine wk.Does.weak (R := fun w' x' => x' = .pointer (some ⟨b2, o2, none⟩)) ?_ (fun w' v' hb hr => ⟨hr, fun j u _ _ hj => MR.next rfl hb hj, MRS.next 2 (by omega) (by omega) (by omega) hb hS4⟩)
                exact wk.does_run (by simp only [execOp]; rw [e48, show E (.const (.int .i64 0)) = .int .i64 0 from DG.con _]; go_simp) rfl
              ·
                have ho2 := (Array.getElem?_eq_some_iff.1 ho).2
                simp only [List.getElem_toArray, List.getElem_cons_succ, List.getElem_cons_zero] at ho2
                subst ho2
                clear ho
                have e49 := DG.is { on := 2, ground := .data } (by simp) rfl 49 rfl
                replace e49 : E (.tmp 49) = .pointer (some ⟨b2, o2, none⟩) := e49
                refine wk.Does.weak (R := fun w' x' => x' = .agg #[.int .i64 y.1, .int .i64 y.2.1, .int .i64 y.2.2]) ?_ (fun w' v' hb hr => ⟨hr, fun j u _ _ hj => MR.next rfl hb hj, MRS.next 3 (by omega) (by omega) (by omega) hb hS4⟩)
                exact wk.does_load_agg rfl e49 (cs := rv y) (isH_head (H2w.out.below (hS4.1)) HY0.out) Try.underlying27 rfl (by kernel_rfl) rfl
              ·
                have ho2 := (Array.getElem?_eq_some_iff.1 ho).2
                simp only [List.getElem_toArray, List.getElem_cons_succ, List.getElem_cons_zero] at ho2
                subst ho2
                clear ho
                have e50 := DG.is { on := 3, ground := .data } (by simp) rfl 50 rfl
                replace e50 : E (.tmp 50) = .agg #[.int .i64 y.1, .int .i64 y.2.1, .int .i64 y.2.2] := e50
                refine wk.Does.weak (R := fun w' x' => ∃ g, x' = .slice (some ⟨g, 0, none⟩) 1 1 ∧ RowH w' g y) ?_ (fun w' v' hb hr => ⟨by obtain ⟨g, h1, h2⟩ := hr; exact ⟨g, h1, fun _ => h2⟩, fun j u _ _ hj => MR.next rfl hb hj, MRS.next 4 (by omega) (by omega) (by omega) hb hS4⟩)
                exact wk.does_new (v := .slice (some ⟨w4.heap.size, 0, none⟩) 1 1) (w' := w4.alloc (.cells #[.int .i64 y.1, .int .i64 y.2.1, .int .i64 y.2.2] 27)) (by simp only [execOp, List.map_toArray, List.map_cons, List.map_nil]; rw [e50]; go_simp) (below_new _ _) ⟨_, rfl, RowH.new _ _⟩
              ·
                have ho2 := (Array.getElem?_eq_some_iff.1 ho).2
                simp only [List.getElem_toArray, List.getElem_cons_succ, List.getElem_cons_zero] at ho2
                subst ho2
                clear ho
                have e47 := DG.is { on := 0, ground := .data } (by simp) rfl 47 rfl
                replace e47 : E (.tmp 47) = v := e47
                have e51 := DG.is { on := 4, ground := .data } (by simp) rfl 51 rfl
                replace e51 : ∃ g, E (.tmp 51) = .slice (some ⟨g, 0, none⟩) 1 1 ∧ (Lv 5 = false → RowH w4 g y) := e51
                obtain ⟨g, eg, hone⟩ := e51
                have hL5 : Lv 5 = false := hL
                have hMw := hS4.2.1 hL5
                exact does_append_t (.tmp 47) (.tmp 51) 22 rfl w.heap.size 27 i0 (.agg #[.int .i64 0, .int .i64 0, .int .i64 0]) 3 24 Try.underlying22 hi hz0 hz1 hz2 rfl (by decide) v d.length (fl d) e47 hMw ⟨g, 0, none⟩ 1 (rv y) eg rfl (hone hL5).cells ones3 (by omega) (by omega) hS4.1.size (fun v' w' h5 h6 _ => ⟨h5, fun j' u hLj _ hj => MR.app (by rintro rfl; rw [hL5] at hLj; cases hLj) (by rintro rfl; have := (hS4.2.2.1 hLj).2; rw [hL5] at this; cases this) rfl hj, MRS.app (hS4.1.grown h6 hS4.1.size (fun q hq => (hMw.lt q hq).1)) hS4⟩)
              ·
                have ho2 := (Array.getElem?_eq_some_iff.1 ho).2
                simp only [List.getElem_toArray, List.getElem_cons_succ, List.getElem_cons_zero] at ho2
                subst ho2
                clear ho
                have e1 : E (.tmp 1) = .slice (some ⟨b2, o2, none⟩) n2 c2 := (hold 1 (fun j hj hd => by
              have hj10 : j < 10 := by rcases Nat.lt_or_ge j 10 with h | h; exact h; exact absurd (wk.dst_lt hd) (by show ¬ j < 10; omega)
              have hjw : j = 9 := by
                have h10 : j = 0 ∨ j = 1 ∨ j = 2 ∨ j = 3 ∨ j = 4 ∨ j = 5 ∨ j = 6 ∨ j = 7 ∨ j = 8 ∨ j = 9 := by omega
                rcases h10 with rfl | rfl | rfl | rfl | rfl | rfl | rfl | rfl | rfl | rfl <;> first | rfl | (exfalso; revert hd; decide)
              subst hjw
              have h9 := hj
              have := (hS4.2.2.2 h9).2
              rw [hL] at this
              cases this)).trans rfl
                refine wk.Does.weak (R := fun w' x' => x' = .slice (some ⟨b2, o2, none⟩) n2 c2) ?_ (fun w' v' hb hr => ⟨hr, fun j u _ _ hj => MR.next rfl hb hj, MRS.next 6 (by omega) (by omega) (by omega) hb hS4⟩)
                exact wk.does_move rfl e1
              ·
                have ho2 := (Array.getElem?_eq_some_iff.1 ho).2
                simp only [List.getElem_toArray, List.getElem_cons_succ, List.getElem_cons_zero] at ho2
                subst ho2
                clear ho
                have e53 := DG.is { on := 6, ground := .data } (by simp) rfl 53 rfl
                replace e53 : E (.tmp 53) = .slice (some ⟨b2, o2, none⟩) n2 c2 := e53
                refine wk.Does.weak (R := fun w' x' => x' = .slice (tlA (some ⟨b2, o2, none⟩) c2) (n2 - 1) (c2 - 1)) ?_ (fun w' v' hb hr => ⟨hr, fun j u _ _ hj => MR.next rfl hb hj, MRS.next 7 (by omega) (by omega) (by omega) hb hS4⟩)
                exact wk.does_run (wk.op_slice (LO := some (.int .i64 1)) (HI := none) (MX := none) rfl e53 (by show some (E (.const (.int .i64 1))) = _; rw [DG.con]) rfl rfl (run_tl1At w4 _ _ _ (by omega) (by omega))) rfl
              ·
                have ho2 := (Array.getElem?_eq_some_iff.1 ho).2
                simp only [List.getElem_toArray, List.getElem_cons_succ, List.getElem_cons_zero] at ho2
                subst ho2
                clear ho
                have e52 := DG.is { on := 5, ground := .data } (by simp) rfl 52 rfl
                replace e52 : w4.ownsRow w.heap.size 27 3 (E (.tmp 52)) (d.length + 1) (fl d ++ rv y) := e52
                refine wk.Does.weak (R := fun w' x' => w'.ownsRow w.heap.size 27 3 x' (d.length + 1) (fl d ++ rv y)) ?_ (fun w' v' hb hr => ⟨hr, fun j u _ _ hj => MR.next rfl hb hj, MRS.next 8 (by omega) (fun _ => ⟨hdeps { on := 0, ground := .phase } (by simp) rfl, hdeps { on := 5, ground := .data } (by simp) rfl⟩) (by omega) hb hS4⟩)
                exact wk.does_assign rfl e52
              ·
                have ho2 := (Array.getElem?_eq_some_iff.1 ho).2
                simp only [List.getElem_toArray, List.getElem_cons_succ, List.getElem_cons_zero] at ho2
                subst ho2
                clear ho
                have e54 := DG.is { on := 7, ground := .data } (by simp) rfl 54 rfl
                replace e54 : E (.tmp 54) = .slice (tlA (some ⟨b2, o2, none⟩) c2) (n2 - 1) (c2 - 1) := e54
                refine wk.Does.weak (R := fun w' x' => x' = .slice (tlA (some ⟨b2, o2, none⟩) c2) (n2 - 1) (c2 - 1)) ?_ (fun w' v' hb hr => ⟨hr, fun j u _ _ hj => MR.next rfl hb hj, MRS.next 9 (by omega) (by omega) (fun _ => ⟨hdeps { on := 1, ground := .phase } (by simp) rfl, hdeps { on := 6, ground := .phase } (by simp) rfl⟩) hb hS4⟩)
                exact wk.does_assign rfl e54
            case hdone =>
              intro vals Lv w4 hall hS4 hv
              have h5 : w4.ownsRow w.heap.size 27 3 (vals 8) (d.length + 1) (fl d ++ rv y) := hv 8 (by omega)
              have h7 : vals 9 = .slice (tlA (some ⟨b2, o2, none⟩) c2) (n2 - 1) (c2 - 1) := hv 9 (by omega)
              have hB6 := Lib.hid hS4.1
              have hO6 := Lib.hid h5
              clear hv hall hS4 h5
              simp only [List.drop_succ_cons, List.drop_zero, wpList, wk.setL, List.setIfInBounds_toArray, List.set_cons_zero, List.set_cons_succ, Nat.zero_add, Nat.reduceAdd, h7]
              clear h7
              generalize vals 0 = x0 at *
              generalize vals 1 = x1 at *
              generalize vals 2 = x2 at *
              generalize vals 3 = x3 at *
              generalize vals 4 = x4 at *
              generalize vals 5 = x5 at *
              generalize vals 6 = x6 at *
              generalize vals 7 = x7 at *
              generalize vals 8 = x8 at *
              go_wp2_with fail
              go_roundg (n1 + n2 - 1)
              case measure => have := HM.out; omega
              case rel => exact ⟨_, _, _, _, _, _, _, l1, l2.drop 1, d ++ [y], rfl, rfl, rfl, H1w.out, isH_tail H2w.out (by omega), by have := hO6.out; rw [List.length_append, fl_append]; simpa [fl] using this, hB6.out, by rw [HMG.out, HSB.out, List.append_assoc], by have := HM.out; omega, by have := HM.out; rw [List.length_append, List.length_singleton]; omega⟩
        · have HSC : Hid (mg l1 l2 = mg (l1.drop 1) l2) := by show _ = _; rw [HMGE.out, if_neg hlt, if_neg hgt, HL1E.out]
          have htl := fun w' => run_tl1 w' (some ⟨b1, o1, none⟩) n1 c1 hn1 hc1
          go_wp2_with fail
          refine wk.region_tailS 9 [.is (.func (.func 56) #[] #[]), .is (.slice (some ⟨b1, o1, none⟩) n1 c1), .is (.pointer (some ⟨b1, o1, none⟩)), .is (.agg #[.int .i64 x.1, .int .i64 x.2.1, .int .i64 x.2.2]), .is (.slice (some ⟨b2, o2, none⟩) n2 c2), .is (.pointer (some ⟨b2, o2, none⟩)), .is (.agg #[.int .i64 y.1, .int .i64 y.2.1, .int .i64 y.2.2]), .is (.int .i64 (cmpH x y)), .is (.int .i64 (cmpH x y))] [some 23, some 24, some 25, some 26, some 27, some 28, some 29, some 30, some 8] (by kernel_rfl) (by kernel_rfl) (by kernel_rfl) (by kernel_rfl) [] (by kernel_rfl) (by intro p hp; cases hp) (by kernel_rfl) (by kernel_rfl) ?hstep ?hdone
          case hstep =>
            intro i o ho hi hns E w4 hb4 D
            have hi2 : i = 0 ∨ i = 1 ∨ i = 2 ∨ i = 3 ∨ i = 4 ∨ i = 5 ∨ i = 6 ∨ i = 7 ∨ i = 8 := by omega
            clear hi
            rcases hi2 with rfl | rfl | rfl | rfl | rfl | rfl | rfl | rfl | rfl
            ·
              have ho2 := (Array.getElem?_eq_some_iff.1 ho).2
              simp only [List.getElem_toArray, List.getElem_cons_zero] at ho2
              subst ho2
              clear ho
              have e2 := D.old 2 (by kernel_rfl)
              exact wk.does_move rfl (by rw [e2]; rfl)
            ·
              have ho2 := (Array.getElem?_eq_some_iff.1 ho).2
              simp only [List.getElem_toArray, List.getElem_cons_succ, List.getElem_cons_zero] at ho2
              subst ho2
              clear ho
              have e0 := D.old 0 (by kernel_rfl)
              exact wk.does_move rfl (by rw [e0]; rfl)
            ·
              have ho2 := (Array.getElem?_eq_some_iff.1 ho).2
              simp only [List.getElem_toArray, List.getElem_cons_succ, List.getElem_cons_zero] at ho2
              subst ho2
              clear ho
              have e24 := D.is { on := 1, ground := .data } (by simp) rfl rfl 24 rfl
              exact wk.does_run (by simp only [execOp]; rw [show E (.tmp 24) = _ from e24, show E (.const (.int .i64 0)) = .int .i64 0 from D.con _]; go_simp; try (intro h0; omega)) rfl
            ·
              have ho2 := (Array.getElem?_eq_some_iff.1 ho).2
              simp only [List.getElem_toArray, List.getElem_cons_succ, List.getElem_cons_zero] at ho2
              subst ho2
              clear ho
              have e25 := D.is { on := 2, ground := .data } (by simp) rfl rfl 25 rfl
              exact wk.does_load_agg rfl e25 (cs := rv x) (isH_head (H1.out.below ((Below.refl _ _).drew.trans hb4)) HX0.out) Try.underlying27 rfl (by kernel_rfl) rfl
            ·
              have ho2 := (Array.getElem?_eq_some_iff.1 ho).2
              simp only [List.getElem_toArray, List.getElem_cons_succ, List.getElem_cons_zero] at ho2
              subst ho2
              clear ho
              have e1 := D.old 1 (by kernel_rfl)
              exact wk.does_move rfl (by rw [e1]; rfl)
            ·
              have ho2 := (Array.getElem?_eq_some_iff.1 ho).2
              simp only [List.getElem_toArray, List.getElem_cons_succ, List.getElem_cons_zero] at ho2
              subst ho2
              clear ho
              have e27 := D.is { on := 4, ground := .data } (by simp) rfl rfl 27 rfl
              exact wk.does_run (by simp only [execOp]; rw [show E (.tmp 27) = _ from e27, show E (.const (.int .i64 0)) = .int .i64 0 from D.con _]; go_simp; try (intro h0; omega)) rfl
            ·
              have ho2 := (Array.getElem?_eq_some_iff.1 ho).2
              simp only [List.getElem_toArray, List.getElem_cons_succ, List.getElem_cons_zero] at ho2
              subst ho2
              clear ho
              have e28 := D.is { on := 5, ground := .data } (by simp) rfl rfl 28 rfl
              exact wk.does_load_agg rfl e28 (cs := rv y) (isH_head (H2.out.below ((Below.refl _ _).drew.trans hb4)) HY0.out) Try.underlying27 rfl (by kernel_rfl) rfl
            ·
              have ho2 := (Array.getElem?_eq_some_iff.1 ho).2
              simp only [List.getElem_toArray, List.getElem_cons_succ, List.getElem_cons_zero] at ho2
              subst ho2
              clear ho
              have e23 := D.is { on := 0, ground := .data } (by simp) rfl rfl 23 rfl
              have e26 := D.is { on := 3, ground := .data } (by simp) rfl rfl 26 rfl
              have e29 := D.is { on := 6, ground := .data } (by simp) rfl rfl 29 rfl
              refine wk.does_fn (f := 56) (vs := #[.agg #[.int .i64 x.1, .int .i64 x.2.1, .int .i64 x.2.2], .agg #[.int .i64 y.1, .int .i64 y.2.1, .int .i64 y.2.2]]) rfl e23 (by simp [e26, e29]) (by go_simp) ?_
              refine (cmpH_calls _ _ _).mono ?_
              rintro e w7 ⟨rfl, hg⟩
              exact ⟨_, rfl, hg.below, rfl⟩
            ·
              have ho2 := (Array.getElem?_eq_some_iff.1 ho).2
              simp only [List.getElem_toArray, List.getElem_cons_succ, List.getElem_cons_zero] at ho2
              subst ho2
              clear ho
              have e30 := D.is { on := 7, ground := .data } (by simp) rfl rfl 30 rfl
              exact wk.does_assign rfl e30
          case hdone =>
            intro vals w4 hb4 hv
            have h8 := hv 8 (by omega)
            clear hv
            replace h8 : vals 8 = (.int .i64 (cmpH x y)) := h8
            simp only [List.drop_succ_cons, List.drop_zero, wpList, wk.setL, List.setIfInBounds_toArray, List.set_cons_zero, List.set_cons_succ, Nat.zero_add, Nat.reduceAdd, h8]
            generalize vals 0 = x0
            generalize vals 1 = x1
            generalize vals 2 = x2
            generalize vals 3 = x3
            generalize vals 4 = x4
            generalize vals 5 = x5
            generalize vals 6 = x6
            generalize vals 7 = x7
            have hb5 := (Below.refl _ _).drew.trans hb4
            have HBEL5 := Lib.hid (HBEL.out.trans (hb5.mono HBEL.out.size))
            have HOW5 := Lib.hid (keptB HOW.out hb5)
            have H15 := Lib.hid (H1w.out.below HBEL5.out)
            clear hb4 hb5
            go_wp2_with fail
            go_roundg (n1 + n2 - 1)
            case measure => have := HM.out; omega
            case rel => exact ⟨_, _, _, _, _, _, _, l1.drop 1, l2, d, rfl, rfl, rfl, isH_tail H1w.out (by omega), H2w.out, HOW5.out, HBEL5.out, by rw [HMG.out, HSC.out], by omega, by have := HM.out; omega⟩
    · have hmgL : mg l1 l2 = l1 ++ l2 := by
        by_cases h10 : n1 = 0
        · have : l1 = [] := List.length_eq_zero_iff.1 (hl1.trans h10)
          rw [this, mg]; rfl
        · have : l2 = [] := List.length_eq_zero_iff.1 (by omega)
          rw [this, mg_nil, List.append_nil]
      have HMGL : Hid (mg a b = d ++ l1 ++ l2) := by show _ = _; rw [hmg, hmgL, List.append_assoc]
      have HSUM : Hid (d.length + n1 + n2 ≤ 1000) := by show _ ≤ _; omega
      have HL1 := Lib.hid hl1
      have HL2 := Lib.hid hl2
      have HBW : Hid (w.heap.size ≤ wr.heap.size) := hbel.size
      clear h1 h2 how hbel hmg hmgL hgg hsum hl1 hl2
      by_cases h10 : n1 = 0
      · subst h10
        clear hlt
        go_wp2_with (at_builtin; refine wpList_appH rfl _ _ rfl w.heap.size _ d.length (fl d) rfl HOW.out A1 _ c1 l1 rfl H1.out ?c3 ?c5 ?_)
        case c3 => have := HSUM.out; omega
        case c5 => exact HBW.out
        intro A5 n5 c5 w5 hown5 hg5
        have hB5 : Below w.heap.size w w5 := HBEL.out.grown hg5 HBW.out (fun g hg => (HOW.out.lt g hg).1)
        have HB5 := Lib.hid hB5
        have HOW5 := Lib.hid hown5
        have H25 := Lib.hid (H2w.out.below hB5)
        have HBW5 : Hid (w.heap.size ≤ w5.heap.size) := hB5.size
        clear hB5 hown5 hg5
        go_wp2_with (at_builtin; refine wpList_appH rfl _ _ rfl w.heap.size _ _ _ rfl HOW5.out A2 _ c2 l2 rfl H25.out ?c3 ?c5 ?_)
        case c3 => have := HSUM.out; omega
        case c5 => exact HBW5.out
        intro A6 n6 c6 w6 hown6 hg6
        have hB6 : Below w.heap.size w w6 := HB5.out.grown hg6 HBW5.out (fun g hg => (HOW5.out.lt g hg).1)
        have HB6 := Lib.hid hB6
        have hfl : fl d ++ (fl l1 ++ fl l2) = fl (mg a b) := by rw [HMGL.out, fl_append, fl_append, List.append_assoc]
        try rw [List.append_assoc] at hown6
        rw [hfl] at hown6
        obtain ⟨A7, c7, hv7, hI7⟩ := isH_of_own hown6 HWA.out
        injection hv7 with e1 e2 e3
        subst e1 e2 e3
        have HI7 := Lib.hid hI7
        clear hB6 hown6 hg6 hfl hI7
        go_wp2_with fail
        go_ret
        exact ⟨_, _, _, rfl, HI7.out, HB6.out⟩
      · have h01 : (0 : Int) < (n1 : Int) := by omega
        obtain rfl : n2 = 0 := by omega
        clear hlt
        go_wp2_with (at_builtin; refine wpList_appH rfl _ _ rfl w.heap.size _ d.length (fl d) rfl HOW.out A1 _ c1 l1 rfl H1.out ?c3 ?c5 ?_)
        case c3 => have := HSUM.out; omega
        case c5 => exact HBW.out
        intro A5 n5 c5 w5 hown5 hg5
        have hB5 : Below w.heap.size w w5 := HBEL.out.grown hg5 HBW.out (fun g hg => (HOW.out.lt g hg).1)
        have HB5 := Lib.hid hB5
        have HOW5 := Lib.hid hown5
        have H25 := Lib.hid (H2w.out.below hB5)
        have HBW5 : Hid (w.heap.size ≤ w5.heap.size) := hB5.size
        clear hB5 hown5 hg5
        go_wp2_with (at_builtin; refine wpList_appH rfl _ _ rfl w.heap.size _ _ _ rfl HOW5.out A2 _ c2 l2 rfl H25.out ?c3 ?c5 ?_)
        case c3 => have := HSUM.out; omega
        case c5 => exact HBW5.out
        intro A6 n6 c6 w6 hown6 hg6
        have hB6 : Below w.heap.size w w6 := HB5.out.grown hg6 HBW5.out (fun g hg => (HOW5.out.lt g hg).1)
        have HB6 := Lib.hid hB6
        have hfl : fl d ++ (fl l1 ++ fl l2) = fl (mg a b) := by rw [HMGL.out, fl_append, fl_append, List.append_assoc]
        try rw [List.append_assoc] at hown6
        rw [hfl] at hown6
        obtain ⟨A7, c7, hv7, hI7⟩ := isH_of_own hown6 HWA.out
        injection hv7 with e1 e2 e3
        subst e1 e2 e3
        have HI7 := Lib.hid hI7
        clear hB6 hown6 hg6 hfl hI7
        go_wp2_with fail
        go_ret
        exact ⟨_, _, _, rfl, HI7.out, HB6.out⟩
end Go.Proofs.Ytckipafciomklaa.bk
/- Merge, Put, Enters, Valid, Worst. -/
namespace Go.Proofs.Ytckipafciomklaa.bk

open Go.ChangeShapes Go.WideShapes Go.ChangeAt Go.RowKit

open Go.Proofs.Ytckipafciomklaa.bq Go.Proofs.Ytckipafciomklaa.vk Go.Proofs.Ytckipafciomklaa.wk

set_option linter.unusedVariables false
theorem unbt_le (a b : List H) : (unbt a b).length ≤ a.length := List.length_filter_le _ _
theorem mg_len : ∀ (a b : List H), (mg a b).length ≤ a.length + b.length
  | [], b => by simp [mg]
  | x :: a, [] => by simp [mg]
  | x :: a, y :: b => by
    rw [mg]
    split
    · have := mg_len a (y :: b); simp only [List.length_cons] at this ⊢; omega
    · split
      · have := mg_len (x :: a) b; simp only [List.length_cons] at this ⊢; omega
      · have := mg_len a (y :: b); simp only [List.length_cons] at this ⊢; omega
termination_by a b => a.length + b.length
set_option maxRecDepth 100000 in
set_option maxHeartbeats 4000000 in
theorem merge2_calls {a b : List H} {A A' : Option Addr} {n c n' c' : Nat} (k : Int) (w : World) (h : IsH w A n c a) (h' : IsH w A' n' c' b) (hn : n + n' ≤ 1000) : Calls Try.prog 25 #[.slice A n c, .slice A' n' c', .int .i64 k] w fun e w' => ∃ A2 n2 c2, e = .returned (.slice A2 n2 c2) ∧ IsH w' A2 n2 c2 (mergeL a b k.toNat) ∧ Below w.heap.size w w' := by
  have HLA := Lib.hid h.1
  have HLB := Lib.hid h'.1
  have H1 := Lib.hid h
  have H2 := Lib.hid h'
  clear h h'
  go_enter Try.func25, Try.ntmps25
  go_wp2_with fail
  refine (nearer_calls _).mono ?_
  rintro e w1 ⟨rfl, hb1⟩
  have HOX := Lib.hid (OrdX.new w1)
  have hbw := hb1.trans ((below_new w1 (.cells #[.func (.func 56) #[] #[]] 55)).mono hb1.size)
  have HBW := Lib.hid hbw
  have HA2 := Lib.hid (H1.out.below hbw)
  have HB2 := Lib.hid (H2.out.below hbw)
  clear hb1 hbw
  go_wp2_with fail
  refine wk.region_tailS 14 [.is (.agg #[.func (.func 56) #[] #[]]), .is (.slice A n c), .is (.slice A' n' c'), .st (fun u x => ∃ A n c, x = .slice A n c ∧ IsH u A n c (unbt a b)) (fun u u2 x h hb => by obtain ⟨A, n, c, h1, h2⟩ := h; exact ⟨A, n, c, h1, h2.below hb⟩), .is (.agg #[.func (.func 56) #[] #[]]), .is (.slice A' n' c'), .is (.slice A n c), .st (fun u x => ∃ A n c, x = .slice A n c ∧ IsH u A n c (unbt b a)) (fun u u2 x h hb => by obtain ⟨A, n, c, h1, h2⟩ := h; exact ⟨A, n, c, h1, h2.below hb⟩), .is (.pointer (some ⟨w1.heap.size, 0, none⟩)), .is (.func (.func 56) #[] #[]), .st (fun u x => ∃ A n c, x = .slice A n c ∧ IsH u A n c (mg (unbt a b) (unbt b a))) (fun u u2 x h hb => by obtain ⟨A, n, c, h1, h2⟩ := h; exact ⟨A, n, c, h1, h2.below hb⟩), .is (.int .i64 k), .st (fun u x => ∃ A n c, x = .slice A n c ∧ IsH u A n c (mergeL a b k.toNat)) (fun u u2 x h hb => by obtain ⟨A, n, c, h1, h2⟩ := h; exact ⟨A, n, c, h1, h2.below hb⟩), .st (fun u x => ∃ A n c, x = .slice A n c ∧ IsH u A n c (mergeL a b k.toNat)) (fun u u2 x h hb => by obtain ⟨A, n, c, h1, h2⟩ := h; exact ⟨A, n, c, h1, h2.below hb⟩)] [some 9, some 10, some 11, some 12, some 13, some 14, some 15, some 16, some 17, some 18, some 19, some 20, some 21, some 6] (by kernel_rfl) (by kernel_rfl) (by kernel_rfl) (by kernel_rfl) [] (by kernel_rfl) (by intro p hp; cases hp) (by kernel_rfl) (by kernel_rfl) ?hstep ?hdone
  case hstep =>
    intro i o ho hi hns E w4 hb4 D
    have hi2 : i = 0 ∨ i = 1 ∨ i = 2 ∨ i = 3 ∨ i = 4 ∨ i = 5 ∨ i = 6 ∨ i = 7 ∨ i = 8 ∨ i = 9 ∨ i = 10 ∨ i = 11 ∨ i = 12 ∨ i = 13 := by omega
    clear hi
    rcases hi2 with rfl | rfl | rfl | rfl | rfl | rfl | rfl | rfl | rfl | rfl | rfl | rfl | rfl | rfl
    ·
      have ho2 := (Array.getElem?_eq_some_iff.1 ho).2
      simp only [List.getElem_toArray, List.getElem_cons_zero] at ho2
      subst ho2
      clear ho
      have e7 := D.old 7 (by kernel_rfl)
      exact wk.does_load_agg rfl (show E (.tmp 7) = .pointer (some ⟨w1.heap.size, 0, none⟩) by rw [e7]; rfl) (cs := [.func (.func 56) #[] #[]]) ((HOX.out.below ((Below.refl _ _).drew.trans hb4)).cells) Try.underlying55 rfl (by kernel_rfl) rfl
    ·
      have ho2 := (Array.getElem?_eq_some_iff.1 ho).2
      simp only [List.getElem_toArray, List.getElem_cons_succ, List.getElem_cons_zero] at ho2
      subst ho2
      clear ho
      have e0 := D.old 0 (by kernel_rfl)
      exact wk.does_move rfl (by rw [e0]; rfl)
    ·
      have ho2 := (Array.getElem?_eq_some_iff.1 ho).2
      simp only [List.getElem_toArray, List.getElem_cons_succ, List.getElem_cons_zero] at ho2
      subst ho2
      clear ho
      have e1 := D.old 1 (by kernel_rfl)
      exact wk.does_move rfl (by rw [e1]; rfl)
    ·
      have ho2 := (Array.getElem?_eq_some_iff.1 ho).2
      simp only [List.getElem_toArray, List.getElem_cons_succ, List.getElem_cons_zero] at ho2
      subst ho2
      clear ho
      have e9 := D.is { on := 0, ground := .data } (by simp) rfl rfl 9 rfl
      have e10 := D.is { on := 1, ground := .data } (by simp) rfl rfl 10 rfl
      have e11 := D.is { on := 2, ground := .data } (by simp) rfl rfl 11 rfl
      refine wk.does_fn (f := 48) (vs := #[.agg #[.func (.func 56) #[] #[]], .slice A n c, .slice A' n' c']) rfl (D.fn _) (by simp [e9, e10, e11]) (by go_simp) ?_
      refine (unbeaten_calls w4 (HA2.out.below ((Below.refl _ _).drew.trans hb4)) (HB2.out.below ((Below.refl _ _).drew.trans hb4)) (by omega)).mono ?_
      rintro e w7 ⟨A, n, c, rfl, h7, hb7⟩
      exact ⟨_, rfl, hb7, A, n, c, rfl, h7⟩
    ·
      have ho2 := (Array.getElem?_eq_some_iff.1 ho).2
      simp only [List.getElem_toArray, List.getElem_cons_succ, List.getElem_cons_zero] at ho2
      subst ho2
      clear ho
      have e7 := D.old 7 (by kernel_rfl)
      exact wk.does_load_agg rfl (show E (.tmp 7) = .pointer (some ⟨w1.heap.size, 0, none⟩) by rw [e7]; rfl) (cs := [.func (.func 56) #[] #[]]) ((HOX.out.below ((Below.refl _ _).drew.trans hb4)).cells) Try.underlying55 rfl (by kernel_rfl) rfl
    ·
      have ho2 := (Array.getElem?_eq_some_iff.1 ho).2
      simp only [List.getElem_toArray, List.getElem_cons_succ, List.getElem_cons_zero] at ho2
      subst ho2
      clear ho
      have e1 := D.old 1 (by kernel_rfl)
      exact wk.does_move rfl (by rw [e1]; rfl)
    ·
      have ho2 := (Array.getElem?_eq_some_iff.1 ho).2
      simp only [List.getElem_toArray, List.getElem_cons_succ, List.getElem_cons_zero] at ho2
      subst ho2
      clear ho
      have e0 := D.old 0 (by kernel_rfl)
      exact wk.does_move rfl (by rw [e0]; rfl)
    ·
      have ho2 := (Array.getElem?_eq_some_iff.1 ho).2
      simp only [List.getElem_toArray, List.getElem_cons_succ, List.getElem_cons_zero] at ho2
      subst ho2
      clear ho
      have e13 := D.is { on := 4, ground := .data } (by simp) rfl rfl 13 rfl
      have e14 := D.is { on := 5, ground := .data } (by simp) rfl rfl 14 rfl
      have e15 := D.is { on := 6, ground := .data } (by simp) rfl rfl 15 rfl
      refine wk.does_fn (f := 48) (vs := #[.agg #[.func (.func 56) #[] #[]], .slice A' n' c', .slice A n c]) rfl (D.fn _) (by simp [e13, e14, e15]) (by go_simp) ?_
      refine (unbeaten_calls w4 (HB2.out.below ((Below.refl _ _).drew.trans hb4)) (HA2.out.below ((Below.refl _ _).drew.trans hb4)) (by omega)).mono ?_
      rintro e w7 ⟨A, n, c, rfl, h7, hb7⟩
      exact ⟨_, rfl, hb7, A, n, c, rfl, h7⟩
    ·
      have ho2 := (Array.getElem?_eq_some_iff.1 ho).2
      simp only [List.getElem_toArray, List.getElem_cons_succ, List.getElem_cons_zero] at ho2
      subst ho2
      clear ho
      have e7 := D.old 7 (by kernel_rfl)
      exact wk.does_run (by simp only [execOp]; rw [show E (.tmp 7) = .pointer (some ⟨w1.heap.size, 0, none⟩) by rw [e7]; rfl]; go_simp) rfl
    ·
      have ho2 := (Array.getElem?_eq_some_iff.1 ho).2
      simp only [List.getElem_toArray, List.getElem_cons_succ, List.getElem_cons_zero] at ho2
      subst ho2
      clear ho
      have e17 := D.is { on := 8, ground := .data } (by simp) rfl rfl 17 rfl
      exact wk.does_load1 rfl e17 ((HOX.out.below ((Below.refl _ _).drew.trans hb4)).c0) Try.underlying53 rfl rfl
    ·
      have ho2 := (Array.getElem?_eq_some_iff.1 ho).2
      simp only [List.getElem_toArray, List.getElem_cons_succ, List.getElem_cons_zero] at ho2
      subst ho2
      clear ho
      have s12 := D.st { on := 3, ground := .data } (by simp) rfl rfl 12 rfl
      have s16 := D.st { on := 7, ground := .data } (by simp) rfl rfl 16 rfl
      have e18 := D.is { on := 9, ground := .data } (by simp) rfl rfl 18 rfl
      obtain ⟨A3, n3, c3, hx3, h3⟩ := s12
      obtain ⟨A5, n5, c5, hx5, h5⟩ := s16
      refine wk.does_fn (f := 47) (vs := #[.slice A3 n3 c3, .slice A5 n5 c5, .func (.func 56) #[] #[]]) rfl (D.fn _) (by simp [hx3, hx5, e18]) (by go_simp) ?_
      refine (merge_calls w4 h3 h5 (by have h8 := h3.1; have h9 := h5.1; have := unbt_le a b; have := unbt_le b a; have := HLA.out; have := HLB.out; omega)).mono ?_
      rintro e w7 ⟨A, n, c, rfl, h7, hb7⟩
      exact ⟨_, rfl, hb7, A, n, c, rfl, h7⟩
    ·
      have ho2 := (Array.getElem?_eq_some_iff.1 ho).2
      simp only [List.getElem_toArray, List.getElem_cons_succ, List.getElem_cons_zero] at ho2
      subst ho2
      clear ho
      have e2 := D.old 2 (by kernel_rfl)
      exact wk.does_move rfl (by rw [e2]; rfl)
    ·
      have ho2 := (Array.getElem?_eq_some_iff.1 ho).2
      simp only [List.getElem_toArray, List.getElem_cons_succ, List.getElem_cons_zero] at ho2
      subst ho2
      clear ho
      have s19 := D.st { on := 10, ground := .data } (by simp) rfl rfl 19 rfl
      have e20 := D.is { on := 11, ground := .data } (by simp) rfl rfl 20 rfl
      obtain ⟨A3, n3, c3, hx3, h3⟩ := s19
      refine wk.does_fn (f := 42) (vs := #[.slice A3 n3 c3, .int .i64 k]) rfl (D.fn _) (by simp [hx3, e20]) (by go_simp) ?_
      refine (first_calls k w4 h3).mono ?_
      rintro e w7 ⟨A7, n7, c7, rfl, h7, rfl⟩
      exact ⟨_, rfl, Below.refl _ _, A7, n7, c7, rfl, h7⟩
    ·
      have ho2 := (Array.getElem?_eq_some_iff.1 ho).2
      simp only [List.getElem_toArray, List.getElem_cons_succ, List.getElem_cons_zero] at ho2
      subst ho2
      clear ho
      have s21 := D.st { on := 12, ground := .data } (by simp) rfl rfl 21 rfl
      exact wk.does_assign rfl s21
  case hdone =>
    intro vals w4 hb4 hv
    have h13 := hv 13 (by omega)
    clear hv
    simp only [List.drop_succ_cons, List.drop_zero, wpList, wk.setL, List.setIfInBounds_toArray, List.set_cons_zero, List.set_cons_succ, Nat.zero_add, Nat.reduceAdd]
    generalize vals 0 = x0
    generalize vals 1 = x1
    generalize vals 2 = x2
    generalize vals 3 = x3
    generalize vals 4 = x4
    generalize vals 5 = x5
    generalize vals 6 = x6
    generalize vals 7 = x7
    generalize vals 8 = x8
    generalize vals 9 = x9
    generalize vals 10 = x10
    generalize vals 11 = x11
    generalize vals 12 = x12
    generalize vals 13 = x13 at *
    have hbB := (Below.refl _ _).drew.trans hb4
    obtain ⟨A9, n9, c9, rfl, h9⟩ := h13
    have HF := Lib.hid (And.intro h9 (HBW.out.trans (hbB.mono HBW.out.size)))
    clear hb4 hbB h9
    go_wp2_with fail
    go_ret
    exact ⟨A9, n9, c9, rfl, HF.out⟩
set_option maxRecDepth 100000 in
set_option maxHeartbeats 4000000 in
theorem put_calls {a : List H} {x : H} {A : Option Addr} {n c : Nat} (k : Int) (w : World) (h : IsH w A n c a) (hx : Wd x) (hn : n ≤ 900) : Calls Try.prog 21 #[.slice A n c, .int .i64 k, .agg #[.int .i64 x.1, .int .i64 x.2.1, .int .i64 x.2.2]] w fun e w' => ∃ A2 n2 c2, e = .returned (.slice A2 n2 c2) ∧ IsH w' A2 n2 c2 (mergeL a [x] k.toNat) ∧ Below w.heap.size w w' := by
  have hb1 := below_new w (.cells #[.int .i64 x.1, .int .i64 x.2.1, .int .i64 x.2.2] 27)
  have hR := RowH.new w x
  have h0 := hR.c0
  have h1 := hR.c1
  have h2 := hR.c2
  have hb2 := below_new (w.alloc (.cells #[.int .i64 x.1, .int .i64 x.2.1, .int .i64 x.2.2] 27)) (.cells #[.int .i64 x.1, .int .i64 x.2.1, .int .i64 x.2.2] 27)
  have hR2 := RowH.new (w.alloc (.cells #[.int .i64 x.1, .int .i64 x.2.1, .int .i64 x.2.2] 27)) x
  rw [size_new] at hR2
  have HB := Lib.hid (Below.andThen hb1 hb2)
  have HM := Lib.hid (merge2_calls k ((w.alloc (.cells #[.int .i64 x.1, .int .i64 x.2.1, .int .i64 x.2.2] 27)).alloc (.cells #[.int .i64 x.1, .int .i64 x.2.1, .int .i64 x.2.2] 27)) (isH_below (isH_below h hb1) hb2) (isH_one hR2 hx (Nat.le_refl 1) (by omega)) (by omega))
  clear h hb1 hb2 hR hR2
  go_enter Try.func21, Try.ntmps21
  go_wp2_with fail
  refine HM.out.mono ?_
  rintro e w' ⟨A2, n2, c2, rfl, h3, h4⟩
  have HF := Lib.hid (And.intro h3 (Below.andThen HB.out h4))
  clear h3 h4
  go_wp2_with fail
  go_ret
  exact ⟨A2, n2, c2, rfl, HF.out⟩
set_option maxRecDepth 100000 in
set_option maxHeartbeats 4000000 in
theorem enters_calls {a : List H} {x : H} {A : Option Addr} {n c : Nat} (k : Int) (w : World) (h : IsH w A n c a) (hx : Wd x) (hn : n ≤ 900) : Calls Try.prog 23 #[.slice A n c, .int .i64 k, .agg #[.int .i64 x.1, .int .i64 x.2.1, .int .i64 x.2.2]] w fun e w' => e = .returned (.bool (!(a == mergeL a [x] k.toNat))) ∧ Below w.heap.size w w' := by
  have hb1 := below_new w (.cells #[.int .i64 x.1, .int .i64 x.2.1, .int .i64 x.2.2] 27)
  have hR := RowH.new w x
  have h0 := hR.c0
  have h1 := hR.c1
  have h2 := hR.c2
  have HB := Lib.hid hb1
  have HA := Lib.hid (isH_below h hb1)
  have HM := Lib.hid (put_calls k (w.alloc (.cells #[.int .i64 x.1, .int .i64 x.2.1, .int .i64 x.2.2] 27)) (isH_below h hb1) hx hn)
  clear h hb1 hR
  go_enter Try.func23, Try.ntmps23
  go_wp2_with fail
  refine HM.out.mono ?_
  rintro e w' ⟨A2, n2, c2, rfl, h3, h4⟩
  have HE := Lib.hid (equal_calls w' (HA.out.below h4) h3)
  have HF := Lib.hid (Below.andThen HB.out h4)
  clear h3 h4
  go_wp2_with fail
  refine HE.out.mono ?_
  rintro e w2 ⟨rfl, q, rfl⟩
  have HF2 : Hid (Below w.heap.size w (w'.drewN q)) := HF.out.trans ⟨rfl, rfl, rfl, Nat.le_refl _, fun _ _ => rfl⟩
  go_wp2_with fail
  go_ret
  exact ⟨rfl, HF2.out⟩
set_option maxRecDepth 100000 in
set_option maxHeartbeats 4000000 in
theorem valid_calls {l : List H} {A : Option Addr} {n c : Nat} (k : Int) (w : World) (h : IsH w A n c l) (hn : n ≤ 1000000) : Calls Try.prog 11 #[.slice A n c, .int .i64 k] w fun e w' => e = .returned (.bool (vld l k)) ∧ Below w.heap.size w w' := by
  have HW := Lib.hid (fun w' => within_calls k 1 64 w')
  have HC := Lib.hid (contains_calls (g := 38) (cap := #[]) (p := fun x => !right x) w h enters38 (wrong_pred l w))
  have HO := Lib.hid (fun w' (hb : Below w.heap.size w w') => of_calls k w' (h.below hb) hn)
  have H := Lib.hid h
  have hl := h.1
  have hm := h.2.2.1
  have hnc := h.2.1
  have hany : (l.any fun x => !right x) = !(l.all right) := by
    rw [List.not_all_eq_any_not]
  rw [hany] at HC
  obtain ⟨r, hr⟩ : ∃ r, vld l k = r := ⟨_, rfl⟩
  have HR := Lib.hid hr
  rw [hr]
  clear hany h hr
  cases hk : decide (1 ≤ k ∧ k ≤ 64)
  · rw [hk] at HW
    have hr : r = false := by rw [← HR.out]; unfold vld okK; rw [hk]; rfl
    subst hr
    clear hk hl
    go_enter Try.func11, Try.ntmps11
    go_wp2_with fail
    refine (HW.out _).mono ?_
    rintro e w' ⟨rfl, rfl⟩
    go_wp2_with fail
    go_ret
    exact ⟨rfl, Below.refl _ _⟩
  · rw [hk] at HW
    by_cases hnk : (n : Int) ≤ k
    · have hgt : ¬ k < (n : Int) := by omega
      cases ha : l.all right
      · rw [ha] at HC
        have hr : r = false := by rw [← HR.out]; unfold vld okK; rw [hk, ha]; simp
        subst hr
        clear hk hl ha
        go_enter Try.func11, Try.ntmps11
        go_wp2_with fail
        refine (HW.out _).mono ?_
        rintro e w' ⟨rfl, rfl⟩
        go_wp2_with fail
        refine HC.out.mono ?_
        rintro e w' ⟨rfl, hb⟩
        have HB := Lib.hid hb
        clear hb
        go_wp2_with fail
        go_ret
        exact ⟨rfl, HB.out⟩
      · rw [ha] at HC
        have hr : r = (l == ofL l k.toNat) := by
          rw [← HR.out]; unfold vld okK; rw [hk, ha, decide_eq_true (show ((l.length : Int) ≤ k) by rw [hl]; exact hnk)]; simp
        subst hr
        clear hk hl ha
        go_enter Try.func11, Try.ntmps11
        go_wp2_with fail
        refine (HW.out _).mono ?_
        rintro e w' ⟨rfl, rfl⟩
        go_wp2_with fail
        refine HC.out.mono ?_
        rintro e w1 ⟨rfl, hb⟩
        have HB := Lib.hid hb
        clear hb
        go_wp2_with fail
        refine (HO.out w1 HB.out).mono ?_
        rintro e w2 ⟨A2, n2, c2, rfl, h3, h4⟩
        have HB2 := Lib.hid (Below.andThen HB.out h4)
        have HE := Lib.hid (equal_calls w2 (H.out.below HB2.out) h3)
        clear h3 h4
        go_wp2_with fail
        refine HE.out.mono ?_
        rintro e w3 ⟨rfl, q, rfl⟩
        have HF2 := Lib.hid (HB2.out.trans (show Below _ w2 (w2.drewN q) from ⟨rfl, rfl, rfl, Nat.le_refl _, fun _ _ => rfl⟩))
        go_wp2_with fail
        go_ret
        exact ⟨rfl, HF2.out⟩
    · have hgt : k < (n : Int) := by omega
      have hr : r = false := by
        rw [← HR.out]; unfold vld okK; rw [hk, decide_eq_false (show ¬ ((l.length : Int) ≤ k) by rw [hl]; omega)]; simp
      subst hr
      clear hk hl hnk
      go_enter Try.func11, Try.ntmps11
      go_wp2_with fail
      refine (HW.out _).mono ?_
      rintro e w' ⟨rfl, rfl⟩
      go_wp2_with fail
      go_ret
      exact ⟨rfl, Below.refl _ _⟩
set_option maxRecDepth 100000 in
set_option maxHeartbeats 4000000 in
theorem worst_calls {l : List H} {A : Option Addr} {n c : Nat} (k : Int) (w : World) (h : IsH w A n c l) (hp : ∀ x ∈ l, 0 ≤ x.2.2) : Calls Try.prog 27 #[.slice A n c, .int .i64 k] w fun e w' => e = .returned (.int .i64 (worst l k)) ∧ w' = w := by
  have hl := h.1
  have hm := h.2.2.1
  have hnc := h.2.1
  unfold worst
  rw [hl]
  by_cases hlt : (n : Int) < max k 1
  · rw [if_pos hlt]
    clear h hl hp
    go_enter Try.func27, Try.ntmps27
    go_wp2_with fail
    go_ret
    exact ⟨rfl, rfl⟩
  · rw [if_neg hlt]
    have hn1 : n - 1 < n := by omega
    obtain ⟨b, o, x, rfl, -, -, hx3, hb1, hX, hwx⟩ := isH_get h hn1
    have hlast : l.getLast? = some x := by rw [List.getLast?_eq_getElem?, hl]; exact hX
    have hx0 := hp x (List.mem_of_getElem? hX)
    rw [hlast]
    have hx5 : -9223372036854775808 ≤ x.2.2 ∧ x.2.2 ≤ 9223372036854775807 := hwx.2.2
    have hwr : IntKind.i64.wrap (x.2.2 - 1) = x.2.2 - 1 := by rw [IntKind.wrap_i64]; omega
    obtain ⟨z, hz⟩ : ∃ z, z = x.2.2 := ⟨_, rfl⟩
    rw [← hz] at hx3 hwr
    show Calls _ _ _ _ fun e w' => e = .returned (.int .i64 (x.2.2 - 1)) ∧ _
    rw [← hz]
    have hcast : (n : Int) - 1 = ((n - 1 : Nat) : Int) := by omega
    have hi0 : (0 : Int) ≤ (n : Int) - 1 := by omega
    have hi1 : (n : Int) - 1 < (n : Int) := by omega
    have hto : ((n : Int) - 1).toNat = n - 1 := by omega
    clear h hp hl hb1 hX hwx hlast hx0 hx5 hz
    go_enter Try.func27, Try.ntmps27
    go_wp2_with fail
    go_ret
    exact ⟨rfl, rfl⟩
end Go.Proofs.Ytckipafciomklaa.bk
/- Concat, Common. -/
namespace Go.Proofs.Ytckipafciomklaa.bk

open Go.ChangeShapes Go.WideShapes Go.ChangeAt Go.RowKit Go.Maps

open Go.Proofs.Ytckipafciomklaa.bq Go.Proofs.Ytckipafciomklaa.vk Go.Proofs.Ytckipafciomklaa.wk

set_option linter.unusedVariables false
set_option maxRecDepth 100000 in
set_option maxHeartbeats 4000000 in
theorem growH_calls (n : Nat) (w : World) (h1 : 1 ≤ n) (h2 : n ≤ 1000) :
    Calls Try.prog 66 #[.slice none 0 0, .int .i64 n] w fun e w' => ∃ v, e = .returned v ∧ w'.ownsRow w.heap.size 27 3 v 0 [] ∧ Below w.heap.size w w' := by
  obtain ⟨i0, hi, hz0, hz1, hz2⟩ := info_parts infoHt
  have hfit : Builtin.nextslicecap n 0 * i0.bytes ≤ 281474976710656 := growslice_fits (by omega) (by rw [hz2]; omega)
  have hrz : ∀ ty, (Builtin.append_ #[22, 3] ty #[.slice none 0 0, .int .i64 (n : Int)]).run Try.prog w = .ok (.slice (some ⟨w.heap.size, 0, none⟩) n (grownCap w n 0 27)) (w.drew.alloc (.cells (#[] ++ Builtin.zeroCells (.agg #[.int .i64 0, .int .i64 0, .int .i64 0] : Value).cells n ++ Builtin.zeroCells (.agg #[.int .i64 0, .int .i64 0, .int .i64 0] : Value).cells (grownCap w n 0 27 - n)) 27)) := fun ty => by
    have h := Lib.run_append_grow_zeros (P := Try.prog) w 22 3 ty 27 i0 (.agg #[.int .i64 0, .int .i64 0, .int .i64 0] : Value) .i64 .i64 Try.underlying22 Try.underlying3 hi hz0 none 0 0 [] (run_firstCells_none w.drew i0.size 0 0 0) n (by omega) (by rw [hz1]; omega) (by omega) (by omega) (by rw [hz2]; omega) (by rw [Nat.zero_add]; exact hfit)
    rw [Nat.zero_add] at h
    exact h
  have hGn : n ≤ grownCap w n 0 27 := grownCap_ge w _ _ _
  have hGm := grownCap_le_maxLen w n 0 27 (by unfold maxLen; omega)
  obtain ⟨G, hG⟩ : ∃ G, G = grownCap w n 0 27 := ⟨_, rfl⟩
  rw [← hG] at hrz hGn hGm
  have HR := Lib.hid (World.ownsRow_made (base := w.heap.size) (e := 27) (size := 3) w.drew (#[] ++ Builtin.zeroCells (.agg #[.int .i64 0, .int .i64 0, .int .i64 0] : Value).cells n ++ Builtin.zeroCells (.agg #[.int .i64 0, .int .i64 0, .int .i64 0] : Value).cells (G - n)) G (Nat.le_refl _) hGm (by
    simp [Builtin.zeroCells, Value.cells]; omega))
  have HB : Hid (Below w.heap.size w (w.drew.alloc (.cells (#[] ++ Builtin.zeroCells (.agg #[.int .i64 0, .int .i64 0, .int .i64 0] : Value).cells n ++ Builtin.zeroCells (.agg #[.int .i64 0, .int .i64 0, .int .i64 0] : Value).cells (G - n)) 27))) := (Below.refl _ _).drew.alloc (Nat.le_refl _) _
  have hG63 : G ≤ 9223372036854775807 := by unfold maxLen at hGm; omega
  generalize (w.drew.alloc (.cells (#[] ++ Builtin.zeroCells (.agg #[.int .i64 0, .int .i64 0, .int .i64 0] : Value).cells n ++ Builtin.zeroCells (.agg #[.int .i64 0, .int .i64 0, .int .i64 0] : Value).cells (G - n)) 27)) = w2 at *
  clear hG hGm hfit
  go_enter Try.func66, Try.ntmps66
  go_wp2_with (at_builtin; refine Lib.wpList_append_run _ rfl _ _ _ _ rfl _ _ rfl rfl _ _ (hrz _) ?_)
  go_ret
  exact ⟨_, rfl, HR.out, HB.out⟩
set_option maxRecDepth 100000 in
set_option maxHeartbeats 4000000 in
theorem grow0_calls (w : World) : Calls Try.prog 66 #[.slice none 0 0, .int .i64 0] w fun e w' => e = .returned (.slice none 0 0) ∧ w' = w := by
  go_enter Try.func66, Try.ntmps66
  go_wp2_with fail
  go_ret
  exact ⟨rfl, rfl⟩
theorem growN_calls (n : Nat) (w : World) (h2 : n ≤ 1000) :
    Calls Try.prog 66 #[.slice none 0 0, .int .i64 n] w fun e w' => ∃ A n' c, e = .returned (.slice A n' c) ∧ w'.ownsRow w.heap.size 27 3 (.slice A n' c) 0 [] ∧ Below w.heap.size w w' := by
  by_cases h0 : n = 0
  · subst h0
    exact (grow0_calls w).mono fun e w' ⟨he, hw⟩ => ⟨none, 0, 0, he, World.ownsRow_nil _ _ _ _, by rw [hw]; exact Below.refl _ _⟩
  · refine (growH_calls n w (by omega) h2).mono fun e w' ⟨v, he, ho, hb⟩ => ?_
    obtain ⟨A, n', c, rfl⟩ : ∃ A n c, v = .slice A n c := by
      rcases ho.2 with ⟨h, _⟩ | ⟨g', cap', cur', h, _⟩
      · exact ⟨_, _, _, h⟩
      · exact ⟨_, _, _, h⟩
    exact ⟨A, n', c, he, ho, hb⟩
def TwoS (w : World) (g : Nat) (a b : Value) : Prop := w.heap[g]? = some (.cells #[a, b] 22 (0, 0))
theorem TwoS.lt {w : World} {g : Nat} {a b : Value} (h : TwoS w g a b) : g < w.heap.size := (Array.getElem?_eq_some_iff.1 h).1
theorem TwoS.below {w w' : World} {g : Nat} {a b : Value} (h : TwoS w g a b) (hb : Below w.heap.size w w') : TwoS w' g a b := (hb.block g h.lt).trans h
theorem TwoS.new (w : World) (a b : Value) : TwoS (w.alloc (.cells #[a, b] 22)) w.heap.size a b := heap_alloc_new w _
theorem TwoS.c0 {w : World} {g : Nat} {a b : Value} (h : TwoS w g a b) : w.cell? ⟨g, 0, none⟩ = some a := by rw [cell_of_row _ _ _ _ _ _ h]; rfl
theorem TwoS.c1 {w : World} {g : Nat} {a b : Value} (h : TwoS w g a b) : w.cell? ⟨g, 1, none⟩ = some b := by rw [cell_of_row _ _ _ _ _ _ h]; rfl
set_option maxRecDepth 100000 in
set_option maxHeartbeats 4000000 in
theorem concat_calls {a b : List H} {A A' : Option Addr} {n c n' c' g : Nat} (w : World) (hg : TwoS w g (.slice A n c) (.slice A' n' c')) (h : IsH w A n c a) (h' : IsH w A' n' c' b) (hn : n + n' ≤ 1000) : Calls Try.prog 49 #[.slice (some ⟨g, 0, none⟩) 2 2] w fun e w' => ∃ A2 n2 c2, e = .returned (.slice A2 n2 c2) ∧ IsH w' A2 n2 c2 (a ++ b) ∧ Below w.heap.size w w' := by
  have hm := h.2.2.1
  have hnc := h.2.1
  have hm' := h'.2.2.1
  have hnc' := h'.2.1
  have hc0 := hg.c0
  have hc1 := hg.c1
  have HG := Lib.hid hg
  have HA := Lib.hid h
  have HB := Lib.hid h'
  have HGR := Lib.hid (growN_calls (n + n') w hn)
  have hcast : ((n + n' : Nat) : Int) = (n : Int) + (n' : Int) := by omega
  rw [hcast] at HGR
  have HWD : Hid (∀ r ∈ a ++ b, Wd r) := fun r hr => by
    rcases List.mem_append.1 hr with hr | hr
    · exact h.2.2.2.2.1 r hr
    · exact h'.2.2.2.2.1 r hr
  clear h h' hg hcast
  go_enter Try.func49, Try.ntmps49
  go_wp2_with fail
  go_loopg [3, 11] 2 (fun gg s x wr => ∃ k : Nat, k + gg = 2 ∧ x = .int .i64 (k : Int) ∧ w = wr ∧ s = .int .i64 (if k = 0 then 0 else if k = 1 then (n : Int) else (n : Int) + (n' : Int)))
  case atStart => exact ⟨0, by omega, rfl, rfl, rfl⟩
  case round =>
    obtain ⟨k, hk, rfl, rfl, rfl⟩ := hrel
    have HK := Lib.hid hk
    have hk3 : k = 0 ∨ k = 1 ∨ k = 2 := by omega
    clear hk
    rcases hk3 with rfl | rfl | rfl
    · go_wp2_with fail
      go_roundg (gk - 1)
      case measure => have := HK.out; omega
      case rel => exact ⟨1, by have := HK.out; omega, by go_num, rfl, by simp⟩
    · have hnn : (0 : Int) ≤ (n : Int) + (n' : Int) := by omega
      have hn0 : ¬ (n : Int) + (n' : Int) < 0 := by omega
      go_wp2_with fail
      go_roundg (gk - 1)
      case measure => have := HK.out; omega
      case rel => exact ⟨2, by have := HK.out; omega, by go_num, rfl, by first | (simp; done) | (go_num)⟩
    · clear hc0 hc1
      go_wp2_with fail
      refine HGR.out.mono ?_
      rintro e w1 ⟨A1, n1, c1, rfl, hown, hb1⟩
      have HO := Lib.hid hown
      have HB1 := Lib.hid hb1
      clear hown hb1
      go_wp2_with fail
      go_loopg [6, 27] 2 (fun gg s x wr => ∃ (k : Nat) (v : Value), k + gg = 2 ∧ x = .int .i64 (k : Int) ∧ v = s ∧ Below w.heap.size w wr ∧ wr.ownsRow w.heap.size 27 3 v (if k = 0 then 0 else if k = 1 then n else n + n') (if k = 0 then [] else if k = 1 then fl a else fl (a ++ b)))
      case atStart => exact ⟨0, _, by omega, rfl, rfl, HB1.out, HO.out⟩
      case round =>
        obtain ⟨k, v, hk, rfl, rfl, hbel, hown⟩ := hrel
        have HK2 := Lib.hid hk
        have hk3 : k = 0 ∨ k = 1 ∨ k = 2 := by omega
        have HBEL := Lib.hid hbel
        have HBW : Hid (w.heap.size ≤ wr.heap.size) := hbel.size
        have HGw := HG.out.below hbel
        have hc0 := HGw.c0
        have hc1 := HGw.c1
        clear hk hbel HGw
        rcases hk3 with rfl | rfl | rfl
        · have HOW := Lib.hid (show wr.ownsRow w.heap.size 27 3 v 0 [] from by simpa using hown)
          clear hown
          go_wp2_with (at_builtin; refine wpList_appH rfl _ _ rfl w.heap.size _ 0 [] rfl HOW.out _ n c a rfl (HA.out.below HBEL.out) ?c3 ?c5 ?_)
          case c3 => omega
          case c5 => exact HBW.out
          intro A5 n5 c5 w5 hown5 hg5
          have HB5 := Lib.hid (HBEL.out.grown hg5 HBW.out (fun g hg => (HOW.out.lt g hg).1))
          have HOW5 := Lib.hid hown5
          clear hown5 hg5
          go_wp2_with fail
          go_roundg (gk - 1)
          case measure => have := HK2.out; omega
          case rel => exact ⟨1, _, by have := HK2.out; omega, by go_num, rfl, HB5.out, by simpa using HOW5.out⟩
        · have HOW := Lib.hid (show wr.ownsRow w.heap.size 27 3 v n (fl a) from by simpa using hown)
          clear hown
          go_wp2_with (at_builtin; refine wpList_appH rfl _ _ rfl w.heap.size _ n (fl a) rfl HOW.out _ n' c' b rfl (HB.out.below HBEL.out) ?c3 ?c5 ?_)
          case c3 => omega
          case c5 => exact HBW.out
          intro A5 n5 c5 w5 hown5 hg5
          have HB5 := Lib.hid (HBEL.out.grown hg5 HBW.out (fun g hg => (HOW.out.lt g hg).1))
          have HOW5 := Lib.hid hown5
          clear hown5 hg5
          go_wp2_with fail
          go_roundg (gk - 1)
          case measure => have := HK2.out; omega
          case rel => exact ⟨2, _, by have := HK2.out; omega, by go_num, rfl, HB5.out, by rw [if_neg (by omega), if_neg (by omega), if_neg (by omega), if_neg (by omega), fl_append]; exact HOW5.out⟩
        · have ho : wr.ownsRow w.heap.size 27 3 v (n + n') (fl (a ++ b)) := by simpa using hown
          obtain ⟨A7, c7, rfl, hI7⟩ := isH_of_own ho HWD.out
          have HI7 := Lib.hid hI7
          clear hown ho hI7 hc0 hc1
          go_wp2_with fail
          go_ret
          exact ⟨_, _, _, rfl, HI7.out, HBEL.out⟩
theorem size_of {D : DataW Unit} {w : World} {b n : Nat} {l : List H} (h : w.ownsMap Try.prog 3 hitR b n D) (hd : HasM D l) : Maps.size D = (bst l).length := by
  have hp := CollectedI.perm (D0 := D) (left := fun _ => false) (ss := (bst l).map fun h : H => h.1) ⟨(lst_bst l).2, fun x => ?_⟩ h keyed Try.underlying3 (fun _ => rfl)
  · have h1 := hp.length_eq
    rw [List.length_map] at h1
    obtain ⟨es, rfl⟩ := h.isMap
    rw [h1]
    simp [Maps.size, intKeys]
  · rw [hd.1 x, List.any_eq_true, List.mem_map]
    constructor
    · rintro ⟨y, hy, rfl⟩; exact ⟨⟨y, hy, by simp⟩, rfl⟩
    · rintro ⟨⟨y, hy, e⟩, _⟩; exact ⟨y, hy, by simpa using e⟩
theorem MapH.len {w : World} {b n : Nat} {l : List H} (h : MapH w b n l) (ty : TypeId) : (Builtin.len_ #[61] ty #[.map (some b)]).run Try.prog w = .ok (.int .i64 ((bst l).length : Int)) w := by
  obtain ⟨D, h1, h2⟩ := h
  rw [h1.len Try.underlying61 ty, size_of h1 h2]
set_option maxRecDepth 100000 in
set_option maxHeartbeats 4000000 in
theorem common_calls {a b : List H} {A A' : Option Addr} {n c n' c' : Nat} (w : World) (h : IsH w A n c a) (h' : IsH w A' n' c' b) (hn : n + n' ≤ 1000) : Calls Try.prog 29 #[.slice A n c, .slice A' n' c'] w fun e w' => e = .returned (.int .i64 (com a b)) ∧ Below w.heap.size w w' := by
  have hm := h.2.2.1
  have hnc := h.2.1
  have hm' := h'.2.2.1
  have hnc' := h'.2.1
  have hl := h.1
  have hl' := h'.1
  have HA := Lib.hid h
  have HB := Lib.hid h'
  have hle := bst_le (a ++ b)
  rw [List.length_append, hl, hl'] at hle
  have HCM : Hid (com a b = (n : Int) + (n' : Int) - ((bst (a ++ b)).length : Int)) := by show _ = _; unfold com; rw [hl, hl']
  clear h h'
  go_enter Try.func29, Try.ntmps29
  go_wp2_with fail
  refine (nearer_calls _).mono ?_
  rintro e w1 ⟨rfl, hb1⟩
  have hbn := below_new w1 (.cells #[.slice A n c, .slice A' n' c'] 22)
  have HCO := Lib.hid (concat_calls (w1.alloc (.cells #[.slice A n c, .slice A' n' c'] 22)) (TwoS.new w1 _ _) ((HA.out.below hb1).below hbn) ((HB.out.below hb1).below hbn) hn)
  have HB2 := Lib.hid (hb1.trans (hbn.mono hb1.size))
  clear hb1 hbn
  go_wp2_with fail
  refine HCO.out.mono ?_
  rintro e w3 ⟨A3, n3, c3, rfl, h3, hb3⟩
  have hl3 := h3.1
  rw [List.length_append, hl, hl'] at hl3
  have HLE := Lib.hid (least_calls w3 h3 (by omega))
  have HB3 := Lib.hid (HB2.out.trans (hb3.mono HB2.out.size))
  clear h3 hb3 hl3
  go_wp2_with fail
  refine HLE.out.mono ?_
  rintro e w4 ⟨b4, rfl, _, hm4, hb4⟩
  have hlen := hm4.len
  have HF := Lib.hid (HB3.out.trans (hb4.mono HB3.out.size))
  obtain ⟨z, hz⟩ : ∃ z, z = (bst (a ++ b)).length := ⟨_, rfl⟩
  rw [← hz] at hlen hle HCM
  have hw1 : IntKind.i64.wrap ((n : Int) + (n' : Int) - (z : Int)) = (n : Int) + (n' : Int) - (z : Int) := by rw [IntKind.wrap_i64]; omega
  clear hm4 hb4 hz
  go_wp2_with fail
  go_ret
  exact ⟨by rw [HCM.out]; rfl, HF.out⟩
end Go.Proofs.Ytckipafciomklaa.bk
/- Encode. -/
namespace Go.Proofs.Ytckipafciomklaa.bq

set_option linter.unusedVariables false
def nums (l : List H) : List Int := l.flatMap fun h => [h.1, h.2.1, h.2.2]
def hits : List Int → List H
  | a :: b :: c :: t => (a, b, c) :: hits t
  | _ => []
theorem nums_cons (h : H) (l : List H) : nums (h :: l) = h.1 :: h.2.1 :: h.2.2 :: nums l := rfl
theorem nums_append (a b : List H) : nums (a ++ b) = nums a ++ nums b := by simp [nums]
theorem nums_length : ∀ (l : List H), (nums l).length = 3 * l.length
  | [] => rfl
  | h :: l => by rw [nums_cons]; simp only [List.length_cons]; rw [nums_length l]; omega
theorem hits_nums : ∀ (l : List H), hits (nums l) = l
  | [] => rfl
  | h :: l => by rw [nums_cons, hits, hits_nums l]
theorem nums_snoc {l : List H} {k : Nat} {x : H} (h : l[k]? = some x) : nums (l.take (k + 1)) = nums (l.take k) ++ [x.1, x.2.1, x.2.2] := by
  rw [List.take_add_one, h, nums_append]; rfl
theorem hits_length : ∀ (l : List Int), (hits l).length = l.length / 3
  | [] => rfl
  | [a] => by simp [hits]
  | [a, b] => by simp [hits]
  | a :: b :: c :: t => by
    rw [hits]
    simp only [List.length_cons]
    rw [hits_length t]; omega
theorem hits_at : ∀ {l : List Int} {k : Nat}, 3 * k + 2 < l.length → ∃ a b c, l[3 * k]? = some a ∧ l[3 * k + 1]? = some b ∧ l[3 * k + 2]? = some c ∧ (hits l)[k]? = some (a, b, c)
  | a :: b :: c :: t, 0, _ => ⟨a, b, c, rfl, rfl, rfl, rfl⟩
  | a :: b :: c :: t, k + 1, h => by
    obtain ⟨x, y, z, h1, h2, h3, h4⟩ := hits_at (l := t) (k := k) (by simp only [List.length_cons] at h; omega)
    refine ⟨x, y, z, ?_, ?_, ?_, ?_⟩
    · rw [show 3 * (k + 1) = 3 * k + 1 + 1 + 1 by omega]; simpa using h1
    · rw [show 3 * (k + 1) + 1 = 3 * k + 1 + 1 + 1 + 1 by omega]; simpa using h2
    · rw [show 3 * (k + 1) + 2 = 3 * k + 2 + 1 + 1 + 1 by omega]; simpa using h3
    · rw [hits]; simpa using h4
  | [], k, h => by simp at h
  | [a], k, h => by simp only [List.length_cons, List.length_nil] at h; omega
  | [a, b], k, h => by simp only [List.length_cons, List.length_nil] at h; omega
theorem hits_mem : ∀ {l : List Int} {h : H}, h ∈ hits l → h.1 ∈ l ∧ h.2.1 ∈ l ∧ h.2.2 ∈ l
  | a :: b :: c :: t, h, hh => by
    rw [hits] at hh
    rcases List.mem_cons.1 hh with rfl | hh
    · simp
    · have := hits_mem hh; simp [this.1, this.2.1, this.2.2]
  | [], h, hh => by simp [hits] at hh
  | [a], h, hh => by simp [hits] at hh
  | [a, b], h, hh => by simp [hits] at hh
def decR (b : List UInt8) (k : Int) : List H × Int :=
  if (wp.getL wp.getI 1 b).2.2 ≠ 0 then ([], (wp.getL wp.getI 1 b).2.2) else if (wp.getL wp.getI 1 b).2.1 < b.length then ([], 11) else if (wp.getL wp.getI 1 b).1.length % 3 ≠ 0 then ([], 3) else if vld (hits (wp.getL wp.getI 1 b).1) k then (hits (wp.getL wp.getI 1 b).1, 0) else ([], 3)
end Go.Proofs.Ytckipafciomklaa.bq

namespace Go.Proofs.Ytckipafciomklaa.bk

open Go.ChangeShapes Go.WideShapes Go.ChangeAt Go.RowKit

open Go.Proofs.Ytckipafciomklaa.bq Go.Proofs.Ytckipafciomklaa.vk Go.Proofs.Ytckipafciomklaa.wk

set_option linter.unusedVariables false
theorem nums_bd {l : List H} (h : ∀ x ∈ l, Wd x) : ∀ y ∈ nums l, -9223372036854775808 ≤ y ∧ y ≤ 9223372036854775807 := fun y hy => by
  unfold nums at hy
  obtain ⟨x, hx, hy⟩ := List.mem_flatMap.1 hy
  have := h x hx
  unfold Wd I64 at this
  simp only [List.mem_cons, List.not_mem_nil, or_false] at hy
  rcases hy with rfl | rfl | rfl
  · exact this.1
  · exact this.2.1
  · exact this.2.2
theorem isI_own2 {w : World} {B n : Nat} {v : Value} {l : List Int} (h : w.ownsRow B 3 1 v n (iv l)) (hb : ∀ x ∈ l, -9223372036854775808 ≤ x ∧ x ≤ 9223372036854775807) : ∃ A c, v = .slice A n c ∧ wo.IsI w A n c l := isI_of_own h hb
def ir (x : H) : List Value := [.int .i64 x.1, .int .i64 x.2.1, .int .i64 x.2.2]
theorem iv_nums (l : List H) : iv (nums l) = fl l := by
  induction l with
  | nil => rfl
  | cons h l ih =>
    have e : fl (h :: l) = .int .i64 h.1 :: .int .i64 h.2.1 :: .int .i64 h.2.2 :: fl l := rfl
    rw [nums_cons, e, ← ih]; rfl
set_option maxRecDepth 100000 in
set_option maxHeartbeats 4000000 in
theorem encode_calls {l : List H} {A : Option Addr} {n c : Nat} (w : World) (h : IsH w A n c l) (hn : n ≤ 1000) : Calls Try.prog 33 #[.slice A n c] w fun e w' => ∃ A' c', e = .returned (.slice A' (wp.encIs (nums l)).length c') ∧ wo.IsB w' A' (wp.encIs (nums l)).length c' (wp.encIs (nums l)) ∧ Below w.heap.size w w' := by
  obtain ⟨i0, hi, hz0, hz1, hz2⟩ := info_parts wi.infoI
  have hm := h.2.2.1
  have hnc := h.2.1
  have hl := h.1
  have hnI : (i0.bytes : Nat) * (3 * n) ≤ 281474976710656 := by rw [hz2]; omega
  obtain ⟨w1, hmk, hown, hgr⟩ := run_make_own (P := Try.prog) w w.heap.size 66 3 i0 (.int .i64 0) 1 Try.underlying66 hi hz0 hz1 .i64 .i64 (3 * n) hnI (by unfold maxLen; omega) (Nat.le_refl _)
  have HB1 : Hid (Below w.heap.size w w1) := (Below.refl _ _).grown hgr (Nat.le_refl _) (fun k hk => by cases hk)
  have HO1 := Lib.hid hown
  have H := Lib.hid h
  have hcast : (((3 * n : Nat) : Int)) = 3 * (n : Int) := by omega
  rw [hcast] at hmk
  have hwr : IntKind.i64.wrap (3 * (n : Int)) = 3 * (n : Int) := by rw [IntKind.wrap_i64]; omega
  have hbd := nums_bd h.2.2.2.2.1
  have hel := vq.encIs_length (nums l) hbd (by rw [nums_length]; omega)
  have HEL := Lib.hid hel
  have HBD := Lib.hid hbd
  clear h hown hgr hcast hel hbd
  go_enter Try.func33, Try.ntmps33
  go_wp2_with fail
  clear hmk hwr
  go_loopg [3, 12] n (fun gg s x wr => ∃ (k : Nat) (v : Value), k + gg = n ∧ x = .int .i64 (k : Int) ∧ v = s ∧ Below w.heap.size w wr ∧ wr.ownsRow w.heap.size 3 1 v (3 * k) (iv (nums (l.take k))))
  case atStart => exact ⟨0, _, by omega, rfl, rfl, HB1.out, by simpa [nums, iv] using HO1.out⟩
  case round =>
    obtain ⟨k, v, hk, rfl, rfl, hbel, hown⟩ := hrel
    have HK := Lib.hid hk
    have HBEL := Lib.hid hbel
    have HOW := Lib.hid hown
    have HBW : Hid (w.heap.size ≤ wr.heap.size) := hbel.size
    have hkn : k ≤ n := by omega
    have h4 := isH_below H.out hbel
    clear hk hbel hown
    by_cases hlt : k < n
    · obtain ⟨b, o, x, rfl, hx1, hx2, hx3, hb1, hX, hwx⟩ := isH_get h4 hlt
      have hlt0 : (k : Int) < (n : Int) := by omega
      have HNS := Lib.hid (nums_snoc hX)
      have HBX := Lib.hid (below_new wr (.cells #[.int .i64 x.1, .int .i64 x.2.1, .int .i64 x.2.2] 27))
      have HRX := Lib.hid (RowH.new wr x)
      have hr0 := HRX.out.c0
      have hr1 := HRX.out.c1
      have hr2 := HRX.out.c2
      have HO2 := Lib.hid (keptB (keptB HOW.out HBX.out) (below_new (wr.alloc (.cells #[.int .i64 x.1, .int .i64 x.2.1, .int .i64 x.2.2] 27)) (.cells #[.int .i64 x.1, .int .i64 x.2.1, .int .i64 x.2.2] 3)))
      have HCI : Hid (∀ j u, (ir x)[j]? = some u → ((wr.alloc (.cells #[.int .i64 x.1, .int .i64 x.2.1, .int .i64 x.2.2] 27)).alloc (.cells #[.int .i64 x.1, .int .i64 x.2.1, .int .i64 x.2.2] 3)).cell? ((⟨wr.heap.size + 1, 0, none⟩ : Addr).add j) = some u) := fun j u hu => by
        have hh := heap_alloc_new (wr.alloc (.cells #[.int .i64 x.1, .int .i64 x.2.1, .int .i64 x.2.2] 27)) (.cells #[.int .i64 x.1, .int .i64 x.2.1, .int .i64 x.2.2] 3)
        rw [size_new] at hh
        rw [wk.add_at, Nat.zero_add, cell_of_row _ _ _ _ _ _ hh]
        unfold ir at hu
        simpa using hu
      have HB3 : Hid (Below w.heap.size w ((wr.alloc (.cells #[.int .i64 x.1, .int .i64 x.2.1, .int .i64 x.2.2] 27)).alloc (.cells #[.int .i64 x.1, .int .i64 x.2.1, .int .i64 x.2.2] 3))) := (HBEL.out.trans (HBX.out.mono HBW.out)).trans ((below_new (wr.alloc (.cells #[.int .i64 x.1, .int .i64 x.2.1, .int .i64 x.2.2] 27)) (.cells #[.int .i64 x.1, .int .i64 x.2.1, .int .i64 x.2.2] 3)).mono (by rw [size_new]; have := HBW.out; omega))
      clear hX hwx hb1 h4
      go_wp2_with (at_builtin; refine wpList_append_own _ rfl _ _ 66 rfl w.heap.size 3 i0 (.int .i64 0) 1 8 Try.underlying66 hi hz0 hz1 hz2 rfl (by decide) _ _ _ rfl HO2.out ⟨wr.heap.size + 1, 0, none⟩ 3 3 (ir x) rfl rfl HCI.out ones3 ?c3 ?c4 ?c5 ?_)
      case c3 => unfold maxLen; omega
      case c4 => omega
      case c5 => have := HBW.out; simp only [size_new]; omega
      intro v5 w5 hown5 hg5 _
      have HB5 := Lib.hid (HB3.out.grown hg5 (by have := HBW.out; simp only [size_new]; omega) (fun g hg => (HO2.out.lt g hg).1))
      have HOW5 := Lib.hid hown5
      clear hown5 hg5
      go_wp2_with fail
      go_roundg (gk - 1)
      case measure => have := HK.out; omega
      case rel => exact ⟨k + 1, _, by have := HK.out; omega, by go_num, rfl, HB5.out, by rw [HNS.out]; have := HOW5.out; unfold iv at this ⊢; rw [List.map_append]; exact this⟩
    · obtain rfl : k = n := by omega
      have ho : wr.ownsRow w.heap.size 3 1 v (3 * k) (iv (nums l)) := by have := HOW.out; rw [List.take_of_length_le (by have := H.out.1; omega)] at this; exact this
      obtain ⟨A7, c7, rfl, hI⟩ := isI_own2 ho HBD.out
      have HEN := Lib.hid ((wi.ints_out A7 (3 * k) c7 (nums l) wr hI.1 hI.2.1 hI.2.2.1 hI.2.2.2.1 hI.2.2.2.2 (by have := HEL.out; have := nums_length l; have := H.out.1; omega)).mono fun e w' hh => isB_of_out hh)
      clear h4 ho hI
      go_wp2_with fail
      refine HEN.out.mono ?_
      rintro e w' ⟨A', c', rfl, hI2, hb⟩
      have HF := Lib.hid (And.intro hI2 (HBEL.out.trans (hb.mono HBW.out)))
      clear hI2 hb
      go_wp2_with fail
      go_ret
      exact ⟨A', c', rfl, HF.out⟩
end Go.Proofs.Ytckipafciomklaa.bk
