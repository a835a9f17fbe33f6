/- Joined: Up U6 Uv. -/
import Derived.Test.YtiodjepjbooniaaG11

import Derived.OpenShut

import Derived.ChangeSame

import Derived.WideShapes

import Derived.Deep.Strs
/- Train. -/
namespace Go.Proofs.Ytiodjepjbooniaa.uk

open Go.ChangeShapes Go.WideShapes Go.ChangeAt Go.RowKit

open Go.Proofs.Ytiodjepjbooniaa.cq Go.Proofs.Ytiodjepjbooniaa.vk Go.Proofs.Ytiodjepjbooniaa.bk Go.Proofs.Ytiodjepjbooniaa.wk

set_option linter.unusedVariables false
attribute [local go_sem] Oper.semAt_some
theorem Three.set3 {w : World} {g : Nat} {a b c : Value} (h : Three w g a b c) (x y z : Value) : Three (((w.setCell ⟨g, 0, none⟩ x).setCell ⟨g, 1, none⟩ y).setCell ⟨g, 2, none⟩ z) g x y z := by
  have h1 := heap_setCell_same w g 0 #[a, b, c] 25 x h
  have h2 := heap_setCell_same (w.setCell ⟨g, 0, none⟩ x) g 1 _ 25 y h1
  have h3 := heap_setCell_same _ g 2 _ 25 z h2
  exact h3
theorem set3_other (w : World) (g : Nat) (x y z : Value) (k : Nat) (hk : k ≠ g) : (((w.setCell ⟨g, 0, none⟩ x).setCell ⟨g, 1, none⟩ y).setCell ⟨g, 2, none⟩ z).heap[k]? = w.heap[k]? :=
  (Below.heap_setCell _ _ _ _ hk).trans ((Below.heap_setCell _ _ _ _ hk).trans (Below.heap_setCell _ _ _ _ hk))
theorem set3_size (w : World) (g : Nat) (x y z : Value) : (((w.setCell ⟨g, 0, none⟩ x).setCell ⟨g, 1, none⟩ y).setCell ⟨g, 2, none⟩ z).heap.size = w.heap.size := by simp
theorem below_set3 {B g : Nat} {w0 w : World} (h : Below B w0 w) (hg : B ≤ g) (x y z : Value) : Below B w0 (((w.setCell ⟨g, 0, none⟩ x).setCell ⟨g, 1, none⟩ y).setCell ⟨g, 2, none⟩ z) :=
  ((h.setCell (p := ⟨g, 0, none⟩) hg _).setCell (p := ⟨g, 1, none⟩) hg _).setCell (p := ⟨g, 2, none⟩) hg _
theorem Kq.set3 {B : Nat} {es : List TypeId} {w : World} {g : Nat} {a b c : Value} (h : Three w g a b c) (ht : 25 ∈ es ∨ g < B) (x y z : Value) : Kq B es w (((w.setCell ⟨g, 0, none⟩ x).setCell ⟨g, 1, none⟩ y).setCell ⟨g, 2, none⟩ z) := by
  have h1 := heap_setCell_same w g 0 #[a, b, c] 25 x h
  have h2 := heap_setCell_same (w.setCell ⟨g, 0, none⟩ x) g 1 _ 25 y h1
  exact ((Kq.of_set x h ht).trans (Kq.of_set y h1 ht)).trans (Kq.of_set z h2 ht)
theorem res_bk {fn : Func} {p u : Tmp} (h : fn.results = #[.cell p 25, .tmp u]) (tmps : Array Value) (w : World) (g : Nat) (a b c : Value) (hp : tmps.getD p undef = .pointer (some ⟨g, 0, none⟩)) (hg : Three w g a b c) :
    (results fn tmps).run Try.prog w = .ok (.tuple #[.agg #[a, b, c], tmps.getD u undef]) w := by
  have hp' : tmps[p]?.getD undef = .pointer (some ⟨g, 0, none⟩) := by simpa using hp
  simp [results, h, hp', asAddr, run_loadVar_row w g _ _ #[a, b, c] (0, 0) _ hg Try.underlying25 rfl (by kernel_rfl)]
theorem isW_nil (w : World) : IsW w none 0 0 [] := ⟨rfl, Nat.le_refl _, by omega, fun k l hk => by simp at hk⟩
theorem noBk_is (w : World) : IsBk w (.agg #[.int .i64 0, .slice none 0 0, .slice none 0 0]) noBk := by
  obtain ⟨A, n, c, e, h⟩ := isV_nil w
  cases e
  exact ⟨_, _, _, _, _, _, rfl, h, isW_nil w, by unfold I64 noBk; decide⟩
theorem al_any {L : VV} (h : Al L) : L.any (notAlike (L.headD [])) = false := by
  rw [List.any_eq_false]
  intro v hv
  unfold notAlike
  have h0 : L.headD [] ∈ L := by
    have := h.pos
    cases L with
    | nil => simp at this
    | cons a l => simp
  have : vq.alike v (L.headD []) = true := vq.alike_iff.2 ⟨h.len v hv, h.vec v hv, h.vec _ h0⟩
  rw [this]; simp
theorem Kq.of_exc {M : List Nat} {B : Nat} {es : List TypeId} {w w' : World} (h : Exc M w.heap.size w w') (hM : ∀ j ∈ M, ∀ cs t fr, w.heap[j]? = some (.cells cs t fr) → t ∈ es) : Kq B es w w' :=
  ⟨h.size, fun k cs t fr _ hk ht => (h.block k (Array.getElem?_eq_some_iff.1 hk).1 (fun hm => ht (hM k hm cs t fr hk))).trans hk⟩
theorem clone0_calls (A : Option Addr) (n c : Nat) (l : List Int) (w : World) (h : wo.IsI w A n c l) (h1 : 1 ≤ n) (hn : n ≤ 1000) : Calls Try.prog 57 #[.slice A n c] w fun e w' => ∃ v, e = .returned v ∧ w'.ownsRow w.heap.size 3 1 v n (iv l) ∧ Below w.heap.size w w' := clone_calls A n c l w h h1 hn
/-- an append to a row of one's own: it stays where it is, or lies anew -/
theorem does_append_t {P : Program} {Q : Exit → Act → World → Prop} {o : Oper} {E : Operand → Value} {w : World} {R : World → Value → Prop} (s x : Operand) (t : TypeId) (ho : o.op = .call { callee := .builtin .append, args := #[s, x], argTypes := #[t, t] })
    (base : Nat) (e : TypeId) (i : TypeInfo) (z : Value) (size bytes : Nat) (ht : P.underlying t = some (.slice e)) (hi : P.info? e = some i) (hz : i.zero = some z)
    (hsize : i.size = size) (hby : i.bytes = bytes) (hzs : z.cells.size = size) (hsz : 0 < size)
    (v : Value) (n : Nat) (xs : List Value) (hs : E s = v) (hown : w.ownsRow base e size v n xs)
    (ad : Addr) (c : Nat) (news : List Value) (hx : E x = .slice (some ad) 1 c) (hl : news.length = 1 * size) (hnews : ∀ j u, news[j]? = some u → w.cell? (ad.add j) = some u) (h1 : ∀ u ∈ news, u.oneCell' = true)
    (hn : n ≤ 1000) (hb1 : bytes ≤ 1000) (hbase : base ≤ w.heap.size)
    (hR : ∀ v' w', w'.ownsRow base e size v' (n + 1) (xs ++ news) → w.grownBy w' v.ownBlock → (v'.ownBlock = v.ownBlock ∨ v'.ownBlock = some w.heap.size) → R w' v') : DoesT P Q o E w R := by
  subst hsize
  subst hby
  have hbytes : (n + 1) * i.bytes ≤ 140737488355328 := by
    have := Nat.mul_le_mul (show n + 1 ≤ 1001 by omega) hb1
    omega
  obtain ⟨v', w', hr, h2, h3, -⟩ := run_append_own (P := P) w base t o.type e i z i.size i.bytes ht hi hz rfl rfl hzs hsz v n xs hown ad 1 c news hl hnews h1 (by unfold maxLen; omega) hbytes hbase
  have hb : v'.ownBlock = v.ownBlock ∨ v'.ownBlock = some w.heap.size := by
    rcases hown.2 with ⟨rfl, rfl⟩ | ⟨g, cap, cur, rfl, hbg, hg, hnc, hcm, hcs, htake⟩
    · have hr2 := run_append_nil (P := P) w t o.type e i z ht hi hz ad 1 c news hl hnews (by omega) (by omega) (by simp only [Nat.zero_add] at hbytes; omega)
      rw [hr2] at hr
      injection hr with e1 e2
      right; rw [← e1]; rfl
    · by_cases hroom : n + 1 ≤ cap
      · have hfit : n * i.size + news.length ≤ cur.size := by rw [hl, hcs, ← Nat.add_mul]; exact Nat.mul_le_mul_right _ hroom
        have hr2 := run_append_room (P := P) w t o.type e i ht hi g n cap cur hg ad 1 c news hl hnews h1 hroom hfit
        rw [hr2] at hr
        injection hr with e1 e2
        left; rw [← e1]; rfl
      · have hr2 := run_append_grow (P := P) w t o.type e i z ht hi hz ⟨g, 0, none⟩ n cap xs hown.1 (hown.cells (g := g) rfl) ad 1 c news hl hnews (by omega) (by omega) (growslice_fits (by omega) hbytes)
        rw [hr2] at hr
        injection hr with e1 e2
        right; rw [← e1]; rfl
  refine does_new_t (v := v') (w' := w') ?_ (hR v' w' h2 h3 hb)
  unfold execOp
  simp only [ho, resolve, invoke, builtin, Sem.run_bind, Sem.run_pure, Result.andThen_ok, List.map_toArray, List.map_cons, List.map_nil, hs, hx, hr]
structure TCtx where
  g8 : Nat
  B : Nat
  G : Nat
  n : Nat
  M : Nat
  wv : Value
  A : Option Addr
  c : Nat
  y0 : Int
  y1 : Int
  P : VV
  acc : List VV
  vals : List Value
  v1 : Value
  v2 : Value
  W : World
  Bx : Nat
def TR (C : TCtx) (Lv : Nat → Bool) (i : Nat) (u : World) (x : Value) : Prop :=
  match i with
  | 0 => x = .pointer (some ⟨C.g8, 2, none⟩)
  | 1 => x = C.wv
  | 2 => x = .slice C.A C.n C.c
  | 3 => x = .agg #[.int .i64 C.y0, .int .i64 C.y1]
  | 4 => ∃ A5 c5, x = .slice A5 C.n c5 ∧ St C.G [39, 25] (fun w2 => IsVV w2 A5 C.n c5 C.P) u
  | 5 => x = .int .i64 (C.M : Int)
  | 6 => ∃ A6 n6 c6, x = .slice A6 n6 c6 ∧ Sq C.B [39, 25] (fun w2 => IsVV w2 A6 n6 c6 (spread C.M C.P)) u
  | 7 => ∃ g A6 n6 c6, x = .slice (some ⟨g, 0, none⟩) 1 1 ∧ (Lv 8 = false → Row1 u g 39 (.slice A6 n6 c6)) ∧ Sq C.B [39, 25] (fun w2 => IsVV w2 A6 n6 c6 (spread C.M C.P)) u
  | 8 => ∃ vals', RowQ IsZ C.B [39, 25] 39 u x (C.acc ++ [spread C.M C.P]) vals'
  | _ => x = .pointer (some ⟨C.g8, 2, none⟩)
structure TS (C : TCtx) (Lv : Nat → Bool) (u : World) : Prop where
  kp : Kp C.G [39, 25] C.W u
  gb : C.G ≤ C.B
  sz : C.B ≤ u.heap.size
  turn : Turn [C.g8] C.B C.W u
  thr : Three u C.g8 C.v1 C.v2 C.wv
  row : Lv 8 = false → RowQ IsZ C.B [39, 25] 39 u C.wv C.acc C.vals
theorem TS.next {C : TCtx} {L L' : Nat → Bool} {u u' : World} (h : TS C L u) (h8 : L' 8 = L 8) (hb : Below u.heap.size u u') : TS C L' u' :=
  ⟨h.kp.trans (Kp.of_below hb (Nat.le_trans h.gb h.sz)), h.gb, Nat.le_trans h.sz hb.size, h.turn.trans (Turn.of_below hb h.sz), h.thr.below hb, fun e => (h.row (h8 ▸ e)).below hb⟩
theorem TR.next {C : TCtx} {L L' : Nat → Bool} {i : Nat} {u u' : World} {x : Value} (h8 : L' 8 = L 8) (hb : Below u.heap.size u u') (hG : C.G ≤ u.heap.size) (h : TR C L i u x) : TR C L' i u' x := by
  unfold TR at *
  split
  case h_1 => exact h
  case h_2 => exact h
  case h_3 => exact h
  case h_4 => exact h
  case h_5 => obtain ⟨A5, c5, e, h⟩ := h; exact ⟨A5, c5, e, h.below hb hG⟩
  case h_6 => exact h
  case h_7 => obtain ⟨A6, n6, c6, e, h⟩ := h; exact ⟨A6, n6, c6, e, h.below hb⟩
  case h_8 => obtain ⟨g, A6, n6, c6, e, h1, h2⟩ := h; exact ⟨g, A6, n6, c6, e, fun e8 => (h1 (h8 ▸ e8)).below hb, h2.below hb⟩
  case h_9 => obtain ⟨v, h⟩ := h; exact ⟨v, h.below hb⟩
  case h_10 => simpa using h
theorem TR.turn {C : TCtx} {L L' : Nat → Bool} {i : Nat} {u u' : World} {x : Value} (hi : i ≠ 8) (h8 : L' 8 = true) (hk : Kp C.G [39, 25] u u') (hq : Kq C.B [39, 25] u u') (h : TR C L i u x) : TR C L' i u' x := by
  unfold TR at *
  split
  case h_1 => exact h
  case h_2 => exact h
  case h_3 => exact h
  case h_4 => exact h
  case h_5 => obtain ⟨A5, c5, e, h⟩ := h; exact ⟨A5, c5, e, h.keep hk⟩
  case h_6 => exact h
  case h_7 => obtain ⟨A6, n6, c6, e, h⟩ := h; exact ⟨A6, n6, c6, e, h.keep hq⟩
  case h_8 => obtain ⟨g, A6, n6, c6, e, h1, h2⟩ := h; exact ⟨g, A6, n6, c6, e, (fun e8 => by rw [h8] at e8; cases e8), h2.keep hq⟩
  case h_9 => exact absurd rfl hi
  case h_10 => simpa using h
theorem SpanX.cells {w : World} {g : Nat} {x y : Int} (h : SpanX w g x y) : ∀ j v, [Value.int .i64 x, Value.int .i64 y][j]? = some v → w.cell? ((⟨g, 0, none⟩ : Addr).add j) = some v := fun j u hu => by
  rw [wk.add_at, Nat.zero_add, cell_of_row _ _ _ _ _ _ h]
  simpa using hu
theorem infoWv : (Try.prog.info? 39).map (fun i => (i.zero, i.size, i.bytes)) = some (some (.slice none 0 0), 1, 24) := by kernel_rfl
theorem RowQ.push0 {α : Type} {E : World → Value → α → Prop} {B : Nat} {es : List TypeId} {e : TypeId} {w w' : World} {v v' : Value} {L : List α} {vals : List Value} {u : Value} {x : α} (h : RowQ E B es e w v L vals) (he : e ∈ es) (hs : Sq B es (fun w' => E w' u x) w)
    (hg : w.grownBy w' v.ownBlock) (ho : w'.ownsRow B e 1 v' (L.length + 1) (vals ++ [u])) : RowQ E B es e w' v' (L ++ [x]) (vals ++ [u]) := by
  have hk : Kq B es w w' := Kq.of_grown h.own he hg
  have hl := h.len
  refine ⟨by simpa using ho, fun i y hy => ?_⟩
  rcases Nat.lt_trichotomy i L.length with hi | hi | hi
  · rw [List.getElem?_append_left hi] at hy
    obtain ⟨z, h1, h2⟩ := h.at' i y hy
    exact ⟨z, by rw [List.getElem?_append_left (by omega)]; exact h1, h2.keep hk⟩
  · subst hi
    rw [List.getElem?_append_right (Nat.le_refl _), Nat.sub_self] at hy
    simp at hy
    subst hy
    exact ⟨u, by rw [← hl, List.getElem?_append_right (Nat.le_refl _), Nat.sub_self]; rfl, hs.keep hk⟩
  · rw [List.getElem?_eq_none (by simp; omega)] at hy; cases hy
set_option maxRecDepth 100000 in
set_option maxHeartbeats 8000000 in
theorem train_calls (A AC : Option Addr) (n c nc cc : Nat) (L : VV) (cuts : List Int) (words : Int) (w : World) (h : IsVV w A n c L) (hn : n ≤ 4096) (hA : Al L) (h2 : wo.IsI w AC nc cc cuts) (hw : I64 words) :
    Calls Try.prog 30 #[.slice A n c, .slice AC nc cc, .int .i64 words] w fun e w' => ∃ v, e = .returned (.tuple #[v, .int .i64 (train L cuts words).2]) ∧ IsBk w' v (train L cuts words).1 ∧ Below w.heap.size w w' := by
  have hm := h.2.2.1
  have hnc := h.2.1
  have hmC := h2.2.2.1
  have hncC := h2.2.1
  have h1 : 1 ≤ n := by rw [← h.1]; exact hA.pos
  have hB0 : Below w.heap.size w (((w.alloc (.cells #[.slice A n c] 39)).alloc (.cells #[.int .i64 words] 3)).alloc (.cells #[.int .i64 0, .slice none 0 0, .slice none 0 0] 25)) := Below.andThen (Below.andThen (below_new w _) (below_new _ _)) (below_new _ _)
  have hXL : Box (((w.alloc (.cells #[.slice A n c] 39)).alloc (.cells #[.int .i64 words] 3)).alloc (.cells #[.int .i64 0, .slice none 0 0, .slice none 0 0] 25)) w.heap.size (.slice A n c) := ((Box.new w (.slice A n c) 39).below (below_new _ _)).below (below_new _ _)
  have hXW : Box (((w.alloc (.cells #[.slice A n c] 39)).alloc (.cells #[.int .i64 words] 3)).alloc (.cells #[.int .i64 0, .slice none 0 0, .slice none 0 0] 25)) (w.heap.size + 1) (.int .i64 words) := by have := (Box.new (w.alloc (.cells #[.slice A n c] 39)) (.int .i64 words) 3).below (below_new _ (.cells #[.int .i64 0, .slice none 0 0, .slice none 0 0] 25)); rw [size_new] at this; exact this
  have hRES : Three (((w.alloc (.cells #[.slice A n c] 39)).alloc (.cells #[.int .i64 words] 3)).alloc (.cells #[.int .i64 0, .slice none 0 0, .slice none 0 0] 25)) (w.heap.size + 1 + 1) (.int .i64 0) (.slice none 0 0) (.slice none 0 0) := by have := Three.new ((w.alloc (.cells #[.slice A n c] 39)).alloc (.cells #[.int .i64 words] 3)) (.int .i64 0) (.slice none 0 0) (.slice none 0 0); rw [size_new, size_new] at this; exact this
  have hAL := calike_calls A n c L (((w.alloc (.cells #[.slice A n c] 39)).alloc (.cells #[.int .i64 words] 3)).alloc (.cells #[.int .i64 0, .slice none 0 0, .slice none 0 0] 25)) (isVV_below h hB0)
  rw [al_any hA, decide_eq_true h1] at hAL
  have HAL := Lib.hid hAL
  have HL := Lib.hid h
  have HA := Lib.hid hA
  have HC := Lib.hid h2
  have HWI := Lib.hid hw
  have hxc := hXL.cell
  have hwc := hXW.cell
  have HXL := Lib.hid hXL
  have HXW := Lib.hid hXW
  have HRES := Lib.hid hRES
  have HB0 := Lib.hid hB0
  clear h hA h2 hw hB0 hXL hXW hRES hAL
  generalize hG : w.heap.size = G at *
  have HGE := Lib.hid hG
  refine enter_marks Try.func30 rfl ?_
  simp only [Try.ntmps30, List.size_toArray, List.length_cons, List.length_nil, Nat.reduceAdd, Nat.reduceSub, Array.replicate_succ, Array.replicate_zero, List.push_toArray, List.append_toArray, List.nil_append, List.cons_append]
  go_wp2_with fail
  refine HAL.out.mono ?_
  rintro e w1 ⟨rfl, hb1⟩
  have hs0 := HXL.out.lt
  have hs1 := HRES.out.lt
  have HB1 := Lib.hid (HB0.out.trans (hb1.mono (by omega)))
  have hXL1 := HXL.out.below hb1
  have hXW1 := HXW.out.below hb1
  have hR1 := HRES.out.below hb1
  have hs2 := hb1.size
  clear HAL hb1 hxc hwc HXL HXW HRES HB0
  have hxc := hXL1.cell
  have hwc := hXW1.cell
  have hr0 := hR1.c0
  have hr1 := hR1.c1
  have hr2 := hR1.c2
  have hf0 := hR1.f 0
  have hf1 := hR1.f 1
  have hf2 := hR1.f 2
  have HXL := Lib.hid hXL1
  have HXW := Lib.hid hXW1
  have HRES := Lib.hid hR1
  clear hXL1 hXW1 hR1
  by_cases hw1 : words < 1
  · have HT : Hid (train L cuts words = (noBk, 1)) := by show _ = _; unfold train; rw [if_pos hw1]
    go_wp2_with fail
    exact leave_bare (res_bk (fn := Try.f30) rfl _ _ (G + 1 + 1) _ _ _ rfl (HRES.out.set3 _ _ _)) ⟨_, by rw [HT.out]; rfl, by rw [HT.out]; exact noBk_is _, below_set3 HB1.out (by omega) _ _ _⟩
  · obtain ⟨M, rfl⟩ := Int.eq_ofNat_of_zero_le (show 0 ≤ words by omega)
    by_cases hw2 : 256 < M
    · have HT : Hid (train L cuts (M : Int) = (noBk, 2)) := by show _ = _; unfold train; rw [if_neg hw1, if_pos (by omega)]
      go_wp2_with fail
      exact leave_bare (res_bk (fn := Try.f30) rfl _ _ (G + 1 + 1) _ _ _ rfl (HRES.out.set3 _ _ _)) ⟨_, by rw [HT.out]; rfl, by rw [HT.out]; exact noBk_is _, below_set3 HB1.out (by omega) _ _ _⟩
    · have hM1 : 1 ≤ M := by omega
      have hM2 : M ≤ 256 := by omega
      have hbw1 : Below w.heap.size w w1 := by rw [hG]; exact HB1.out
      obtain ⟨b1, o1, A1, n1, c1, l1, rfl, hb1', hc1, hI1, hL1⟩ := isVV_get (isVV_below HL.out hbw1) (k := 0) (by omega)
      rw [Nat.add_zero] at hc1
      have HHD : Hid ((L.headD []).length = n1) := by
        show _ = _
        rw [← hI1.1]
        cases L with
        | nil => simp at hL1
        | cons a l => simp at hL1; rw [← hL1]; rfl
      have hm1' := hI1.2.2.1
      have hnc1 := hI1.2.1
      have hn32 : n1 ≤ 32 := by
        have h9 := HA.out.vec l1 (List.mem_of_getElem? hL1)
        have := h9.le; have := hI1.1; omega
      have HN1 : Hid (I64 (n1 : Int)) := by show I64 _; unfold I64; omega
      have HDC := Lib.hid (divided_calls (n1 : Int) AC nc cc cuts w1 (isI_below HC.out hbw1) HN1.out)
      have h1' : (0 : Int) < (n : Int) := by omega
      clear hI1 hL1 hbw1
      go_wp2_with fail
      refine HDC.out.mono ?_
      rintro e w5 ⟨rfl, hb5⟩
      have hs5 := hb5.size
      have HB4E := Lib.hid (HB1.out.trans (hb5.mono (by have := HRES.out.lt; omega)))
      have hXL5 := HXL.out.below hb5
      have hXW5 := HXW.out.below hb5
      have hR5 := HRES.out.below hb5
      have hc1' := (hb5.cell (p := ⟨b1, o1, none⟩) hb1').trans hc1
      have hb1'' : b1 < w5.heap.size := by omega
      clear HDC hb5 hxc hwc hr0 hr1 hr2 hf0 hf1 hf2 HXL HXW HRES hc1 hb1'
      have hr0 := hR5.c0
      have hr1 := hR5.c1
      have hr2 := hR5.c2
      have hf0 := hR5.f 0
      have hf1 := hR5.f 1
      have hf2 := hR5.f 2
      have HXL := Lib.hid hXL5
      have HXW := Lib.hid hXW5
      have HRES := Lib.hid hR5
      have hc1 := hc1'
      have hb1 := hb1''
      clear hXL5 hXW5 hR5 hc1' hb1''
      cases hdv : divided (n1 : Int) cuts
      · have HT : Hid (train L cuts (M : Int) = (noBk, 80)) := by show _ = _; unfold train; rw [if_neg (show ¬ ((M : Int) < 1) by omega), if_neg (by omega), HHD.out, hdv]; rfl
        go_wp2_with fail
        exact leave_bare (res_bk (fn := Try.f30) rfl _ _ (G + 1 + 1) _ _ _ rfl (HRES.out.set3 _ _ _)) ⟨_, by rw [HT.out]; rfl, by rw [HT.out]; exact noBk_is _, below_set3 HB4E.out (by omega) _ _ _⟩
      · have HTR : Hid (train L cuts (M : Int) = (trained M cuts L, 0)) := by show _ = _; unfold train; rw [if_neg (show ¬ ((M : Int) < 1) by omega), if_neg (by omega), HHD.out, hdv, if_pos rfl, Int.toNat_natCast]
        have HDV := Lib.hid (div_of hdv)
        have HNC : Hid (nc ≤ 8) := by show _ ≤ _; rw [← HC.out.1]; exact HDV.out.n8
        have hnc1' : 1 ≤ nc := by rw [← HC.out.1]; exact HDV.out.n1
        have HCI : Hid (∀ x ∈ cuts, I64 x) := HC.out.2.2.2.2
        have HCLO := Lib.hid (fun w' (hb : Below w5.heap.size w5 w') => clone0_calls AC nc cc cuts w' (isI_below HC.out (by rw [hG]; exact HB4E.out.trans (hb.mono (by have := HB4E.out.size; omega)))) hnc1' (by have := HNC.out; omega))
        obtain ⟨i0, hi9, hz0, hz1, hz2⟩ := info_parts infoWv
        clear hr0 hr1 hr2 hf0 hf1 hf2 hdv
        go_wp2_with fail
        refine wk.region_tailS 8 [.is (.slice (some ⟨b1, o1, none⟩) n c), .is (.pointer (some ⟨b1, o1, none⟩)), .is (.slice A1 n1 c1), .is (.int .i64 (n1 : Int)), .is (.slice AC nc cc), .st (fun u x => ∃ A7 c7, x = .slice A7 nc c7 ∧ Sq 0 [39, 25] (fun w2 => wo.IsI w2 A7 nc c7 cuts) u) (fun u u2 x h hb => by obtain ⟨A7, c7, h1, h2⟩ := h; exact ⟨A7, c7, h1, h2.below hb⟩), .st (fun u x => ∃ A7 c7, x = .agg #[.int .i64 (n1 : Int), .slice A7 nc c7, .slice none 0 0] ∧ Sq 0 [39, 25] (fun w2 => wo.IsI w2 A7 nc c7 cuts) u) (fun u u2 x h hb => by obtain ⟨A7, c7, h1, h2⟩ := h; exact ⟨A7, c7, h1, h2.below hb⟩), .st (fun u x => ∃ g, x = .pointer (some ⟨g, 0, none⟩) ∧ Three u g (.int .i64 0) (.slice none 0 0) (.slice none 0 0) ∧ w5.heap.size ≤ g) (fun u u2 x h hb => by obtain ⟨g, h1, h2, h3⟩ := h; exact ⟨g, h1, h2.below hb, h3⟩)] [some 38, some 39, some 40, some 41, some 42, some 43, some 44, some 8] (by kernel_rfl) (by kernel_rfl) (by kernel_rfl) (by kernel_rfl) [] (by kernel_rfl) (by intro p hp; cases hp) (by kernel_rfl) (by kernel_rfl) ?hstep ?hdone
        case hstep =>
          intro i o ho hi hns E w4 hb4 D
          have hi2 : i = 0 ∨ i = 1 ∨ i = 2 ∨ i = 3 ∨ i = 4 ∨ i = 5 ∨ i = 6 ∨ i = 7 := by omega
          clear hi
          rcases hi2 with rfl | rfl | rfl | rfl | rfl | rfl | rfl | rfl
          ·
            have ho2 := (Array.getElem?_eq_some_iff.1 ho).2
            simp only [List.getElem_toArray, List.getElem_cons_zero] at ho2
            subst ho2
            clear ho
            have e3 := D.old 3 (by kernel_rfl)
            exact wk.does_load1 rfl (by rw [e3]; rfl) ((HXL.out.below ((Below.refl _ _).drew.trans hb4 : Below w5.heap.size w5 w4)).cell) Try.underlying39 rfl rfl
          ·
            have ho2 := (Array.getElem?_eq_some_iff.1 ho).2
            simp only [List.getElem_toArray, List.getElem_cons_succ, List.getElem_cons_zero] at ho2
            subst ho2
            clear ho
            have e38 := D.is { on := 0, ground := .data } (by simp) rfl rfl 38 rfl
            exact wk.does_run (by simp only [execOp]; rw [show E (.tmp 38) = _ from e38, D.con]; go_simp; intro h0; omega) rfl
          ·
            have ho2 := (Array.getElem?_eq_some_iff.1 ho).2
            simp only [List.getElem_toArray, List.getElem_cons_succ, List.getElem_cons_zero] at ho2
            subst ho2
            clear ho
            have e39 := D.is { on := 1, ground := .data } (by simp) rfl rfl 39 rfl
            exact wk.does_load1 rfl e39 ((((Below.refl _ _).drew.trans hb4 : Below w5.heap.size w5 w4).cell (p := ⟨_, _, none⟩) hb1).trans hc1) Try.underlying22 rfl rfl
          ·
            have ho2 := (Array.getElem?_eq_some_iff.1 ho).2
            simp only [List.getElem_toArray, List.getElem_cons_succ, List.getElem_cons_zero] at ho2
            subst ho2
            clear ho
            have e40 := D.is { on := 2, ground := .data } (by simp) rfl rfl 40 rfl
            exact wk.does_run (by simp only [execOp, resolve, invoke, List.map_toArray, List.map_cons, List.map_nil, show E (.tmp 40) = _ from e40]; go_simp) rfl
          ·
            have ho2 := (Array.getElem?_eq_some_iff.1 ho).2
            simp only [List.getElem_toArray, List.getElem_cons_succ, List.getElem_cons_zero] at ho2
            subst ho2
            clear ho
            have e1 := D.old 1 (by kernel_rfl)
            exact wk.does_move rfl (by rw [e1]; rfl)
          ·
            have ho2 := (Array.getElem?_eq_some_iff.1 ho).2
            simp only [List.getElem_toArray, List.getElem_cons_succ, List.getElem_cons_zero] at ho2
            subst ho2
            clear ho
            have e42 := D.is { on := 4, ground := .data } (by simp) rfl rfl 42 rfl
            refine wk.does_fn (f := 57) (vs := #[.slice AC nc cc]) rfl (D.fn _) (by simp [e42]) (by go_simp) ?_
            refine (HCLO.out w4 ((Below.refl _ _).drew.trans hb4 : Below w5.heap.size w5 w4)).mono ?_
            rintro e w7 ⟨u7, rfl, hu7, hb7⟩
            obtain ⟨A7, c7, rfl, hs7⟩ := isI_own_sq (B := 0) (es := [39, 25]) hu7 (Nat.zero_le _) HCI.out (by decide)
            exact ⟨_, rfl, hb7, A7, c7, rfl, hs7⟩
          ·
            have ho2 := (Array.getElem?_eq_some_iff.1 ho).2
            simp only [List.getElem_toArray, List.getElem_cons_succ, List.getElem_cons_zero] at ho2
            subst ho2
            clear ho
            have e41 := D.is { on := 3, ground := .data } (by simp) rfl rfl 41 rfl
            have s43 := D.st { on := 5, ground := .data } (by simp) rfl rfl 43 rfl
            obtain ⟨A7, c7, e7, hs7⟩ := s43
            exact wk.does_run (by simp only [execOp, List.map_toArray, List.map_cons, List.map_nil]; rw [show E (.tmp 41) = _ from e41, show E (.tmp 43) = _ from e7]; go_simp) ⟨A7, c7, rfl, hs7⟩
          ·
            have ho2 := (Array.getElem?_eq_some_iff.1 ho).2
            simp only [List.getElem_toArray, List.getElem_cons_succ, List.getElem_cons_zero] at ho2
            subst ho2
            clear ho
            exact wk.does_new (w' := w4.alloc (.cells #[.int .i64 0, .slice none 0 0, .slice none 0 0] 25)) (by simp only [execOp]; go_simp) (below_new _ _) ⟨_, rfl, Three.new _ _ _ _, hb4.size⟩
        case hdone =>
          intro vals w4 hb4 hv
          have h6 := hv 6 (by omega)
          have h7 := hv 7 (by omega)
          clear hv
          simp only [List.drop_succ_cons, List.drop_zero, wk.setL, List.setIfInBounds_toArray, List.set_cons_zero, List.set_cons_succ, Nat.zero_add, Nat.reduceAdd]
          generalize vals 0 = x0
          generalize vals 1 = x1
          generalize vals 2 = x2
          generalize vals 3 = x3
          generalize vals 4 = x4
          generalize vals 5 = x5
          generalize vals 6 = x6 at *
          generalize vals 7 = x7 at *
          obtain ⟨A7, c7, rfl, hs7⟩ := h6
          obtain ⟨g8, rfl, hg8, hg8B⟩ := h7
          have hb5 := ((Below.refl _ _).drew.trans hb4 : Below w5.heap.size w5 w4)
          have hq0 := hg8.c0
          have hq1 := hg8.c1
          have hq2 := hg8.c2
          have hf0 := hg8.f 0
          have hf1 := hg8.f 1
          have hf2 := hg8.f 2
          have HG8 := Lib.hid hg8
          have HS7 := Lib.hid hs7
          have HB5 := Lib.hid (HB4E.out.trans (hb5.mono (by have := HB4E.out.size; have := HGE.out; omega)))
          have HXL5 := Lib.hid (HXL.out.below hb5)
          have HXW5 := Lib.hid (HXW.out.below hb5)
          have HR5 := Lib.hid (HRES.out.below hb5)
          have HG8B : Hid (w5.heap.size ≤ g8) := hg8B
          have hs5w : w5.heap.size ≤ w4.heap.size := hb5.size
          clear hb4 hb5 hg8 hs7
          go_wp2_with fail
          generalize hw6 : ((w4.setCell ⟨g8, 0, none⟩ (.int .i64 (n1 : Int))).setCell ⟨g8, 1, none⟩ (.slice A7 nc c7)).setCell ⟨g8, 2, none⟩ (.slice none 0 0) = w6
          have hT6 : Three w6 g8 (.int .i64 (n1 : Int)) (.slice A7 nc c7) (.slice none 0 0) := by rw [← hw6]; exact HG8.out.set3 _ _ _
          have hs6 : w6.heap.size = w4.heap.size := by rw [← hw6]; exact set3_size _ _ _ _ _
          have hgk : ∀ k, k ≠ g8 → w6.heap[k]? = w4.heap[k]? := fun k hk => by rw [← hw6]; exact set3_other w4 g8 _ _ _ k hk
          have hG8G : G + 1 + 1 < g8 := by have := HG8B.out; have := HRES.out.lt; omega
          have HB6 : Hid (Below G w w6) := by rw [← hw6]; exact below_set3 HB5.out (by omega) _ _ _
          have HXL6 := Lib.hid (Box.at HXL5.out (hgk G (by omega)))
          have HXW6 := Lib.hid (Box.at HXW5.out (hgk (G + 1) (by omega)))
          have HR6 := Lib.hid (HR5.out.at (hgk (G + 1 + 1) (by omega)))
          have HS6 : Hid (Sq 0 [39, 25] (fun w2 => wo.IsI w2 A7 nc c7 cuts) w6) := by rw [← hw6]; exact HS7.out.keep (Kq.set3 HG8.out (.inl (by simp)) _ _ _)
          have HT6 := Lib.hid hT6
          clear hw6 hT6 hgk hs6 hq0 hq1 hq2 hf0 hf1 hf2 HG8 HS7 HB5 HXL5 HXW5 HR5
          have hq0 := HT6.out.c0
          have hq1 := HT6.out.c1
          go_wp2_with fail
          refine (parts_calls _ _ _ _ _).mono ?_
          rintro e w' ⟨rfl, rfl⟩
          unfold partsF
          clear hq0 hq1
          have hx2 := alloc2 w6 (.int .i64 (n1 : Int)) (.slice A7 nc c7) 3 22
          have hs7 : ((w6.alloc (.cells #[.int .i64 (n1 : Int)] 3)).alloc (.cells #[.slice A7 nc c7] 22)).heap.size = w6.heap.size + 2 := by simp only [size_new]
          generalize (w6.alloc (.cells #[.int .i64 (n1 : Int)] 3)).alloc (.cells #[.slice A7 nc c7] 22) = w7 at *
          have HT7 := Lib.hid (HT6.out.below hx2.2.2)
          have HXL7 := Lib.hid (HXL6.out.below hx2.2.2)
          have HXW7 := Lib.hid (HXW6.out.below hx2.2.2)
          have HR7 := Lib.hid (HR6.out.below hx2.2.2)
          have HS77 := Lib.hid (HS6.out.below hx2.2.2)
          have HB7 := Lib.hid (HB6.out.trans (hx2.2.2.mono (by have := HB6.out.size; have := HGE.out; omega)))
          have hg8l := HT6.out.lt
          have HX2 := Lib.hid hx2
          clear hx2 HT6 HXL6 HXW6 HR6 HS6 HB6
          generalize hs66 : w6.heap.size = S6 at *
          generalize hBB : w7.heap.size = B at *
          go_wp2_with fail
          refine rangeE_parts' none 10 (S6 + 1) S6 [g8] A7 nc c7 cuts (n1 : Int) ?cg ?c0 ?c3 ?c0' ?c3' HN1.out ?c4 ?c6 (fun pre W => ∃ wv vals, Three W g8 (.int .i64 (n1 : Int)) (.slice A7 nc c7) wv ∧ RowQ IsZ B [39, 25] 39 W wv (pre.map fun x => spread M (L.map fun v => pt v (spa (sp cuts (n1 : Int)) x.1))) vals) (fun c W => False) ?c7 ?c8 ?c9 ?hassign ?hbody ?hdone ?hstop
          case cg => rfl
          case c0 => exact HX2.out.2.1
          case c0' => exact HX2.out.1
          case c3 => intro hh; simp only [List.mem_singleton] at hh; omega
          case c3' => intro hh; simp only [List.mem_singleton] at hh; omega
          case c4 => intro j hj; simp only [List.mem_singleton] at hj; omega
          case c6 =>
            intro w' hb
            exact HS77.out.keep (Kq.of_exc hb (fun j hj cs t fr hcs => by
              simp only [List.mem_singleton] at hj
              subst hj
              rw [HT7.out] at hcs
              injection hcs with hcs
              injection hcs with _ h2 _
              rw [← h2]; simp)) |>.now
          case c7 =>
            intro s W W' row hs hg hr
            obtain ⟨wv, vals, h1, h2⟩ := hs
            exact ⟨wv, vals, h1.at (hg.block g8 h1.lt fun e => by obtain ⟨_, o, ho, hc⟩ := hr g8 e.symm; rw [h1] at ho; cases ho; cases hc), h2.own_from hg (fun r e => (hr r e).2)⟩
          case c8 => intro c' s W W' row hs; exact hs.elim
          case c9 => exact ⟨_, [], HT7.out, RowQ.nil _ _ _ _ _⟩
          case hassign =>
            intro l m i a b W K hK
            unfold rng at hK ⊢
            simp only [roundT, List.setIfInBounds_toArray, List.set_cons_succ, List.set_cons_zero] at hK ⊢
            gi_wp2
            exact hK
          case hbody =>
            rintro l mm pre x Bx W hBx hT hx ⟨wv, vals0, hTh, hRow⟩ hlen
            rw [hBB]
            simp only [roundT, List.setIfInBounds_toArray, List.set_cons_succ, List.set_cons_zero]
            have hcut : cuts[x.1]? = some (cuts[x.1]'(by rw [HC.out.1]; exact x.2)) := List.getElem?_eq_getElem _
            have hDA := HDV.out.at hcut
            have hspa := spa_of (sp_at (d := (n1 : Int)) hcut)
            have hwl := hx.size
            have HXLW := Lib.hid (Box.at HXL7.out (hx.block G (by omega) (by simp; omega)))
            have HXWW := Lib.hid (Box.at HXW7.out (hx.block (G + 1) (by omega) (by simp; omega)))
            have HGW : Hid (Below G w W) := HB7.out.trans (hx.below (by omega) (by intro j hj; simp only [List.mem_singleton] at hj; omega))
            have HSPA : Hid (spread M (L.map fun v => pt v (spa (sp cuts (n1 : Int)) x.1)) = spread M (L.map fun v => pt v (cuts[x.1]'(by rw [HC.out.1]; exact x.2), endAt cuts (n1 : Int) x.1))) := by show _ = _; rw [hspa]
            rw [hspa] at hT ⊢
            dsimp only at hT ⊢
            have hxlt := x.2
            generalize cuts[x.1]'(by rw [HC.out.1]; exact x.2) = y0 at *
            generalize endAt cuts (n1 : Int) x.1 = y1 at *
            have hd1 : ∀ v ∈ L, v.length = n1 := fun v hv => by rw [HA.out.len v hv]; exact HHD.out
            have hPPl : (L.map fun v => pt v (y0, y1)).length = n := by rw [List.length_map]; exact HL.out.1
            have hPPv : ∀ v ∈ (L.map fun v => pt v (y0, y1)), vq.Vec v := fun v hv => by
              obtain ⟨u, hu, rfl⟩ := List.mem_map.1 hv
              exact vec_part (HA.out.vec u hu) hDA.1 hDA.2.1 (by rw [hd1 u hu]; exact hDA.2.2)
            have hPPd : ∀ v ∈ (L.map fun v => pt v (y0, y1)), v.length = (y1 - y0).toNat := fun v hv => by
              obtain ⟨u, hu, rfl⟩ := List.mem_map.1 hv
              have := pt_len (v := u) (p := (y0, y1)) hDA.1 (Int.le_of_lt hDA.2.1) (by rw [hd1 u hu]; exact hDA.2.2)
              dsimp only at this
              omega
            have HPO := Lib.hid (fun w' (hb : Below G w w') => partOf_calls (some ⟨b1, o1, none⟩) n c n1 L y0 y1 w w' HL.out (by rw [HGE.out]; exact hb) hn hDA.1 hDA.2.1 hDA.2.2 hd1)
            have HSPC := Lib.hid (fun A5 c5 w' (h5 : IsVV w' A5 n c5 (L.map fun v => pt v (y0, y1))) => spread_calls A5 n c5 (y1 - y0).toNat M (L.map fun v => pt v (y0, y1)) w' h5 h1 hn hM1 hM2 hPPv hPPd)
            unfold rng at HPO
            rw [HGE.out] at HPO
            generalize (L.map fun v => pt v (y0, y1)) = PP at *
            have HSX := Lib.hid hT
            have HGB : Hid (G < B) := by show _ < _; omega
            have HGB2 : Hid (G + 1 < B) := by show _ < _; omega
            have hacc : (pre.map fun x => spread M (L.map fun v => pt v (spa (sp cuts (n1 : Int)) x.1))).length = pre.length := List.length_map _
            have HG8L : Hid (g8 < B) := by show _ < _; omega
            have hncl : nc ≤ 8 := HNC.out
            generalize hACC : (pre.map fun x => spread M (L.map fun v => pt v (spa (sp cuts (n1 : Int)) x.1))) = acc at *
            have HAC := Lib.hid hACC
            clear hACC
            have hac8 : acc.length ≤ 8 := by omega
            have HTS0 : Hid (TS (⟨g8, B, G, n, M, wv, some ⟨b1, o1, none⟩, c, y0, y1, PP, acc, vals0, .int .i64 (n1 : Int), .slice A7 nc c7, W, Bx⟩ : TCtx) (fun _ => false) W.drew) := ⟨⟨(Below.refl _ _).drew, fun k cs t fr hk _ => hk⟩, by show G ≤ B; omega, by show B ≤ W.heap.size; omega, ⟨⟨Nat.le_refl _, fun k o _ hk _ => hk⟩, ⟨rfl, rfl, rfl, Nat.le_refl _, fun _ _ _ => rfl⟩⟩, hTh, fun _ => hRow.below (Below.refl _ _).drew⟩
            clear hTh hRow hcut hDA hspa hPPl hPPv hPPd hd1 hT hx
            refine wpIn_block ?_
            refine wk.region_lev2_in l (by kernel_rfl) (fun ⟨_, _, h⟩ => h) 10 (TR (⟨g8, B, G, n, M, wv, some ⟨b1, o1, none⟩, c, y0, y1, PP, acc, vals0, .int .i64 (n1 : Int), .slice A7 nc c7, W, Bx⟩ : TCtx)) [some 52, some 53, some 54, some 55, some 56, some 57, some 58, some 59, some 60, some 61] (fun Lv u => TS (⟨g8, B, G, n, M, wv, some ⟨b1, o1, none⟩, c, y0, y1, PP, acc, vals0, .int .i64 (n1 : Int), .slice A7 nc c7, W, Bx⟩ : TCtx) Lv u) HTS0.out (by kernel_rfl) (by kernel_rfl) (by kernel_rfl) (by kernel_rfl) (by kernel_rfl) (by kernel_rfl) ?rstep ?rdone
            case rstep =>
              intro i o ho hi9x E Lv w4 hS4 hL hdeps DG
              have hi2 : i = 0 ∨ i = 1 ∨ i = 2 ∨ i = 3 ∨ i = 4 ∨ i = 5 ∨ i = 6 ∨ i = 7 ∨ i = 8 ∨ i = 9 := by omega
              clear hi9x
              rcases hi2 with rfl | rfl | rfl | rfl | rfl | rfl | rfl | rfl | rfl | rfl
              ·
                have ho2 := (Array.getElem?_eq_some_iff.1 ho).2
                simp only [List.getElem_toArray, List.getElem_cons_zero] at ho2
                subst ho2
                clear ho
                have e8 : E (.tmp 8) = .pointer (some ⟨g8, 0, none⟩) := DG.old 8 (by kernel_rfl)
                refine wk.Does.weak (R := fun w9 x => x = .pointer (some ⟨g8, 2, none⟩)) ?_ (fun w9 v hb hr => ⟨hr, fun j u _ _ hj => TR.next rfl hb (Nat.le_trans hS4.gb hS4.sz) hj, hS4.next rfl hb⟩)
                exact wk.does_run (by simp only [execOp]; rw [show E (.tmp 8) = .pointer (some ⟨g8, 0, none⟩) from e8]; go_simp) rfl
              ·
                have ho2 := (Array.getElem?_eq_some_iff.1 ho).2
                simp only [List.getElem_toArray, List.getElem_cons_succ, List.getElem_cons_zero] at ho2
                subst ho2
                clear ho
                have e52 := DG.is { on := 0, ground := .data } (by simp) rfl 52 rfl
                replace e52 : E (.tmp 52) = .pointer (some ⟨g8, 2, none⟩) := e52
                refine wk.Does.weak (R := fun w9 x => x = wv) ?_ (fun w9 v hb hr => ⟨hr, fun j u _ _ hj => TR.next rfl hb (Nat.le_trans hS4.gb hS4.sz) hj, hS4.next rfl hb⟩)
                exact wk.does_load1 rfl e52 (hS4.thr.c2) Try.underlying23 rfl rfl
              ·
                have ho2 := (Array.getElem?_eq_some_iff.1 ho).2
                simp only [List.getElem_toArray, List.getElem_cons_succ, List.getElem_cons_zero] at ho2
                subst ho2
                clear ho
                have e3 : E (.tmp 3) = .pointer (some ⟨G, 0, none⟩) := DG.old 3 (by kernel_rfl)
                refine wk.Does.weak (R := fun w9 x => x = .slice (some ⟨b1, o1, none⟩) n c) ?_ (fun w9 v hb hr => ⟨hr, fun j u _ _ hj => TR.next rfl hb (Nat.le_trans hS4.gb hS4.sz) hj, hS4.next rfl hb⟩)
                exact wk.does_load1 rfl e3 ((Box.at HXLW.out (hS4.turn.exc.block G HGB.out (by simp; omega))).cell) Try.underlying39 rfl rfl
              ·
                have ho2 := (Array.getElem?_eq_some_iff.1 ho).2
                simp only [List.getElem_toArray, List.getElem_cons_succ, List.getElem_cons_zero] at ho2
                subst ho2
                clear ho
                have e10 : E (.tmp 10) = .pointer (some ⟨Bx, 0, none⟩) := DG.old 10 (by kernel_rfl)
                refine wk.Does.weak (R := fun w9 x => x = .agg #[.int .i64 y0, .int .i64 y1]) ?_ (fun w9 v hb hr => ⟨hr, fun j u _ _ hj => TR.next rfl hb (Nat.le_trans hS4.gb hS4.sz) hj, hS4.next rfl hb⟩)
                exact wk.does_load_agg rfl e10 (cs := [.int .i64 y0, .int .i64 y1]) (SpanX.cells (hS4.kp.high _ _ _ _ HSX.out (by decide))) Try.underlying67 rfl (by kernel_rfl) rfl
              ·
                have ho2 := (Array.getElem?_eq_some_iff.1 ho).2
                simp only [List.getElem_toArray, List.getElem_cons_succ, List.getElem_cons_zero] at ho2
                subst ho2
                clear ho
                have e54 := DG.is { on := 2, ground := .data } (by simp) rfl 54 rfl
                replace e54 : E (.tmp 54) = .slice (some ⟨b1, o1, none⟩) n c := e54
                have e55 := DG.is { on := 3, ground := .data } (by simp) rfl 55 rfl
                replace e55 : E (.tmp 55) = .agg #[.int .i64 y0, .int .i64 y1] := e55
                refine wk.Does.weak (R := fun w9 x => ∃ A5 c5, x = .slice A5 n c5 ∧ St G [39, 25] (fun w2 => IsVV w2 A5 n c5 PP) w9) ?_ (fun w9 v hb hr => ⟨hr, fun j u _ _ hj => TR.next rfl hb (Nat.le_trans hS4.gb hS4.sz) hj, hS4.next rfl hb⟩)
                refine wk.does_fn (f := 59) (vs := #[.slice (some ⟨b1, o1, none⟩) n c, .agg #[.int .i64 y0, .int .i64 y1]]) rfl (DG.fn _) (by simp [e54, e55]) (by go_simp) ?_
                refine (HPO.out w4 (HGW.out.trans hS4.kp.below)).mono ?_
                rintro e w7 ⟨A7, c7, rfl, hs7, hb7⟩
                exact ⟨_, rfl, hb7, A7, c7, rfl, hs7⟩
              ·
                have ho2 := (Array.getElem?_eq_some_iff.1 ho).2
                simp only [List.getElem_toArray, List.getElem_cons_succ, List.getElem_cons_zero] at ho2
                subst ho2
                clear ho
                have e5 : E (.tmp 5) = .pointer (some ⟨G + 1, 0, none⟩) := DG.old 5 (by kernel_rfl)
                refine wk.Does.weak (R := fun w9 x => x = .int .i64 (M : Int)) ?_ (fun w9 v hb hr => ⟨hr, fun j u _ _ hj => TR.next rfl hb (Nat.le_trans hS4.gb hS4.sz) hj, hS4.next rfl hb⟩)
                exact wk.does_load1 rfl e5 ((Box.at HXWW.out (hS4.turn.exc.block (G + 1) HGB2.out (by simp; omega))).cell) Try.underlying3 rfl rfl
              ·
                have ho2 := (Array.getElem?_eq_some_iff.1 ho).2
                simp only [List.getElem_toArray, List.getElem_cons_succ, List.getElem_cons_zero] at ho2
                subst ho2
                clear ho
                have e56 := DG.is { on := 4, ground := .data } (by simp) rfl 56 rfl
                replace e56 : ∃ A5 c5, E (.tmp 56) = .slice A5 n c5 ∧ St G [39, 25] (fun w2 => IsVV w2 A5 n c5 PP) w4 := e56
                have e57 := DG.is { on := 5, ground := .data } (by simp) rfl 57 rfl
                replace e57 : E (.tmp 57) = .int .i64 (M : Int) := e57
                obtain ⟨A5, c5, e56, hs5⟩ := e56
                refine wk.Does.weak (R := fun w9 x => ∃ A6 n6 c6, x = .slice A6 n6 c6 ∧ Sq B [39, 25] (fun w2 => IsVV w2 A6 n6 c6 (spread M PP)) w9) ?_ (fun w9 v hb hr => ⟨hr, fun j u _ _ hj => TR.next rfl hb (Nat.le_trans hS4.gb hS4.sz) hj, hS4.next rfl hb⟩)
                refine wk.does_fn (f := 58) (vs := #[.slice A5 n c5, .int .i64 (M : Int)]) rfl (DG.fn _) (by simp [show E (.tmp 56) = _ from e56, e57]) (by go_simp) ?_
                refine (HSPC.out A5 c5 w4 hs5.now).mono ?_
                rintro e w7 ⟨A7, n7, c7, rfl, hs7, hb7⟩
                exact ⟨_, rfl, hb7, A7, n7, c7, rfl, hs7.down hS4.sz (fun e h => h)⟩
              ·
                have ho2 := (Array.getElem?_eq_some_iff.1 ho).2
                simp only [List.getElem_toArray, List.getElem_cons_succ, List.getElem_cons_zero] at ho2
                subst ho2
                clear ho
                have e58 := DG.is { on := 6, ground := .data } (by simp) rfl 58 rfl
                replace e58 : ∃ A6 n6 c6, E (.tmp 58) = .slice A6 n6 c6 ∧ Sq B [39, 25] (fun w2 => IsVV w2 A6 n6 c6 (spread M PP)) w4 := e58
                obtain ⟨A6, n6, c6, e58, hs6⟩ := e58
                refine wk.Does.weak (R := fun w9 x => ∃ g A6 n6 c6, x = .slice (some ⟨g, 0, none⟩) 1 1 ∧ Row1 w9 g 39 (.slice A6 n6 c6) ∧ Sq B [39, 25] (fun w2 => IsVV w2 A6 n6 c6 (spread M PP)) w9) ?_ (fun w9 v hb hr => ⟨by obtain ⟨g, A6, n6, c6, h1, h2, h3⟩ := hr; exact ⟨g, A6, n6, c6, h1, fun _ => h2, h3⟩, fun j u _ _ hj => TR.next rfl hb (Nat.le_trans hS4.gb hS4.sz) hj, hS4.next rfl hb⟩)
                exact wk.does_new (v := .slice (some ⟨w4.heap.size, 0, none⟩) 1 1) (w' := w4.alloc (.cells #[.slice A6 n6 c6] 39)) (by simp only [execOp, List.map_toArray, List.map_cons, List.map_nil]; rw [show E (.tmp 58) = _ from e58]; go_simp) (below_new _ _) ⟨_, _, _, _, rfl, Row1.new _ _ _, hs6.below (below_new _ _)⟩
              ·
                have ho2 := (Array.getElem?_eq_some_iff.1 ho).2
                simp only [List.getElem_toArray, List.getElem_cons_succ, List.getElem_cons_zero] at ho2
                subst ho2
                clear ho
                have e53 := DG.is { on := 1, ground := .data } (by simp) rfl 53 rfl
                replace e53 : E (.tmp 53) = wv := e53
                have e59 := DG.is { on := 7, ground := .data } (by simp) rfl 59 rfl
                replace e59 : ∃ g A6 n6 c6, E (.tmp 59) = .slice (some ⟨g, 0, none⟩) 1 1 ∧ (Lv 8 = false → Row1 w4 g 39 (.slice A6 n6 c6)) ∧ Sq B [39, 25] (fun w2 => IsVV w2 A6 n6 c6 (spread M PP)) w4 := e59
                obtain ⟨g, A6, n6, c6, e59, hr1, hs6⟩ := e59
                have hrow := hS4.row hL
                refine does_append_t (.tmp 53) (.tmp 59) 23 rfl B 39 i0 (.slice none 0 0) 1 24 Try.underlying23 hi9 hz0 hz1 hz2 rfl (by decide) wv acc.length vals0 e53 hrow.own ⟨g, 0, none⟩ 1 [.slice A6 n6 c6] e59 rfl (hr1 hL).cells (by simp [Value.oneCell']) (by omega) (by omega) hS4.sz ?_
                intro v' w' hown hgrow _
                have hkp : Kp G [39, 25] w4 w' := Kp.of_grown hrow.own (by simp) hS4.gb (Nat.le_trans hS4.gb hS4.sz) hgrow
                have hkq : Kq B [39, 25] w4 w' := Kq.of_grown hrow.own (by simp) hgrow
                have hT8 : Three w' g8 (.int .i64 (n1 : Int)) (.slice A7 nc c7) wv := hS4.thr.at (hgrow.block g8 hS4.thr.lt (fun e => by have h9 := (hrow.own.lt g8 e.symm).1; have h10 := HG8B.out; change B ≤ g8 at h9; omega))
                have hTu : Turn [g8] B W w' := hS4.turn.trans ⟨⟨hgrow.size, fun k o hB hk ho => (hgrow.block k (Array.getElem?_eq_some_iff.1 hk).1 (fun e => by
                  rcases hrow.own.2 with ⟨hv, _⟩ | ⟨g1, cap1, cur1, hv, _, hh1, _⟩
                  · rw [show wv = _ from hv] at e; simp [Value.ownBlock] at e
                  · rw [show wv = _ from hv] at e
                    have hkg : k = g1 := by simpa [Value.ownBlock] using e
                    subst hkg
                    rw [hk] at hh1
                    cases hh1
                    cases ho)).trans hk⟩, ⟨hgrow.os, hgrow.tape, hgrow.output, hgrow.size, fun k hk hm => hgrow.block k (Nat.lt_of_lt_of_le hk hS4.sz) (fun e => Nat.not_le_of_lt hk (hrow.own.lt k e.symm).1)⟩⟩
                have hpush : RowQ IsZ B [39, 25] 39 w' v' (acc ++ [spread M PP]) (vals0 ++ [.slice A6 n6 c6]) := by
                  have hg2 : (w4.alloc (.cells #[] 3)).heap.size = w4.heap.size + 1 := size_new _ _
                  exact hrow.push0 (by simp) (hs6.imp fun w9 h => (⟨A6, n6, c6, rfl, h⟩ : IsZ w9 (.slice A6 n6 c6) (spread M PP))) hgrow hown
                exact ⟨⟨_, hpush⟩, fun j u hj _ hr => TR.turn (by rintro rfl; rw [hL] at hj; cases hj) rfl hkp hkq hr, ⟨hS4.kp.trans hkp, hS4.gb, Nat.le_trans hS4.sz hgrow.size, hTu, hT8, fun e => by simp at e⟩⟩
              ·
                have ho2 := (Array.getElem?_eq_some_iff.1 ho).2
                simp only [List.getElem_toArray, List.getElem_cons_succ, List.getElem_cons_zero] at ho2
                subst ho2
                clear ho
                have e8 : E (.tmp 8) = .pointer (some ⟨g8, 0, none⟩) := DG.old 8 (by kernel_rfl)
                refine wk.Does.weak (R := fun w9 x => x = .pointer (some ⟨g8, 2, none⟩)) ?_ (fun w9 v hb hr => ⟨hr, fun j u _ _ hj => TR.next rfl hb (Nat.le_trans hS4.gb hS4.sz) hj, hS4.next rfl hb⟩)
                exact wk.does_run (by simp only [execOp]; rw [show E (.tmp 8) = .pointer (some ⟨g8, 0, none⟩) from e8]; go_simp) rfl
            case rdone =>
              intro vals9 Lv w4 hall hS4 hv
              have h8 : ∃ vals', RowQ IsZ B [39, 25] 39 w4 (vals9 8) (acc ++ [spread M PP]) vals' := hv 8 (by omega)
              have h9 : vals9 9 = .pointer (some ⟨g8, 2, none⟩) := hv 9 (by omega)
              clear hv
              simp only [List.drop_succ_cons, List.drop_zero, wk.setL, List.setIfInBounds_toArray, List.set_cons_zero, List.set_cons_succ, Nat.zero_add, Nat.reduceAdd, h9]
              generalize vals9 8 = x8 at *
              generalize vals9 0 = x0
              generalize vals9 1 = x1
              generalize vals9 2 = x2
              generalize vals9 3 = x3
              generalize vals9 4 = x4
              generalize vals9 5 = x5
              generalize vals9 6 = x6
              generalize vals9 7 = x7
              clear h9
              obtain ⟨vals', hrow'⟩ := h8
              obtain ⟨A8, c8, e8⟩ := own_slice hrow'.own
              subst e8
              have hq2 : w4.cell? ⟨g8, 2, none⟩ = some wv := hS4.thr.c2
              have hf2 : w4.frozen? ⟨g8, 2, none⟩ = false := hS4.thr.f 2
              have HTU := Lib.hid (show Turn [g8] B W w4 from hS4.turn)
              have HTH := Lib.hid (show Three w4 g8 (.int .i64 (n1 : Int)) (.slice A7 nc c7) wv from hS4.thr)
              have hv8 : (acc ++ [spread M PP]).length = pre.length + 1 := by rw [List.length_append, hacc]; rfl
              rw [hv8] at hrow'
              have HRW := Lib.hid hrow'
              clear hS4 hall hrow'
              rw [hv8]
              go_wp2_with fail
              gi_wp2
              refine ⟨HTU.out.trans (Turn.setCell _ (by simp)), _, vals', HTH.out.set2 _, ?_⟩
              rw [List.map_append, HAC.out]
              simp only [List.map_cons, List.map_nil, HSPA.out]
              exact HRW.out.setBox HTH.out (.inl (by simp)) (by decide) _
          case hdone =>
            rintro D ys W hD hys hx ⟨wv, vals, hTh, hRow⟩ hK
            have hlen : ys.length = nc := len_range hys
            have hTE : (List.range nc).map (fun k => spread M (L.map fun v => pt v (spa (sp cuts (n1 : Int)) k))) = (trained M cuts L).W := by
              unfold trained
              dsimp only
              rw [HHD.out]
              refine List.ext_getElem? fun k => ?_
              rcases Nat.lt_or_ge k nc with hk | hk
              · have hcut : cuts[k]? = some (cuts[k]'(by rw [HC.out.1]; exact hk)) := List.getElem?_eq_getElem _
                rw [List.getElem?_map, List.getElem?_range hk, List.getElem?_map, sp_at hcut]
                simp only [Option.map_some]
                rw [spa_of (sp_at hcut)]
              · rw [List.getElem?_eq_none (by simpa using hk), List.getElem?_eq_none (by rw [List.length_map, sp_len, HC.out.1]; exact hk)]
            rw [map_range hys (fun k => spread M (L.map fun v => pt v (spa (sp cuts (n1 : Int)) k))), hTE] at hRow
            have hRb := HR7.out.at (hx.block (G + 1 + 1) (by omega) (by simp; omega))
            have hIc : Sq 0 [39, 25] (fun w2 => wo.IsI w2 A7 nc c7 cuts) W := HS77.out.keep (Kq.of_exc hx (fun j hj cs t fr hcs => by
              simp only [List.mem_singleton] at hj
              subst hj
              rw [HT7.out] at hcs
              injection hcs with hcs
              injection hcs with _ h2 _
              rw [← h2]; simp))
            have hb8 : Below G w W := HB7.out.trans (hx.below (by omega) (by intro j hj; simp only [List.mem_singleton] at hj; omega))
            obtain ⟨A9, c9, e9, hW9⟩ := hRow.isW_sq (es' := [25]) (by simp) (by decide)
            subst e9
            have hq0 := hTh.c0
            have hq1 := hTh.c1
            have hq2 := hTh.c2
            have hr0 := hRb.c0
            have hr1 := hRb.c1
            have hr2 := hRb.c2
            have hf0 := hRb.f 0
            have hf1 := hRb.f 1
            have hf2 := hRb.f 2
            have HRB := Lib.hid hRb
            have HIC := Lib.hid hIc
            have HB8 := Lib.hid hb8
            have HW9 := Lib.hid hW9
            have HKK := Lib.hid hK
            clear hx hRow hTh hK hRb hIc hb8 hW9
            go_wp2_with fail
            have hD3 : ∀ x y z, (((W.setCell ⟨G + 1 + 1, 0, none⟩ x).setCell ⟨G + 1 + 1, 1, none⟩ y).setCell ⟨G + 1 + 1, 2, none⟩ z).heap[D]? = some (.deferred (some [])) := fun x y z => (set3_other W (G + 1 + 1) x y z D (by omega)).trans HKK.out
            have hkq : ∀ x y z, Kq 0 [39, 25] W ((((W.setCell ⟨G + 1 + 1, 0, none⟩ x).setCell ⟨G + 1 + 1, 1, none⟩ y).setCell ⟨G + 1 + 1, 2, none⟩ z).putObj D (.deferred none)) := fun x y z =>
              (Kq.set3 HRB.out (.inl (by simp)) x y z).trans (Kq.of_own (grownBy_putObj' _ D (.deferred none)) (fun r hr => by cases hr; exact ⟨_, hD3 x y z, rfl⟩))
            have hkq2 : ∀ x y z, Kq B [25] W ((((W.setCell ⟨G + 1 + 1, 0, none⟩ x).setCell ⟨G + 1 + 1, 1, none⟩ y).setCell ⟨G + 1 + 1, 2, none⟩ z).putObj D (.deferred none)) := fun x y z =>
              (Kq.set3 HRB.out (.inl (by simp)) x y z).trans (Kq.of_own (grownBy_putObj' _ D (.deferred none)) (fun r hr => by cases hr; exact ⟨_, hD3 x y z, rfl⟩))
            refine leave_mark (hD3 _ _ _) (res_bk (fn := Try.f30) rfl _ _ (G + 1 + 1) _ _ _ rfl ((HRB.out.set3 _ _ _).at (World.putObj_heap_other (by omega)))) ⟨_, by rw [HTR.out]; rfl, ?_, below_mark (below_set3 HB8.out (by omega) _ _ _) (by omega)⟩
            rw [HTR.out]
            refine ⟨A7, nc, c7, A9, _, c9, ?_, (HIC.out.keep (hkq _ _ _)).now, (HW9.out.keep (hkq2 _ _ _)).now, ?_⟩
            · unfold trained
              dsimp only
              rw [HHD.out]
            · unfold trained I64
              dsimp only
              rw [HHD.out]
              have := HDV.out.d32
              have := HDV.out.d1
              omega
          case hstop =>
            rintro D c W hD hx hf hK
            exact hf.elim
end Go.Proofs.Ytiodjepjbooniaa.uk
/- The laws: what they compute first. -/
namespace Go.Proofs.Ytiodjepjbooniaa.uk

open Go.ChangeShapes Go.WideShapes Go.ChangeAt Go.RowKit

open Go.Proofs.Ytiodjepjbooniaa.cq Go.Proofs.Ytiodjepjbooniaa.vk Go.Proofs.Ytiodjepjbooniaa.bk Go.Proofs.Ytiodjepjbooniaa.wk

set_option linter.unusedVariables false
structure V1 (w : World) (A : Option Addr) (n c : Nat) (l : List Int) : Prop where
  is : wo.IsI w A n c l
theorem V1.below {w w' : World} {A : Option Addr} {n c : Nat} {l : List Int} (h : V1 w A n c l) (hb : Below w.heap.size w w') : V1 w' A n c l := ⟨isI_below h.is hb⟩
structure V2 (w : World) (A : Option Addr) (n c : Nat) (l : VV) : Prop where
  is : IsVV w A n c l
theorem V2.below {w w' : World} {A : Option Addr} {n c : Nat} {l : VV} (h : V2 w A n c l) (hb : Below w.heap.size w w') : V2 w' A n c l := ⟨isVV_below h.is hb⟩
theorem no_isBk (w : World) : IsBk w (.agg #[.int .i64 0, .slice none 0 0, .slice none 0 0]) noBk' :=
  ⟨none, 0, 0, none, 0, 0, rfl, ⟨rfl, Nat.le_refl _, by omega, fun h => absurd h (by decide), by decide⟩, ⟨rfl, Nat.le_refl _, by omega, fun k l hk => by cases hk⟩, by unfold I64; decide⟩
theorem ex_al : Al [[0, 0, 5], [3, 4, 5], [3, 4, -5]] := ⟨by decide, fun v hv => by
    simp only [List.mem_cons, List.not_mem_nil, or_false] at hv
    rcases hv with rfl | rfl | rfl
    · exact vec3 (by decide) (by decide) (by decide)
    · exact vec3 (by decide) (by decide) (by decide)
    · exact vec3 (by decide) (by decide) (by decide), by decide⟩
theorem below_of_drew {w w' : World} {q : Nat} (h : w' = w.drewN q) : Below w.heap.size w w' := by rw [h]; exact below_drewN (Below.refl _ _) q
theorem ex_hok : ∀ (k : Nat) (r : List Int) (i : Int), ([[0, 25], [25, 25]] : VV)[k]? = some r → ([1, 1] : List Int)[k]? = some i → 0 ≤ i ∧ i < (r.length : Int) ∧ ∀ x ∈ r, 0 ≤ x ∧ x ≤ 134217728
  | 0, r, i, h, h' => by simp at h h'; subst h; subst h'; decide
  | 1, r, i, h, h' => by simp at h h'; subst h; subst h'; decide
  | k + 2, r, i, h, h' => by simp at h
set_option maxRecDepth 100000 in
set_option maxHeartbeats 40000000 in
theorem sanity_calls (w : World) : Calls Try.prog 11 #[] w fun e w' => e = .returned (.bool true) ∧ Below w.heap.size w w' := by
  have HB := Lib.hid (Below.refl w.heap.size w)
  go_enter Try.func11, Try.ntmps11
  go_wp2_with fail
  refine (example_calls _).mono ?_
  rintro e wE ⟨v, rfl, hx, hb⟩
  obtain ⟨A0, n0, c0, AW, nW, cW, rfl, hi, hW, -⟩ := hx
  rw [show exBk.d = 3 from rfl]
  have hnc := hi.2.1
  have hnm := hi.2.2.1
  have hnc2 := hW.2.1
  have hnm2 := hW.2.2.1
  replace HB := Lib.hid (Below.andThen HB.out hb)
  have HX : Hid (IsBk wE (.agg #[.int .i64 3, .slice A0 n0 c0, .slice AW nW cW]) exBk) := ⟨_, _, _, _, _, _, rfl, hi, hW, by unfold I64; decide⟩
  have HT := Lib.hid (Three.new wE (.int .i64 3) (.slice A0 n0 c0) (.slice AW nW cW))
  replace HX := Lib.hid (HX.out.below (below_new _ (.cells #[.int .i64 3, .slice A0 n0 c0, .slice AW nW cW] 25)))
  replace HB := Lib.hid (Below.andThen HB.out (below_new _ (.cells #[.int .i64 3, .slice A0 n0 c0, .slice AW nW cW] 25)))
  clear hi hW hb
  have hc0HT := HT.out.c0
  have hc1HT := HT.out.c1
  have hc2HT := HT.out.c2
  go_wp2_with fail
  clear hc0HT hc1HT hc2HT
  refine (decode_calls _ exBk _ _ _ [1, 1] _ (HX.out.below (below_new _ _)) ex_rt (isI_new _ _ (by rw [size_new]) [1, 1] (by decide) (by decide))).mono ?_
  rintro e w1 ⟨u3, rfl, hu, hb⟩
  replace HX := Lib.hid ((HX.out.below (below_new _ _)).below hb)
  replace HT := Lib.hid ((HT.out.below (below_new _ _)).below hb)
  replace HB := Lib.hid (Below.andThen (Below.andThen HB.out (below_new _ _)) hb)
  rw [ex_dec] at hu
  rw [ex_cok]
  unfold okD
  rw [if_pos rfl]
  obtain ⟨A3, n3, c3, rfl, hu⟩ := hu
  obtain rfl : 3 = n3 := hu.1
  have hnm3 := hu.2.2.1
  have hnc3 := hu.2.1
  have HV3 := Lib.hid (V1.mk hu)
  clear hu
  clear hb
  have hc0HT := HT.out.c0
  have hc1HT := HT.out.c1
  have hc2HT := HT.out.c2
  go_wp2_with fail
  clear hc0HT hc1HT hc2HT
  refine (table_calls _ exBk 2 _ _ _ [0, 0, 0] _ (HX.out.below (below_new _ _)) ex_rt (by decide) (by decide) (isI_new _ _ rfl [0, 0, 0] (by decide) (by decide)) (vec3 (by decide) (by decide) (by decide)) rfl).mono ?_
  rintro e w2 ⟨A5, n5, c5, rfl, hu, hb⟩
  replace HX := Lib.hid ((HX.out.below (below_new _ _)).below hb)
  replace HT := Lib.hid ((HT.out.below (below_new _ _)).below hb)
  replace HV3 := Lib.hid ((HV3.out.below (below_new _ _)).below hb)
  replace HB := Lib.hid (Below.andThen (Below.andThen HB.out (below_new _ _)) hb)
  have hu := hu.now
  rw [ex_tbl] at hu
  obtain rfl : 2 = n5 := hu.1
  have hnm5 := hu.2.2.1
  have hnc5 := hu.2.1
  have HV5 := Lib.hid (V2.mk hu)
  clear hu
  clear hb
  have hc0HT := HT.out.c0
  have hc1HT := HT.out.c1
  have hc2HT := HT.out.c2
  go_wp2_with fail
  clear hc0HT hc1HT hc2HT
  refine (bounds_calls 2 50 3 _ (by decide) (by decide) (by decide) (by decide) (by decide) (by decide)).mono ?_
  rintro e w3 ⟨rfl, hb⟩
  replace HX := Lib.hid (HX.out.below hb)
  replace HT := Lib.hid (HT.out.below hb)
  replace HV3 := Lib.hid (HV3.out.below hb)
  replace HV5 := Lib.hid (HV5.out.below hb)
  replace HB := Lib.hid (Below.andThen HB.out hb)
  rw [ex_low, ex_high]
  clear hb
  have hc0HT := HT.out.c0
  have hc1HT := HT.out.c1
  have hc2HT := HT.out.c2
  go_wp2_with fail
  clear hc0HT hc1HT hc2HT
  refine (train_calls _ _ _ _ _ _ [[0, 0, 5], [3, 4, 5], [3, 4, -5]] [0, 2] 9 _ (isVV_below (isVV_three _ _ rfl [0, 0, 5] [3, 4, 5] [3, 4, -5] (by decide) (by decide) (by decide) (by decide) (by decide) (by decide)) (below_new _ _)) (by decide) ex_al (isI_new _ _ (by simp only [size_new]) [0, 2] (by decide) (by decide)) (by unfold I64; decide)).mono ?_
  rintro e w4 ⟨u8, rfl, hu, hb⟩
  replace HX := Lib.hid ((HX.out.below (Below.andThen (Below.andThen (Below.andThen (Below.andThen (below_new _ _) (below_new _ _)) (below_new _ _)) (below_new _ _)) (below_new _ _))).below hb)
  replace HT := Lib.hid ((HT.out.below (Below.andThen (Below.andThen (Below.andThen (Below.andThen (below_new _ _) (below_new _ _)) (below_new _ _)) (below_new _ _)) (below_new _ _))).below hb)
  replace HV3 := Lib.hid ((HV3.out.below (Below.andThen (Below.andThen (Below.andThen (Below.andThen (below_new _ _) (below_new _ _)) (below_new _ _)) (below_new _ _)) (below_new _ _))).below hb)
  replace HV5 := Lib.hid ((HV5.out.below (Below.andThen (Below.andThen (Below.andThen (Below.andThen (below_new _ _) (below_new _ _)) (below_new _ _)) (below_new _ _)) (below_new _ _))).below hb)
  replace HB := Lib.hid (Below.andThen (Below.andThen HB.out (Below.andThen (Below.andThen (Below.andThen (Below.andThen (below_new _ _) (below_new _ _)) (below_new _ _)) (below_new _ _)) (below_new _ _))) hb)
  rw [ex_train] at hu
  rw [ex_train]
  obtain ⟨A8, n8, c8, AX, nX, cX, rfl, hi, hW, -⟩ := hu
  rw [show (exBk, (0 : Int)).1.d = 3 from rfl]
  have hnc8 := hi.2.1
  have hnm8 := hi.2.2.1
  have hnc9 := hW.2.1
  have hnm9 := hW.2.2.1
  have HX8 : Hid (IsBk w4 (.agg #[.int .i64 3, .slice A8 n8 c8, .slice AX nX cX]) exBk) := ⟨_, _, _, _, _, _, rfl, hi, hW, by unfold I64; decide⟩
  have HT8 := Lib.hid (Three.new w4 (.int .i64 3) (.slice A8 n8 c8) (.slice AX nX cX))
  clear hi hW
  clear hb
  have hc0HT := HT.out.c0
  have hc1HT := HT.out.c1
  have hc2HT := HT.out.c2
  clear hc0HT hc1HT hc2HT
  replace HX := Lib.hid (HX.out.below (below_new _ (.cells #[.int .i64 3, .slice A8 n8 c8, .slice AX nX cX] 25)))
  replace HT := Lib.hid (HT.out.below (below_new _ (.cells #[.int .i64 3, .slice A8 n8 c8, .slice AX nX cX] 25)))
  replace HV3 := Lib.hid (HV3.out.below (below_new _ (.cells #[.int .i64 3, .slice A8 n8 c8, .slice AX nX cX] 25)))
  replace HV5 := Lib.hid (HV5.out.below (below_new _ (.cells #[.int .i64 3, .slice A8 n8 c8, .slice AX nX cX] 25)))
  replace HX8 := Lib.hid (HX8.out.below (below_new _ (.cells #[.int .i64 3, .slice A8 n8 c8, .slice AX nX cX] 25)))
  replace HB := Lib.hid (Below.andThen HB.out (below_new _ (.cells #[.int .i64 3, .slice A8 n8 c8, .slice AX nX cX] 25)))
  have hc0HT := HT.out.c0
  have hc1HT := HT.out.c1
  have hc2HT := HT.out.c2
  have hc0HT8 := HT8.out.c0
  have hc1HT8 := HT8.out.c1
  have hc2HT8 := HT8.out.c2
  go_wp2_with fail
  clear hc0HT hc1HT hc2HT hc0HT8 hc1HT8 hc2HT8
  refine (check_calls _ exBk _ HX.out).mono ?_
  rintro e w5 ⟨rfl, hb⟩
  replace HX := Lib.hid (HX.out.below hb)
  replace HT := Lib.hid (HT.out.below hb)
  replace HV3 := Lib.hid (HV3.out.below hb)
  replace HV5 := Lib.hid (HV5.out.below hb)
  replace HX8 := Lib.hid (HX8.out.below hb)
  replace HT8 := Lib.hid (HT8.out.below hb)
  replace HB := Lib.hid (Below.andThen HB.out hb)
  rw [ex_check]
  unfold errB
  rw [if_pos rfl]
  clear hb
  have hc0HT := HT.out.c0
  have hc1HT := HT.out.c1
  have hc2HT := HT.out.c2
  have hc0HT8 := HT8.out.c0
  have hc1HT8 := HT8.out.c1
  have hc2HT8 := HT8.out.c2
  go_wp2_with fail
  clear hc0HT hc1HT hc2HT hc0HT8 hc1HT8 hc2HT8
  refine (check_calls _ noBk' _ (no_isBk _)).mono ?_
  rintro e w6 ⟨rfl, hb⟩
  replace HX := Lib.hid (HX.out.below hb)
  replace HT := Lib.hid (HT.out.below hb)
  replace HV3 := Lib.hid (HV3.out.below hb)
  replace HV5 := Lib.hid (HV5.out.below hb)
  replace HX8 := Lib.hid (HX8.out.below hb)
  replace HT8 := Lib.hid (HT8.out.below hb)
  replace HB := Lib.hid (Below.andThen HB.out hb)
  rw [no_check]
  unfold errB
  rw [if_neg (by simp)]
  clear hb
  have hc0HT := HT.out.c0
  have hc1HT := HT.out.c1
  have hc2HT := HT.out.c2
  have hc0HT8 := HT8.out.c0
  have hc1HT8 := HT8.out.c1
  have hc2HT8 := HT8.out.c2
  go_wp2_with fail
  clear hc0HT hc1HT hc2HT hc0HT8 hc1HT8 hc2HT8
  refine (encode_calls _ exBk 2 _ _ _ [1, 1, 4] _ (HX.out.below (below_new _ _)) ex_rt (by decide) (by decide) (isI_new _ _ rfl [1, 1, 4] (by decide) (by decide)) (vec3 (by decide) (by decide) (by decide)) rfl).mono ?_
  rintro e w7 ⟨u6, rfl, hu, hb⟩
  replace HX := Lib.hid ((HX.out.below (below_new _ _)).below hb)
  replace HT := Lib.hid ((HT.out.below (below_new _ _)).below hb)
  replace HV3 := Lib.hid ((HV3.out.below (below_new _ _)).below hb)
  replace HV5 := Lib.hid ((HV5.out.below (below_new _ _)).below hb)
  replace HX8 := Lib.hid ((HX8.out.below (below_new _ _)).below hb)
  replace HT8 := Lib.hid ((HT8.out.below (below_new _ _)).below hb)
  replace HB := Lib.hid (Below.andThen (Below.andThen HB.out (below_new _ _)) hb)
  rw [ex_enc] at hu
  obtain ⟨A6, n6, c6, rfl, hu⟩ := hu
  obtain rfl : 2 = n6 := hu.1
  have hnm6 := hu.2.2.1
  have hnc6 := hu.2.1
  have HV6 := Lib.hid (V1.mk hu)
  clear hu
  clear hb
  have hc0HT := HT.out.c0
  have hc1HT := HT.out.c1
  have hc2HT := HT.out.c2
  have hc0HT8 := HT8.out.c0
  have hc1HT8 := HT8.out.c1
  have hc2HT8 := HT8.out.c2
  go_wp2_with fail
  clear hc0HT hc1HT hc2HT hc0HT8 hc1HT8 hc2HT8
  refine (vk.same_calls _ _ _ _ _ _ [0, 0] [0, 0] _ (isI_below HV6.out.is (below_new _ _)) (isI_new _ _ rfl [0, 0] (by decide) (by decide))).mono ?_
  rintro e w8 ⟨rfl, q8, hq⟩
  have hb := below_of_drew hq
  clear hq
  replace HX := Lib.hid ((HX.out.below (below_new _ _)).below hb)
  replace HT := Lib.hid ((HT.out.below (below_new _ _)).below hb)
  replace HV3 := Lib.hid ((HV3.out.below (below_new _ _)).below hb)
  replace HV5 := Lib.hid ((HV5.out.below (below_new _ _)).below hb)
  replace HX8 := Lib.hid ((HX8.out.below (below_new _ _)).below hb)
  replace HT8 := Lib.hid ((HT8.out.below (below_new _ _)).below hb)
  replace HV6 := Lib.hid ((HV6.out.below (below_new _ _)).below hb)
  replace HB := Lib.hid (Below.andThen (Below.andThen HB.out (below_new _ _)) hb)
  rw [show (([0, 0] : List Int) == [0, 0]) = true from by decide]
  clear hb
  have hc0HT := HT.out.c0
  have hc1HT := HT.out.c1
  have hc2HT := HT.out.c2
  have hc0HT8 := HT8.out.c0
  have hc1HT8 := HT8.out.c1
  have hc2HT8 := HT8.out.c2
  go_wp2_with fail
  clear hc0HT hc1HT hc2HT hc0HT8 hc1HT8 hc2HT8
  refine (vk.same_calls _ _ _ _ _ _ [3, 4, -5] [3, 4, -5] _ (isI_below HV3.out.is (below_new _ _)) (isI_new _ _ rfl [3, 4, -5] (by decide) (by decide))).mono ?_
  rintro e w9 ⟨rfl, q9, hq⟩
  have hb := below_of_drew hq
  clear hq
  replace HX := Lib.hid ((HX.out.below (below_new _ _)).below hb)
  replace HT := Lib.hid ((HT.out.below (below_new _ _)).below hb)
  replace HV3 := Lib.hid ((HV3.out.below (below_new _ _)).below hb)
  replace HV5 := Lib.hid ((HV5.out.below (below_new _ _)).below hb)
  replace HX8 := Lib.hid ((HX8.out.below (below_new _ _)).below hb)
  replace HT8 := Lib.hid ((HT8.out.below (below_new _ _)).below hb)
  replace HV6 := Lib.hid ((HV6.out.below (below_new _ _)).below hb)
  replace HB := Lib.hid (Below.andThen (Below.andThen HB.out (below_new _ _)) hb)
  rw [show (([3, 4, -5] : List Int) == [3, 4, -5]) = true from by decide]
  clear hb
  have hc0HT := HT.out.c0
  have hc1HT := HT.out.c1
  have hc2HT := HT.out.c2
  have hc0HT8 := HT8.out.c0
  have hc1HT8 := HT8.out.c1
  have hc2HT8 := HT8.out.c2
  go_wp2_with fail
  clear hc0HT hc1HT hc2HT hc0HT8 hc1HT8 hc2HT8
  refine (residual_calls _ exBk 2 _ _ _ [1, 1, 4] _ (HX.out.below (below_new _ _)) ex_rt (by decide) (by decide) (isI_new _ _ rfl [1, 1, 4] (by decide) (by decide)) (vec3 (by decide) (by decide) (by decide)) rfl).mono ?_
  rintro e w10 ⟨rfl, hb⟩
  replace HX := Lib.hid ((HX.out.below (below_new _ _)).below hb)
  replace HT := Lib.hid ((HT.out.below (below_new _ _)).below hb)
  replace HV3 := Lib.hid ((HV3.out.below (below_new _ _)).below hb)
  replace HV5 := Lib.hid ((HV5.out.below (below_new _ _)).below hb)
  replace HX8 := Lib.hid ((HX8.out.below (below_new _ _)).below hb)
  replace HT8 := Lib.hid ((HT8.out.below (below_new _ _)).below hb)
  replace HV6 := Lib.hid ((HV6.out.below (below_new _ _)).below hb)
  replace HB := Lib.hid (Below.andThen (Below.andThen HB.out (below_new _ _)) hb)
  rw [ex_res]
  clear hb
  have hc0HT := HT.out.c0
  have hc1HT := HT.out.c1
  have hc2HT := HT.out.c2
  have hc0HT8 := HT8.out.c0
  have hc1HT8 := HT8.out.c1
  have hc2HT8 := HT8.out.c2
  go_wp2_with fail
  clear hc0HT hc1HT hc2HT hc0HT8 hc1HT8 hc2HT8
  refine (sameRows_calls _ _ _ _ _ _ [[0, 25], [25, 25]] [[0, 25], [25, 25]] _ (isVV_below HV5.out.is (Below.andThen (Below.andThen (below_new _ _) (below_new _ _)) (below_new _ _))) (isVV_two _ _ rfl [0, 25] [25, 25] (by decide) (by decide) (by decide) (by decide))).mono ?_
  rintro e w11 ⟨rfl, q11, hq⟩
  have hb := below_of_drew hq
  clear hq
  replace HX := Lib.hid ((HX.out.below (Below.andThen (Below.andThen (below_new _ _) (below_new _ _)) (below_new _ _))).below hb)
  replace HT := Lib.hid ((HT.out.below (Below.andThen (Below.andThen (below_new _ _) (below_new _ _)) (below_new _ _))).below hb)
  replace HV3 := Lib.hid ((HV3.out.below (Below.andThen (Below.andThen (below_new _ _) (below_new _ _)) (below_new _ _))).below hb)
  replace HV5 := Lib.hid ((HV5.out.below (Below.andThen (Below.andThen (below_new _ _) (below_new _ _)) (below_new _ _))).below hb)
  replace HX8 := Lib.hid ((HX8.out.below (Below.andThen (Below.andThen (below_new _ _) (below_new _ _)) (below_new _ _))).below hb)
  replace HT8 := Lib.hid ((HT8.out.below (Below.andThen (Below.andThen (below_new _ _) (below_new _ _)) (below_new _ _))).below hb)
  replace HV6 := Lib.hid ((HV6.out.below (Below.andThen (Below.andThen (below_new _ _) (below_new _ _)) (below_new _ _))).below hb)
  replace HB := Lib.hid (Below.andThen (Below.andThen HB.out (Below.andThen (Below.andThen (below_new _ _) (below_new _ _)) (below_new _ _))) hb)
  rw [show decide (([[0, 25], [25, 25]] : VV) = [[0, 25], [25, 25]]) = true from by decide]
  clear hb
  have hc0HT := HT.out.c0
  have hc1HT := HT.out.c1
  have hc2HT := HT.out.c2
  have hc0HT8 := HT8.out.c0
  have hc1HT8 := HT8.out.c1
  have hc2HT8 := HT8.out.c2
  go_wp2_with fail
  clear hc0HT hc1HT hc2HT hc0HT8 hc1HT8 hc2HT8
  refine (sum_calls 2 _ _ _ _ _ [[0, 25], [25, 25]] [1, 1] _ (by decide) (by decide) (isVV_below HV5.out.is (below_new _ _)) (isI_new _ _ rfl [1, 1] (by decide) (by decide)) (by decide) ex_hok).mono ?_
  rintro e w12 ⟨rfl, hb⟩
  replace HX := Lib.hid ((HX.out.below (below_new _ _)).below hb)
  replace HT := Lib.hid ((HT.out.below (below_new _ _)).below hb)
  replace HV3 := Lib.hid ((HV3.out.below (below_new _ _)).below hb)
  replace HV5 := Lib.hid ((HV5.out.below (below_new _ _)).below hb)
  replace HX8 := Lib.hid ((HX8.out.below (below_new _ _)).below hb)
  replace HT8 := Lib.hid ((HT8.out.below (below_new _ _)).below hb)
  replace HV6 := Lib.hid ((HV6.out.below (below_new _ _)).below hb)
  replace HB := Lib.hid (Below.andThen (Below.andThen HB.out (below_new _ _)) hb)
  rw [ex_sum]
  clear hb
  have hc0HT := HT.out.c0
  have hc1HT := HT.out.c1
  have hc2HT := HT.out.c2
  have hc0HT8 := HT8.out.c0
  have hc1HT8 := HT8.out.c1
  have hc2HT8 := HT8.out.c2
  go_wp2_with fail
  clear hc0HT hc1HT hc2HT hc0HT8 hc1HT8 hc2HT8
  refine (rsameBk_calls _ _ exBk exBk _ HX8.out HX.out rfl).mono ?_
  rintro e w13 ⟨rfl, hb⟩
  replace HX := Lib.hid (HX.out.below hb)
  replace HT := Lib.hid (HT.out.below hb)
  replace HV3 := Lib.hid (HV3.out.below hb)
  replace HV5 := Lib.hid (HV5.out.below hb)
  replace HX8 := Lib.hid (HX8.out.below hb)
  replace HT8 := Lib.hid (HT8.out.below hb)
  replace HV6 := Lib.hid (HV6.out.below hb)
  replace HB := Lib.hid (Below.andThen HB.out hb)
  clear hb
  have hc0HT := HT.out.c0
  have hc1HT := HT.out.c1
  have hc2HT := HT.out.c2
  have hc0HT8 := HT8.out.c0
  have hc1HT8 := HT8.out.c1
  have hc2HT8 := HT8.out.c2
  go_wp2_with fail
  go_ret
  exact ⟨rfl, HB.out⟩
end Go.Proofs.Ytiodjepjbooniaa.uk
/- A codebook as an argument. -/
namespace Go.Proofs.Ytiodjepjbooniaa.uk

open Go Go.ChangeShapes Go.WideShapes Go.ChangeAt Go.RowKit

open Go.Proofs.Ytiodjepjbooniaa.cq Go.Proofs.Ytiodjepjbooniaa.vk Go.Proofs.Ytiodjepjbooniaa.wk

set_option linter.unusedVariables false
theorem open_is {H : Type} {enc : TypeId × Value → H} {w : World} {base : Nat} {sp : Nat → Bool} {held : Bool} {v : Value} {m : Nat} {y : DataW H × List MemPlace}
    (h : DataW.trod enc Try.prog w base sp held m 22 [v] = some y) : ∃ A n c l, v = .slice A n c ∧ wo.IsI w A n c l := by
  have hs : ∃ A n c, v = .slice A n c := by
    rcases DataW.trod_slice Try.underlying22 h with ⟨hcs, _⟩ | ⟨ad, len, cap, elems, rest, m, _, hcs, _⟩
    · simp only [List.cons.injEq, and_true] at hcs; exact ⟨_, _, _, hcs⟩
    · simp only [List.cons.injEq, and_true] at hcs; exact ⟨_, _, _, hcs⟩
  obtain ⟨A, n, c, rfl⟩ := hs
  obtain ⟨l, hl⟩ := wo.openI Try.underlying22 Try.underlying3 (by kernel_rfl) h
  exact ⟨A, n, c, l, rfl, hl⟩
theorem open_ws {H : Type} {enc : TypeId × Value → H} {w : World} {base : Nat} {sp : Nat → Bool} {held : Bool} {v : Value} {m : Nat} {y : DataW H × List MemPlace}
    (h : DataW.trod enc Try.prog w base sp held m 23 [v] = some y) : ∃ A n c L, v = .slice A n c ∧ IsW w A n c L := by
  have hs : ∃ A n c, v = .slice A n c := by
    rcases DataW.trod_slice Try.underlying23 h with ⟨hcs, _⟩ | ⟨ad, len, cap, elems, rest, m, _, hcs, _⟩
    · simp only [List.cons.injEq, and_true] at hcs; exact ⟨_, _, _, hcs⟩
    · simp only [List.cons.injEq, and_true] at hcs; exact ⟨_, _, _, hcs⟩
  obtain ⟨A, n, c, rfl⟩ := hs
  obtain ⟨l, hl⟩ := openW Try.underlying23 Try.underlying39 Try.underlying22 Try.underlying3 (by kernel_rfl) (by kernel_rfl) (by kernel_rfl) h
  exact ⟨A, n, c, l, rfl, hl⟩
set_option maxRecDepth 100000 in
theorem open_book {H : Type} {enc : TypeId × Value → H} {w : World} {base b0 : Nat} {sp : Nat → Bool} {held : Bool} {r : Reach} {v : Value} {d : DataW H} {ps : List MemPlace}
    (hval : Value.okWide Try.prog w r b0 25 v) (hd : DataW.Trod enc Try.prog w base sp held 25 v d ps) : ∃ b, IsBk w v b := by
  obtain ⟨⟨cs⟩, rfl, hcs⟩ := okWide_struct Try.underlying25 hval
  have hcs : cs.length = 3 := hcs.trans (by kernel_rfl)
  obtain ⟨fuel, hf⟩ := hd
  match cs, hcs with
  | [c0, c1, c2], _ =>
    obtain ⟨y0, y1, y2, m, _, _, h0, h1, h2⟩ := Go.Deep.trod_struct3 Try.underlying25 hf
    have e0 : Try.prog.cellsOf 3 = 1 := by kernel_rfl
    have e1 : Try.prog.cellsOf 22 = 1 := by kernel_rfl
    have e2 : Try.prog.cellsOf 23 = 1 := by kernel_rfl
    rw [e0] at h0
    rw [e1] at h1
    rw [e2] at h2
    obtain ⟨d, hd0, _, hwf⟩ := DataW.trod_int Try.underlying3 (show DataW.trod enc Try.prog w base sp held m 3 [c0] = some y0 from h0)
    obtain ⟨A, n, c, l, rfl, hl⟩ := open_is (show DataW.trod enc Try.prog w base sp held m 22 [c1] = some y1 from h1)
    obtain ⟨A', n', c', L, rfl, hL⟩ := open_ws (show DataW.trod enc Try.prog w base sp held m 23 [c2] = some y2 from h2)
    simp only [List.cons.injEq, and_true] at hd0
    subst hd0
    refine ⟨⟨d, l, L⟩, A, n, c, A', n', c', rfl, hl, hL, ?_⟩
    have h := hwf
    unfold I64
    simpa [Lit.wf, IntKind.min, IntKind.max, IntKind.signed, IntKind.bits] using h
end Go.Proofs.Ytiodjepjbooniaa.uk
