/- Appends within a region that draws its order. -/
import Derived.Test.YtjhagfggelhpkaaDoorG10

import Derived.Test.YtjhagfggelhpkaaDoorVal8

import Derived.Laws.AppendOwn

namespace Go.Proofs.YtjhagfggelhpkaaDoor.jk

open Go.ChangeShapes Go.WideShapes Go.ChangeAt Go.RowKit

open Go.Proofs.YtjhagfggelhpkaaDoor.jq Go.Proofs.YtjhagfggelhpkaaDoor.vk Go.Proofs.YtjhagfggelhpkaaDoor.wk

set_option linter.unusedVariables false
/-- an append to a row of one's own: it stays where it is, or lies anew -/
theorem does_append_t {P : Program} {Q : Exit → Act → World → Prop} {o : Oper} {E : Operand → Value} {w : World} {R : World → Value → Prop} (s x : Operand) (t : TypeId) (ho : o.op = .call { callee := .builtin .append, args := #[s, x], argTypes := #[t, t] })
    (base : Nat) (e : TypeId) (i : TypeInfo) (z : Value) (size bytes : Nat) (ht : P.underlying t = some (.slice e)) (hi : P.info? e = some i) (hz : i.zero = some z)
    (hsize : i.size = size) (hby : i.bytes = bytes) (hzs : z.cells.size = size) (hsz : 0 < size)
    (v : Value) (n : Nat) (xs : List Value) (hs : E s = v) (hown : w.ownsRow base e size v n xs)
    (ad : Addr) (c : Nat) (news : List Value) (hx : E x = .slice (some ad) 1 c) (hl : news.length = 1 * size) (hnews : ∀ j u, news[j]? = some u → w.cell? (ad.add j) = some u) (h1 : ∀ u ∈ news, u.oneCell' = true)
    (hn : n ≤ 1000) (hb1 : bytes ≤ 1000) (hbase : base ≤ w.heap.size)
    (hR : ∀ v' w', w'.ownsRow base e size v' (n + 1) (xs ++ news) → w.grownBy w' v.ownBlock → (v'.ownBlock = v.ownBlock ∨ v'.ownBlock = some w.heap.size) → R w' v') : DoesT P Q o E w R := by
  subst hsize
  subst hby
  have hbytes : (n + 1) * i.bytes ≤ 140737488355328 := by
    have := Nat.mul_le_mul (show n + 1 ≤ 1001 by omega) hb1
    omega
  obtain ⟨v', w', hr, h2, h3, -⟩ := run_append_own (P := P) w base t o.type e i z i.size i.bytes ht hi hz rfl rfl hzs hsz v n xs hown ad 1 c news hl hnews h1 (by unfold maxLen; omega) hbytes hbase
  have hb : v'.ownBlock = v.ownBlock ∨ v'.ownBlock = some w.heap.size := by
    rcases hown.2 with ⟨rfl, rfl⟩ | ⟨g, cap, cur, rfl, hbg, hg, hnc, hcm, hcs, htake⟩
    · have hr2 := run_append_nil (P := P) w t o.type e i z ht hi hz ad 1 c news hl hnews (by omega) (by omega) (by simp only [Nat.zero_add] at hbytes; omega)
      rw [hr2] at hr
      injection hr with e1 e2
      right; rw [← e1]; rfl
    · by_cases hroom : n + 1 ≤ cap
      · have hfit : n * i.size + news.length ≤ cur.size := by rw [hl, hcs, ← Nat.add_mul]; exact Nat.mul_le_mul_right _ hroom
        have hr2 := run_append_room (P := P) w t o.type e i ht hi g n cap cur hg ad 1 c news hl hnews h1 hroom hfit
        rw [hr2] at hr
        injection hr with e1 e2
        left; rw [← e1]; rfl
      · have hr2 := run_append_grow (P := P) w t o.type e i z ht hi hz ⟨g, 0, none⟩ n cap xs hown.1 (hown.cells (g := g) rfl) ad 1 c news hl hnews (by omega) (by omega) (growslice_fits (by omega) hbytes)
        rw [hr2] at hr
        injection hr with e1 e2
        right; rw [← e1]; rfl
  refine does_new_t (v := v') (w' := w') ?_ (hR v' w' h2 h3 hb)
  unfold execOp
  simp only [ho, resolve, invoke, builtin, Sem.run_bind, Sem.run_pure, Result.andThen_ok, List.map_toArray, List.map_cons, List.map_nil, hs, hx, hr]
theorem row_kept {w w' : World} {g B n size : Nat} {cs : Array Value} {t e : TypeId} {v : Value} {xs : List Value} (h : w.heap[g]? = some (.cells cs t (0, 0))) (ho : w.ownsRow B e size v n xs) (hne : e ≠ t) (hg : w.grownBy w' v.ownBlock) : w'.heap[g]? = some (.cells cs t (0, 0)) := by
  refine (hg.block g (Array.getElem?_eq_some_iff.1 h).1 ?_).trans h
  intro he
  rcases ho.2 with ⟨rfl, _⟩ | ⟨g1, cap1, cur1, rfl, _, hh1, _⟩
  · simp [Value.ownBlock] at he
  · have : g = g1 := by injection he
    subst this
    rw [h] at hh1
    injection hh1 with hh
    injection hh with _ h3 _
    exact hne h3.symm
theorem LineAt.keptNe {w w' : World} {g d : Nat} {l : List Int} {b : Option Nat} (h : LineAt w g d l) (hne : b ≠ some g) (hg : w.grownBy w' b) : LineAt w' g d l := by
  have hl := h.lt
  obtain ⟨h0, cur, h1, h2⟩ := h
  exact ⟨h0, cur, (hg.block g hl (fun e => hne e.symm)).trans h1, h2⟩
def OneS (w : World) (g : Nat) (v : Value) : Prop := w.heap[g]? = some (.cells #[v] 24 (0, 0))
theorem OneS.below {w w' : World} {g : Nat} {v : Value} (h : OneS w g v) (hb : Below w.heap.size w w') : OneS w' g v := (hb.block g (Array.getElem?_eq_some_iff.1 h).1).trans h
theorem OneS.new (w : World) (v : Value) : OneS (w.alloc (.cells #[v] 24)) w.heap.size v := heap_alloc_new w _
theorem OneS.cells {w : World} {g : Nat} {v : Value} (h : OneS w g v) : ∀ j u, [v][j]? = some u → w.cell? ((⟨g, 0, none⟩ : Addr).add j) = some u := fun j u hu => by
  rw [wk.add_at, Nat.zero_add, cell_of_row _ _ _ _ _ _ h]
  simpa using hu
theorem infoIz : (Tryd.prog.info? 3).map (fun i => (i.zero, i.size, i.bytes)) = some (some (.int .i64 0), 1, 8) := by kernel_rfl
/-- an own row of integers is a line -/
theorem lineAt_own {w : World} {B n : Nat} {v : Value} {l : List Int} (h : w.ownsRow B 3 1 v n (iv l)) (hn : 1 ≤ n) : ∃ g c, v = .slice (some ⟨g, 0, none⟩) n c ∧ B ≤ g ∧ n ≤ c ∧ c ≤ 9223372036854775807 ∧ LineAt w g n l := by
  obtain ⟨g, cap, cur, rfl, hBg, hrow, hcap, hcap2, htk, hsz⟩ := own_row h hn
  exact ⟨g, cap, rfl, hBg, hcap, by unfold maxLen at hcap2; omega, by have := h.1; simpa [iv] using this, cur, hrow, htk⟩
def gsc (gs : List (Nat × Nat)) (d : Nat) : List Value := gs.map fun g => .slice (some ⟨g.1, 0, none⟩) d g.2
theorem isVV_of_ownc {w : World} {B n d : Nat} {v : Value} {gs : List (Nat × Nat)} {L : List (List Int)} (h : w.ownsRow B 24 1 v n (gsc gs d)) (hl : gs.length = L.length) (hL : ∀ (i : Nat) (g : Nat × Nat) (l : List Int), gs[i]? = some g → L[i]? = some l → LineAt w g.1 d l ∧ d ≤ g.2 ∧ g.2 ≤ 9223372036854775807) (hb : ∀ l ∈ L, ∀ x ∈ l, -9223372036854775808 ≤ x ∧ x ≤ 9223372036854775807) : ∃ A c, v = .slice A n c ∧ IsVV w A n c L := by
  have hn : gs.length = n := by have := h.1; simpa [gsc] using this
  rcases h.2 with ⟨hv, hn0⟩ | ⟨g, cap, cur, hv, hb2, hh, h3, h4, h5, h6⟩
  · subst hv
    exact ⟨none, 0, by rw [hn0], by omega, by omega, by omega, fun k l hk => by have := (List.getElem?_eq_some_iff.1 hk).1; omega⟩
  · subst hv
    refine ⟨_, _, rfl, by omega, h3, by unfold maxLen at h4; omega, fun k l hk => ?_⟩
    have hkl := (List.getElem?_eq_some_iff.1 hk).1
    have hg : gs[k]? = some (gs[k]'(by omega)) := List.getElem?_eq_getElem _
    have hc := h.cells rfl k (.slice (some ⟨(gs[k]'(by omega)).1, 0, none⟩) d (gs[k]'(by omega)).2) (by simp [gsc, hg])
    rw [wk.add_at] at hc
    obtain ⟨h7, h8, h9⟩ := hL k _ l hg hk
    exact ⟨g, 0, _, d, _, rfl, (Array.getElem?_eq_some_iff.1 hh).1, hc, h7.1, h8, h9, h7.rc, hb l (List.mem_of_getElem? hk)⟩
end Go.Proofs.YtjhagfggelhpkaaDoor.jk
