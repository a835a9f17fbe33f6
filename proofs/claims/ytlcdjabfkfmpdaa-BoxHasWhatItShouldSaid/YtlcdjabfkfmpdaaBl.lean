/- clone, Cut. -/
import Derived.Test.YtlcdjabfkfmpdaaBf

import Derived.Deep.RegionWith

import Derived.Lib.SliceRun

namespace Go.Proofs.Ytlcdjabfkfmpdaa.bk

open Go.ChangeShapes Go.WideShapes Go.ChangeAt Go.RowKit

open Go.Proofs.Ytlcdjabfkfmpdaa.bq Go.Proofs.Ytlcdjabfkfmpdaa.vk Go.Proofs.Ytlcdjabfkfmpdaa.wk

set_option linter.unusedVariables false
def Owns (w : World) (g n c : Nat) (l : List Int) : Prop := w.ownsRow g 3 1 (.slice (some ⟨g, 0, none⟩) n c) n (iv l)
theorem Owns.lt {w : World} {g n c : Nat} {l : List Int} (h : Owns w g n c l) : g < w.heap.size := (World.ownsRow.lt h g rfl).2
theorem Owns.below {w w' : World} {g n c : Nat} {l : List Int} (h : Owns w g n c l) (hb : Below w.heap.size w w') : Owns w' g n c l :=
  World.ownsRow.kept h (grown_of hb) (.inr (by simp [Value.ownBlock]))
theorem Owns.at {w w' : World} {g n c : Nat} {l : List Int} (h : Owns w g n c l) (e : w'.heap[g]? = w.heap[g]?) : Owns w' g n c l := by
  refine ⟨h.1, ?_⟩
  rcases h.2 with ⟨q3, _⟩ | ⟨g', cap', cur, q3, q4, q5, q6⟩
  · cases q3
  · simp only [Value.slice.injEq, Option.some.injEq, Addr.mk.injEq, and_true, true_and] at q3
    obtain ⟨rfl, rfl⟩ := q3
    exact .inr ⟨g, c, cur, rfl, q4, e.trans q5, q6⟩
theorem Owns.set2 {w : World} {g n c k : Nat} {l : List Int} (h : Owns w g n c l) (hk : g ≠ k) (x y : Value) : Owns ((w.setCell ⟨k, 0, none⟩ x).setCell ⟨k, 1, none⟩ y) g n c l := h.at (set2_other w k x y g hk)
set_option maxRecDepth 100000 in
theorem sclone_calls (A : Option Addr) (n c : Nat) (l : List Int) (w : World) (h : wo.IsI w A n c l) (h1 : 1 ≤ n) (hn : n ≤ 1000) :
    Calls Try.prog 60 #[.slice A n c] w fun e w' => ∃ g c', e = .returned (.slice (some ⟨g, 0, none⟩) n c') ∧ Owns w' g n c' l ∧ w.heap.size ≤ g ∧ Below w.heap.size w w' := by
  obtain ⟨i0, hi, hz0, hz1, hz2⟩ := info_parts wi.infoI
  have hl := h.1
  have hm := h.2.2.1
  have hnc := h.2.1
  obtain ⟨b, o, rfl, hb, hcell⟩ := h.2.2.2.1 (by simp; omega)
  have HC : Hid (∀ j u, (iv l)[j]? = some u → (w.alloc (.cells #[] 3)).cell? ((⟨b, o, none⟩ : Addr).add j) = some u) := fun j u hu => by
    rw [wk.add_at, (below_new w (.cells #[] 3)).cell (p := ⟨b, o + j, none⟩) hb]
    exact hcell j u hu
  have HO : Hid ((w.alloc (.cells #[] 3)).ownsRow w.heap.size 3 1 (.slice (some ⟨w.heap.size, 0, none⟩) 0 0) 0 []) := World.ownsRow_lit (base := w.heap.size) w #[] 0 (Nat.le_refl _) (by unfold maxLen; omega) rfl
  have hnil := fun w' => Go.Lib.run_eql_slice_nil (P := Try.prog) w' 23 3 (some ⟨b, o, none⟩) n c 0 0 Try.underlying23
  clear h hcell
  go_enter Try.func60, Try.ntmps60
  go_wp2_with (at_builtin; refine wpList_append_own _ rfl _ _ 23 rfl w.heap.size 3 i0 (.int .i64 0) 1 8 Try.underlying23 hi hz0 hz1 hz2 rfl (by decide) _ _ _ rfl HO.out ⟨b, o, none⟩ n c (iv l) rfl ?c0 HC.out ?c2 ?c3 ?c4 ?c5 ?_)
  case c0 => simp [iv, hl]
  case c2 => intro u hu; simp [iv] at hu; obtain ⟨y, _, rfl⟩ := hu; rfl
  case c3 => unfold maxLen; omega
  case c4 => omega
  case c5 => rw [size_new]; omega
  intro v' w2 hown' hgrow _
  have hB : Below w.heap.size w w2 := (below_new w (.cells #[] 3)).grown hgrow (by rw [size_new]; omega) (fun g hg => (HO.out.lt g hg).1)
  have HB := Lib.hid hB
  obtain ⟨k, rfl⟩ : ∃ k, n = k + 1 := ⟨n - 1, by omega⟩
  obtain ⟨g, cap, rfl⟩ := ownsRow_succ hown'
  have hge := (World.ownsRow.lt hown' g rfl).1
  have HOW : Hid (Owns w2 g (k + 1) cap l) := by
    obtain ⟨q1, q2⟩ := hown'
    refine ⟨q1, ?_⟩
    rcases q2 with ⟨q3, _⟩ | ⟨g', cap', cur, q3, q4, q5⟩
    · cases q3
    · simp only [Value.slice.injEq, Option.some.injEq, Addr.mk.injEq, and_true, true_and] at q3
      obtain ⟨rfl, rfl⟩ := q3
      exact .inr ⟨g, cap, cur, rfl, Nat.le_refl _, q5⟩
  clear hB hown' hgrow
  go_wp2_with fail
  go_ret
  exact ⟨g, cap, rfl, HOW.out, hge, HB.out⟩
set_option maxRecDepth 100000 in
set_option maxHeartbeats 4000000 in
theorem clone_calls (v : Value) (p : Pair) (w : World) (h : IsX w v p) (hlen : p.1.length = p.2.length) (h1 : 1 ≤ p.1.length) (hn : p.1.length ≤ 1000) :
    Calls Try.prog 54 #[v] w fun e w' => ∃ g c g' c', e = .returned (.agg #[.slice (some ⟨g, 0, none⟩) p.1.length c, .slice (some ⟨g', 0, none⟩) p.1.length c']) ∧ Owns w' g p.1.length c p.1 ∧ Owns w' g' p.1.length c' p.2 ∧ w.heap.size ≤ g ∧ g < g' ∧ Below w.heap.size w w' := by
  obtain ⟨A, n, c, A', n', c', rfl, hi, hi'⟩ := h
  have hl := hi.1
  have hl' := hi'.1
  rw [hl]
  obtain rfl : n' = n := by omega
  have hb0 := Below.andThen (below_new w (.cells #[.slice A n' c, .slice A' n' c'] 25)) (below_new _ (.cells #[.slice none 0 0, .slice none 0 0] 25))
  have hb00 := hb0.trans ((Below.refl _ ((w.alloc (.cells #[.slice A n' c, .slice A' n' c'] 25)).alloc (.cells #[.slice none 0 0, .slice none 0 0] 25))).drew.mono hb0.size)
  have hs : ((w.alloc (.cells #[.slice A n' c, .slice A' n' c'] 25)).alloc (.cells #[.slice none 0 0, .slice none 0 0] 25)).drew.heap.size = w.heap.size + 2 := by show (_ : Nat) = _; exact (size_new _ _).trans (by rw [size_new])
  have hT1 := (TwoX.new w (.slice A n' c) (.slice A' n' c')).below (below_new _ (.cells #[.slice none 0 0, .slice none 0 0] 25))
  have hT2 := TwoX.new (w.alloc (.cells #[.slice A n' c, .slice A' n' c'] 25)) (.slice none 0 0) (.slice none 0 0)
  rw [size_new] at hT2
  have HC : Hid (Calls Try.prog 60 #[.slice A n' c] ((w.alloc (.cells #[.slice A n' c, .slice A' n' c'] 25)).alloc (.cells #[.slice none 0 0, .slice none 0 0] 25)).drew fun e w2 => ∃ g c2, e = .returned (.slice (some ⟨g, 0, none⟩) n' c2) ∧ w2.cell? ⟨w.heap.size, 0, none⟩ = some (.slice A n' c) ∧ w2.cell? ⟨w.heap.size, 1, none⟩ = some (.slice A' n' c') ∧
      Hid (Calls Try.prog 60 #[.slice A' n' c'] w2 fun e w3 => ∃ g' c3, e = .returned (.slice (some ⟨g', 0, none⟩) n' c3) ∧ w3.cell? ⟨w.heap.size + 1, 0, none⟩ = some (.slice none 0 0) ∧ w3.cell? ⟨w.heap.size + 1, 1, none⟩ = some (.slice none 0 0) ∧ w3.frozen? ⟨w.heap.size + 1, 0, none⟩ = false ∧ w3.frozen? ⟨w.heap.size + 1, 1, none⟩ = false ∧
        Hid (Owns w3 g n' c2 p.1 ∧ Owns w3 g' n' c3 p.2 ∧ w.heap.size + 2 ≤ g ∧ g < g' ∧ Below w.heap.size w w3 ∧ TwoX w3 (w.heap.size + 1) (.slice none 0 0) (.slice none 0 0)))) := by
    refine (sclone_calls A n' c p.1 _ (isI_below hi hb00) (by omega) (by omega)).mono ?_
    rintro e w2 ⟨g, c2, rfl, hO, hg, hb⟩
    have hT1' : TwoX w2 w.heap.size (.slice A n' c) (.slice A' n' c') := TwoX.below (w := ((w.alloc (.cells #[.slice A n' c, .slice A' n' c'] 25)).alloc (.cells #[.slice none 0 0, .slice none 0 0] 25)).drew) hT1 hb
    have hT2' : TwoX w2 (w.heap.size + 1) (.slice none 0 0) (.slice none 0 0) := TwoX.below (w := ((w.alloc (.cells #[.slice A n' c, .slice A' n' c'] 25)).alloc (.cells #[.slice none 0 0, .slice none 0 0] 25)).drew) hT2 hb
    refine ⟨g, c2, rfl, hT1'.two.c0, hT1'.two.c1, ?_⟩
    refine (sclone_calls A' n' c' p.2 w2 (isI_below hi' (hb00.trans (hb.mono hb00.size))) (by omega) (by omega)).mono ?_
    rintro e w3 ⟨g', c3, rfl, hO', hg', hb'⟩
    have hT3 := hT2'.below hb'
    exact ⟨g', c3, rfl, hT3.two.c0, hT3.two.c1, hT3.f0 0, hT3.f0 1, hO.below hb', hO', by omega, by have := hO.lt; omega, (hb00.trans (hb.mono hb00.size)).trans (hb'.mono (Nat.le_trans hb00.size hb.size)), hT3⟩
  clear hT1 hT2 hs
  have hn2 : 1 ≤ n' := by omega
  clear hi hi' hb0 hb00 hl hl' hlen h1 hn
  go_enter Try.func54, Try.ntmps54
  go_wp2_with fail
  go_region_with (first | (refine HC.out.mono ?_; rintro e w2 ⟨g, c2, rfl, hcA, hcB, hC2⟩) | (refine hC2.out.mono ?_; rintro e w3 ⟨g', c3, rfl, hcC, hcD, hfC, hfD, hO'⟩))
  all_goals
    go_wp2_with fail
    obtain ⟨hO1, hO2, hg1, hg2, hB, hT⟩ := hO'.out
    exact bodyPost_ret (results_cell_row (fn := Try.f54) rfl _ _ (w.heap.size + 1) 25 #[.slice (some ⟨g, 0, none⟩) n' c2, .slice (some ⟨g', 0, none⟩) n' c3] (0, 0) _ rfl (hT.set _ _) Try.underlying25 rfl (by kernel_rfl)) rfl
      ⟨g, c2, g', c3, rfl, hO1.set2 (by omega) _ _, hO2.set2 (by omega) _ _, by omega, hg2, below_set2 hB (by omega) _ _⟩
end Go.Proofs.Ytlcdjabfkfmpdaa.bk
