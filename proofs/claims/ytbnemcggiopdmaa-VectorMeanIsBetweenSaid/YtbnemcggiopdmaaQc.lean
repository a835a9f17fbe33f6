/- Valid, Alike, common, Dot, Sub: the program's. -/
import Derived.Test.YtbnemcggiopdmaaQb

import Derived.Test.YtbnemcggiopdmaaOpen

namespace Go.Proofs.Ytbnemcggiopdmaa.vk

open Go.ChangeShapes Go.WideShapes Go.ChangeAt Go.RowKit

set_option linter.unusedVariables false
theorem isI_below {w w' : World} {A : Option Addr} {n c : Nat} {l : List Int} (h : wo.IsI w A n c l) (hb : Below w.heap.size w w') : wo.IsI w' A n c l := ⟨h.1, h.2.1, h.2.2.1, h.2.2.2.1.below hb, h.2.2.2.2⟩
theorem isI_at {w : World} {A : Option Addr} {n c k : Nat} {l : List Int} (h : wo.IsI w A n c l) (hk : k < n) : ∃ b o x, A = some ⟨b, o, none⟩ ∧ w.cell? ⟨b, o + k, none⟩ = some (.int .i64 x) ∧ l[k]? = some x ∧ -9223372036854775808 ≤ x ∧ x ≤ 9223372036854775807 := by
  have hl : k < l.length := by have := h.1; omega
  have hx : l[k]? = some l[k] := List.getElem?_eq_getElem hl
  obtain ⟨b, o, hA, hc⟩ := wi.RC_at h.2.2.2.1 (k := k) (u := .int .i64 l[k]) (by simp [hx])
  exact ⟨b, o, l[k], hA, hc, hx, h.2.2.2.2 _ (List.getElem_mem hl)⟩
/-- a boxed variable -/
def Box (w : World) (g : Nat) (v : Value) : Prop := ∃ t, w.heap[g]? = some (.cells #[v] t (0, 0))
theorem Box.lt {w : World} {g : Nat} {v : Value} (h : Box w g v) : g < w.heap.size := by
  obtain ⟨t, h⟩ := h
  rcases Nat.lt_or_ge g w.heap.size with h' | h'
  · exact h'
  · rw [Array.getElem?_eq_none h'] at h; cases h
theorem Box.below {w w' : World} {g : Nat} {v : Value} (h : Box w g v) (hb : Below w.heap.size w w') : Box w' g v := by
  have hl := h.lt
  obtain ⟨t, h⟩ := h
  exact ⟨t, by rw [hb.block g hl]; exact h⟩
theorem Box.cell {w : World} {g : Nat} {v : Value} (h : Box w g v) : w.cell? ⟨g, 0, none⟩ = some v := by
  obtain ⟨t, h⟩ := h
  rw [cell_of_row _ _ _ _ _ _ h]; rfl
theorem Box.new (w : World) (v : Value) (t : TypeId) : Box (w.alloc (.cells #[v] t)) w.heap.size v := ⟨t, heap_alloc_new w _⟩
theorem below_new (w : World) (o : Obj) : Below w.heap.size w (w.alloc o) := (Below.refl _ w).alloc (Nat.le_refl _) _
theorem size_new (w : World) (o : Obj) : (w.alloc o).heap.size = w.heap.size + 1 := Array.size_push ..
theorem Below.andThen {w w1 w2 : World} (h : Below w.heap.size w w1) (h' : Below w1.heap.size w1 w2) : Below w.heap.size w w2 := h.trans (h'.mono h.size)
set_option maxRecDepth 100000 in
theorem common_calls (A A' : Option Addr) (n n' c c' : Nat) (w : World) (hn : n ≤ 9223372036854775807) (hn' : n' ≤ 9223372036854775807) :
    Calls Try.prog 41 #[.slice A n c, .slice A' n' c'] w fun e w' => e = .returned (.int .i64 (min n n' : Nat)) ∧ w' = w := by
  go_enter Try.func41, Try.ntmps41
  go_wp2_with fail
  all_goals
    go_ret
    exact ⟨wp.ret_i64 (by omega), rfl⟩
set_option maxRecDepth 100000 in
theorem valid1_calls (g : Nat) (A : Option Addr) (n c k : Nat) (l : List Int) (b : Bool) (w : World) (h : wo.IsI w A n c l) (hb : Box w g (.slice A n c)) (hk : k < n) :
    Calls Try.prog 37 #[.bool b, .int .i64 k, .pointer (some ⟨g, 0, none⟩)] w fun e w' => e = .returned (.bool (b && (l[k]?.map vq.okc).getD false)) ∧ w' = w := by
  obtain ⟨bl, o, x, rfl, hc, hx, h1, h2⟩ := isI_at h hk
  rw [hx]
  have hcb := hb.cell
  have hn := h.2.1
  have hm := h.2.2.1
  clear h hb hx
  cases b
  · go_enter Try.func37, Try.ntmps37
    go_wp2_with fail
    go_ret
    exact ⟨rfl, rfl⟩
  · by_cases h3 : -1000 ≤ x
    · by_cases h4 : x ≤ 1000
      all_goals
        go_enter Try.func37, Try.ntmps37
        go_wp2_with fail
        go_ret
        refine ⟨?_, rfl⟩
        congr 2
        simp [vq.okc]; omega
    · go_enter Try.func37, Try.ntmps37
      go_wp2_with fail
      go_ret
      refine ⟨?_, rfl⟩
      congr 2
      simp [vq.okc]; omega
theorem all_snoc {l : List Int} {k : Nat} {x : Int} (h : l[k]? = some x) : (l.take (k + 1)).all vq.okc = ((l.take k).all vq.okc && vq.okc x) := by
  rw [vq.take_snoc h, List.all_append]; simp
set_option maxRecDepth 100000 in
theorem valid_calls (A : Option Addr) (n c : Nat) (l : List Int) (w : World) (h : wo.IsI w A n c l) :
    Calls Try.prog 12 #[.slice A n c] w fun e w' => e = .returned (.bool (vq.valid l)) ∧ Below w.heap.size w w' := by
  have hl := h.1
  by_cases h1 : 1 ≤ n
  · by_cases h2 : n ≤ 32
    · have hB := below_new w (.cells #[.slice A n c] 22)
      have hbx := Box.new w (.slice A n c) 22
      have hI := isI_below h hB
      have HF := Lib.hid (fold_bool 37 #[.pointer (some ⟨w.heap.size, 0, none⟩)] (fun _ _ => by kernel_rfl) n (by omega) (fun k v w' => v = .bool ((l.take k).all vq.okc) ∧ w' = w.alloc (.cells #[.slice A n c] 22)) (w.alloc (.cells #[.slice A n c] 22)) (.bool true)
        (fun k v w' hk ⟨hv, hw⟩ => by
          subst hv hw
          refine (valid1_calls w.heap.size A n c k l _ _ hI hbx hk).mono ?_
          rintro e w' ⟨rfl, rfl⟩
          have hx : l[k]? = some l[k] := List.getElem?_eq_getElem (by omega)
          exact ⟨_, rfl, by rw [all_snoc hx, hx]; rfl, rfl⟩) ⟨by simp, rfl⟩)
      have hE : vq.valid l = (l.take n).all vq.okc := by
        rw [List.take_of_length_le (by omega)]
        simp only [vq.valid, hl, decide_eq_true h1, decide_eq_true h2, Bool.true_and]
      rw [hE]
      have hcb := hbx.cell
      clear hI hbx h hl hE
      have HB := Lib.hid hB
      clear hB
      go_enter Try.func12, Try.ntmps12
      go_wp2_with fail
      refine HF.out.mono ?_
      rintro e w' ⟨v, rfl, rfl, rfl⟩
      go_wp2_with fail
      go_ret
      exact ⟨rfl, HB.out⟩
    · have hE : vq.valid l = false := by simp [vq.valid, hl, h2]
      rw [hE]
      have HB := Lib.hid (below_new w (.cells #[.slice A n c] 22))
      go_enter Try.func12, Try.ntmps12
      go_wp2_with fail
      go_ret
      exact ⟨rfl, HB.out⟩
  · have hE : vq.valid l = false := by simp [vq.valid, hl, h1]
    rw [hE]
    have HB := Lib.hid (below_new w (.cells #[.slice A n c] 22))
    go_enter Try.func12, Try.ntmps12
    go_wp2_with fail
    go_ret
    exact ⟨rfl, HB.out⟩
end Go.Proofs.Ytbnemcggiopdmaa.vk
