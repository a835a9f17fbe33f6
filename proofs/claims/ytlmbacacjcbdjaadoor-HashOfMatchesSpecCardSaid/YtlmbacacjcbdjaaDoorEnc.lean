
import Derived.Test.YtlmbacacjcbdjaaDoorInt

namespace Go.Proofs.YtlmbacacjcbdjaaDoor.wi

open Go.ChangeShapes Go.WideShapes Go.ChangeAt Go.RowKit

set_option maxRecDepth 100000 in
theorem appendBytes_own (base k : Nat) (v : Value) (xs : List Value) (s : ByteArray) (w : World)
    (hown : w.ownsRow base 5 1 v k xs) (hb : base ≤ w.heap.size) (hk : k + 10 + s.size ≤ 140737488355328) :
    Calls Tryd.prog 89 #[v, .string s] w fun e w' => ∃ v', e = .returned v' ∧ w'.ownsRow base 5 1 v' (k + (wp.encB s.data.toList).length) (xs ++ wp.bc (wp.encB s.data.toList)) ∧ Below base w w' := by
  obtain ⟨i0, hi, hz0, hz1, hz2⟩ := info_parts info5
  have hs1 : (s.size : Int) ≤ 9223372036854775807 := by omega
  have hlen := wp.encI_length (n := (s.size : Int)) (by omega) hs1
  have HE : Hid (wp.encB s.data.toList = wp.encI (s.size : Int) ++ s.data.toList) := wp.encB_eq s
  go_enter Tryd.func89, Tryd.ntmps89
  go_wp2_with fail
  refine (appendInt_own base k v xs (s.size : Int) _ (by omega) hs1 hown hb (by omega)).mono ?_
  rintro e w1 ⟨v1, rfl, hown1, hbel1⟩
  generalize wp.encI (s.size : Int) = t at *
  go_wp2_with (at_builtin; refine Lib.wpList_append_own_string _ rfl _ _ 77 9 rfl base 5 i0 Tryd.underlying77 Tryd.underlying9 hi hz0 hz1 hz2 _ _ _ rfl hown1 s rfl ?c1 ?c2 ?c3 ?_)
  case c1 => unfold maxLen; omega
  case c2 => omega
  case c3 => have := hbel1.size; omega
  intro v2 w2 hown2 hgrow _
  go_wp2
  go_ret
  refine ⟨v2, rfl, ?_, hbel1.grown hgrow (by have := hbel1.size; omega) (fun g hg => (hown1.lt g hg).1)⟩
  rw [HE.out, wp.bc_append, List.length_append, ← Nat.add_assoc, ← List.append_assoc]
  have hz : s.data.toList.length = s.size := by rw [Array.length_toList]; rfl
  rw [hz, List.append_assoc]
  exact hown2

/-- a fresh row of bytes is handed back -/
def OutB (l : List UInt8) (w : World) (e : Ending) (w' : World) : Prop :=
  ∃ v, e = .returned v ∧ w'.ownsRow w.heap.size 5 1 v l.length (wp.bc l) ∧ Below w.heap.size w w'

theorem bytes_out (s : ByteArray) (w : World) (hs : s.size ≤ 140737488355318) :
    Calls Tryd.prog 75 #[.string s] w (OutB (wp.encB s.data.toList) w) := by
  go_enter Tryd.func75, Tryd.ntmps75
  go_wp2_with fail
  refine (appendBytes_own w.heap.size 0 _ [] s w (World.ownsRow_nil _ _ _ _) (Nat.le_refl _) (by omega)).mono ?_
  rintro e w1 ⟨v1, rfl, hown1, hbel1⟩
  go_wp2
  go_ret
  exact ⟨v1, rfl, by simpa using hown1, hbel1⟩

end Go.Proofs.YtlmbacacjcbdjaaDoor.wi
