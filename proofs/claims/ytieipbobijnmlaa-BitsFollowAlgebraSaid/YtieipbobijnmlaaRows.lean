/-
  No cell of these rows narrows 'for every input' (looked for: loops, veiled, ifaces, maps, wideKeys, modest, calm, conditions, laid).
  DERIVED. THE GIVEN ROWS OF THIS SEAT. 7 by the template 'for every input the law returns true; each argument reads behind the call as it read before'; 0 by the template 'total and deterministic' (their statements: YtieipbobijnmlaaTotals.lean).
  GIVEN WITH THE SEED: the statements are not yours to turn. If you find one false, say at which input.
  Laid BY PROGRAM, IN A SANDBOX (cutbox-rows.mjs): the forced cells as the released guide's own fill.sh prints them over the translation 2cf00571f4c9c4c3… (all of the seat's roots in one cut). By AI agents, Wed Nov 11 2026. No macro, syntax, notation, axiom, sorry.
-/
import Derived.Test.YtieipbobijnmlaaChecked
import GoSem.Claim
import GoSem.ClaimJoined
import GoSem.ClaimMapViews
import Derived.JoinedTies
import Derived.KernelRfl
namespace Go.Proofs.Ytieipbobijnmlaa
/- THE CELL 'sum', in the pinned program and in every row, IS THE sha256 OF THE DUMP (.gsa) THAT YtieipbobijnmlaaProg.lean LOADS. Nothing in Lean hashes anything: it is a label: what it is worth is what the hold of that sum in a sandbox is worth. -/
noncomputable def Try.pinned : Pinned := { name := "ytieipbobijnmlaa", sum := "2cf00571f4c9c4c3b772d648f598f8d8ae46a491b7b53abd2a915bf0f4d3f161", checked := Try.checked }
namespace Rows
def none {H : Type} : Left H := { results := [], args := [] }

/-- 'antiquarylaw11.BitsAreMadeAsSpecified': WHATEVER THE INPUT: true; the input reads as it did. -/
def bitsAreMadeAsSpecifiedSpec : ChangeSpec := { name := "bitsAreMadeAsSpecified", fn := fun _ => fun
  | [d1, d2, d3, d4] => { results := [.lit (.bool true)], args := [d1, d2, d3, d4] }
  | _ => none }
def bitsAreMadeAsSpecifiedRow : OpenClaim := { program := "ytieipbobijnmlaa", sum := "2cf00571f4c9c4c3b772d648f598f8d8ae46a491b7b53abd2a915bf0f4d3f161", func := "antiquary/antiquarylaw11.BitsAreMadeAsSpecified", spec := "bitsAreMadeAsSpecified", unfollowed := true, recurses := true, apart := false }
def BitsAreMadeAsSpecifiedSaid : Prop := bitsAreMadeAsSpecifiedRow.holds Try.pinned (OpenSpec.ofChange bitsAreMadeAsSpecifiedSpec)

/-- ITS FALSE NEIGHBOUR: 'it returns false'. Refute it at one input. -/
def bitsAreMadeAsSpecifiedWrong : ChangeSpec := { name := "bitsAreMadeAsSpecified", fn := fun _ => fun
  | [d1, d2, d3, d4] => { results := [.lit (.bool false)], args := [d1, d2, d3, d4] }
  | _ => none }
def BitsAreMadeAsSpecifiedWrongFalsely : Prop := bitsAreMadeAsSpecifiedRow.holds Try.pinned (OpenSpec.ofChange bitsAreMadeAsSpecifiedWrong)

/-- 'antiquarylaw11.BitsCountAsSpecified': WHATEVER THE INPUT: true; the input reads as it did. -/
def bitsCountAsSpecifiedSpec : ChangeSpec := { name := "bitsCountAsSpecified", fn := fun _ => fun
  | [d1, d2, d3] => { results := [.lit (.bool true)], args := [d1, d2, d3] }
  | _ => none }
def bitsCountAsSpecifiedRow : OpenClaim := { program := "ytieipbobijnmlaa", sum := "2cf00571f4c9c4c3b772d648f598f8d8ae46a491b7b53abd2a915bf0f4d3f161", func := "antiquary/antiquarylaw11.BitsCountAsSpecified", spec := "bitsCountAsSpecified", unfollowed := true, recurses := true, apart := false }
def BitsCountAsSpecifiedSaid : Prop := bitsCountAsSpecifiedRow.holds Try.pinned (OpenSpec.ofChange bitsCountAsSpecifiedSpec)

/-- ITS FALSE NEIGHBOUR: 'it returns false'. Refute it at one input. -/
def bitsCountAsSpecifiedWrong : ChangeSpec := { name := "bitsCountAsSpecified", fn := fun _ => fun
  | [d1, d2, d3] => { results := [.lit (.bool false)], args := [d1, d2, d3] }
  | _ => none }
def BitsCountAsSpecifiedWrongFalsely : Prop := bitsCountAsSpecifiedRow.holds Try.pinned (OpenSpec.ofChange bitsCountAsSpecifiedWrong)

/-- 'antiquarylaw11.BitsMeetAsSpecified': WHATEVER THE INPUT: true; the input reads as it did. -/
def bitsMeetAsSpecifiedSpec : ChangeSpec := { name := "bitsMeetAsSpecified", fn := fun _ => fun
  | [d1, d2] => { results := [.lit (.bool true)], args := [d1, d2] }
  | _ => none }
def bitsMeetAsSpecifiedRow : OpenClaim := { program := "ytieipbobijnmlaa", sum := "2cf00571f4c9c4c3b772d648f598f8d8ae46a491b7b53abd2a915bf0f4d3f161", func := "antiquary/antiquarylaw11.BitsMeetAsSpecified", spec := "bitsMeetAsSpecified", unfollowed := true, recurses := true, apart := false }
def BitsMeetAsSpecifiedSaid : Prop := bitsMeetAsSpecifiedRow.holds Try.pinned (OpenSpec.ofChange bitsMeetAsSpecifiedSpec)

/-- ITS FALSE NEIGHBOUR: 'it returns false'. Refute it at one input. -/
def bitsMeetAsSpecifiedWrong : ChangeSpec := { name := "bitsMeetAsSpecified", fn := fun _ => fun
  | [d1, d2] => { results := [.lit (.bool false)], args := [d1, d2] }
  | _ => none }
def BitsMeetAsSpecifiedWrongFalsely : Prop := bitsMeetAsSpecifiedRow.holds Try.pinned (OpenSpec.ofChange bitsMeetAsSpecifiedWrong)

/-- 'antiquarylaw11.BitsReadAsSpecified': WHATEVER THE INPUT: true; the input reads as it did. -/
def bitsReadAsSpecifiedSpec : ChangeSpec := { name := "bitsReadAsSpecified", fn := fun _ => fun
  | [d1, d2] => { results := [.lit (.bool true)], args := [d1, d2] }
  | _ => none }
def bitsReadAsSpecifiedRow : OpenClaim := { program := "ytieipbobijnmlaa", sum := "2cf00571f4c9c4c3b772d648f598f8d8ae46a491b7b53abd2a915bf0f4d3f161", func := "antiquary/antiquarylaw11.BitsReadAsSpecified", spec := "bitsReadAsSpecified", unfollowed := true, recurses := true, apart := false }
def BitsReadAsSpecifiedSaid : Prop := bitsReadAsSpecifiedRow.holds Try.pinned (OpenSpec.ofChange bitsReadAsSpecifiedSpec)

/-- ITS FALSE NEIGHBOUR: 'it returns false'. Refute it at one input. -/
def bitsReadAsSpecifiedWrong : ChangeSpec := { name := "bitsReadAsSpecified", fn := fun _ => fun
  | [d1, d2] => { results := [.lit (.bool false)], args := [d1, d2] }
  | _ => none }
def BitsReadAsSpecifiedWrongFalsely : Prop := bitsReadAsSpecifiedRow.holds Try.pinned (OpenSpec.ofChange bitsReadAsSpecifiedWrong)

/-- 'antiquarylaw11.BitsFollowLogic': WHATEVER THE INPUT: true; the input reads as it did. -/
def bitsFollowLogicSpec : ChangeSpec := { name := "bitsFollowLogic", fn := fun _ => fun
  | [d1, d2, d3] => { results := [.lit (.bool true)], args := [d1, d2, d3] }
  | _ => none }
def bitsFollowLogicRow : OpenClaim := { program := "ytieipbobijnmlaa", sum := "2cf00571f4c9c4c3b772d648f598f8d8ae46a491b7b53abd2a915bf0f4d3f161", func := "antiquary/antiquarylaw11.BitsFollowLogic", spec := "bitsFollowLogic", unfollowed := true, recurses := true, apart := false }
def BitsFollowLogicSaid : Prop := bitsFollowLogicRow.holds Try.pinned (OpenSpec.ofChange bitsFollowLogicSpec)

/-- ITS FALSE NEIGHBOUR: 'it returns false'. Refute it at one input. -/
def bitsFollowLogicWrong : ChangeSpec := { name := "bitsFollowLogic", fn := fun _ => fun
  | [d1, d2, d3] => { results := [.lit (.bool false)], args := [d1, d2, d3] }
  | _ => none }
def BitsFollowLogicWrongFalsely : Prop := bitsFollowLogicRow.holds Try.pinned (OpenSpec.ofChange bitsFollowLogicWrong)

/-- 'antiquarylaw11.BitsFollowAlgebra': WHATEVER THE INPUT: true; the input reads as it did. -/
def bitsFollowAlgebraSpec : ChangeSpec := { name := "bitsFollowAlgebra", fn := fun _ => fun
  | [d1, d2, d3] => { results := [.lit (.bool true)], args := [d1, d2, d3] }
  | _ => none }
def bitsFollowAlgebraRow : OpenClaim := { program := "ytieipbobijnmlaa", sum := "2cf00571f4c9c4c3b772d648f598f8d8ae46a491b7b53abd2a915bf0f4d3f161", func := "antiquary/antiquarylaw11.BitsFollowAlgebra", spec := "bitsFollowAlgebra", unfollowed := true, recurses := true, apart := false }
def BitsFollowAlgebraSaid : Prop := bitsFollowAlgebraRow.holds Try.pinned (OpenSpec.ofChange bitsFollowAlgebraSpec)

/-- ITS FALSE NEIGHBOUR: 'it returns false'. Refute it at one input. -/
def bitsFollowAlgebraWrong : ChangeSpec := { name := "bitsFollowAlgebra", fn := fun _ => fun
  | [d1, d2, d3] => { results := [.lit (.bool false)], args := [d1, d2, d3] }
  | _ => none }
def BitsFollowAlgebraWrongFalsely : Prop := bitsFollowAlgebraRow.holds Try.pinned (OpenSpec.ofChange bitsFollowAlgebraWrong)

/-- 'antiquarylaw11.BitsRankTheirSlots': WHATEVER THE INPUT: true; the input reads as it did. -/
def bitsRankTheirSlotsSpec : ChangeSpec := { name := "bitsRankTheirSlots", fn := fun _ => fun
  | [d1, d2, d3] => { results := [.lit (.bool true)], args := [d1, d2, d3] }
  | _ => none }
def bitsRankTheirSlotsRow : OpenClaim := { program := "ytieipbobijnmlaa", sum := "2cf00571f4c9c4c3b772d648f598f8d8ae46a491b7b53abd2a915bf0f4d3f161", func := "antiquary/antiquarylaw11.BitsRankTheirSlots", spec := "bitsRankTheirSlots", unfollowed := true, recurses := true, apart := false }
def BitsRankTheirSlotsSaid : Prop := bitsRankTheirSlotsRow.holds Try.pinned (OpenSpec.ofChange bitsRankTheirSlotsSpec)

/-- ITS FALSE NEIGHBOUR: 'it returns false'. Refute it at one input. -/
def bitsRankTheirSlotsWrong : ChangeSpec := { name := "bitsRankTheirSlots", fn := fun _ => fun
  | [d1, d2, d3] => { results := [.lit (.bool false)], args := [d1, d2, d3] }
  | _ => none }
def BitsRankTheirSlotsWrongFalsely : Prop := bitsRankTheirSlotsRow.holds Try.pinned (OpenSpec.ofChange bitsRankTheirSlotsWrong)

/- THE SECOND FORM. 'bulk': how many values and letters a reading holds, each counted each time it is reached (what is shared counts as often as it is met; a slice's spare places count too). A statement '..UptoSaid' is the law's where the arguments, and the package variables that the reading takes, are together of bulk at most 1048576: NARROWER than '..Said'. Prove '..Said' where nothing that the law and all that it calls make is longer than what came in: it says more and counts as full. Else prove '..UptoSaid'. A law counts once. -/
mutual
def uptoBulk {H : Type} : DataW H → Nat
  | .lit (.string bytes) => bytes.length + 1
  | .lit _ => 1
  | .nil => 1
  | .ptr d => uptoBulk d + 1
  | .slice elems spare => uptoBulkAll elems + uptoBulkAll spare + 1
  | .agg parts => uptoBulkAll parts + 1
  | .iface _ d => uptoBulk d + 1
  | .map entries => uptoBulkEntries entries + 1
  | .held _ => 1
def uptoBulkAll {H : Type} : List (DataW H) → Nat
  | [] => 0
  | d :: r => uptoBulk d + uptoBulkAll r
def uptoBulkEntries {H : Type} : List (Lit × DataW H) → Nat
  | [] => 0
  | x :: r => uptoBulkEntry x + uptoBulkEntries r
def uptoBulkEntry {H : Type} : Lit × DataW H → Nat
  | (.string bytes, d) => bytes.length + uptoBulk d + 1
  | (_, d) => uptoBulk d + 1
 end
def uptoSmall : (H : Type) → List (DataW H) → Bool := fun _ ds => decide (uptoBulkAll ds ≤ 1048576)
def OpenSpec.upto (s : _root_.Go.ChangeSpec) : _root_.Go.OpenSpec := { _root_.Go.OpenSpec.ofChange s with cond := some uptoSmall }

/-- 'antiquarylaw11.BitsAreMadeAsSpecified', WHERE WHAT IT READS IS OF BULK AT MOST 1048576: true; the input reads as it did. -/
def bitsAreMadeAsSpecifiedUptoRow : OpenClaim := { program := "ytieipbobijnmlaa", sum := "2cf00571f4c9c4c3b772d648f598f8d8ae46a491b7b53abd2a915bf0f4d3f161", func := "antiquary/antiquarylaw11.BitsAreMadeAsSpecified", spec := "bitsAreMadeAsSpecified", unfollowed := true, recurses := true, apart := false, narrowed := true }
def BitsAreMadeAsSpecifiedUptoSaid : Prop := bitsAreMadeAsSpecifiedUptoRow.holds Try.pinned (OpenSpec.upto bitsAreMadeAsSpecifiedSpec)

/-- 'antiquarylaw11.BitsCountAsSpecified', WHERE WHAT IT READS IS OF BULK AT MOST 1048576: true; the input reads as it did. -/
def bitsCountAsSpecifiedUptoRow : OpenClaim := { program := "ytieipbobijnmlaa", sum := "2cf00571f4c9c4c3b772d648f598f8d8ae46a491b7b53abd2a915bf0f4d3f161", func := "antiquary/antiquarylaw11.BitsCountAsSpecified", spec := "bitsCountAsSpecified", unfollowed := true, recurses := true, apart := false, narrowed := true }
def BitsCountAsSpecifiedUptoSaid : Prop := bitsCountAsSpecifiedUptoRow.holds Try.pinned (OpenSpec.upto bitsCountAsSpecifiedSpec)

/-- 'antiquarylaw11.BitsMeetAsSpecified', WHERE WHAT IT READS IS OF BULK AT MOST 1048576: true; the input reads as it did. -/
def bitsMeetAsSpecifiedUptoRow : OpenClaim := { program := "ytieipbobijnmlaa", sum := "2cf00571f4c9c4c3b772d648f598f8d8ae46a491b7b53abd2a915bf0f4d3f161", func := "antiquary/antiquarylaw11.BitsMeetAsSpecified", spec := "bitsMeetAsSpecified", unfollowed := true, recurses := true, apart := false, narrowed := true }
def BitsMeetAsSpecifiedUptoSaid : Prop := bitsMeetAsSpecifiedUptoRow.holds Try.pinned (OpenSpec.upto bitsMeetAsSpecifiedSpec)

/-- 'antiquarylaw11.BitsReadAsSpecified', WHERE WHAT IT READS IS OF BULK AT MOST 1048576: true; the input reads as it did. -/
def bitsReadAsSpecifiedUptoRow : OpenClaim := { program := "ytieipbobijnmlaa", sum := "2cf00571f4c9c4c3b772d648f598f8d8ae46a491b7b53abd2a915bf0f4d3f161", func := "antiquary/antiquarylaw11.BitsReadAsSpecified", spec := "bitsReadAsSpecified", unfollowed := true, recurses := true, apart := false, narrowed := true }
def BitsReadAsSpecifiedUptoSaid : Prop := bitsReadAsSpecifiedUptoRow.holds Try.pinned (OpenSpec.upto bitsReadAsSpecifiedSpec)

/-- 'antiquarylaw11.BitsFollowLogic', WHERE WHAT IT READS IS OF BULK AT MOST 1048576: true; the input reads as it did. -/
def bitsFollowLogicUptoRow : OpenClaim := { program := "ytieipbobijnmlaa", sum := "2cf00571f4c9c4c3b772d648f598f8d8ae46a491b7b53abd2a915bf0f4d3f161", func := "antiquary/antiquarylaw11.BitsFollowLogic", spec := "bitsFollowLogic", unfollowed := true, recurses := true, apart := false, narrowed := true }
def BitsFollowLogicUptoSaid : Prop := bitsFollowLogicUptoRow.holds Try.pinned (OpenSpec.upto bitsFollowLogicSpec)

/-- 'antiquarylaw11.BitsFollowAlgebra', WHERE WHAT IT READS IS OF BULK AT MOST 1048576: true; the input reads as it did. -/
def bitsFollowAlgebraUptoRow : OpenClaim := { program := "ytieipbobijnmlaa", sum := "2cf00571f4c9c4c3b772d648f598f8d8ae46a491b7b53abd2a915bf0f4d3f161", func := "antiquary/antiquarylaw11.BitsFollowAlgebra", spec := "bitsFollowAlgebra", unfollowed := true, recurses := true, apart := false, narrowed := true }
def BitsFollowAlgebraUptoSaid : Prop := bitsFollowAlgebraUptoRow.holds Try.pinned (OpenSpec.upto bitsFollowAlgebraSpec)

/-- 'antiquarylaw11.BitsRankTheirSlots', WHERE WHAT IT READS IS OF BULK AT MOST 1048576: true; the input reads as it did. -/
def bitsRankTheirSlotsUptoRow : OpenClaim := { program := "ytieipbobijnmlaa", sum := "2cf00571f4c9c4c3b772d648f598f8d8ae46a491b7b53abd2a915bf0f4d3f161", func := "antiquary/antiquarylaw11.BitsRankTheirSlots", spec := "bitsRankTheirSlots", unfollowed := true, recurses := true, apart := false, narrowed := true }
def BitsRankTheirSlotsUptoSaid : Prop := bitsRankTheirSlotsUptoRow.holds Try.pinned (OpenSpec.upto bitsRankTheirSlotsSpec)

end Rows
end Go.Proofs.Ytieipbobijnmlaa
