/-
  NARROWER THAN 'FOR EVERY INPUT', by the rows' own cells (each row's printed sentence says how): MerkleProofsMatchSpec: laid · MerkleManyAsSpecified: laid · MerklePeaksMatchSpec: laid · MerkleProofsAreAccepted: laid · MerklePeaksGrow: laid · MerkleProofsBind: laid.
  DERIVED. THE GIVEN ROWS OF THIS SEAT. 6 by the template 'for every input the law returns true; each argument reads behind the call as it read before'; 0 by the template 'total and deterministic' (their statements: YtmjmkkdmphgdnaaDoorTotals.lean).
  GIVEN WITH THE SEED: the statements are not yours to turn. If you find one false, say at which input.
  Laid BY PROGRAM, IN A SANDBOX (cutbox-rows.mjs): the forced cells as the released guide's own fill.sh prints them over the translation 46dc3cf2b7d80a70… (all of the seat's roots in one cut). By AI agents, Wed Nov 11 2026. No macro, syntax, notation, axiom, sorry.
-/
import Derived.Test.YtmjmkkdmphgdnaaDoorChecked
import GoSem.Claim
import GoSem.ClaimJoined
import GoSem.ClaimMapViews
import Derived.JoinedTies
import Derived.KernelRfl
namespace Go.Proofs.YtmjmkkdmphgdnaaDoor
/- THE CELL 'sum', in the pinned program and in every row, IS THE sha256 OF THE DUMP (.gsa) THAT YtmjmkkdmphgdnaaDoorProg.lean LOADS. Nothing in Lean hashes anything: it is a label: what it is worth is what the hold of that sum in a sandbox is worth. -/
noncomputable def Tryd.pinned : Pinned := { name := "ytmjmkkdmphgdnaadoor", sum := "46dc3cf2b7d80a70daf593076e2aa685533581c66cee53dfabd0b59d42859291", checked := Tryd.checked }
namespace Rows
def none {H : Type} : Left H := { results := [], args := [] }

/- WHAT THE LISTED PACKAGE-LEVEL VARIABLES READ AS WHEN THE CALL BEGINS. Each datum BY PROGRAM (the guide's laid-datum.mjs) off the statement by which the dump's own 'gosem.cut.vars' lays the variable. In a bare row this is a premise. The card (YtmjmkkdmphgdnaaDoorCards.lean) ties it to the program's text. -/
def laid_antiquary_antiquaryref02_constants {H : Type} : DataW H := .agg [.lit (.int .u32 1116352408), .lit (.int .u32 1899447441), .lit (.int .u32 3049323471), .lit (.int .u32 3921009573), .lit (.int .u32 961987163), .lit (.int .u32 1508970993), .lit (.int .u32 2453635748), .lit (.int .u32 2870763221), .lit (.int .u32 3624381080), .lit (.int .u32 310598401), .lit (.int .u32 607225278), .lit (.int .u32 1426881987), .lit (.int .u32 1925078388), .lit (.int .u32 2162078206), .lit (.int .u32 2614888103), .lit (.int .u32 3248222580), .lit (.int .u32 3835390401), .lit (.int .u32 4022224774), .lit (.int .u32 264347078), .lit (.int .u32 604807628), .lit (.int .u32 770255983), .lit (.int .u32 1249150122), .lit (.int .u32 1555081692), .lit (.int .u32 1996064986), .lit (.int .u32 2554220882), .lit (.int .u32 2821834349), .lit (.int .u32 2952996808), .lit (.int .u32 3210313671), .lit (.int .u32 3336571891), .lit (.int .u32 3584528711), .lit (.int .u32 113926993), .lit (.int .u32 338241895), .lit (.int .u32 666307205), .lit (.int .u32 773529912), .lit (.int .u32 1294757372), .lit (.int .u32 1396182291), .lit (.int .u32 1695183700), .lit (.int .u32 1986661051), .lit (.int .u32 2177026350), .lit (.int .u32 2456956037), .lit (.int .u32 2730485921), .lit (.int .u32 2820302411), .lit (.int .u32 3259730800), .lit (.int .u32 3345764771), .lit (.int .u32 3516065817), .lit (.int .u32 3600352804), .lit (.int .u32 4094571909), .lit (.int .u32 275423344), .lit (.int .u32 430227734), .lit (.int .u32 506948616), .lit (.int .u32 659060556), .lit (.int .u32 883997877), .lit (.int .u32 958139571), .lit (.int .u32 1322822218), .lit (.int .u32 1537002063), .lit (.int .u32 1747873779), .lit (.int .u32 1955562222), .lit (.int .u32 2024104815), .lit (.int .u32 2227730452), .lit (.int .u32 2361852424), .lit (.int .u32 2428436474), .lit (.int .u32 2756734187), .lit (.int .u32 3204031479), .lit (.int .u32 3329325298)]
def laid_antiquary_hash_rounds {H : Type} : DataW H := .agg [.lit (.int .u32 1116352408), .lit (.int .u32 1899447441), .lit (.int .u32 3049323471), .lit (.int .u32 3921009573), .lit (.int .u32 961987163), .lit (.int .u32 1508970993), .lit (.int .u32 2453635748), .lit (.int .u32 2870763221), .lit (.int .u32 3624381080), .lit (.int .u32 310598401), .lit (.int .u32 607225278), .lit (.int .u32 1426881987), .lit (.int .u32 1925078388), .lit (.int .u32 2162078206), .lit (.int .u32 2614888103), .lit (.int .u32 3248222580), .lit (.int .u32 3835390401), .lit (.int .u32 4022224774), .lit (.int .u32 264347078), .lit (.int .u32 604807628), .lit (.int .u32 770255983), .lit (.int .u32 1249150122), .lit (.int .u32 1555081692), .lit (.int .u32 1996064986), .lit (.int .u32 2554220882), .lit (.int .u32 2821834349), .lit (.int .u32 2952996808), .lit (.int .u32 3210313671), .lit (.int .u32 3336571891), .lit (.int .u32 3584528711), .lit (.int .u32 113926993), .lit (.int .u32 338241895), .lit (.int .u32 666307205), .lit (.int .u32 773529912), .lit (.int .u32 1294757372), .lit (.int .u32 1396182291), .lit (.int .u32 1695183700), .lit (.int .u32 1986661051), .lit (.int .u32 2177026350), .lit (.int .u32 2456956037), .lit (.int .u32 2730485921), .lit (.int .u32 2820302411), .lit (.int .u32 3259730800), .lit (.int .u32 3345764771), .lit (.int .u32 3516065817), .lit (.int .u32 3600352804), .lit (.int .u32 4094571909), .lit (.int .u32 275423344), .lit (.int .u32 430227734), .lit (.int .u32 506948616), .lit (.int .u32 659060556), .lit (.int .u32 883997877), .lit (.int .u32 958139571), .lit (.int .u32 1322822218), .lit (.int .u32 1537002063), .lit (.int .u32 1747873779), .lit (.int .u32 1955562222), .lit (.int .u32 2024104815), .lit (.int .u32 2227730452), .lit (.int .u32 2361852424), .lit (.int .u32 2428436474), .lit (.int .u32 2756734187), .lit (.int .u32 3204031479), .lit (.int .u32 3329325298)]

/-- 'antiquarylaw03.MerkleProofsMatchSpec': WHATEVER THE INPUT: true; the input reads as it did. -/
def merkleProofsMatchSpecSpec : ChangeSpec := { name := "merkleProofsMatchSpec", fn := fun _ => fun
  | [d1, d2, d3, d4] => { results := [.lit (.bool true)], args := [d1, d2, d3, d4] }
  | _ => none }
def merkleProofsMatchSpecRow : OpenClaim := { program := "ytmjmkkdmphgdnaadoor", sum := "46dc3cf2b7d80a70daf593076e2aa685533581c66cee53dfabd0b59d42859291", func := "antiquary/antiquarylaw03.MerkleProofsMatchSpec", spec := "merkleProofsMatchSpec", unfollowed := true, recurses := true, named := ["antiquary/hash.rounds", "antiquary/antiquaryref02.constants"], apart := false, laid := [("antiquary/antiquaryref02.constants", laid_antiquary_antiquaryref02_constants), ("antiquary/hash.rounds", laid_antiquary_hash_rounds)] }
def MerkleProofsMatchSpecSaid : Prop := merkleProofsMatchSpecRow.holds Tryd.pinned (OpenSpec.ofChange merkleProofsMatchSpecSpec)

/-- ITS FALSE NEIGHBOUR: 'it returns false'. Refute it at one input. -/
def merkleProofsMatchSpecWrong : ChangeSpec := { name := "merkleProofsMatchSpec", fn := fun _ => fun
  | [d1, d2, d3, d4] => { results := [.lit (.bool false)], args := [d1, d2, d3, d4] }
  | _ => none }
def MerkleProofsMatchSpecWrongFalsely : Prop := merkleProofsMatchSpecRow.holds Tryd.pinned (OpenSpec.ofChange merkleProofsMatchSpecWrong)

/-- 'antiquarylaw03.MerkleManyAsSpecified': WHATEVER THE INPUT: true; the input reads as it did. -/
def merkleManyAsSpecifiedSpec : ChangeSpec := { name := "merkleManyAsSpecified", fn := fun _ => fun
  | [d1, d2, d3, d4, d5, d6] => { results := [.lit (.bool true)], args := [d1, d2, d3, d4, d5, d6] }
  | _ => none }
def merkleManyAsSpecifiedRow : OpenClaim := { program := "ytmjmkkdmphgdnaadoor", sum := "46dc3cf2b7d80a70daf593076e2aa685533581c66cee53dfabd0b59d42859291", func := "antiquary/antiquarylaw03.MerkleManyAsSpecified", spec := "merkleManyAsSpecified", unfollowed := true, recurses := true, named := ["antiquary/hash.rounds", "antiquary/antiquaryref02.constants"], apart := false, laid := [("antiquary/antiquaryref02.constants", laid_antiquary_antiquaryref02_constants), ("antiquary/hash.rounds", laid_antiquary_hash_rounds)] }
def MerkleManyAsSpecifiedSaid : Prop := merkleManyAsSpecifiedRow.holds Tryd.pinned (OpenSpec.ofChange merkleManyAsSpecifiedSpec)

/-- ITS FALSE NEIGHBOUR: 'it returns false'. Refute it at one input. -/
def merkleManyAsSpecifiedWrong : ChangeSpec := { name := "merkleManyAsSpecified", fn := fun _ => fun
  | [d1, d2, d3, d4, d5, d6] => { results := [.lit (.bool false)], args := [d1, d2, d3, d4, d5, d6] }
  | _ => none }
def MerkleManyAsSpecifiedWrongFalsely : Prop := merkleManyAsSpecifiedRow.holds Tryd.pinned (OpenSpec.ofChange merkleManyAsSpecifiedWrong)

/-- 'antiquarylaw03.MerklePeaksMatchSpec': WHATEVER THE INPUT: true; the input reads as it did. -/
def merklePeaksMatchSpecSpec : ChangeSpec := { name := "merklePeaksMatchSpec", fn := fun _ => fun
  | [d1, d2] => { results := [.lit (.bool true)], args := [d1, d2] }
  | _ => none }
def merklePeaksMatchSpecRow : OpenClaim := { program := "ytmjmkkdmphgdnaadoor", sum := "46dc3cf2b7d80a70daf593076e2aa685533581c66cee53dfabd0b59d42859291", func := "antiquary/antiquarylaw03.MerklePeaksMatchSpec", spec := "merklePeaksMatchSpec", unfollowed := true, recurses := true, named := ["antiquary/hash.rounds", "antiquary/antiquaryref02.constants"], apart := false, laid := [("antiquary/antiquaryref02.constants", laid_antiquary_antiquaryref02_constants), ("antiquary/hash.rounds", laid_antiquary_hash_rounds)] }
def MerklePeaksMatchSpecSaid : Prop := merklePeaksMatchSpecRow.holds Tryd.pinned (OpenSpec.ofChange merklePeaksMatchSpecSpec)

/-- ITS FALSE NEIGHBOUR: 'it returns false'. Refute it at one input. -/
def merklePeaksMatchSpecWrong : ChangeSpec := { name := "merklePeaksMatchSpec", fn := fun _ => fun
  | [d1, d2] => { results := [.lit (.bool false)], args := [d1, d2] }
  | _ => none }
def MerklePeaksMatchSpecWrongFalsely : Prop := merklePeaksMatchSpecRow.holds Tryd.pinned (OpenSpec.ofChange merklePeaksMatchSpecWrong)

/-- 'antiquarylaw03.MerkleProofsAreAccepted': WHATEVER THE INPUT: true; the input reads as it did. -/
def merkleProofsAreAcceptedSpec : ChangeSpec := { name := "merkleProofsAreAccepted", fn := fun _ => fun
  | [d1, d2, d3, d4, d5] => { results := [.lit (.bool true)], args := [d1, d2, d3, d4, d5] }
  | _ => none }
def merkleProofsAreAcceptedRow : OpenClaim := { program := "ytmjmkkdmphgdnaadoor", sum := "46dc3cf2b7d80a70daf593076e2aa685533581c66cee53dfabd0b59d42859291", func := "antiquary/antiquarylaw03.MerkleProofsAreAccepted", spec := "merkleProofsAreAccepted", unfollowed := true, recurses := true, named := ["antiquary/hash.rounds", "antiquary/antiquaryref02.constants"], apart := false, laid := [("antiquary/antiquaryref02.constants", laid_antiquary_antiquaryref02_constants), ("antiquary/hash.rounds", laid_antiquary_hash_rounds)] }
def MerkleProofsAreAcceptedSaid : Prop := merkleProofsAreAcceptedRow.holds Tryd.pinned (OpenSpec.ofChange merkleProofsAreAcceptedSpec)

/-- ITS FALSE NEIGHBOUR: 'it returns false'. Refute it at one input. -/
def merkleProofsAreAcceptedWrong : ChangeSpec := { name := "merkleProofsAreAccepted", fn := fun _ => fun
  | [d1, d2, d3, d4, d5] => { results := [.lit (.bool false)], args := [d1, d2, d3, d4, d5] }
  | _ => none }
def MerkleProofsAreAcceptedWrongFalsely : Prop := merkleProofsAreAcceptedRow.holds Tryd.pinned (OpenSpec.ofChange merkleProofsAreAcceptedWrong)

/-- 'antiquarylaw03.MerklePeaksGrow': WHATEVER THE INPUT: true; the input reads as it did. -/
def merklePeaksGrowSpec : ChangeSpec := { name := "merklePeaksGrow", fn := fun _ => fun
  | [d] => { results := [.lit (.bool true)], args := [d] }
  | _ => none }
def merklePeaksGrowRow : OpenClaim := { program := "ytmjmkkdmphgdnaadoor", sum := "46dc3cf2b7d80a70daf593076e2aa685533581c66cee53dfabd0b59d42859291", func := "antiquary/antiquarylaw03.MerklePeaksGrow", spec := "merklePeaksGrow", unfollowed := true, recurses := true, named := ["antiquary/hash.rounds", "antiquary/antiquaryref02.constants"], apart := false, laid := [("antiquary/antiquaryref02.constants", laid_antiquary_antiquaryref02_constants), ("antiquary/hash.rounds", laid_antiquary_hash_rounds)] }
def MerklePeaksGrowSaid : Prop := merklePeaksGrowRow.holds Tryd.pinned (OpenSpec.ofChange merklePeaksGrowSpec)

/-- ITS FALSE NEIGHBOUR: 'it returns false'. Refute it at one input. -/
def merklePeaksGrowWrong : ChangeSpec := { name := "merklePeaksGrow", fn := fun _ => fun
  | [d] => { results := [.lit (.bool false)], args := [d] }
  | _ => none }
def MerklePeaksGrowWrongFalsely : Prop := merklePeaksGrowRow.holds Tryd.pinned (OpenSpec.ofChange merklePeaksGrowWrong)

/-- 'antiquarylaw03.MerkleProofsBind': WHATEVER THE INPUT: true; the input reads as it did. -/
def merkleProofsBindSpec : ChangeSpec := { name := "merkleProofsBind", fn := fun _ => fun
  | [d1, d2, d3, d4, d5, d6, d7] => { results := [.lit (.bool true)], args := [d1, d2, d3, d4, d5, d6, d7] }
  | _ => none }
def merkleProofsBindRow : OpenClaim := { program := "ytmjmkkdmphgdnaadoor", sum := "46dc3cf2b7d80a70daf593076e2aa685533581c66cee53dfabd0b59d42859291", func := "antiquary/antiquarylaw03.MerkleProofsBind", spec := "merkleProofsBind", unfollowed := true, recurses := true, named := ["antiquary/hash.rounds", "antiquary/antiquaryref02.constants"], apart := false, laid := [("antiquary/antiquaryref02.constants", laid_antiquary_antiquaryref02_constants), ("antiquary/hash.rounds", laid_antiquary_hash_rounds)] }
def MerkleProofsBindSaid : Prop := merkleProofsBindRow.holds Tryd.pinned (OpenSpec.ofChange merkleProofsBindSpec)

/-- ITS FALSE NEIGHBOUR: 'it returns false'. Refute it at one input. -/
def merkleProofsBindWrong : ChangeSpec := { name := "merkleProofsBind", fn := fun _ => fun
  | [d1, d2, d3, d4, d5, d6, d7] => { results := [.lit (.bool false)], args := [d1, d2, d3, d4, d5, d6, d7] }
  | _ => none }
def MerkleProofsBindWrongFalsely : Prop := merkleProofsBindRow.holds Tryd.pinned (OpenSpec.ofChange merkleProofsBindWrong)

/- THE SECOND FORM. 'bulk': how many values and letters a reading holds, each counted each time it is reached (what is shared counts as often as it is met; a slice's spare places count too). A statement '..UptoSaid' is the law's where the arguments, and the package variables that the reading takes, are together of bulk at most 1048576: NARROWER than '..Said'. Prove '..Said' where nothing that the law and all that it calls make is longer than what came in: it says more and counts as full. Else prove '..UptoSaid'. A law counts once. -/
mutual
def uptoBulk {H : Type} : DataW H → Nat
  | .lit (.string bytes) => bytes.length + 1
  | .lit _ => 1
  | .nil => 1
  | .ptr d => uptoBulk d + 1
  | .slice elems spare => uptoBulkAll elems + uptoBulkAll spare + 1
  | .agg parts => uptoBulkAll parts + 1
  | .iface _ d => uptoBulk d + 1
  | .map entries => uptoBulkEntries entries + 1
  | .held _ => 1
def uptoBulkAll {H : Type} : List (DataW H) → Nat
  | [] => 0
  | d :: r => uptoBulk d + uptoBulkAll r
def uptoBulkEntries {H : Type} : List (Lit × DataW H) → Nat
  | [] => 0
  | x :: r => uptoBulkEntry x + uptoBulkEntries r
def uptoBulkEntry {H : Type} : Lit × DataW H → Nat
  | (.string bytes, d) => bytes.length + uptoBulk d + 1
  | (_, d) => uptoBulk d + 1
 end
def uptoSmall : (H : Type) → List (DataW H) → Bool := fun _ ds => decide (uptoBulkAll ds ≤ 1048576)
def OpenSpec.upto (s : _root_.Go.ChangeSpec) : _root_.Go.OpenSpec := { _root_.Go.OpenSpec.ofChange s with cond := some uptoSmall }

/-- 'antiquarylaw03.MerkleProofsMatchSpec', WHERE WHAT IT READS IS OF BULK AT MOST 1048576: true; the input reads as it did. -/
def merkleProofsMatchSpecUptoRow : OpenClaim := { program := "ytmjmkkdmphgdnaadoor", sum := "46dc3cf2b7d80a70daf593076e2aa685533581c66cee53dfabd0b59d42859291", func := "antiquary/antiquarylaw03.MerkleProofsMatchSpec", spec := "merkleProofsMatchSpec", unfollowed := true, recurses := true, named := ["antiquary/hash.rounds", "antiquary/antiquaryref02.constants"], apart := false, laid := [("antiquary/antiquaryref02.constants", laid_antiquary_antiquaryref02_constants), ("antiquary/hash.rounds", laid_antiquary_hash_rounds)], narrowed := true }
def MerkleProofsMatchSpecUptoSaid : Prop := merkleProofsMatchSpecUptoRow.holds Tryd.pinned (OpenSpec.upto merkleProofsMatchSpecSpec)

/-- 'antiquarylaw03.MerkleManyAsSpecified', WHERE WHAT IT READS IS OF BULK AT MOST 1048576: true; the input reads as it did. -/
def merkleManyAsSpecifiedUptoRow : OpenClaim := { program := "ytmjmkkdmphgdnaadoor", sum := "46dc3cf2b7d80a70daf593076e2aa685533581c66cee53dfabd0b59d42859291", func := "antiquary/antiquarylaw03.MerkleManyAsSpecified", spec := "merkleManyAsSpecified", unfollowed := true, recurses := true, named := ["antiquary/hash.rounds", "antiquary/antiquaryref02.constants"], apart := false, laid := [("antiquary/antiquaryref02.constants", laid_antiquary_antiquaryref02_constants), ("antiquary/hash.rounds", laid_antiquary_hash_rounds)], narrowed := true }
def MerkleManyAsSpecifiedUptoSaid : Prop := merkleManyAsSpecifiedUptoRow.holds Tryd.pinned (OpenSpec.upto merkleManyAsSpecifiedSpec)

/-- 'antiquarylaw03.MerklePeaksMatchSpec', WHERE WHAT IT READS IS OF BULK AT MOST 1048576: true; the input reads as it did. -/
def merklePeaksMatchSpecUptoRow : OpenClaim := { program := "ytmjmkkdmphgdnaadoor", sum := "46dc3cf2b7d80a70daf593076e2aa685533581c66cee53dfabd0b59d42859291", func := "antiquary/antiquarylaw03.MerklePeaksMatchSpec", spec := "merklePeaksMatchSpec", unfollowed := true, recurses := true, named := ["antiquary/hash.rounds", "antiquary/antiquaryref02.constants"], apart := false, laid := [("antiquary/antiquaryref02.constants", laid_antiquary_antiquaryref02_constants), ("antiquary/hash.rounds", laid_antiquary_hash_rounds)], narrowed := true }
def MerklePeaksMatchSpecUptoSaid : Prop := merklePeaksMatchSpecUptoRow.holds Tryd.pinned (OpenSpec.upto merklePeaksMatchSpecSpec)

/-- 'antiquarylaw03.MerkleProofsAreAccepted', WHERE WHAT IT READS IS OF BULK AT MOST 1048576: true; the input reads as it did. -/
def merkleProofsAreAcceptedUptoRow : OpenClaim := { program := "ytmjmkkdmphgdnaadoor", sum := "46dc3cf2b7d80a70daf593076e2aa685533581c66cee53dfabd0b59d42859291", func := "antiquary/antiquarylaw03.MerkleProofsAreAccepted", spec := "merkleProofsAreAccepted", unfollowed := true, recurses := true, named := ["antiquary/hash.rounds", "antiquary/antiquaryref02.constants"], apart := false, laid := [("antiquary/antiquaryref02.constants", laid_antiquary_antiquaryref02_constants), ("antiquary/hash.rounds", laid_antiquary_hash_rounds)], narrowed := true }
def MerkleProofsAreAcceptedUptoSaid : Prop := merkleProofsAreAcceptedUptoRow.holds Tryd.pinned (OpenSpec.upto merkleProofsAreAcceptedSpec)

/-- 'antiquarylaw03.MerklePeaksGrow', WHERE WHAT IT READS IS OF BULK AT MOST 1048576: true; the input reads as it did. -/
def merklePeaksGrowUptoRow : OpenClaim := { program := "ytmjmkkdmphgdnaadoor", sum := "46dc3cf2b7d80a70daf593076e2aa685533581c66cee53dfabd0b59d42859291", func := "antiquary/antiquarylaw03.MerklePeaksGrow", spec := "merklePeaksGrow", unfollowed := true, recurses := true, named := ["antiquary/hash.rounds", "antiquary/antiquaryref02.constants"], apart := false, laid := [("antiquary/antiquaryref02.constants", laid_antiquary_antiquaryref02_constants), ("antiquary/hash.rounds", laid_antiquary_hash_rounds)], narrowed := true }
def MerklePeaksGrowUptoSaid : Prop := merklePeaksGrowUptoRow.holds Tryd.pinned (OpenSpec.upto merklePeaksGrowSpec)

/-- 'antiquarylaw03.MerkleProofsBind', WHERE WHAT IT READS IS OF BULK AT MOST 1048576: true; the input reads as it did. -/
def merkleProofsBindUptoRow : OpenClaim := { program := "ytmjmkkdmphgdnaadoor", sum := "46dc3cf2b7d80a70daf593076e2aa685533581c66cee53dfabd0b59d42859291", func := "antiquary/antiquarylaw03.MerkleProofsBind", spec := "merkleProofsBind", unfollowed := true, recurses := true, named := ["antiquary/hash.rounds", "antiquary/antiquaryref02.constants"], apart := false, laid := [("antiquary/antiquaryref02.constants", laid_antiquary_antiquaryref02_constants), ("antiquary/hash.rounds", laid_antiquary_hash_rounds)], narrowed := true }
def MerkleProofsBindUptoSaid : Prop := merkleProofsBindUptoRow.holds Tryd.pinned (OpenSpec.upto merkleProofsBindSpec)

end Rows
end Go.Proofs.YtmjmkkdmphgdnaaDoor
