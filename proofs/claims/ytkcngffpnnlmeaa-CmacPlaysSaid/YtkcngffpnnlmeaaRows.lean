/-
  No cell of these rows narrows 'for every input' (looked for: loops, veiled, ifaces, maps, wideKeys, modest, calm, conditions, laid).
  DERIVED. THE GIVEN ROWS OF THIS SEAT. 5 by the template 'for every input the law returns true; each argument reads behind the call as it read before'; 0 by the template 'total and deterministic' (their statements: YtkcngffpnnlmeaaTotals.lean).
  GIVEN WITH THE SEED: the statements are not yours to turn. If you find one false, say at which input.
  Laid BY PROGRAM, IN A SANDBOX (cutbox-rows.mjs): the forced cells as the released guide's own fill.sh prints them over the translation 43c1c0fe3f41a78f… (all of the seat's roots in one cut). By AI agents, Wed Nov 11 2026. No macro, syntax, notation, axiom, sorry.
-/
import Derived.Test.YtkcngffpnnlmeaaChecked
import GoSem.Claim
import GoSem.ClaimJoined
import GoSem.ClaimMapViews
import Derived.JoinedTies
import Derived.KernelRfl
namespace Go.Proofs.Ytkcngffpnnlmeaa
/- THE CELL 'sum', in the pinned program and in every row, IS THE sha256 OF THE DUMP (.gsa) THAT YtkcngffpnnlmeaaProg.lean LOADS. Nothing in Lean hashes anything: it is a label: what it is worth is what the hold of that sum in a sandbox is worth. -/
noncomputable def Try.pinned : Pinned := { name := "ytkcngffpnnlmeaa", sum := "43c1c0fe3f41a78f19561063dc983c35d47e05765509205e70e090792622285b", checked := Try.checked }
namespace Rows
def none {H : Type} : Left H := { results := [], args := [] }

/-- 'pursuivantlaw04.CmacBlocks': WHATEVER THE INPUT: true; the input reads as it did. -/
def cmacBlocksSpec : ChangeSpec := { name := "cmacBlocks", fn := fun _ => fun
  | [d] => { results := [.lit (.bool true)], args := [d] }
  | _ => none }
def cmacBlocksRow : OpenClaim := { program := "ytkcngffpnnlmeaa", sum := "43c1c0fe3f41a78f19561063dc983c35d47e05765509205e70e090792622285b", func := "pursuivant/pursuivantlaw04.CmacBlocks", spec := "cmacBlocks", unfollowed := true, recurses := true, apart := false }
def CmacBlocksSaid : Prop := cmacBlocksRow.holds Try.pinned (OpenSpec.ofChange cmacBlocksSpec)

/-- ITS FALSE NEIGHBOUR: 'it returns false'. Refute it at one input. -/
def cmacBlocksWrong : ChangeSpec := { name := "cmacBlocks", fn := fun _ => fun
  | [d] => { results := [.lit (.bool false)], args := [d] }
  | _ => none }
def CmacBlocksWrongFalsely : Prop := cmacBlocksRow.holds Try.pinned (OpenSpec.ofChange cmacBlocksWrong)

/-- 'pursuivantlaw04.CmacTags': WHATEVER THE INPUT: true; the input reads as it did. -/
def cmacTagsSpec : ChangeSpec := { name := "cmacTags", fn := fun _ => fun
  | [d1, d2] => { results := [.lit (.bool true)], args := [d1, d2] }
  | _ => none }
def cmacTagsRow : OpenClaim := { program := "ytkcngffpnnlmeaa", sum := "43c1c0fe3f41a78f19561063dc983c35d47e05765509205e70e090792622285b", func := "pursuivant/pursuivantlaw04.CmacTags", spec := "cmacTags", unfollowed := true, recurses := true, apart := false }
def CmacTagsSaid : Prop := cmacTagsRow.holds Try.pinned (OpenSpec.ofChange cmacTagsSpec)

/-- ITS FALSE NEIGHBOUR: 'it returns false'. Refute it at one input. -/
def cmacTagsWrong : ChangeSpec := { name := "cmacTags", fn := fun _ => fun
  | [d1, d2] => { results := [.lit (.bool false)], args := [d1, d2] }
  | _ => none }
def CmacTagsWrongFalsely : Prop := cmacTagsRow.holds Try.pinned (OpenSpec.ofChange cmacTagsWrong)

/-- 'pursuivantlaw04.CmacParts': WHATEVER THE INPUT: true; the input reads as it did. -/
def cmacPartsSpec : ChangeSpec := { name := "cmacParts", fn := fun _ => fun
  | [d1, d2] => { results := [.lit (.bool true)], args := [d1, d2] }
  | _ => none }
def cmacPartsRow : OpenClaim := { program := "ytkcngffpnnlmeaa", sum := "43c1c0fe3f41a78f19561063dc983c35d47e05765509205e70e090792622285b", func := "pursuivant/pursuivantlaw04.CmacParts", spec := "cmacParts", unfollowed := true, recurses := true, apart := false }
def CmacPartsSaid : Prop := cmacPartsRow.holds Try.pinned (OpenSpec.ofChange cmacPartsSpec)

/-- ITS FALSE NEIGHBOUR: 'it returns false'. Refute it at one input. -/
def cmacPartsWrong : ChangeSpec := { name := "cmacParts", fn := fun _ => fun
  | [d1, d2] => { results := [.lit (.bool false)], args := [d1, d2] }
  | _ => none }
def CmacPartsWrongFalsely : Prop := cmacPartsRow.holds Try.pinned (OpenSpec.ofChange cmacPartsWrong)

/-- 'pursuivantlaw04.CmacPlays': WHATEVER THE INPUT: true; the input reads as it did. -/
def cmacPlaysSpec : ChangeSpec := { name := "cmacPlays", fn := fun _ => fun
  | [d1, d2, d3] => { results := [.lit (.bool true)], args := [d1, d2, d3] }
  | _ => none }
def cmacPlaysRow : OpenClaim := { program := "ytkcngffpnnlmeaa", sum := "43c1c0fe3f41a78f19561063dc983c35d47e05765509205e70e090792622285b", func := "pursuivant/pursuivantlaw04.CmacPlays", spec := "cmacPlays", unfollowed := true, recurses := true, apart := false }
def CmacPlaysSaid : Prop := cmacPlaysRow.holds Try.pinned (OpenSpec.ofChange cmacPlaysSpec)

/-- ITS FALSE NEIGHBOUR: 'it returns false'. Refute it at one input. -/
def cmacPlaysWrong : ChangeSpec := { name := "cmacPlays", fn := fun _ => fun
  | [d1, d2, d3] => { results := [.lit (.bool false)], args := [d1, d2, d3] }
  | _ => none }
def CmacPlaysWrongFalsely : Prop := cmacPlaysRow.holds Try.pinned (OpenSpec.ofChange cmacPlaysWrong)

/-- 'pursuivantlaw04.CmacHolds': WHATEVER THE INPUT: true; the input reads as it did. -/
def cmacHoldsSpec : ChangeSpec := { name := "cmacHolds", fn := fun _ => fun
  | [d1, d2, d3, d4, d5] => { results := [.lit (.bool true)], args := [d1, d2, d3, d4, d5] }
  | _ => none }
def cmacHoldsRow : OpenClaim := { program := "ytkcngffpnnlmeaa", sum := "43c1c0fe3f41a78f19561063dc983c35d47e05765509205e70e090792622285b", func := "pursuivant/pursuivantlaw04.CmacHolds", spec := "cmacHolds", unfollowed := true, recurses := true, apart := false }
def CmacHoldsSaid : Prop := cmacHoldsRow.holds Try.pinned (OpenSpec.ofChange cmacHoldsSpec)

/-- ITS FALSE NEIGHBOUR: 'it returns false'. Refute it at one input. -/
def cmacHoldsWrong : ChangeSpec := { name := "cmacHolds", fn := fun _ => fun
  | [d1, d2, d3, d4, d5] => { results := [.lit (.bool false)], args := [d1, d2, d3, d4, d5] }
  | _ => none }
def CmacHoldsWrongFalsely : Prop := cmacHoldsRow.holds Try.pinned (OpenSpec.ofChange cmacHoldsWrong)

/- THE SECOND FORM. 'bulk': how many values and letters a reading holds, each counted each time it is reached (what is shared counts as often as it is met; a slice's spare places count too). A statement '..UptoSaid' is the law's where the arguments, and the package variables that the reading takes, are together of bulk at most 1048576: NARROWER than '..Said'. Prove '..Said' where nothing that the law and all that it calls make is longer than what came in: it says more and counts as full. Else prove '..UptoSaid'. A law counts once. -/
mutual
def uptoBulk {H : Type} : DataW H → Nat
  | .lit (.string bytes) => bytes.length + 1
  | .lit _ => 1
  | .nil => 1
  | .ptr d => uptoBulk d + 1
  | .slice elems spare => uptoBulkAll elems + uptoBulkAll spare + 1
  | .agg parts => uptoBulkAll parts + 1
  | .iface _ d => uptoBulk d + 1
  | .map entries => uptoBulkEntries entries + 1
  | .held _ => 1
def uptoBulkAll {H : Type} : List (DataW H) → Nat
  | [] => 0
  | d :: r => uptoBulk d + uptoBulkAll r
def uptoBulkEntries {H : Type} : List (Lit × DataW H) → Nat
  | [] => 0
  | x :: r => uptoBulkEntry x + uptoBulkEntries r
def uptoBulkEntry {H : Type} : Lit × DataW H → Nat
  | (.string bytes, d) => bytes.length + uptoBulk d + 1
  | (_, d) => uptoBulk d + 1
 end
def uptoSmall : (H : Type) → List (DataW H) → Bool := fun _ ds => decide (uptoBulkAll ds ≤ 1048576)
def OpenSpec.upto (s : _root_.Go.ChangeSpec) : _root_.Go.OpenSpec := { _root_.Go.OpenSpec.ofChange s with cond := some uptoSmall }

/-- 'pursuivantlaw04.CmacBlocks', WHERE WHAT IT READS IS OF BULK AT MOST 1048576: true; the input reads as it did. -/
def cmacBlocksUptoRow : OpenClaim := { program := "ytkcngffpnnlmeaa", sum := "43c1c0fe3f41a78f19561063dc983c35d47e05765509205e70e090792622285b", func := "pursuivant/pursuivantlaw04.CmacBlocks", spec := "cmacBlocks", unfollowed := true, recurses := true, apart := false, narrowed := true }
def CmacBlocksUptoSaid : Prop := cmacBlocksUptoRow.holds Try.pinned (OpenSpec.upto cmacBlocksSpec)

/-- 'pursuivantlaw04.CmacTags', WHERE WHAT IT READS IS OF BULK AT MOST 1048576: true; the input reads as it did. -/
def cmacTagsUptoRow : OpenClaim := { program := "ytkcngffpnnlmeaa", sum := "43c1c0fe3f41a78f19561063dc983c35d47e05765509205e70e090792622285b", func := "pursuivant/pursuivantlaw04.CmacTags", spec := "cmacTags", unfollowed := true, recurses := true, apart := false, narrowed := true }
def CmacTagsUptoSaid : Prop := cmacTagsUptoRow.holds Try.pinned (OpenSpec.upto cmacTagsSpec)

/-- 'pursuivantlaw04.CmacParts', WHERE WHAT IT READS IS OF BULK AT MOST 1048576: true; the input reads as it did. -/
def cmacPartsUptoRow : OpenClaim := { program := "ytkcngffpnnlmeaa", sum := "43c1c0fe3f41a78f19561063dc983c35d47e05765509205e70e090792622285b", func := "pursuivant/pursuivantlaw04.CmacParts", spec := "cmacParts", unfollowed := true, recurses := true, apart := false, narrowed := true }
def CmacPartsUptoSaid : Prop := cmacPartsUptoRow.holds Try.pinned (OpenSpec.upto cmacPartsSpec)

/-- 'pursuivantlaw04.CmacPlays', WHERE WHAT IT READS IS OF BULK AT MOST 1048576: true; the input reads as it did. -/
def cmacPlaysUptoRow : OpenClaim := { program := "ytkcngffpnnlmeaa", sum := "43c1c0fe3f41a78f19561063dc983c35d47e05765509205e70e090792622285b", func := "pursuivant/pursuivantlaw04.CmacPlays", spec := "cmacPlays", unfollowed := true, recurses := true, apart := false, narrowed := true }
def CmacPlaysUptoSaid : Prop := cmacPlaysUptoRow.holds Try.pinned (OpenSpec.upto cmacPlaysSpec)

/-- 'pursuivantlaw04.CmacHolds', WHERE WHAT IT READS IS OF BULK AT MOST 1048576: true; the input reads as it did. -/
def cmacHoldsUptoRow : OpenClaim := { program := "ytkcngffpnnlmeaa", sum := "43c1c0fe3f41a78f19561063dc983c35d47e05765509205e70e090792622285b", func := "pursuivant/pursuivantlaw04.CmacHolds", spec := "cmacHolds", unfollowed := true, recurses := true, apart := false, narrowed := true }
def CmacHoldsUptoSaid : Prop := cmacHoldsUptoRow.holds Try.pinned (OpenSpec.upto cmacHoldsSpec)

end Rows
end Go.Proofs.Ytkcngffpnnlmeaa
