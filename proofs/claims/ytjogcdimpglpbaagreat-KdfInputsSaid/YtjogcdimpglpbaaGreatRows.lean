/-
  No cell of these rows narrows 'for every input' (looked for: loops, veiled, ifaces, maps, wideKeys, modest, calm, conditions, laid).
  DERIVED. THE GIVEN ROWS OF THIS SEAT. 6 by the template 'for every input the law returns true; each argument reads behind the call as it read before'; 0 by the template 'total and deterministic' (their statements: YtjogcdimpglpbaaGreatTotals.lean).
  GIVEN WITH THE SEED: the statements are not yours to turn. If you find one false, say at which input.
  Laid BY PROGRAM, IN A SANDBOX (cutbox-rows.mjs): the forced cells as the released guide's own fill.sh prints them over the translation a29304f47f8c3235… (all of the seat's roots in one cut). By AI agents, Wed Nov 11 2026. No macro, syntax, notation, axiom, sorry.
-/
import Derived.Test.YtjogcdimpglpbaaGreatChecked
import GoSem.Claim
import GoSem.ClaimJoined
import GoSem.ClaimMapViews
import Derived.JoinedTies
import Derived.KernelRfl
namespace Go.Proofs.YtjogcdimpglpbaaGreat
/- THE CELL 'sum', in the pinned program and in every row, IS THE sha256 OF THE DUMP (.gsa) THAT YtjogcdimpglpbaaGreatProg.lean LOADS. Nothing in Lean hashes anything: it is a label: what it is worth is what the hold of that sum in a sandbox is worth. -/
noncomputable def Tryz.pinned : Pinned := { name := "ytjogcdimpglpbaagreat", sum := "a29304f47f8c32358aa4977a3043f4dab4ae1a0c7d47da3ade9a341fab0df0da", checked := Tryz.checked }
namespace Rows
def none {H : Type} : Left H := { results := [], args := [] }

/-- 'pursuivantlaw06.KdfKeys': WHATEVER THE INPUT: true; the input reads as it did. -/
def kdfKeysSpec : ChangeSpec := { name := "kdfKeys", fn := fun _ => fun
  | [d1, d2, d3] => { results := [.lit (.bool true)], args := [d1, d2, d3] }
  | _ => none }
def kdfKeysRow : OpenClaim := { program := "ytjogcdimpglpbaagreat", sum := "a29304f47f8c32358aa4977a3043f4dab4ae1a0c7d47da3ade9a341fab0df0da", func := "pursuivant/pursuivantlaw06.KdfKeys", spec := "kdfKeys", unfollowed := true, recurses := true, apart := false }
def KdfKeysSaid : Prop := kdfKeysRow.holds Tryz.pinned (OpenSpec.ofChange kdfKeysSpec)

/-- ITS FALSE NEIGHBOUR: 'it returns false'. Refute it at one input. -/
def kdfKeysWrong : ChangeSpec := { name := "kdfKeys", fn := fun _ => fun
  | [d1, d2, d3] => { results := [.lit (.bool false)], args := [d1, d2, d3] }
  | _ => none }
def KdfKeysWrongFalsely : Prop := kdfKeysRow.holds Tryz.pinned (OpenSpec.ofChange kdfKeysWrong)

/-- 'pursuivantlaw06.KdfSteps': WHATEVER THE INPUT: true; the input reads as it did. -/
def kdfStepsSpec : ChangeSpec := { name := "kdfSteps", fn := fun _ => fun
  | [d] => { results := [.lit (.bool true)], args := [d] }
  | _ => none }
def kdfStepsRow : OpenClaim := { program := "ytjogcdimpglpbaagreat", sum := "a29304f47f8c32358aa4977a3043f4dab4ae1a0c7d47da3ade9a341fab0df0da", func := "pursuivant/pursuivantlaw06.KdfSteps", spec := "kdfSteps", unfollowed := true, recurses := true, apart := false }
def KdfStepsSaid : Prop := kdfStepsRow.holds Tryz.pinned (OpenSpec.ofChange kdfStepsSpec)

/-- ITS FALSE NEIGHBOUR: 'it returns false'. Refute it at one input. -/
def kdfStepsWrong : ChangeSpec := { name := "kdfSteps", fn := fun _ => fun
  | [d] => { results := [.lit (.bool false)], args := [d] }
  | _ => none }
def KdfStepsWrongFalsely : Prop := kdfStepsRow.holds Tryz.pinned (OpenSpec.ofChange kdfStepsWrong)

/-- 'pursuivantlaw06.KdfInputs': WHATEVER THE INPUT: true; the input reads as it did. -/
def kdfInputsSpec : ChangeSpec := { name := "kdfInputs", fn := fun _ => fun
  | [d1, d2] => { results := [.lit (.bool true)], args := [d1, d2] }
  | _ => none }
def kdfInputsRow : OpenClaim := { program := "ytjogcdimpglpbaagreat", sum := "a29304f47f8c32358aa4977a3043f4dab4ae1a0c7d47da3ade9a341fab0df0da", func := "pursuivant/pursuivantlaw06.KdfInputs", spec := "kdfInputs", unfollowed := true, recurses := true, apart := false }
def KdfInputsSaid : Prop := kdfInputsRow.holds Tryz.pinned (OpenSpec.ofChange kdfInputsSpec)

/-- ITS FALSE NEIGHBOUR: 'it returns false'. Refute it at one input. -/
def kdfInputsWrong : ChangeSpec := { name := "kdfInputs", fn := fun _ => fun
  | [d1, d2] => { results := [.lit (.bool false)], args := [d1, d2] }
  | _ => none }
def KdfInputsWrongFalsely : Prop := kdfInputsRow.holds Tryz.pinned (OpenSpec.ofChange kdfInputsWrong)

/-- 'pursuivantlaw06.KdfLinks': WHATEVER THE INPUT: true; the input reads as it did. -/
def kdfLinksSpec : ChangeSpec := { name := "kdfLinks", fn := fun _ => fun
  | [d] => { results := [.lit (.bool true)], args := [d] }
  | _ => none }
def kdfLinksRow : OpenClaim := { program := "ytjogcdimpglpbaagreat", sum := "a29304f47f8c32358aa4977a3043f4dab4ae1a0c7d47da3ade9a341fab0df0da", func := "pursuivant/pursuivantlaw06.KdfLinks", spec := "kdfLinks", unfollowed := true, recurses := true, apart := false }
def KdfLinksSaid : Prop := kdfLinksRow.holds Tryz.pinned (OpenSpec.ofChange kdfLinksSpec)

/-- ITS FALSE NEIGHBOUR: 'it returns false'. Refute it at one input. -/
def kdfLinksWrong : ChangeSpec := { name := "kdfLinks", fn := fun _ => fun
  | [d] => { results := [.lit (.bool false)], args := [d] }
  | _ => none }
def KdfLinksWrongFalsely : Prop := kdfLinksRow.holds Tryz.pinned (OpenSpec.ofChange kdfLinksWrong)

/-- 'pursuivantlaw06.KdfFours': WHATEVER THE INPUT: true; the input reads as it did. -/
def kdfFoursSpec : ChangeSpec := { name := "kdfFours", fn := fun _ => fun
  | [d1, d2, d3] => { results := [.lit (.bool true)], args := [d1, d2, d3] }
  | _ => none }
def kdfFoursRow : OpenClaim := { program := "ytjogcdimpglpbaagreat", sum := "a29304f47f8c32358aa4977a3043f4dab4ae1a0c7d47da3ade9a341fab0df0da", func := "pursuivant/pursuivantlaw06.KdfFours", spec := "kdfFours", unfollowed := true, recurses := true, apart := false }
def KdfFoursSaid : Prop := kdfFoursRow.holds Tryz.pinned (OpenSpec.ofChange kdfFoursSpec)

/-- ITS FALSE NEIGHBOUR: 'it returns false'. Refute it at one input. -/
def kdfFoursWrong : ChangeSpec := { name := "kdfFours", fn := fun _ => fun
  | [d1, d2, d3] => { results := [.lit (.bool false)], args := [d1, d2, d3] }
  | _ => none }
def KdfFoursWrongFalsely : Prop := kdfFoursRow.holds Tryz.pinned (OpenSpec.ofChange kdfFoursWrong)

/-- 'pursuivantlaw06.KdfMeets': WHATEVER THE INPUT: true; the input reads as it did. -/
def kdfMeetsSpec : ChangeSpec := { name := "kdfMeets", fn := fun _ => fun
  | [d1, d2, d3] => { results := [.lit (.bool true)], args := [d1, d2, d3] }
  | _ => none }
def kdfMeetsRow : OpenClaim := { program := "ytjogcdimpglpbaagreat", sum := "a29304f47f8c32358aa4977a3043f4dab4ae1a0c7d47da3ade9a341fab0df0da", func := "pursuivant/pursuivantlaw06.KdfMeets", spec := "kdfMeets", unfollowed := true, recurses := true, apart := false }
def KdfMeetsSaid : Prop := kdfMeetsRow.holds Tryz.pinned (OpenSpec.ofChange kdfMeetsSpec)

/-- ITS FALSE NEIGHBOUR: 'it returns false'. Refute it at one input. -/
def kdfMeetsWrong : ChangeSpec := { name := "kdfMeets", fn := fun _ => fun
  | [d1, d2, d3] => { results := [.lit (.bool false)], args := [d1, d2, d3] }
  | _ => none }
def KdfMeetsWrongFalsely : Prop := kdfMeetsRow.holds Tryz.pinned (OpenSpec.ofChange kdfMeetsWrong)

/- THE SECOND FORM. 'bulk': how many values and letters a reading holds, each counted each time it is reached (what is shared counts as often as it is met; a slice's spare places count too). A statement '..UptoSaid' is the law's where the arguments, and the package variables that the reading takes, are together of bulk at most 1048576: NARROWER than '..Said'. Prove '..Said' where nothing that the law and all that it calls make is longer than what came in: it says more and counts as full. Else prove '..UptoSaid'. A law counts once. -/
mutual
def uptoBulk {H : Type} : DataW H → Nat
  | .lit (.string bytes) => bytes.length + 1
  | .lit _ => 1
  | .nil => 1
  | .ptr d => uptoBulk d + 1
  | .slice elems spare => uptoBulkAll elems + uptoBulkAll spare + 1
  | .agg parts => uptoBulkAll parts + 1
  | .iface _ d => uptoBulk d + 1
  | .map entries => uptoBulkEntries entries + 1
  | .held _ => 1
def uptoBulkAll {H : Type} : List (DataW H) → Nat
  | [] => 0
  | d :: r => uptoBulk d + uptoBulkAll r
def uptoBulkEntries {H : Type} : List (Lit × DataW H) → Nat
  | [] => 0
  | x :: r => uptoBulkEntry x + uptoBulkEntries r
def uptoBulkEntry {H : Type} : Lit × DataW H → Nat
  | (.string bytes, d) => bytes.length + uptoBulk d + 1
  | (_, d) => uptoBulk d + 1
 end
def uptoSmall : (H : Type) → List (DataW H) → Bool := fun _ ds => decide (uptoBulkAll ds ≤ 1048576)
def OpenSpec.upto (s : _root_.Go.ChangeSpec) : _root_.Go.OpenSpec := { _root_.Go.OpenSpec.ofChange s with cond := some uptoSmall }

/-- 'pursuivantlaw06.KdfKeys', WHERE WHAT IT READS IS OF BULK AT MOST 1048576: true; the input reads as it did. -/
def kdfKeysUptoRow : OpenClaim := { program := "ytjogcdimpglpbaagreat", sum := "a29304f47f8c32358aa4977a3043f4dab4ae1a0c7d47da3ade9a341fab0df0da", func := "pursuivant/pursuivantlaw06.KdfKeys", spec := "kdfKeys", unfollowed := true, recurses := true, apart := false, narrowed := true }
def KdfKeysUptoSaid : Prop := kdfKeysUptoRow.holds Tryz.pinned (OpenSpec.upto kdfKeysSpec)

/-- 'pursuivantlaw06.KdfSteps', WHERE WHAT IT READS IS OF BULK AT MOST 1048576: true; the input reads as it did. -/
def kdfStepsUptoRow : OpenClaim := { program := "ytjogcdimpglpbaagreat", sum := "a29304f47f8c32358aa4977a3043f4dab4ae1a0c7d47da3ade9a341fab0df0da", func := "pursuivant/pursuivantlaw06.KdfSteps", spec := "kdfSteps", unfollowed := true, recurses := true, apart := false, narrowed := true }
def KdfStepsUptoSaid : Prop := kdfStepsUptoRow.holds Tryz.pinned (OpenSpec.upto kdfStepsSpec)

/-- 'pursuivantlaw06.KdfInputs', WHERE WHAT IT READS IS OF BULK AT MOST 1048576: true; the input reads as it did. -/
def kdfInputsUptoRow : OpenClaim := { program := "ytjogcdimpglpbaagreat", sum := "a29304f47f8c32358aa4977a3043f4dab4ae1a0c7d47da3ade9a341fab0df0da", func := "pursuivant/pursuivantlaw06.KdfInputs", spec := "kdfInputs", unfollowed := true, recurses := true, apart := false, narrowed := true }
def KdfInputsUptoSaid : Prop := kdfInputsUptoRow.holds Tryz.pinned (OpenSpec.upto kdfInputsSpec)

/-- 'pursuivantlaw06.KdfLinks', WHERE WHAT IT READS IS OF BULK AT MOST 1048576: true; the input reads as it did. -/
def kdfLinksUptoRow : OpenClaim := { program := "ytjogcdimpglpbaagreat", sum := "a29304f47f8c32358aa4977a3043f4dab4ae1a0c7d47da3ade9a341fab0df0da", func := "pursuivant/pursuivantlaw06.KdfLinks", spec := "kdfLinks", unfollowed := true, recurses := true, apart := false, narrowed := true }
def KdfLinksUptoSaid : Prop := kdfLinksUptoRow.holds Tryz.pinned (OpenSpec.upto kdfLinksSpec)

/-- 'pursuivantlaw06.KdfFours', WHERE WHAT IT READS IS OF BULK AT MOST 1048576: true; the input reads as it did. -/
def kdfFoursUptoRow : OpenClaim := { program := "ytjogcdimpglpbaagreat", sum := "a29304f47f8c32358aa4977a3043f4dab4ae1a0c7d47da3ade9a341fab0df0da", func := "pursuivant/pursuivantlaw06.KdfFours", spec := "kdfFours", unfollowed := true, recurses := true, apart := false, narrowed := true }
def KdfFoursUptoSaid : Prop := kdfFoursUptoRow.holds Tryz.pinned (OpenSpec.upto kdfFoursSpec)

/-- 'pursuivantlaw06.KdfMeets', WHERE WHAT IT READS IS OF BULK AT MOST 1048576: true; the input reads as it did. -/
def kdfMeetsUptoRow : OpenClaim := { program := "ytjogcdimpglpbaagreat", sum := "a29304f47f8c32358aa4977a3043f4dab4ae1a0c7d47da3ade9a341fab0df0da", func := "pursuivant/pursuivantlaw06.KdfMeets", spec := "kdfMeets", unfollowed := true, recurses := true, apart := false, narrowed := true }
def KdfMeetsUptoSaid : Prop := kdfMeetsUptoRow.holds Tryz.pinned (OpenSpec.upto kdfMeetsSpec)

end Rows
end Go.Proofs.YtjogcdimpglpbaaGreat
