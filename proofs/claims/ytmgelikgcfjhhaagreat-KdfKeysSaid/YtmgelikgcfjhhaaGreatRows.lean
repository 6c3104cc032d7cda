/-
  No cell of these rows narrows 'for every input' (looked for: loops, veiled, ifaces, maps, wideKeys, modest, calm, conditions, laid).
  DERIVED. THE GIVEN ROWS OF THIS SEAT. 7 by the template 'for every input the law returns true; each argument reads behind the call as it read before'; 0 by the template 'total and deterministic' (their statements: YtmgelikgcfjhhaaGreatTotals.lean).
  GIVEN WITH THE SEED: the statements are not yours to turn. If you find one false, say at which input.
  Laid BY PROGRAM, IN A SANDBOX (cutbox-rows.mjs): the forced cells as the released guide's own fill.sh prints them over the translation 21987a6487f196c8… (all of the seat's roots in one cut). By AI agents, Wed Nov 11 2026. No macro, syntax, notation, axiom, sorry.
-/
import Derived.Test.YtmgelikgcfjhhaaGreatChecked
import GoSem.Claim
import GoSem.ClaimJoined
import GoSem.ClaimMapViews
import Derived.JoinedTies
import Derived.KernelRfl
namespace Go.Proofs.YtmgelikgcfjhhaaGreat
/- THE CELL 'sum', in the pinned program and in every row, IS THE sha256 OF THE DUMP (.gsa) THAT YtmgelikgcfjhhaaGreatProg.lean LOADS. Nothing in Lean hashes anything: it is a label: what it is worth is what the hold of that sum in a sandbox is worth. -/
noncomputable def Tryz.pinned : Pinned := { name := "ytmgelikgcfjhhaagreat", sum := "21987a6487f196c83dcb984f54aa42fce8ba59e52877ebaebc5d02dcea65bade", checked := Tryz.checked }
namespace Rows
def none {H : Type} : Left H := { results := [], args := [] }

/-- 'pursuivantlaw05.MacTags': WHATEVER THE INPUT: true; the input reads as it did. -/
def macTagsSpec : ChangeSpec := { name := "macTags", fn := fun _ => fun
  | [d1, d2, d3] => { results := [.lit (.bool true)], args := [d1, d2, d3] }
  | _ => none }
def macTagsRow : OpenClaim := { program := "ytmgelikgcfjhhaagreat", sum := "21987a6487f196c83dcb984f54aa42fce8ba59e52877ebaebc5d02dcea65bade", func := "pursuivant/pursuivantlaw05.MacTags", spec := "macTags", unfollowed := true, recurses := true, apart := false }
def MacTagsSaid : Prop := macTagsRow.holds Tryz.pinned (OpenSpec.ofChange macTagsSpec)

/-- ITS FALSE NEIGHBOUR: 'it returns false'. Refute it at one input. -/
def macTagsWrong : ChangeSpec := { name := "macTags", fn := fun _ => fun
  | [d1, d2, d3] => { results := [.lit (.bool false)], args := [d1, d2, d3] }
  | _ => none }
def MacTagsWrongFalsely : Prop := macTagsRow.holds Tryz.pinned (OpenSpec.ofChange macTagsWrong)

/-- 'pursuivantlaw05.MacChecks': WHATEVER THE INPUT: true; the input reads as it did. -/
def macChecksSpec : ChangeSpec := { name := "macChecks", fn := fun _ => fun
  | [d1, d2, d3, d4, d5, d6, d7] => { results := [.lit (.bool true)], args := [d1, d2, d3, d4, d5, d6, d7] }
  | _ => none }
def macChecksRow : OpenClaim := { program := "ytmgelikgcfjhhaagreat", sum := "21987a6487f196c83dcb984f54aa42fce8ba59e52877ebaebc5d02dcea65bade", func := "pursuivant/pursuivantlaw05.MacChecks", spec := "macChecks", unfollowed := true, recurses := true, apart := false }
def MacChecksSaid : Prop := macChecksRow.holds Tryz.pinned (OpenSpec.ofChange macChecksSpec)

/-- ITS FALSE NEIGHBOUR: 'it returns false'. Refute it at one input. -/
def macChecksWrong : ChangeSpec := { name := "macChecks", fn := fun _ => fun
  | [d1, d2, d3, d4, d5, d6, d7] => { results := [.lit (.bool false)], args := [d1, d2, d3, d4, d5, d6, d7] }
  | _ => none }
def MacChecksWrongFalsely : Prop := macChecksRow.holds Tryz.pinned (OpenSpec.ofChange macChecksWrong)

/-- 'pursuivantlaw05.MacOwn': WHATEVER THE INPUT: true; the input reads as it did. -/
def macOwnSpec : ChangeSpec := { name := "macOwn", fn := fun _ => fun
  | [d1, d2, d3, d4] => { results := [.lit (.bool true)], args := [d1, d2, d3, d4] }
  | _ => none }
def macOwnRow : OpenClaim := { program := "ytmgelikgcfjhhaagreat", sum := "21987a6487f196c83dcb984f54aa42fce8ba59e52877ebaebc5d02dcea65bade", func := "pursuivant/pursuivantlaw05.MacOwn", spec := "macOwn", unfollowed := true, recurses := true, apart := false }
def MacOwnSaid : Prop := macOwnRow.holds Tryz.pinned (OpenSpec.ofChange macOwnSpec)

/-- ITS FALSE NEIGHBOUR: 'it returns false'. Refute it at one input. -/
def macOwnWrong : ChangeSpec := { name := "macOwn", fn := fun _ => fun
  | [d1, d2, d3, d4] => { results := [.lit (.bool false)], args := [d1, d2, d3, d4] }
  | _ => none }
def MacOwnWrongFalsely : Prop := macOwnRow.holds Tryz.pinned (OpenSpec.ofChange macOwnWrong)

/-- 'pursuivantlaw06.KdfKeys': WHATEVER THE INPUT: true; the input reads as it did. -/
def kdfKeysSpec : ChangeSpec := { name := "kdfKeys", fn := fun _ => fun
  | [d1, d2, d3] => { results := [.lit (.bool true)], args := [d1, d2, d3] }
  | _ => none }
def kdfKeysRow : OpenClaim := { program := "ytmgelikgcfjhhaagreat", sum := "21987a6487f196c83dcb984f54aa42fce8ba59e52877ebaebc5d02dcea65bade", func := "pursuivant/pursuivantlaw06.KdfKeys", spec := "kdfKeys", unfollowed := true, recurses := true, apart := false }
def KdfKeysSaid : Prop := kdfKeysRow.holds Tryz.pinned (OpenSpec.ofChange kdfKeysSpec)

/-- ITS FALSE NEIGHBOUR: 'it returns false'. Refute it at one input. -/
def kdfKeysWrong : ChangeSpec := { name := "kdfKeys", fn := fun _ => fun
  | [d1, d2, d3] => { results := [.lit (.bool false)], args := [d1, d2, d3] }
  | _ => none }
def KdfKeysWrongFalsely : Prop := kdfKeysRow.holds Tryz.pinned (OpenSpec.ofChange kdfKeysWrong)

/-- 'pursuivantlaw06.KdfSteps': WHATEVER THE INPUT: true; the input reads as it did. -/
def kdfStepsSpec : ChangeSpec := { name := "kdfSteps", fn := fun _ => fun
  | [d] => { results := [.lit (.bool true)], args := [d] }
  | _ => none }
def kdfStepsRow : OpenClaim := { program := "ytmgelikgcfjhhaagreat", sum := "21987a6487f196c83dcb984f54aa42fce8ba59e52877ebaebc5d02dcea65bade", func := "pursuivant/pursuivantlaw06.KdfSteps", spec := "kdfSteps", unfollowed := true, recurses := true, apart := false }
def KdfStepsSaid : Prop := kdfStepsRow.holds Tryz.pinned (OpenSpec.ofChange kdfStepsSpec)

/-- ITS FALSE NEIGHBOUR: 'it returns false'. Refute it at one input. -/
def kdfStepsWrong : ChangeSpec := { name := "kdfSteps", fn := fun _ => fun
  | [d] => { results := [.lit (.bool false)], args := [d] }
  | _ => none }
def KdfStepsWrongFalsely : Prop := kdfStepsRow.holds Tryz.pinned (OpenSpec.ofChange kdfStepsWrong)

/-- 'pursuivantlaw06.KdfFours': WHATEVER THE INPUT: true; the input reads as it did. -/
def kdfFoursSpec : ChangeSpec := { name := "kdfFours", fn := fun _ => fun
  | [d1, d2, d3] => { results := [.lit (.bool true)], args := [d1, d2, d3] }
  | _ => none }
def kdfFoursRow : OpenClaim := { program := "ytmgelikgcfjhhaagreat", sum := "21987a6487f196c83dcb984f54aa42fce8ba59e52877ebaebc5d02dcea65bade", func := "pursuivant/pursuivantlaw06.KdfFours", spec := "kdfFours", unfollowed := true, recurses := true, apart := false }
def KdfFoursSaid : Prop := kdfFoursRow.holds Tryz.pinned (OpenSpec.ofChange kdfFoursSpec)

/-- ITS FALSE NEIGHBOUR: 'it returns false'. Refute it at one input. -/
def kdfFoursWrong : ChangeSpec := { name := "kdfFours", fn := fun _ => fun
  | [d1, d2, d3] => { results := [.lit (.bool false)], args := [d1, d2, d3] }
  | _ => none }
def KdfFoursWrongFalsely : Prop := kdfFoursRow.holds Tryz.pinned (OpenSpec.ofChange kdfFoursWrong)

/-- 'pursuivantlaw06.KdfMeets': WHATEVER THE INPUT: true; the input reads as it did. -/
def kdfMeetsSpec : ChangeSpec := { name := "kdfMeets", fn := fun _ => fun
  | [d1, d2, d3] => { results := [.lit (.bool true)], args := [d1, d2, d3] }
  | _ => none }
def kdfMeetsRow : OpenClaim := { program := "ytmgelikgcfjhhaagreat", sum := "21987a6487f196c83dcb984f54aa42fce8ba59e52877ebaebc5d02dcea65bade", func := "pursuivant/pursuivantlaw06.KdfMeets", spec := "kdfMeets", unfollowed := true, recurses := true, apart := false }
def KdfMeetsSaid : Prop := kdfMeetsRow.holds Tryz.pinned (OpenSpec.ofChange kdfMeetsSpec)

/-- ITS FALSE NEIGHBOUR: 'it returns false'. Refute it at one input. -/
def kdfMeetsWrong : ChangeSpec := { name := "kdfMeets", fn := fun _ => fun
  | [d1, d2, d3] => { results := [.lit (.bool false)], args := [d1, d2, d3] }
  | _ => none }
def KdfMeetsWrongFalsely : Prop := kdfMeetsRow.holds Tryz.pinned (OpenSpec.ofChange kdfMeetsWrong)

/- THE SECOND FORM. 'bulk': how many values and letters a reading holds, each counted each time it is reached (what is shared counts as often as it is met; a slice's spare places count too). A statement '..UptoSaid' is the law's where the arguments, and the package variables that the reading takes, are together of bulk at most 1048576: NARROWER than '..Said'. Prove '..Said' where nothing that the law and all that it calls make is longer than what came in: it says more and counts as full. Else prove '..UptoSaid'. A law counts once. -/
mutual
def uptoBulk {H : Type} : DataW H → Nat
  | .lit (.string bytes) => bytes.length + 1
  | .lit _ => 1
  | .nil => 1
  | .ptr d => uptoBulk d + 1
  | .slice elems spare => uptoBulkAll elems + uptoBulkAll spare + 1
  | .agg parts => uptoBulkAll parts + 1
  | .iface _ d => uptoBulk d + 1
  | .map entries => uptoBulkEntries entries + 1
  | .held _ => 1
def uptoBulkAll {H : Type} : List (DataW H) → Nat
  | [] => 0
  | d :: r => uptoBulk d + uptoBulkAll r
def uptoBulkEntries {H : Type} : List (Lit × DataW H) → Nat
  | [] => 0
  | x :: r => uptoBulkEntry x + uptoBulkEntries r
def uptoBulkEntry {H : Type} : Lit × DataW H → Nat
  | (.string bytes, d) => bytes.length + uptoBulk d + 1
  | (_, d) => uptoBulk d + 1
 end
def uptoSmall : (H : Type) → List (DataW H) → Bool := fun _ ds => decide (uptoBulkAll ds ≤ 1048576)
def OpenSpec.upto (s : _root_.Go.ChangeSpec) : _root_.Go.OpenSpec := { _root_.Go.OpenSpec.ofChange s with cond := some uptoSmall }

/-- 'pursuivantlaw05.MacTags', WHERE WHAT IT READS IS OF BULK AT MOST 1048576: true; the input reads as it did. -/
def macTagsUptoRow : OpenClaim := { program := "ytmgelikgcfjhhaagreat", sum := "21987a6487f196c83dcb984f54aa42fce8ba59e52877ebaebc5d02dcea65bade", func := "pursuivant/pursuivantlaw05.MacTags", spec := "macTags", unfollowed := true, recurses := true, apart := false, narrowed := true }
def MacTagsUptoSaid : Prop := macTagsUptoRow.holds Tryz.pinned (OpenSpec.upto macTagsSpec)

/-- 'pursuivantlaw05.MacChecks', WHERE WHAT IT READS IS OF BULK AT MOST 1048576: true; the input reads as it did. -/
def macChecksUptoRow : OpenClaim := { program := "ytmgelikgcfjhhaagreat", sum := "21987a6487f196c83dcb984f54aa42fce8ba59e52877ebaebc5d02dcea65bade", func := "pursuivant/pursuivantlaw05.MacChecks", spec := "macChecks", unfollowed := true, recurses := true, apart := false, narrowed := true }
def MacChecksUptoSaid : Prop := macChecksUptoRow.holds Tryz.pinned (OpenSpec.upto macChecksSpec)

/-- 'pursuivantlaw05.MacOwn', WHERE WHAT IT READS IS OF BULK AT MOST 1048576: true; the input reads as it did. -/
def macOwnUptoRow : OpenClaim := { program := "ytmgelikgcfjhhaagreat", sum := "21987a6487f196c83dcb984f54aa42fce8ba59e52877ebaebc5d02dcea65bade", func := "pursuivant/pursuivantlaw05.MacOwn", spec := "macOwn", unfollowed := true, recurses := true, apart := false, narrowed := true }
def MacOwnUptoSaid : Prop := macOwnUptoRow.holds Tryz.pinned (OpenSpec.upto macOwnSpec)

/-- 'pursuivantlaw06.KdfKeys', WHERE WHAT IT READS IS OF BULK AT MOST 1048576: true; the input reads as it did. -/
def kdfKeysUptoRow : OpenClaim := { program := "ytmgelikgcfjhhaagreat", sum := "21987a6487f196c83dcb984f54aa42fce8ba59e52877ebaebc5d02dcea65bade", func := "pursuivant/pursuivantlaw06.KdfKeys", spec := "kdfKeys", unfollowed := true, recurses := true, apart := false, narrowed := true }
def KdfKeysUptoSaid : Prop := kdfKeysUptoRow.holds Tryz.pinned (OpenSpec.upto kdfKeysSpec)

/-- 'pursuivantlaw06.KdfSteps', WHERE WHAT IT READS IS OF BULK AT MOST 1048576: true; the input reads as it did. -/
def kdfStepsUptoRow : OpenClaim := { program := "ytmgelikgcfjhhaagreat", sum := "21987a6487f196c83dcb984f54aa42fce8ba59e52877ebaebc5d02dcea65bade", func := "pursuivant/pursuivantlaw06.KdfSteps", spec := "kdfSteps", unfollowed := true, recurses := true, apart := false, narrowed := true }
def KdfStepsUptoSaid : Prop := kdfStepsUptoRow.holds Tryz.pinned (OpenSpec.upto kdfStepsSpec)

/-- 'pursuivantlaw06.KdfFours', WHERE WHAT IT READS IS OF BULK AT MOST 1048576: true; the input reads as it did. -/
def kdfFoursUptoRow : OpenClaim := { program := "ytmgelikgcfjhhaagreat", sum := "21987a6487f196c83dcb984f54aa42fce8ba59e52877ebaebc5d02dcea65bade", func := "pursuivant/pursuivantlaw06.KdfFours", spec := "kdfFours", unfollowed := true, recurses := true, apart := false, narrowed := true }
def KdfFoursUptoSaid : Prop := kdfFoursUptoRow.holds Tryz.pinned (OpenSpec.upto kdfFoursSpec)

/-- 'pursuivantlaw06.KdfMeets', WHERE WHAT IT READS IS OF BULK AT MOST 1048576: true; the input reads as it did. -/
def kdfMeetsUptoRow : OpenClaim := { program := "ytmgelikgcfjhhaagreat", sum := "21987a6487f196c83dcb984f54aa42fce8ba59e52877ebaebc5d02dcea65bade", func := "pursuivant/pursuivantlaw06.KdfMeets", spec := "kdfMeets", unfollowed := true, recurses := true, apart := false, narrowed := true }
def KdfMeetsUptoSaid : Prop := kdfMeetsUptoRow.holds Tryz.pinned (OpenSpec.upto kdfMeetsSpec)

end Rows
end Go.Proofs.YtmgelikgcfjhhaaGreat
