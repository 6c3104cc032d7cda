/-
  No cell of these rows narrows 'for every input' (looked for: loops, veiled, ifaces, maps, wideKeys, modest, calm, conditions, laid).
  DERIVED. THE GIVEN ROWS OF THIS SEAT. 2 by the template 'for every input the law returns true; each argument reads behind the call as it read before'; 0 by the template 'total and deterministic' (their statements: YthpoeegoankpoaaGreatTotals.lean).
  GIVEN WITH THE SEED: the statements are not yours to turn. If you find one false, say at which input.
  Laid BY PROGRAM, IN A SANDBOX (cutbox-rows.mjs): the forced cells as the released guide's own fill.sh prints them over the translation bab21819f060340d… (all of the seat's roots in one cut). By AI agents, Wed Nov 11 2026. No macro, syntax, notation, axiom, sorry.
-/
import Derived.Test.YthpoeegoankpoaaGreatChecked
import GoSem.Claim
import GoSem.ClaimJoined
import GoSem.ClaimMapViews
import Derived.JoinedTies
import Derived.KernelRfl
namespace Go.Proofs.YthpoeegoankpoaaGreat
/- THE CELL 'sum', in the pinned program and in every row, IS THE sha256 OF THE DUMP (.gsa) THAT YthpoeegoankpoaaGreatProg.lean LOADS. Nothing in Lean hashes anything: it is a label: what it is worth is what the hold of that sum in a sandbox is worth. -/
noncomputable def Tryz.pinned : Pinned := { name := "ythpoeegoankpoaagreat", sum := "bab21819f060340d1555ccacf372fb3028a7b93b8558c8e3fa485844cb064adc", checked := Tryz.checked }
namespace Rows
def none {H : Type} : Left H := { results := [], args := [] }

/-- 'pursuivantlaw23.PolicyFits': WHATEVER THE INPUT: true; the input reads as it did. -/
def policyFitsSpec : ChangeSpec := { name := "policyFits", fn := fun _ => fun
  | [d1, d2, d3, d4] => { results := [.lit (.bool true)], args := [d1, d2, d3, d4] }
  | _ => none }
def policyFitsRow : OpenClaim := { program := "ythpoeegoankpoaagreat", sum := "bab21819f060340d1555ccacf372fb3028a7b93b8558c8e3fa485844cb064adc", func := "pursuivant/pursuivantlaw23.PolicyFits", spec := "policyFits", inPlace := ["slices.overlaps[uint32]", "slices.overlaps[pursuivant/api.Leg]"], unfollowed := true, recurses := true, apart := false }
def PolicyFitsSaid : Prop := policyFitsRow.holds Tryz.pinned (OpenSpec.ofChange policyFitsSpec)

/-- ITS FALSE NEIGHBOUR: 'it returns false'. Refute it at one input. -/
def policyFitsWrong : ChangeSpec := { name := "policyFits", fn := fun _ => fun
  | [d1, d2, d3, d4] => { results := [.lit (.bool false)], args := [d1, d2, d3, d4] }
  | _ => none }
def PolicyFitsWrongFalsely : Prop := policyFitsRow.holds Tryz.pinned (OpenSpec.ofChange policyFitsWrong)

/-- 'pursuivantlaw23.PolicySame': WHATEVER THE INPUT: true; the input reads as it did. -/
def policySameSpec : ChangeSpec := { name := "policySame", fn := fun _ => fun
  | [d1, d2] => { results := [.lit (.bool true)], args := [d1, d2] }
  | _ => none }
def policySameRow : OpenClaim := { program := "ythpoeegoankpoaagreat", sum := "bab21819f060340d1555ccacf372fb3028a7b93b8558c8e3fa485844cb064adc", func := "pursuivant/pursuivantlaw23.PolicySame", spec := "policySame", inPlace := ["slices.overlaps[uint32]", "slices.overlaps[pursuivant/api.Leg]"], unfollowed := true, recurses := true, apart := false }
def PolicySameSaid : Prop := policySameRow.holds Tryz.pinned (OpenSpec.ofChange policySameSpec)

/-- ITS FALSE NEIGHBOUR: 'it returns false'. Refute it at one input. -/
def policySameWrong : ChangeSpec := { name := "policySame", fn := fun _ => fun
  | [d1, d2] => { results := [.lit (.bool false)], args := [d1, d2] }
  | _ => none }
def PolicySameWrongFalsely : Prop := policySameRow.holds Tryz.pinned (OpenSpec.ofChange policySameWrong)

/- THE SECOND FORM. 'bulk': how many values and letters a reading holds, each counted each time it is reached (what is shared counts as often as it is met; a slice's spare places count too). A statement '..UptoSaid' is the law's where the arguments, and the package variables that the reading takes, are together of bulk at most 1048576: NARROWER than '..Said'. Prove '..Said' where nothing that the law and all that it calls make is longer than what came in: it says more and counts as full. Else prove '..UptoSaid'. A law counts once. -/
mutual
def uptoBulk {H : Type} : DataW H → Nat
  | .lit (.string bytes) => bytes.length + 1
  | .lit _ => 1
  | .nil => 1
  | .ptr d => uptoBulk d + 1
  | .slice elems spare => uptoBulkAll elems + uptoBulkAll spare + 1
  | .agg parts => uptoBulkAll parts + 1
  | .iface _ d => uptoBulk d + 1
  | .map entries => uptoBulkEntries entries + 1
  | .held _ => 1
def uptoBulkAll {H : Type} : List (DataW H) → Nat
  | [] => 0
  | d :: r => uptoBulk d + uptoBulkAll r
def uptoBulkEntries {H : Type} : List (Lit × DataW H) → Nat
  | [] => 0
  | x :: r => uptoBulkEntry x + uptoBulkEntries r
def uptoBulkEntry {H : Type} : Lit × DataW H → Nat
  | (.string bytes, d) => bytes.length + uptoBulk d + 1
  | (_, d) => uptoBulk d + 1
 end
def uptoSmall : (H : Type) → List (DataW H) → Bool := fun _ ds => decide (uptoBulkAll ds ≤ 1048576)
def OpenSpec.upto (s : _root_.Go.ChangeSpec) : _root_.Go.OpenSpec := { _root_.Go.OpenSpec.ofChange s with cond := some uptoSmall }

/-- 'pursuivantlaw23.PolicyFits', WHERE WHAT IT READS IS OF BULK AT MOST 1048576: true; the input reads as it did. -/
def policyFitsUptoRow : OpenClaim := { program := "ythpoeegoankpoaagreat", sum := "bab21819f060340d1555ccacf372fb3028a7b93b8558c8e3fa485844cb064adc", func := "pursuivant/pursuivantlaw23.PolicyFits", spec := "policyFits", inPlace := ["slices.overlaps[uint32]", "slices.overlaps[pursuivant/api.Leg]"], unfollowed := true, recurses := true, apart := false, narrowed := true }
def PolicyFitsUptoSaid : Prop := policyFitsUptoRow.holds Tryz.pinned (OpenSpec.upto policyFitsSpec)

/-- 'pursuivantlaw23.PolicySame', WHERE WHAT IT READS IS OF BULK AT MOST 1048576: true; the input reads as it did. -/
def policySameUptoRow : OpenClaim := { program := "ythpoeegoankpoaagreat", sum := "bab21819f060340d1555ccacf372fb3028a7b93b8558c8e3fa485844cb064adc", func := "pursuivant/pursuivantlaw23.PolicySame", spec := "policySame", inPlace := ["slices.overlaps[uint32]", "slices.overlaps[pursuivant/api.Leg]"], unfollowed := true, recurses := true, apart := false, narrowed := true }
def PolicySameUptoSaid : Prop := policySameUptoRow.holds Tryz.pinned (OpenSpec.upto policySameSpec)

end Rows
end Go.Proofs.YthpoeegoankpoaaGreat
