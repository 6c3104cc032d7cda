/- Conditions that come up again and again, told by their places. -/
import Derived.Test.YtjnjnbhbjkpjjabRows
import Derived.Test.YtjnjnbhbjkpjjabClnP27
import Derived.WalkKit
import Derived.ProofKit
import Derived.Below
import Derived.IntWalk

namespace Go.Proofs.Ytjnjnbhbjkpjjab
open Go.ChangeShapes Go.WideShapes Go.ChangeAt Go.RowKit
namespace ws
set_option linter.unusedVariables false
set_option linter.unusedSimpArgs false
set_option maxRecDepth 100000
def allP : List Prop → Prop
  | [] => True
  | c :: l => c ∧ allP l
def atP : List Prop → Nat → Prop
  | [], _ => True
  | c :: _, 0 => c
  | _ :: l, n + 1 => atP l n
def conjI (ds : List Prop) : List Nat → Prop → Prop
  | [], p => p
  | i :: l, p => conjI ds l (p ∧ atP ds i)
theorem atP_of : ∀ {ds : List Prop}, allP ds → ∀ i, atP ds i
  | [], _, _ => trivial
  | _ :: _, h, 0 => h.1
  | _ :: _, h, i + 1 => atP_of h.2 i
theorem conjI_of {ds : List Prop} (h : allP ds) : ∀ (l : List Nat) {p : Prop}, p → conjI ds l p
  | [], _, hp => hp
  | i :: l, _, hp => conjI_of h l ⟨hp, atP_of h i⟩
theorem pg : Go.Cln.PG Try.prog := Go.Cln.PG.of (by decide +kernel)
theorem knownRuns : ((Go.Cln.mk Try.prog Go.Cln.Given.nothing 200).call 8 [] (Go.Cln.St.start 0 .leaf [])).map (fun r => (r.1, r.2.obl)) = some (.bool true, True) := by kernel_rfl
theorem known (W : World) : Calls Try.prog 8 #[] W fun e w' => e = .returned (.bool true) ∧ Below W.heap.size W w' := Go.Cln.ran pg (Go.Cln.GivenOk.nothing _) knownRuns trivial rfl rfl W
def kn : Go.Cln.Given := { Go.Cln.Given.one 8 (.bool true) with fits := true }
theorem knOk : Go.Cln.GivenOk Try.prog kn := (Go.Cln.GivenOk.one (P := Try.prog) (f := 8) (v := .bool true) rfl known).fit

end ws
end Go.Proofs.Ytjnjnbhbjkpjjab
