/- What the statement's own call without arguments comes to: it is run by the reading. -/
import Derived.Test.YtpplghkjadogfacGreatClnP27
import Derived.Test.YtpplghkjadogfacGreatRows
import Derived.WalkKit
import Derived.ProofKit
import Derived.Below
namespace Go.Proofs.YtpplghkjadogfacGreat
open Go.ChangeShapes Go.WideShapes Go.ChangeAt Go.RowKit
namespace kn
set_option maxRecDepth 100000
theorem pg : Go.Cln.PG Tryz.prog := Go.Cln.PG.of (by decide +kernel)
theorem knownRuns : ((Go.Cln.mk Tryz.prog Go.Cln.Given.nothing 300).call 4 [] (Go.Cln.St.start 0 .leaf [])).map (fun r => (r.1, r.2.obl)) = some (.bool true, True) := by kernel_rfl
theorem known (W : World) : Calls Tryz.prog 4 #[] W fun e w' => e = .returned (.bool true) ∧ Below W.heap.size W w' := Go.Cln.ran pg (Go.Cln.GivenOk.nothing _) knownRuns trivial rfl rfl W
end kn
end Go.Proofs.YtpplghkjadogfacGreat
