/- What the functions of this layer come to: read off their code by the clean reading, loops by induction. -/
import Derived.Test.YtjogcdimpglpbaaGreatClnYM0
import Derived.Test.YtjogcdimpglpbaaGreatClnYM1
import Derived.Test.YtjogcdimpglpbaaGreatClnYM2
import Derived.Test.YtjogcdimpglpbaaGreatClnYM3
import Derived.Test.YtjogcdimpglpbaaGreatClnYM4
import Derived.Test.YtjogcdimpglpbaaGreatClnYM5
import Derived.Test.YtjogcdimpglpbaaGreatClnYM6
set_option linter.unusedVariables false
set_option linter.unusedSimpArgs false
set_option linter.deprecated false
set_option maxRecDepth 100000
namespace Go.Proofs.YtjogcdimpglpbaaGreat
open Go.ChangeShapes Go.WideShapes Go.ChangeAt Go.RowKit Go.Cln
namespace ae
noncomputable section
def TP : List (TellP Tryz.prog) := [M0, M1, M2, M3, M4, M5, M6]
def K9 : Given := Given.reads (Given.calls F9) (lookP TP)
theorem knownRuns : ((mk Tryz.prog K9 400).call 10 [] (St.start 0 .leaf [])).map (fun r => (r.1, r.2.obl)) = some (.bool true, True) := by kernel_rfl
theorem known (W : World) : Calls Tryz.prog 10 #[] W fun e w' => e = .returned (.bool true) ∧ Below W.heap.size W w' := ran pg (GivenOk.tellP F9_ok.given TP) knownRuns trivial rfl rfl W
end
end ae
end Go.Proofs.YtjogcdimpglpbaaGreat
