/- Read off the code by the clean reading. -/
import Derived.Test.YtmgnpfapigenpaaClnWa
set_option linter.unusedVariables false
set_option linter.unusedSimpArgs false
set_option linter.deprecated false
set_option maxRecDepth 100000
namespace Go.Proofs.Ytmgnpfapigenpaa
open Go.ChangeShapes Go.WideShapes Go.ChangeAt Go.RowKit Go.Cln
namespace ha
set_option linter.unusedVariables false
noncomputable section
theorem knownRuns : ((mk Try.prog (Given.calls sw.F14) 300).call 8 [] (St.start 0 .leaf [])).map (fun r => (r.1, r.2.obl)) = some (.bool true, True) := by kernel_rfl
theorem known (W : World) : Calls Try.prog 8 #[] W fun e w' => e = .returned (.bool true) ∧ Below W.heap.size W w' := ran sw.pg sw.F14_ok knownRuns trivial rfl rfl W
end
end ha
end Go.Proofs.Ytmgnpfapigenpaa
