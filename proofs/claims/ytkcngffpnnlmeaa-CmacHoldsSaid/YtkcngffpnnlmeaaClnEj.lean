/- Read off the code by the clean reading. -/
import Derived.Test.YtkcngffpnnlmeaaClnEg
set_option linter.unusedVariables false
set_option linter.unusedSimpArgs false
set_option linter.deprecated false
set_option maxRecDepth 100000
namespace Go.Proofs.Ytkcngffpnnlmeaa
open Go.ChangeShapes Go.WideShapes Go.ChangeAt Go.RowKit Go.Cln
namespace ae
set_option linter.unusedVariables false
noncomputable section
theorem bx0 : (List.range 64).all (fun j => boxf ((fiN (0 + j) 256 0 : Nat) : Int) == BOX.getD (0 + j) 0) = true := by decide +kernel
end
end ae
end Go.Proofs.Ytkcngffpnnlmeaa
namespace Go.Proofs.Ytkcngffpnnlmeaa
open Go.ChangeShapes Go.WideShapes Go.ChangeAt Go.RowKit Go.Cln
namespace ae
set_option linter.unusedVariables false
noncomputable section
theorem bx1 : (List.range 64).all (fun j => boxf ((fiN (64 + j) 256 0 : Nat) : Int) == BOX.getD (64 + j) 0) = true := by decide +kernel
end
end ae
end Go.Proofs.Ytkcngffpnnlmeaa
namespace Go.Proofs.Ytkcngffpnnlmeaa
open Go.ChangeShapes Go.WideShapes Go.ChangeAt Go.RowKit Go.Cln
namespace ae
set_option linter.unusedVariables false
noncomputable section
theorem bx2 : (List.range 64).all (fun j => boxf ((fiN (128 + j) 256 0 : Nat) : Int) == BOX.getD (128 + j) 0) = true := by decide +kernel
end
end ae
end Go.Proofs.Ytkcngffpnnlmeaa
namespace Go.Proofs.Ytkcngffpnnlmeaa
open Go.ChangeShapes Go.WideShapes Go.ChangeAt Go.RowKit Go.Cln
namespace ae
set_option linter.unusedVariables false
noncomputable section
theorem bx3 : (List.range 64).all (fun j => boxf ((fiN (192 + j) 256 0 : Nat) : Int) == BOX.getD (192 + j) 0) = true := by decide +kernel
end
end ae
end Go.Proofs.Ytkcngffpnnlmeaa
