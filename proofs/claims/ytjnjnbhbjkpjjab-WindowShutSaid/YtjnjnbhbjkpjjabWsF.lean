/- A window that is shut: one of its ways. -/
import Derived.Test.YtjnjnbhbjkpjjabRows
import Derived.Test.YtjnjnbhbjkpjjabClnP27
import Derived.WalkKit
import Derived.ProofKit
import Derived.Below
import Derived.IntWalk
import Derived.Test.YtjnjnbhbjkpjjabWsK
namespace Go.Proofs.Ytjnjnbhbjkpjjab
open Go.ChangeShapes Go.WideShapes Go.ChangeAt Go.RowKit
namespace ws
set_option linter.unusedVariables false
set_option linter.unusedSimpArgs false
set_option maxRecDepth 100000
theorem runF : ((Go.Cln.mk Try.prog kn 300).call 6 [.int .i64 0, .int .i64 1] (Go.Cln.St.start 0 .leaf [])).map (fun r => (r.1, r.2.obl)) = some (.bool true, True) := by kernel_rfl

end ws
end Go.Proofs.Ytjnjnbhbjkpjjab
