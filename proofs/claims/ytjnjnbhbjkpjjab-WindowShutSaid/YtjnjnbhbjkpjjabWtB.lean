/- A window that is shut: what one of its ways asks. -/
import Derived.Test.YtjnjnbhbjkpjjabRows
import Derived.Test.YtjnjnbhbjkpjjabClnP27
import Derived.WalkKit
import Derived.ProofKit
import Derived.Below
import Derived.IntWalk
import Derived.Test.YtjnjnbhbjkpjjabWsB
namespace Go.Proofs.Ytjnjnbhbjkpjjab
open Go.ChangeShapes Go.WideShapes Go.ChangeAt Go.RowKit
namespace ws
set_option linter.unusedVariables false
set_option linter.unusedSimpArgs false
set_option maxRecDepth 100000
theorem allB (a : Int) (h1 : 1 ≤ a) (h2 : a ≤ 65535) : allP (dsB a) := by
  unfold dsB
  repeat' apply And.intro
  all_goals first
    | trivial
    | (simp only [decide_eq_true_eq, decide_eq_false_iff_not]; omega)
    | (rw [IntKind.wrap_i64]; omega)
    | (simp only [Bool.not_eq_false', Bool.not_eq_true', beq_iff_eq, beq_eq_false_iff_ne, ne_eq]; omega)
    | (simp; done)
    | (simp; rw [Bool.eq_iff_iff]; simp only [beq_iff_eq]; omega)
    | (simp; omega)

end ws
end Go.Proofs.Ytjnjnbhbjkpjjab
