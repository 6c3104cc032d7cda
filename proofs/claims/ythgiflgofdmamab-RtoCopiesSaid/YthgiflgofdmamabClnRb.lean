/- Read off the code by the clean reading. -/
import Derived.Test.YthgiflgofdmamabClnR9
import Derived.Test.YthgiflgofdmamabRows
import Derived.WalkKit
import Derived.ProofKit
import Derived.Below
import Derived.IntWalk
set_option linter.unusedVariables false
set_option linter.unusedSimpArgs false
set_option linter.deprecated false
set_option maxRecDepth 100000
namespace Go.Proofs.Ythgiflgofdmamab
open Go.ChangeShapes Go.WideShapes Go.ChangeAt Go.RowKit Go.Cln
namespace rn
set_option linter.unusedVariables false
set_option linter.unusedSimpArgs false
noncomputable section
theorem ObV.rows {s2 : St} {n w : Nat} {g : Nat → List Value} {t1 t : TypeId} (h : ∀ i, (g i).all flat0 = true) : ObV s2 id (.cells (.rows n w g) t1) (.cells (.rows n w g) t) :=
  .ints fun i v hv => ⟨hv, by
    simp only [Cells.get] at hv
    split at hv
    · exact List.all_eq_true.1 (h _) v (List.mem_of_getElem? hv)
    · cases hv⟩
noncomputable def ad (i : Nat) : Nat := 0 + ((i : Int)).toNat * 3
noncomputable def aq (i : Nat) : Nat := ad i / 3
noncomputable def nx (F : StepT) (S : Scr) (w : Clk) (i : Nat) : Clk := F ⟨w.fi, w.le, w.mo, w.tr, w.an, w.sm, w.sp, w.wa, w.td, w.ru, w.si⟩ (S.k (aq i)) (S.n (aq i)) (S.b (aq i))
end

end rn
end Go.Proofs.Ythgiflgofdmamab
