/- Read off the code by the clean reading. -/
import Derived.Test.YtiangelmpnnijaaClnFd
set_option linter.unusedVariables false
set_option linter.unusedSimpArgs false
set_option linter.deprecated false
set_option maxRecDepth 100000
namespace Go.Proofs.Ytiangelmpnnijaa
open Go.ChangeShapes Go.WideShapes Go.ChangeAt Go.RowKit Go.Cln
namespace ff
open fr fc fe
set_option linter.unusedVariables false
noncomputable section
def zs (i c : Nat) : Value := .slice (some ⟨i, 0, none⟩) 0 c
def cN (v1 : Value) (k : Nat) (a w : Int) (o : List (Option Bool)) : Option (Value × St) := (mk Try.prog (KF eF zf) 300).call 4 [v1, .int .i64 a, .int .u8 w] (St.start k .leaf o)
def cB (x : BX) (y : Y) (o : List (Option Bool)) : Option (Value × St) := (mk Try.prog (KF eF zf) 300).call 4 (aL y) (smSt 2 (hB x y) o)
def oNa : List (Option Bool) := [none, none, some true, none, none, none, none, some false]
def oNb : List (Option Bool) := [none, none, some false]
def pNa (a : Int) : Prop := (True ∧ decide (a ≥ 0) = true) ∧ decide (a < nI 0) = false
def pNb (a : Int) : Prop := True ∧ decide (a ≥ 0) = false
theorem nna (a w : Int) : (cN (.slice none 0 0) 0 a w oNa).map (fun r => (r.1, r.2.obl)) = some (.bool true, pNa a) := by kernel_rfl
theorem nnb (a w : Int) : (cN (.slice none 0 0) 0 a w oNb).map (fun r => (r.1, r.2.obl)) = some (.bool true, pNb a) := by kernel_rfl
theorem nza (a w : Int) (c : Nat) : (cN (zs 0 c) 1 a w oNa).map (fun r => (r.1, r.2.obl)) = some (.bool true, pNa a) := by kernel_rfl
theorem nzb (a w : Int) (c : Nat) : (cN (zs 0 c) 1 a w oNb).map (fun r => (r.1, r.2.obl)) = some (.bool true, pNb a) := by kernel_rfl
theorem big (x : BX) (y : Y) : (cB x y [some true]).map (fun r => (r.1, r.2.obl)) = some (.bool true, True ∧ decide (nI y.n > 6) = true) := by kernel_rfl
end
end ff
end Go.Proofs.Ytiangelmpnnijaa
