/- Read off the code by the clean reading. -/
import Derived.Test.YtkcngffpnnlmeaaClnEm
import Derived.Test.YtkcngffpnnlmeaaClnQc
set_option linter.unusedVariables false
set_option linter.unusedSimpArgs false
set_option linter.deprecated false
set_option maxRecDepth 100000
namespace Go.Proofs.Ytkcngffpnnlmeaa
open Go.ChangeShapes Go.WideShapes Go.ChangeAt Go.RowKit Go.Cln
namespace ae
set_option linter.unusedVariables false
noncomputable section
theorem p0 : ((mk Try.prog (Given.calls F9) 400).call 22 (P0 0 0 :: [(.agg #[(.int .u8 0), (.int .u8 0), (.int .u8 0), (.int .u8 0), (.int .u8 0), (.int .u8 0), (.int .u8 0), (.int .u8 0), (.int .u8 0), (.int .u8 0), (.int .u8 0), (.int .u8 0), (.int .u8 0), (.int .u8 0), (.int .u8 0), (.int .u8 0)])]) (St.start 1 (litHeap KC) [])).map (fun r => (r.1, r.2.obl)) = some ((.tuple #[(.agg #[(.int .u8 125), (.int .u8 247), (.int .u8 107), (.int .u8 12), (.int .u8 26), (.int .u8 184), (.int .u8 153), (.int .u8 179), (.int .u8 62), (.int .u8 66), (.int .u8 240), (.int .u8 71), (.int .u8 185), (.int .u8 27), (.int .u8 84), (.int .u8 111)]), (.int .i64 0)]), True) := by kernel_rfl
def M0 : TellP Try.prog := ⟨22, KC, [(.agg #[(.int .u8 0), (.int .u8 0), (.int .u8 0), (.int .u8 0), (.int .u8 0), (.int .u8 0), (.int .u8 0), (.int .u8 0), (.int .u8 0), (.int .u8 0), (.int .u8 0), (.int .u8 0), (.int .u8 0), (.int .u8 0), (.int .u8 0), (.int .u8 0)])], (.tuple #[(.agg #[(.int .u8 125), (.int .u8 247), (.int .u8 107), (.int .u8 12), (.int .u8 26), (.int .u8 184), (.int .u8 153), (.int .u8 179), (.int .u8 62), (.int .u8 66), (.int .u8 240), (.int .u8 71), (.int .u8 185), (.int .u8 27), (.int .u8 84), (.int .u8 111)]), (.int .i64 0)]), ⟨rfl, rfl, rfl⟩, ranP pg F9_ok.given p0 trivial rfl rfl rfl⟩
end
end ae
end Go.Proofs.Ytkcngffpnnlmeaa
namespace Go.Proofs.Ytkcngffpnnlmeaa
open Go.ChangeShapes Go.WideShapes Go.ChangeAt Go.RowKit Go.Cln
namespace ae
set_option linter.unusedVariables false
noncomputable section
theorem p1 : ((mk Try.prog (Given.calls F9) 400).call 22 (P0 0 0 :: [(.agg #[(.int .u8 119), (.int .u8 221), (.int .u8 172), (.int .u8 48), (.int .u8 106), (.int .u8 226), (.int .u8 102), (.int .u8 204), (.int .u8 249), (.int .u8 11), (.int .u8 193), (.int .u8 30), (.int .u8 228), (.int .u8 109), (.int .u8 81), (.int .u8 59)])]) (St.start 1 (litHeap KC) [])).map (fun r => (r.1, r.2.obl)) = some ((.tuple #[(.agg #[(.int .u8 187), (.int .u8 29), (.int .u8 105), (.int .u8 41), (.int .u8 233), (.int .u8 89), (.int .u8 55), (.int .u8 40), (.int .u8 127), (.int .u8 163), (.int .u8 125), (.int .u8 18), (.int .u8 155), (.int .u8 117), (.int .u8 103), (.int .u8 70)]), (.int .i64 0)]), True) := by kernel_rfl
def M1 : TellP Try.prog := ⟨22, KC, [(.agg #[(.int .u8 119), (.int .u8 221), (.int .u8 172), (.int .u8 48), (.int .u8 106), (.int .u8 226), (.int .u8 102), (.int .u8 204), (.int .u8 249), (.int .u8 11), (.int .u8 193), (.int .u8 30), (.int .u8 228), (.int .u8 109), (.int .u8 81), (.int .u8 59)])], (.tuple #[(.agg #[(.int .u8 187), (.int .u8 29), (.int .u8 105), (.int .u8 41), (.int .u8 233), (.int .u8 89), (.int .u8 55), (.int .u8 40), (.int .u8 127), (.int .u8 163), (.int .u8 125), (.int .u8 18), (.int .u8 155), (.int .u8 117), (.int .u8 103), (.int .u8 70)]), (.int .i64 0)]), ⟨rfl, rfl, rfl⟩, ranP pg F9_ok.given p1 trivial rfl rfl rfl⟩
end
end ae
end Go.Proofs.Ytkcngffpnnlmeaa
namespace Go.Proofs.Ytkcngffpnnlmeaa
open Go.ChangeShapes Go.WideShapes Go.ChangeAt Go.RowKit Go.Cln
namespace ae
set_option linter.unusedVariables false
noncomputable section
theorem p2 : ((mk Try.prog (Given.calls F9) 400).call 22 (P0 0 0 :: [(.agg #[(.int .u8 144), (.int .u8 47), (.int .u8 104), (.int .u8 250), (.int .u8 27), (.int .u8 49), (.int .u8 172), (.int .u8 240), (.int .u8 149), (.int .u8 184), (.int .u8 158), (.int .u8 158), (.int .u8 1), (.int .u8 165), (.int .u8 191), (.int .u8 244)])]) (St.start 1 (litHeap KC) [])).map (fun r => (r.1, r.2.obl)) = some ((.tuple #[(.agg #[(.int .u8 7), (.int .u8 10), (.int .u8 22), (.int .u8 180), (.int .u8 107), (.int .u8 77), (.int .u8 65), (.int .u8 68), (.int .u8 247), (.int .u8 155), (.int .u8 221), (.int .u8 157), (.int .u8 208), (.int .u8 74), (.int .u8 40), (.int .u8 124)]), (.int .i64 0)]), True) := by kernel_rfl
def M2 : TellP Try.prog := ⟨22, KC, [(.agg #[(.int .u8 144), (.int .u8 47), (.int .u8 104), (.int .u8 250), (.int .u8 27), (.int .u8 49), (.int .u8 172), (.int .u8 240), (.int .u8 149), (.int .u8 184), (.int .u8 158), (.int .u8 158), (.int .u8 1), (.int .u8 165), (.int .u8 191), (.int .u8 244)])], (.tuple #[(.agg #[(.int .u8 7), (.int .u8 10), (.int .u8 22), (.int .u8 180), (.int .u8 107), (.int .u8 77), (.int .u8 65), (.int .u8 68), (.int .u8 247), (.int .u8 155), (.int .u8 221), (.int .u8 157), (.int .u8 208), (.int .u8 74), (.int .u8 40), (.int .u8 124)]), (.int .i64 0)]), ⟨rfl, rfl, rfl⟩, ranP pg F9_ok.given p2 trivial rfl rfl rfl⟩
end
end ae
end Go.Proofs.Ytkcngffpnnlmeaa
namespace Go.Proofs.Ytkcngffpnnlmeaa
open Go.ChangeShapes Go.WideShapes Go.ChangeAt Go.RowKit Go.Cln
namespace ae
set_option linter.unusedVariables false
noncomputable section
def TP : List (TellP Try.prog) := [M0, M1, M2]
def K9 : Given := Given.reads (Given.calls F9) (lookP TP)
theorem knownRuns : ((mk Try.prog K9 400).call 9 [] (St.start 0 .leaf [])).map (fun r => (r.1, r.2.obl)) = some (.bool true, True) := by kernel_rfl
theorem known (W : World) : Calls Try.prog 9 #[] W fun e w' => e = .returned (.bool true) ∧ Below W.heap.size W w' := ran pg (GivenOk.tellP F9_ok.given TP) knownRuns trivial rfl rfl W
end
end ae
end Go.Proofs.Ytkcngffpnnlmeaa
