/- What the functions of this layer come to: read off their code by the clean reading, loops by induction. -/
import Derived.Test.YtpplgfhjkepdhaaClnXK
set_option linter.unusedVariables false
set_option linter.unusedSimpArgs false
set_option linter.deprecated false
set_option maxRecDepth 100000
namespace Go.Proofs.Ytpplgfhjkepdhaa
open Go.ChangeShapes Go.WideShapes Go.ChangeAt Go.RowKit Go.Cln
namespace ae
noncomputable section
theorem p1 : ((mk Try.prog (Given.calls F9) 400).call 25 (P0 0 0 :: [(.agg #[(.int .u8 119), (.int .u8 221), (.int .u8 172), (.int .u8 48), (.int .u8 106), (.int .u8 226), (.int .u8 102), (.int .u8 204), (.int .u8 249), (.int .u8 11), (.int .u8 193), (.int .u8 30), (.int .u8 228), (.int .u8 109), (.int .u8 81), (.int .u8 59)])]) (St.start 1 (litHeap KC) [])).map (fun r => (r.1, r.2.obl)) = some ((.tuple #[(.agg #[(.int .u8 187), (.int .u8 29), (.int .u8 105), (.int .u8 41), (.int .u8 233), (.int .u8 89), (.int .u8 55), (.int .u8 40), (.int .u8 127), (.int .u8 163), (.int .u8 125), (.int .u8 18), (.int .u8 155), (.int .u8 117), (.int .u8 103), (.int .u8 70)]), (.int .i64 0)]), True) := by kernel_rfl
def M1 : TellP Try.prog := ⟨25, KC, [(.agg #[(.int .u8 119), (.int .u8 221), (.int .u8 172), (.int .u8 48), (.int .u8 106), (.int .u8 226), (.int .u8 102), (.int .u8 204), (.int .u8 249), (.int .u8 11), (.int .u8 193), (.int .u8 30), (.int .u8 228), (.int .u8 109), (.int .u8 81), (.int .u8 59)])], (.tuple #[(.agg #[(.int .u8 187), (.int .u8 29), (.int .u8 105), (.int .u8 41), (.int .u8 233), (.int .u8 89), (.int .u8 55), (.int .u8 40), (.int .u8 127), (.int .u8 163), (.int .u8 125), (.int .u8 18), (.int .u8 155), (.int .u8 117), (.int .u8 103), (.int .u8 70)]), (.int .i64 0)]), ⟨rfl, rfl, rfl⟩, ranP pg F9_ok.given p1 trivial rfl rfl rfl⟩
end
end ae
end Go.Proofs.Ytpplgfhjkepdhaa
