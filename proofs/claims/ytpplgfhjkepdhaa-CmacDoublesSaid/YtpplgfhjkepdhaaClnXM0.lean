/- What the functions of this layer come to: read off their code by the clean reading, loops by induction. -/
import Derived.Test.YtpplgfhjkepdhaaClnXK
set_option linter.unusedVariables false
set_option linter.unusedSimpArgs false
set_option linter.deprecated false
set_option maxRecDepth 100000
namespace Go.Proofs.Ytpplgfhjkepdhaa
open Go.ChangeShapes Go.WideShapes Go.ChangeAt Go.RowKit Go.Cln
namespace ae
noncomputable section
theorem p0 : ((mk Try.prog (Given.calls F9) 400).call 25 (P0 0 0 :: [(.agg #[(.int .u8 0), (.int .u8 0), (.int .u8 0), (.int .u8 0), (.int .u8 0), (.int .u8 0), (.int .u8 0), (.int .u8 0), (.int .u8 0), (.int .u8 0), (.int .u8 0), (.int .u8 0), (.int .u8 0), (.int .u8 0), (.int .u8 0), (.int .u8 0)])]) (St.start 1 (litHeap KC) [])).map (fun r => (r.1, r.2.obl)) = some ((.tuple #[(.agg #[(.int .u8 125), (.int .u8 247), (.int .u8 107), (.int .u8 12), (.int .u8 26), (.int .u8 184), (.int .u8 153), (.int .u8 179), (.int .u8 62), (.int .u8 66), (.int .u8 240), (.int .u8 71), (.int .u8 185), (.int .u8 27), (.int .u8 84), (.int .u8 111)]), (.int .i64 0)]), True) := by kernel_rfl
def M0 : TellP Try.prog := ⟨25, KC, [(.agg #[(.int .u8 0), (.int .u8 0), (.int .u8 0), (.int .u8 0), (.int .u8 0), (.int .u8 0), (.int .u8 0), (.int .u8 0), (.int .u8 0), (.int .u8 0), (.int .u8 0), (.int .u8 0), (.int .u8 0), (.int .u8 0), (.int .u8 0), (.int .u8 0)])], (.tuple #[(.agg #[(.int .u8 125), (.int .u8 247), (.int .u8 107), (.int .u8 12), (.int .u8 26), (.int .u8 184), (.int .u8 153), (.int .u8 179), (.int .u8 62), (.int .u8 66), (.int .u8 240), (.int .u8 71), (.int .u8 185), (.int .u8 27), (.int .u8 84), (.int .u8 111)]), (.int .i64 0)]), ⟨rfl, rfl, rfl⟩, ranP pg F9_ok.given p0 trivial rfl rfl rfl⟩
end
end ae
end Go.Proofs.Ytpplgfhjkepdhaa
