/- What the functions of this layer come to: read off their code by the clean reading, loops by induction. -/
import Derived.Test.YtpplgfhjkepdhaaClnXK
set_option linter.unusedVariables false
set_option linter.unusedSimpArgs false
set_option linter.deprecated false
set_option maxRecDepth 100000
namespace Go.Proofs.Ytpplgfhjkepdhaa
open Go.ChangeShapes Go.WideShapes Go.ChangeAt Go.RowKit Go.Cln
namespace ae
noncomputable section
theorem p2 : ((mk Try.prog (Given.calls F9) 400).call 25 (P0 0 0 :: [(.agg #[(.int .u8 144), (.int .u8 47), (.int .u8 104), (.int .u8 250), (.int .u8 27), (.int .u8 49), (.int .u8 172), (.int .u8 240), (.int .u8 149), (.int .u8 184), (.int .u8 158), (.int .u8 158), (.int .u8 1), (.int .u8 165), (.int .u8 191), (.int .u8 244)])]) (St.start 1 (litHeap KC) [])).map (fun r => (r.1, r.2.obl)) = some ((.tuple #[(.agg #[(.int .u8 7), (.int .u8 10), (.int .u8 22), (.int .u8 180), (.int .u8 107), (.int .u8 77), (.int .u8 65), (.int .u8 68), (.int .u8 247), (.int .u8 155), (.int .u8 221), (.int .u8 157), (.int .u8 208), (.int .u8 74), (.int .u8 40), (.int .u8 124)]), (.int .i64 0)]), True) := by kernel_rfl
def M2 : TellP Try.prog := ⟨25, KC, [(.agg #[(.int .u8 144), (.int .u8 47), (.int .u8 104), (.int .u8 250), (.int .u8 27), (.int .u8 49), (.int .u8 172), (.int .u8 240), (.int .u8 149), (.int .u8 184), (.int .u8 158), (.int .u8 158), (.int .u8 1), (.int .u8 165), (.int .u8 191), (.int .u8 244)])], (.tuple #[(.agg #[(.int .u8 7), (.int .u8 10), (.int .u8 22), (.int .u8 180), (.int .u8 107), (.int .u8 77), (.int .u8 65), (.int .u8 68), (.int .u8 247), (.int .u8 155), (.int .u8 221), (.int .u8 157), (.int .u8 208), (.int .u8 74), (.int .u8 40), (.int .u8 124)]), (.int .i64 0)]), ⟨rfl, rfl, rfl⟩, ranP pg F9_ok.given p2 trivial rfl rfl rfl⟩
end
end ae
end Go.Proofs.Ytpplgfhjkepdhaa
