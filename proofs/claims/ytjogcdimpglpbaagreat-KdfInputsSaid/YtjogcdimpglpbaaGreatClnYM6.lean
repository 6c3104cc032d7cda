/- What the functions of this layer come to: read off their code by the clean reading, loops by induction. -/
import Derived.Test.YtjogcdimpglpbaaGreatClnYK
set_option linter.unusedVariables false
set_option linter.unusedSimpArgs false
set_option linter.deprecated false
set_option maxRecDepth 100000
namespace Go.Proofs.YtjogcdimpglpbaaGreat
open Go.ChangeShapes Go.WideShapes Go.ChangeAt Go.RowKit Go.Cln
namespace ae
noncomputable section
theorem p6 : ((mk Tryz.prog (Given.calls F9) 400).call 94 (P0 0 0 :: [(.agg #[(.int .u8 24), (.int .u8 65), (.int .u8 182), (.int .u8 108), (.int .u8 143), (.int .u8 27), (.int .u8 21), (.int .u8 153), (.int .u8 30), (.int .u8 118), (.int .u8 251), (.int .u8 148), (.int .u8 254), (.int .u8 70), (.int .u8 181), (.int .u8 188)])]) (St.start 1 (litHeap KC1) [])).map (fun r => (r.1, r.2.obl)) = some ((.tuple #[(.agg #[(.int .u8 232), (.int .u8 126), (.int .u8 22), (.int .u8 127), (.int .u8 45), (.int .u8 222), (.int .u8 217), (.int .u8 60), (.int .u8 1), (.int .u8 160), (.int .u8 97), (.int .u8 234), (.int .u8 218), (.int .u8 228), (.int .u8 34), (.int .u8 224)]), (.int .i64 0)]), True) := by kernel_rfl
def M6 : TellP Tryz.prog := ⟨94, KC1, [(.agg #[(.int .u8 24), (.int .u8 65), (.int .u8 182), (.int .u8 108), (.int .u8 143), (.int .u8 27), (.int .u8 21), (.int .u8 153), (.int .u8 30), (.int .u8 118), (.int .u8 251), (.int .u8 148), (.int .u8 254), (.int .u8 70), (.int .u8 181), (.int .u8 188)])], (.tuple #[(.agg #[(.int .u8 232), (.int .u8 126), (.int .u8 22), (.int .u8 127), (.int .u8 45), (.int .u8 222), (.int .u8 217), (.int .u8 60), (.int .u8 1), (.int .u8 160), (.int .u8 97), (.int .u8 234), (.int .u8 218), (.int .u8 228), (.int .u8 34), (.int .u8 224)]), (.int .i64 0)]), ⟨rfl, rfl, rfl⟩, ranP pg F9_ok.given p6 trivial rfl rfl rfl⟩
end
end ae
end Go.Proofs.YtjogcdimpglpbaaGreat
