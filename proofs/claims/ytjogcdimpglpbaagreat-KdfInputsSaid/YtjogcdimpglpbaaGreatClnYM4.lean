/- What the functions of this layer come to: read off their code by the clean reading, loops by induction. -/
import Derived.Test.YtjogcdimpglpbaaGreatClnYK
set_option linter.unusedVariables false
set_option linter.unusedSimpArgs false
set_option linter.deprecated false
set_option maxRecDepth 100000
namespace Go.Proofs.YtjogcdimpglpbaaGreat
open Go.ChangeShapes Go.WideShapes Go.ChangeAt Go.RowKit Go.Cln
namespace ae
noncomputable section
theorem p4 : ((mk Tryz.prog (Given.calls F9) 400).call 94 (P0 0 0 :: [(.agg #[(.int .u8 76), (.int .u8 30), (.int .u8 245), (.int .u8 126), (.int .u8 196), (.int .u8 109), (.int .u8 80), (.int .u8 75), (.int .u8 36), (.int .u8 219), (.int .u8 17), (.int .u8 47), (.int .u8 118), (.int .u8 156), (.int .u8 117), (.int .u8 218)])]) (St.start 1 (litHeap KC1) [])).map (fun r => (r.1, r.2.obl)) = some ((.tuple #[(.agg #[(.int .u8 127), (.int .u8 30), (.int .u8 149), (.int .u8 140), (.int .u8 107), (.int .u8 98), (.int .u8 143), (.int .u8 235), (.int .u8 166), (.int .u8 206), (.int .u8 124), (.int .u8 78), (.int .u8 148), (.int .u8 58), (.int .u8 164), (.int .u8 137)]), (.int .i64 0)]), True) := by kernel_rfl
def M4 : TellP Tryz.prog := ⟨94, KC1, [(.agg #[(.int .u8 76), (.int .u8 30), (.int .u8 245), (.int .u8 126), (.int .u8 196), (.int .u8 109), (.int .u8 80), (.int .u8 75), (.int .u8 36), (.int .u8 219), (.int .u8 17), (.int .u8 47), (.int .u8 118), (.int .u8 156), (.int .u8 117), (.int .u8 218)])], (.tuple #[(.agg #[(.int .u8 127), (.int .u8 30), (.int .u8 149), (.int .u8 140), (.int .u8 107), (.int .u8 98), (.int .u8 143), (.int .u8 235), (.int .u8 166), (.int .u8 206), (.int .u8 124), (.int .u8 78), (.int .u8 148), (.int .u8 58), (.int .u8 164), (.int .u8 137)]), (.int .i64 0)]), ⟨rfl, rfl, rfl⟩, ranP pg F9_ok.given p4 trivial rfl rfl rfl⟩
end
end ae
end Go.Proofs.YtjogcdimpglpbaaGreat
