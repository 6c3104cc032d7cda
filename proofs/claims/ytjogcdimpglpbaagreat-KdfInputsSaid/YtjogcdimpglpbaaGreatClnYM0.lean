/- What the functions of this layer come to: read off their code by the clean reading, loops by induction. -/
import Derived.Test.YtjogcdimpglpbaaGreatClnYK
set_option linter.unusedVariables false
set_option linter.unusedSimpArgs false
set_option linter.deprecated false
set_option maxRecDepth 100000
namespace Go.Proofs.YtjogcdimpglpbaaGreat
open Go.ChangeShapes Go.WideShapes Go.ChangeAt Go.RowKit Go.Cln
namespace ae
noncomputable section
theorem p0 : ((mk Tryz.prog (Given.calls F9) 400).call 94 (P0 0 0 :: [(.agg #[(.int .u8 0), (.int .u8 0), (.int .u8 0), (.int .u8 0), (.int .u8 0), (.int .u8 0), (.int .u8 0), (.int .u8 0), (.int .u8 0), (.int .u8 0), (.int .u8 0), (.int .u8 0), (.int .u8 0), (.int .u8 0), (.int .u8 0), (.int .u8 0)])]) (St.start 1 (litHeap KC0) [])).map (fun r => (r.1, r.2.obl)) = some ((.tuple #[(.agg #[(.int .u8 102), (.int .u8 233), (.int .u8 75), (.int .u8 212), (.int .u8 239), (.int .u8 138), (.int .u8 44), (.int .u8 59), (.int .u8 136), (.int .u8 76), (.int .u8 250), (.int .u8 89), (.int .u8 202), (.int .u8 52), (.int .u8 43), (.int .u8 46)]), (.int .i64 0)]), True) := by kernel_rfl
def M0 : TellP Tryz.prog := ⟨94, KC0, [(.agg #[(.int .u8 0), (.int .u8 0), (.int .u8 0), (.int .u8 0), (.int .u8 0), (.int .u8 0), (.int .u8 0), (.int .u8 0), (.int .u8 0), (.int .u8 0), (.int .u8 0), (.int .u8 0), (.int .u8 0), (.int .u8 0), (.int .u8 0), (.int .u8 0)])], (.tuple #[(.agg #[(.int .u8 102), (.int .u8 233), (.int .u8 75), (.int .u8 212), (.int .u8 239), (.int .u8 138), (.int .u8 44), (.int .u8 59), (.int .u8 136), (.int .u8 76), (.int .u8 250), (.int .u8 89), (.int .u8 202), (.int .u8 52), (.int .u8 43), (.int .u8 46)]), (.int .i64 0)]), ⟨rfl, rfl, rfl⟩, ranP pg F9_ok.given p0 trivial rfl rfl rfl⟩
end
end ae
end Go.Proofs.YtjogcdimpglpbaaGreat
