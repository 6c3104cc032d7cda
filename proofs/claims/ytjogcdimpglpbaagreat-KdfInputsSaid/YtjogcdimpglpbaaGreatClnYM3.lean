/- What the functions of this layer come to: read off their code by the clean reading, loops by induction. -/
import Derived.Test.YtjogcdimpglpbaaGreatClnYK
set_option linter.unusedVariables false
set_option linter.unusedSimpArgs false
set_option linter.deprecated false
set_option maxRecDepth 100000
namespace Go.Proofs.YtjogcdimpglpbaaGreat
open Go.ChangeShapes Go.WideShapes Go.ChangeAt Go.RowKit Go.Cln
namespace ae
noncomputable section
theorem p3 : ((mk Tryz.prog (Given.calls F9) 400).call 94 (P0 0 0 :: [(.agg #[(.int .u8 1), (.int .u8 84), (.int .u8 67), (.int .u8 80), (.int .u8 45), (.int .u8 65), (.int .u8 79), (.int .u8 0), (.int .u8 0), (.int .u8 0), (.int .u8 1), (.int .u8 0), (.int .u8 0), (.int .u8 0), (.int .u8 0), (.int .u8 0)])]) (St.start 1 (litHeap KC1) [])).map (fun r => (r.1, r.2.obl)) = some ((.tuple #[(.agg #[(.int .u8 200), (.int .u8 111), (.int .u8 146), (.int .u8 154), (.int .u8 88), (.int .u8 174), (.int .u8 103), (.int .u8 205), (.int .u8 5), (.int .u8 60), (.int .u8 24), (.int .u8 121), (.int .u8 89), (.int .u8 43), (.int .u8 185), (.int .u8 23)]), (.int .i64 0)]), True) := by kernel_rfl
def M3 : TellP Tryz.prog := ⟨94, KC1, [(.agg #[(.int .u8 1), (.int .u8 84), (.int .u8 67), (.int .u8 80), (.int .u8 45), (.int .u8 65), (.int .u8 79), (.int .u8 0), (.int .u8 0), (.int .u8 0), (.int .u8 1), (.int .u8 0), (.int .u8 0), (.int .u8 0), (.int .u8 0), (.int .u8 0)])], (.tuple #[(.agg #[(.int .u8 200), (.int .u8 111), (.int .u8 146), (.int .u8 154), (.int .u8 88), (.int .u8 174), (.int .u8 103), (.int .u8 205), (.int .u8 5), (.int .u8 60), (.int .u8 24), (.int .u8 121), (.int .u8 89), (.int .u8 43), (.int .u8 185), (.int .u8 23)]), (.int .i64 0)]), ⟨rfl, rfl, rfl⟩, ranP pg F9_ok.given p3 trivial rfl rfl rfl⟩
end
end ae
end Go.Proofs.YtjogcdimpglpbaaGreat
