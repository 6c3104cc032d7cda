/- What the functions of this layer come to: read off their code by the clean reading, loops by induction. -/
import Derived.Test.YtjogcdimpglpbaaGreatClnYK
set_option linter.unusedVariables false
set_option linter.unusedSimpArgs false
set_option linter.deprecated false
set_option maxRecDepth 100000
namespace Go.Proofs.YtjogcdimpglpbaaGreat
open Go.ChangeShapes Go.WideShapes Go.ChangeAt Go.RowKit Go.Cln
namespace ae
noncomputable section
theorem p1 : ((mk Tryz.prog (Given.calls F9) 400).call 94 (P0 0 0 :: [(.agg #[(.int .u8 240), (.int .u8 37), (.int .u8 47), (.int .u8 83), (.int .u8 190), (.int .u8 40), (.int .u8 176), (.int .u8 238), (.int .u8 33), (.int .u8 51), (.int .u8 233), (.int .u8 103), (.int .u8 40), (.int .u8 208), (.int .u8 172), (.int .u8 63)])]) (St.start 1 (litHeap KC0) [])).map (fun r => (r.1, r.2.obl)) = some ((.tuple #[(.agg #[(.int .u8 41), (.int .u8 54), (.int .u8 42), (.int .u8 27), (.int .u8 72), (.int .u8 245), (.int .u8 213), (.int .u8 164), (.int .u8 244), (.int .u8 180), (.int .u8 134), (.int .u8 110), (.int .u8 11), (.int .u8 124), (.int .u8 125), (.int .u8 164)]), (.int .i64 0)]), True) := by kernel_rfl
def M1 : TellP Tryz.prog := ⟨94, KC0, [(.agg #[(.int .u8 240), (.int .u8 37), (.int .u8 47), (.int .u8 83), (.int .u8 190), (.int .u8 40), (.int .u8 176), (.int .u8 238), (.int .u8 33), (.int .u8 51), (.int .u8 233), (.int .u8 103), (.int .u8 40), (.int .u8 208), (.int .u8 172), (.int .u8 63)])], (.tuple #[(.agg #[(.int .u8 41), (.int .u8 54), (.int .u8 42), (.int .u8 27), (.int .u8 72), (.int .u8 245), (.int .u8 213), (.int .u8 164), (.int .u8 244), (.int .u8 180), (.int .u8 134), (.int .u8 110), (.int .u8 11), (.int .u8 124), (.int .u8 125), (.int .u8 164)]), (.int .i64 0)]), ⟨rfl, rfl, rfl⟩, ranP pg F9_ok.given p1 trivial rfl rfl rfl⟩
end
end ae
end Go.Proofs.YtjogcdimpglpbaaGreat
