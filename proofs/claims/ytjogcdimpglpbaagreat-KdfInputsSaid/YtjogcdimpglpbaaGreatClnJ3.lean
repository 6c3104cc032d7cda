/- What the functions of this layer come to: read off their code by the clean reading, loops by induction. -/
import Derived.Test.YtjogcdimpglpbaaGreatClnI0
set_option linter.unusedVariables false
set_option linter.unusedSimpArgs false
set_option linter.deprecated false
set_option maxRecDepth 100000
namespace Go.Proofs.YtjogcdimpglpbaaGreat
open Go.ChangeShapes Go.WideShapes Go.ChangeAt Go.RowKit Go.Cln
namespace ki
theorem q6 (h : ∀ i, 1 ≤ i → i < 151 → Q i) : ∀ i, 1 ≤ i → i < 176 → Q i :=
  upTo (b := 175) (upTo (b := 174) (upTo (b := 173) (upTo (b := 172) (upTo (b := 171) (upTo (b := 170) (upTo (b := 169) (upTo (b := 168) (upTo (b := 167) (upTo (b := 166) (upTo (b := 165) (upTo (b := 164) (upTo (b := 163) (upTo (b := 162) (upTo (b := 161) (upTo (b := 160) (upTo (b := 159) (upTo (b := 158) (upTo (b := 157) (upTo (b := 156) (upTo (b := 155) (upTo (b := 154) (upTo (b := 153) (upTo (b := 152) (upTo (b := 151) (h) (by intro g c x; kernel_rfl)) (by intro g c x; kernel_rfl)) (by intro g c x; kernel_rfl)) (by intro g c x; kernel_rfl)) (by intro g c x; kernel_rfl)) (by intro g c x; kernel_rfl)) (by intro g c x; kernel_rfl)) (by intro g c x; kernel_rfl)) (by intro g c x; kernel_rfl)) (by intro g c x; kernel_rfl)) (by intro g c x; kernel_rfl)) (by intro g c x; kernel_rfl)) (by intro g c x; kernel_rfl)) (by intro g c x; kernel_rfl)) (by intro g c x; kernel_rfl)) (by intro g c x; kernel_rfl)) (by intro g c x; kernel_rfl)) (by intro g c x; kernel_rfl)) (by intro g c x; kernel_rfl)) (by intro g c x; kernel_rfl)) (by intro g c x; kernel_rfl)) (by intro g c x; kernel_rfl)) (by intro g c x; kernel_rfl)) (by intro g c x; kernel_rfl)) (by intro g c x; kernel_rfl)
end ki
end Go.Proofs.YtjogcdimpglpbaaGreat
set_option linter.unusedVariables false
set_option linter.unusedSimpArgs false
set_option linter.deprecated false
set_option maxRecDepth 100000
namespace Go.Proofs.YtjogcdimpglpbaaGreat
open Go.ChangeShapes Go.WideShapes Go.ChangeAt Go.RowKit Go.Cln
namespace ki
theorem q7 (h : ∀ i, 1 ≤ i → i < 176 → Q i) : ∀ i, 1 ≤ i → i < 201 → Q i :=
  upTo (b := 200) (upTo (b := 199) (upTo (b := 198) (upTo (b := 197) (upTo (b := 196) (upTo (b := 195) (upTo (b := 194) (upTo (b := 193) (upTo (b := 192) (upTo (b := 191) (upTo (b := 190) (upTo (b := 189) (upTo (b := 188) (upTo (b := 187) (upTo (b := 186) (upTo (b := 185) (upTo (b := 184) (upTo (b := 183) (upTo (b := 182) (upTo (b := 181) (upTo (b := 180) (upTo (b := 179) (upTo (b := 178) (upTo (b := 177) (upTo (b := 176) (h) (by intro g c x; kernel_rfl)) (by intro g c x; kernel_rfl)) (by intro g c x; kernel_rfl)) (by intro g c x; kernel_rfl)) (by intro g c x; kernel_rfl)) (by intro g c x; kernel_rfl)) (by intro g c x; kernel_rfl)) (by intro g c x; kernel_rfl)) (by intro g c x; kernel_rfl)) (by intro g c x; kernel_rfl)) (by intro g c x; kernel_rfl)) (by intro g c x; kernel_rfl)) (by intro g c x; kernel_rfl)) (by intro g c x; kernel_rfl)) (by intro g c x; kernel_rfl)) (by intro g c x; kernel_rfl)) (by intro g c x; kernel_rfl)) (by intro g c x; kernel_rfl)) (by intro g c x; kernel_rfl)) (by intro g c x; kernel_rfl)) (by intro g c x; kernel_rfl)) (by intro g c x; kernel_rfl)) (by intro g c x; kernel_rfl)) (by intro g c x; kernel_rfl)) (by intro g c x; kernel_rfl)
end ki
end Go.Proofs.YtjogcdimpglpbaaGreat
