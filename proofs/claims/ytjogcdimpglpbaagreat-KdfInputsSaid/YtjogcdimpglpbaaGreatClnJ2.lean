/- What the functions of this layer come to: read off their code by the clean reading, loops by induction. -/
import Derived.Test.YtjogcdimpglpbaaGreatClnI0
set_option linter.unusedVariables false
set_option linter.unusedSimpArgs false
set_option linter.deprecated false
set_option maxRecDepth 100000
namespace Go.Proofs.YtjogcdimpglpbaaGreat
open Go.ChangeShapes Go.WideShapes Go.ChangeAt Go.RowKit Go.Cln
namespace ki
theorem q3 (h : ∀ i, 1 ≤ i → i < 76 → Q i) : ∀ i, 1 ≤ i → i < 101 → Q i :=
  upTo (b := 100) (upTo (b := 99) (upTo (b := 98) (upTo (b := 97) (upTo (b := 96) (upTo (b := 95) (upTo (b := 94) (upTo (b := 93) (upTo (b := 92) (upTo (b := 91) (upTo (b := 90) (upTo (b := 89) (upTo (b := 88) (upTo (b := 87) (upTo (b := 86) (upTo (b := 85) (upTo (b := 84) (upTo (b := 83) (upTo (b := 82) (upTo (b := 81) (upTo (b := 80) (upTo (b := 79) (upTo (b := 78) (upTo (b := 77) (upTo (b := 76) (h) (by intro g c x; kernel_rfl)) (by intro g c x; kernel_rfl)) (by intro g c x; kernel_rfl)) (by intro g c x; kernel_rfl)) (by intro g c x; kernel_rfl)) (by intro g c x; kernel_rfl)) (by intro g c x; kernel_rfl)) (by intro g c x; kernel_rfl)) (by intro g c x; kernel_rfl)) (by intro g c x; kernel_rfl)) (by intro g c x; kernel_rfl)) (by intro g c x; kernel_rfl)) (by intro g c x; kernel_rfl)) (by intro g c x; kernel_rfl)) (by intro g c x; kernel_rfl)) (by intro g c x; kernel_rfl)) (by intro g c x; kernel_rfl)) (by intro g c x; kernel_rfl)) (by intro g c x; kernel_rfl)) (by intro g c x; kernel_rfl)) (by intro g c x; kernel_rfl)) (by intro g c x; kernel_rfl)) (by intro g c x; kernel_rfl)) (by intro g c x; kernel_rfl)) (by intro g c x; kernel_rfl)
end ki
end Go.Proofs.YtjogcdimpglpbaaGreat
set_option linter.unusedVariables false
set_option linter.unusedSimpArgs false
set_option linter.deprecated false
set_option maxRecDepth 100000
namespace Go.Proofs.YtjogcdimpglpbaaGreat
open Go.ChangeShapes Go.WideShapes Go.ChangeAt Go.RowKit Go.Cln
namespace ki
theorem q4 (h : ∀ i, 1 ≤ i → i < 101 → Q i) : ∀ i, 1 ≤ i → i < 126 → Q i :=
  upTo (b := 125) (upTo (b := 124) (upTo (b := 123) (upTo (b := 122) (upTo (b := 121) (upTo (b := 120) (upTo (b := 119) (upTo (b := 118) (upTo (b := 117) (upTo (b := 116) (upTo (b := 115) (upTo (b := 114) (upTo (b := 113) (upTo (b := 112) (upTo (b := 111) (upTo (b := 110) (upTo (b := 109) (upTo (b := 108) (upTo (b := 107) (upTo (b := 106) (upTo (b := 105) (upTo (b := 104) (upTo (b := 103) (upTo (b := 102) (upTo (b := 101) (h) (by intro g c x; kernel_rfl)) (by intro g c x; kernel_rfl)) (by intro g c x; kernel_rfl)) (by intro g c x; kernel_rfl)) (by intro g c x; kernel_rfl)) (by intro g c x; kernel_rfl)) (by intro g c x; kernel_rfl)) (by intro g c x; kernel_rfl)) (by intro g c x; kernel_rfl)) (by intro g c x; kernel_rfl)) (by intro g c x; kernel_rfl)) (by intro g c x; kernel_rfl)) (by intro g c x; kernel_rfl)) (by intro g c x; kernel_rfl)) (by intro g c x; kernel_rfl)) (by intro g c x; kernel_rfl)) (by intro g c x; kernel_rfl)) (by intro g c x; kernel_rfl)) (by intro g c x; kernel_rfl)) (by intro g c x; kernel_rfl)) (by intro g c x; kernel_rfl)) (by intro g c x; kernel_rfl)) (by intro g c x; kernel_rfl)) (by intro g c x; kernel_rfl)) (by intro g c x; kernel_rfl)
end ki
end Go.Proofs.YtjogcdimpglpbaaGreat
set_option linter.unusedVariables false
set_option linter.unusedSimpArgs false
set_option linter.deprecated false
set_option maxRecDepth 100000
namespace Go.Proofs.YtjogcdimpglpbaaGreat
open Go.ChangeShapes Go.WideShapes Go.ChangeAt Go.RowKit Go.Cln
namespace ki
theorem q5 (h : ∀ i, 1 ≤ i → i < 126 → Q i) : ∀ i, 1 ≤ i → i < 151 → Q i :=
  upTo (b := 150) (upTo (b := 149) (upTo (b := 148) (upTo (b := 147) (upTo (b := 146) (upTo (b := 145) (upTo (b := 144) (upTo (b := 143) (upTo (b := 142) (upTo (b := 141) (upTo (b := 140) (upTo (b := 139) (upTo (b := 138) (upTo (b := 137) (upTo (b := 136) (upTo (b := 135) (upTo (b := 134) (upTo (b := 133) (upTo (b := 132) (upTo (b := 131) (upTo (b := 130) (upTo (b := 129) (upTo (b := 128) (upTo (b := 127) (upTo (b := 126) (h) (by intro g c x; kernel_rfl)) (by intro g c x; kernel_rfl)) (by intro g c x; kernel_rfl)) (by intro g c x; kernel_rfl)) (by intro g c x; kernel_rfl)) (by intro g c x; kernel_rfl)) (by intro g c x; kernel_rfl)) (by intro g c x; kernel_rfl)) (by intro g c x; kernel_rfl)) (by intro g c x; kernel_rfl)) (by intro g c x; kernel_rfl)) (by intro g c x; kernel_rfl)) (by intro g c x; kernel_rfl)) (by intro g c x; kernel_rfl)) (by intro g c x; kernel_rfl)) (by intro g c x; kernel_rfl)) (by intro g c x; kernel_rfl)) (by intro g c x; kernel_rfl)) (by intro g c x; kernel_rfl)) (by intro g c x; kernel_rfl)) (by intro g c x; kernel_rfl)) (by intro g c x; kernel_rfl)) (by intro g c x; kernel_rfl)) (by intro g c x; kernel_rfl)) (by intro g c x; kernel_rfl)
end ki
end Go.Proofs.YtjogcdimpglpbaaGreat
