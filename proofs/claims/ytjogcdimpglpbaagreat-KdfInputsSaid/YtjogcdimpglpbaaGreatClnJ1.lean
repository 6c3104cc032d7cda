/- What the functions of this layer come to: read off their code by the clean reading, loops by induction. -/
import Derived.Test.YtjogcdimpglpbaaGreatClnI0
set_option linter.unusedVariables false
set_option linter.unusedSimpArgs false
set_option linter.deprecated false
set_option maxRecDepth 100000
namespace Go.Proofs.YtjogcdimpglpbaaGreat
open Go.ChangeShapes Go.WideShapes Go.ChangeAt Go.RowKit Go.Cln
namespace ki
theorem q0 (h : ∀ i, 1 ≤ i → i < 1 → Q i) : ∀ i, 1 ≤ i → i < 26 → Q i :=
  upTo (b := 25) (upTo (b := 24) (upTo (b := 23) (upTo (b := 22) (upTo (b := 21) (upTo (b := 20) (upTo (b := 19) (upTo (b := 18) (upTo (b := 17) (upTo (b := 16) (upTo (b := 15) (upTo (b := 14) (upTo (b := 13) (upTo (b := 12) (upTo (b := 11) (upTo (b := 10) (upTo (b := 9) (upTo (b := 8) (upTo (b := 7) (upTo (b := 6) (upTo (b := 5) (upTo (b := 4) (upTo (b := 3) (upTo (b := 2) (upTo (b := 1) (h) (by intro g c x; kernel_rfl)) (by intro g c x; kernel_rfl)) (by intro g c x; kernel_rfl)) (by intro g c x; kernel_rfl)) (by intro g c x; kernel_rfl)) (by intro g c x; kernel_rfl)) (by intro g c x; kernel_rfl)) (by intro g c x; kernel_rfl)) (by intro g c x; kernel_rfl)) (by intro g c x; kernel_rfl)) (by intro g c x; kernel_rfl)) (by intro g c x; kernel_rfl)) (by intro g c x; kernel_rfl)) (by intro g c x; kernel_rfl)) (by intro g c x; kernel_rfl)) (by intro g c x; kernel_rfl)) (by intro g c x; kernel_rfl)) (by intro g c x; kernel_rfl)) (by intro g c x; kernel_rfl)) (by intro g c x; kernel_rfl)) (by intro g c x; kernel_rfl)) (by intro g c x; kernel_rfl)) (by intro g c x; kernel_rfl)) (by intro g c x; kernel_rfl)) (by intro g c x; kernel_rfl)
end ki
end Go.Proofs.YtjogcdimpglpbaaGreat
set_option linter.unusedVariables false
set_option linter.unusedSimpArgs false
set_option linter.deprecated false
set_option maxRecDepth 100000
namespace Go.Proofs.YtjogcdimpglpbaaGreat
open Go.ChangeShapes Go.WideShapes Go.ChangeAt Go.RowKit Go.Cln
namespace ki
theorem q1 (h : ∀ i, 1 ≤ i → i < 26 → Q i) : ∀ i, 1 ≤ i → i < 51 → Q i :=
  upTo (b := 50) (upTo (b := 49) (upTo (b := 48) (upTo (b := 47) (upTo (b := 46) (upTo (b := 45) (upTo (b := 44) (upTo (b := 43) (upTo (b := 42) (upTo (b := 41) (upTo (b := 40) (upTo (b := 39) (upTo (b := 38) (upTo (b := 37) (upTo (b := 36) (upTo (b := 35) (upTo (b := 34) (upTo (b := 33) (upTo (b := 32) (upTo (b := 31) (upTo (b := 30) (upTo (b := 29) (upTo (b := 28) (upTo (b := 27) (upTo (b := 26) (h) (by intro g c x; kernel_rfl)) (by intro g c x; kernel_rfl)) (by intro g c x; kernel_rfl)) (by intro g c x; kernel_rfl)) (by intro g c x; kernel_rfl)) (by intro g c x; kernel_rfl)) (by intro g c x; kernel_rfl)) (by intro g c x; kernel_rfl)) (by intro g c x; kernel_rfl)) (by intro g c x; kernel_rfl)) (by intro g c x; kernel_rfl)) (by intro g c x; kernel_rfl)) (by intro g c x; kernel_rfl)) (by intro g c x; kernel_rfl)) (by intro g c x; kernel_rfl)) (by intro g c x; kernel_rfl)) (by intro g c x; kernel_rfl)) (by intro g c x; kernel_rfl)) (by intro g c x; kernel_rfl)) (by intro g c x; kernel_rfl)) (by intro g c x; kernel_rfl)) (by intro g c x; kernel_rfl)) (by intro g c x; kernel_rfl)) (by intro g c x; kernel_rfl)) (by intro g c x; kernel_rfl)
end ki
end Go.Proofs.YtjogcdimpglpbaaGreat
set_option linter.unusedVariables false
set_option linter.unusedSimpArgs false
set_option linter.deprecated false
set_option maxRecDepth 100000
namespace Go.Proofs.YtjogcdimpglpbaaGreat
open Go.ChangeShapes Go.WideShapes Go.ChangeAt Go.RowKit Go.Cln
namespace ki
theorem q2 (h : ∀ i, 1 ≤ i → i < 51 → Q i) : ∀ i, 1 ≤ i → i < 76 → Q i :=
  upTo (b := 75) (upTo (b := 74) (upTo (b := 73) (upTo (b := 72) (upTo (b := 71) (upTo (b := 70) (upTo (b := 69) (upTo (b := 68) (upTo (b := 67) (upTo (b := 66) (upTo (b := 65) (upTo (b := 64) (upTo (b := 63) (upTo (b := 62) (upTo (b := 61) (upTo (b := 60) (upTo (b := 59) (upTo (b := 58) (upTo (b := 57) (upTo (b := 56) (upTo (b := 55) (upTo (b := 54) (upTo (b := 53) (upTo (b := 52) (upTo (b := 51) (h) (by intro g c x; kernel_rfl)) (by intro g c x; kernel_rfl)) (by intro g c x; kernel_rfl)) (by intro g c x; kernel_rfl)) (by intro g c x; kernel_rfl)) (by intro g c x; kernel_rfl)) (by intro g c x; kernel_rfl)) (by intro g c x; kernel_rfl)) (by intro g c x; kernel_rfl)) (by intro g c x; kernel_rfl)) (by intro g c x; kernel_rfl)) (by intro g c x; kernel_rfl)) (by intro g c x; kernel_rfl)) (by intro g c x; kernel_rfl)) (by intro g c x; kernel_rfl)) (by intro g c x; kernel_rfl)) (by intro g c x; kernel_rfl)) (by intro g c x; kernel_rfl)) (by intro g c x; kernel_rfl)) (by intro g c x; kernel_rfl)) (by intro g c x; kernel_rfl)) (by intro g c x; kernel_rfl)) (by intro g c x; kernel_rfl)) (by intro g c x; kernel_rfl)) (by intro g c x; kernel_rfl)
end ki
end Go.Proofs.YtjogcdimpglpbaaGreat
