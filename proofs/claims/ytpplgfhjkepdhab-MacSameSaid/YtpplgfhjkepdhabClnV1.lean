/- What the functions of this layer come to: read off their code by the clean reading, loops by induction. -/
import Derived.Test.YtpplgfhjkepdhabClnV
set_option linter.unusedVariables false
set_option linter.unusedSimpArgs false
set_option linter.deprecated false
set_option maxRecDepth 100000
namespace Go.Proofs.Ytpplgfhjkepdhab
open Go.ChangeShapes Go.WideShapes Go.ChangeAt Go.RowKit Go.Cln
namespace sw
theorem q1 (a b : Nat → Int) (n : Int) : (runN a b n 1 0).map (fun r => (r.1, r.2.obl)) = some (.bool true, pN a n 1 0 1) := by kernel_rfl
theorem q2 (a b : Nat → Int) (n : Int) : (runN a b n 2 0).map (fun r => (r.1, r.2.obl)) = some (.bool true, pN a n 2 0 2) := by kernel_rfl
theorem q3 (a b : Nat → Int) (n : Int) : (runN a b n 3 0).map (fun r => (r.1, r.2.obl)) = some (.bool true, pN a n 3 0 3) := by kernel_rfl
theorem q4 (a b : Nat → Int) (n : Int) : (runN a b n 4 0).map (fun r => (r.1, r.2.obl)) = some (.bool true, pN a n 4 0 4) := by kernel_rfl
theorem q5 (a b : Nat → Int) (n : Int) : (runN a b n 5 0).map (fun r => (r.1, r.2.obl)) = some (.bool true, pN a n 5 0 5) := by kernel_rfl
theorem q6 (a b : Nat → Int) (n : Int) : (runN a b n 6 0).map (fun r => (r.1, r.2.obl)) = some (.bool true, pN a n 6 0 6) := by kernel_rfl
theorem q7 (a b : Nat → Int) (n : Int) : (runN a b n 7 0).map (fun r => (r.1, r.2.obl)) = some (.bool true, pN a n 7 0 7) := by kernel_rfl
theorem q8 (a b : Nat → Int) (n : Int) : (runN a b n 8 1).map (fun r => (r.1, r.2.obl)) = some (.bool true, pN a n 8 1 0) := by kernel_rfl
theorem q9 (a b : Nat → Int) (n : Int) : (runN a b n 9 1).map (fun r => (r.1, r.2.obl)) = some (.bool true, pN a n 9 1 1) := by kernel_rfl
theorem q10 (a b : Nat → Int) (n : Int) : (runN a b n 10 1).map (fun r => (r.1, r.2.obl)) = some (.bool true, pN a n 10 1 2) := by kernel_rfl
theorem q11 (a b : Nat → Int) (n : Int) : (runN a b n 11 1).map (fun r => (r.1, r.2.obl)) = some (.bool true, pN a n 11 1 3) := by kernel_rfl
theorem q12 (a b : Nat → Int) (n : Int) : (runN a b n 12 1).map (fun r => (r.1, r.2.obl)) = some (.bool true, pN a n 12 1 4) := by kernel_rfl
theorem q13 (a b : Nat → Int) (n : Int) : (runN a b n 13 1).map (fun r => (r.1, r.2.obl)) = some (.bool true, pN a n 13 1 5) := by kernel_rfl
theorem q14 (a b : Nat → Int) (n : Int) : (runN a b n 14 1).map (fun r => (r.1, r.2.obl)) = some (.bool true, pN a n 14 1 6) := by kernel_rfl
theorem q15 (a b : Nat → Int) (n : Int) : (runN a b n 15 1).map (fun r => (r.1, r.2.obl)) = some (.bool true, pN a n 15 1 7) := by kernel_rfl
theorem q16 (a b : Nat → Int) (n : Int) : (runN a b n 16 2).map (fun r => (r.1, r.2.obl)) = some (.bool true, pN a n 16 2 0) := by kernel_rfl
theorem q17 (a b : Nat → Int) (n : Int) : (runN a b n 17 2).map (fun r => (r.1, r.2.obl)) = some (.bool true, pN a n 17 2 1) := by kernel_rfl
theorem q18 (a b : Nat → Int) (n : Int) : (runN a b n 18 2).map (fun r => (r.1, r.2.obl)) = some (.bool true, pN a n 18 2 2) := by kernel_rfl
theorem q19 (a b : Nat → Int) (n : Int) : (runN a b n 19 2).map (fun r => (r.1, r.2.obl)) = some (.bool true, pN a n 19 2 3) := by kernel_rfl
theorem q20 (a b : Nat → Int) (n : Int) : (runN a b n 20 2).map (fun r => (r.1, r.2.obl)) = some (.bool true, pN a n 20 2 4) := by kernel_rfl
theorem q21 (a b : Nat → Int) (n : Int) : (runN a b n 21 2).map (fun r => (r.1, r.2.obl)) = some (.bool true, pN a n 21 2 5) := by kernel_rfl
theorem q22 (a b : Nat → Int) (n : Int) : (runN a b n 22 2).map (fun r => (r.1, r.2.obl)) = some (.bool true, pN a n 22 2 6) := by kernel_rfl
theorem q23 (a b : Nat → Int) (n : Int) : (runN a b n 23 2).map (fun r => (r.1, r.2.obl)) = some (.bool true, pN a n 23 2 7) := by kernel_rfl
theorem q24 (a b : Nat → Int) (n : Int) : (runN a b n 24 3).map (fun r => (r.1, r.2.obl)) = some (.bool true, pN a n 24 3 0) := by kernel_rfl
theorem q25 (a b : Nat → Int) (n : Int) : (runN a b n 25 3).map (fun r => (r.1, r.2.obl)) = some (.bool true, pN a n 25 3 1) := by kernel_rfl
theorem q26 (a b : Nat → Int) (n : Int) : (runN a b n 26 3).map (fun r => (r.1, r.2.obl)) = some (.bool true, pN a n 26 3 2) := by kernel_rfl
theorem q27 (a b : Nat → Int) (n : Int) : (runN a b n 27 3).map (fun r => (r.1, r.2.obl)) = some (.bool true, pN a n 27 3 3) := by kernel_rfl
theorem q28 (a b : Nat → Int) (n : Int) : (runN a b n 28 3).map (fun r => (r.1, r.2.obl)) = some (.bool true, pN a n 28 3 4) := by kernel_rfl
theorem q29 (a b : Nat → Int) (n : Int) : (runN a b n 29 3).map (fun r => (r.1, r.2.obl)) = some (.bool true, pN a n 29 3 5) := by kernel_rfl
theorem q30 (a b : Nat → Int) (n : Int) : (runN a b n 30 3).map (fun r => (r.1, r.2.obl)) = some (.bool true, pN a n 30 3 6) := by kernel_rfl
theorem q31 (a b : Nat → Int) (n : Int) : (runN a b n 31 3).map (fun r => (r.1, r.2.obl)) = some (.bool true, pN a n 31 3 7) := by kernel_rfl
theorem q32 (a b : Nat → Int) (n : Int) : (runN a b n 32 4).map (fun r => (r.1, r.2.obl)) = some (.bool true, pN a n 32 4 0) := by kernel_rfl
theorem q33 (a b : Nat → Int) (n : Int) : (runN a b n 33 4).map (fun r => (r.1, r.2.obl)) = some (.bool true, pN a n 33 4 1) := by kernel_rfl
theorem q34 (a b : Nat → Int) (n : Int) : (runN a b n 34 4).map (fun r => (r.1, r.2.obl)) = some (.bool true, pN a n 34 4 2) := by kernel_rfl
theorem q35 (a b : Nat → Int) (n : Int) : (runN a b n 35 4).map (fun r => (r.1, r.2.obl)) = some (.bool true, pN a n 35 4 3) := by kernel_rfl
theorem q36 (a b : Nat → Int) (n : Int) : (runN a b n 36 4).map (fun r => (r.1, r.2.obl)) = some (.bool true, pN a n 36 4 4) := by kernel_rfl
theorem q37 (a b : Nat → Int) (n : Int) : (runN a b n 37 4).map (fun r => (r.1, r.2.obl)) = some (.bool true, pN a n 37 4 5) := by kernel_rfl
theorem q38 (a b : Nat → Int) (n : Int) : (runN a b n 38 4).map (fun r => (r.1, r.2.obl)) = some (.bool true, pN a n 38 4 6) := by kernel_rfl
theorem q39 (a b : Nat → Int) (n : Int) : (runN a b n 39 4).map (fun r => (r.1, r.2.obl)) = some (.bool true, pN a n 39 4 7) := by kernel_rfl
theorem q40 (a b : Nat → Int) (n : Int) : (runN a b n 40 5).map (fun r => (r.1, r.2.obl)) = some (.bool true, pN a n 40 5 0) := by kernel_rfl
theorem q41 (a b : Nat → Int) (n : Int) : (runN a b n 41 5).map (fun r => (r.1, r.2.obl)) = some (.bool true, pN a n 41 5 1) := by kernel_rfl
theorem q42 (a b : Nat → Int) (n : Int) : (runN a b n 42 5).map (fun r => (r.1, r.2.obl)) = some (.bool true, pN a n 42 5 2) := by kernel_rfl
theorem q43 (a b : Nat → Int) (n : Int) : (runN a b n 43 5).map (fun r => (r.1, r.2.obl)) = some (.bool true, pN a n 43 5 3) := by kernel_rfl
theorem q44 (a b : Nat → Int) (n : Int) : (runN a b n 44 5).map (fun r => (r.1, r.2.obl)) = some (.bool true, pN a n 44 5 4) := by kernel_rfl
theorem q45 (a b : Nat → Int) (n : Int) : (runN a b n 45 5).map (fun r => (r.1, r.2.obl)) = some (.bool true, pN a n 45 5 5) := by kernel_rfl
theorem q46 (a b : Nat → Int) (n : Int) : (runN a b n 46 5).map (fun r => (r.1, r.2.obl)) = some (.bool true, pN a n 46 5 6) := by kernel_rfl
theorem q47 (a b : Nat → Int) (n : Int) : (runN a b n 47 5).map (fun r => (r.1, r.2.obl)) = some (.bool true, pN a n 47 5 7) := by kernel_rfl
theorem q48 (a b : Nat → Int) (n : Int) : (runN a b n 48 6).map (fun r => (r.1, r.2.obl)) = some (.bool true, pN a n 48 6 0) := by kernel_rfl
end sw
end Go.Proofs.Ytpplgfhjkepdhab
