/- What the functions of this layer come to: read off their code by the clean reading, loops by induction. -/
import Derived.Test.YtpplgfhjkepdhabClnV
set_option linter.unusedVariables false
set_option linter.unusedSimpArgs false
set_option linter.deprecated false
set_option maxRecDepth 100000
namespace Go.Proofs.Ytpplgfhjkepdhab
open Go.ChangeShapes Go.WideShapes Go.ChangeAt Go.RowKit Go.Cln
namespace sw
theorem q49 (a b : Nat → Int) (n : Int) : (runN a b n 49 6).map (fun r => (r.1, r.2.obl)) = some (.bool true, pN a n 49 6 1) := by kernel_rfl
theorem q50 (a b : Nat → Int) (n : Int) : (runN a b n 50 6).map (fun r => (r.1, r.2.obl)) = some (.bool true, pN a n 50 6 2) := by kernel_rfl
theorem q51 (a b : Nat → Int) (n : Int) : (runN a b n 51 6).map (fun r => (r.1, r.2.obl)) = some (.bool true, pN a n 51 6 3) := by kernel_rfl
theorem q52 (a b : Nat → Int) (n : Int) : (runN a b n 52 6).map (fun r => (r.1, r.2.obl)) = some (.bool true, pN a n 52 6 4) := by kernel_rfl
theorem q53 (a b : Nat → Int) (n : Int) : (runN a b n 53 6).map (fun r => (r.1, r.2.obl)) = some (.bool true, pN a n 53 6 5) := by kernel_rfl
theorem q54 (a b : Nat → Int) (n : Int) : (runN a b n 54 6).map (fun r => (r.1, r.2.obl)) = some (.bool true, pN a n 54 6 6) := by kernel_rfl
theorem q55 (a b : Nat → Int) (n : Int) : (runN a b n 55 6).map (fun r => (r.1, r.2.obl)) = some (.bool true, pN a n 55 6 7) := by kernel_rfl
theorem q56 (a b : Nat → Int) (n : Int) : (runN a b n 56 7).map (fun r => (r.1, r.2.obl)) = some (.bool true, pN a n 56 7 0) := by kernel_rfl
theorem q57 (a b : Nat → Int) (n : Int) : (runN a b n 57 7).map (fun r => (r.1, r.2.obl)) = some (.bool true, pN a n 57 7 1) := by kernel_rfl
theorem q58 (a b : Nat → Int) (n : Int) : (runN a b n 58 7).map (fun r => (r.1, r.2.obl)) = some (.bool true, pN a n 58 7 2) := by kernel_rfl
theorem q59 (a b : Nat → Int) (n : Int) : (runN a b n 59 7).map (fun r => (r.1, r.2.obl)) = some (.bool true, pN a n 59 7 3) := by kernel_rfl
theorem q60 (a b : Nat → Int) (n : Int) : (runN a b n 60 7).map (fun r => (r.1, r.2.obl)) = some (.bool true, pN a n 60 7 4) := by kernel_rfl
theorem q61 (a b : Nat → Int) (n : Int) : (runN a b n 61 7).map (fun r => (r.1, r.2.obl)) = some (.bool true, pN a n 61 7 5) := by kernel_rfl
theorem q62 (a b : Nat → Int) (n : Int) : (runN a b n 62 7).map (fun r => (r.1, r.2.obl)) = some (.bool true, pN a n 62 7 6) := by kernel_rfl
theorem q63 (a b : Nat → Int) (n : Int) : (runN a b n 63 7).map (fun r => (r.1, r.2.obl)) = some (.bool true, pN a n 63 7 7) := by kernel_rfl
theorem q64 (a b : Nat → Int) (n : Int) : (runN a b n 64 8).map (fun r => (r.1, r.2.obl)) = some (.bool true, pN a n 64 8 0) := by kernel_rfl
theorem q65 (a b : Nat → Int) (n : Int) : (runN a b n 65 8).map (fun r => (r.1, r.2.obl)) = some (.bool true, pN a n 65 8 1) := by kernel_rfl
theorem q66 (a b : Nat → Int) (n : Int) : (runN a b n 66 8).map (fun r => (r.1, r.2.obl)) = some (.bool true, pN a n 66 8 2) := by kernel_rfl
theorem q67 (a b : Nat → Int) (n : Int) : (runN a b n 67 8).map (fun r => (r.1, r.2.obl)) = some (.bool true, pN a n 67 8 3) := by kernel_rfl
theorem q68 (a b : Nat → Int) (n : Int) : (runN a b n 68 8).map (fun r => (r.1, r.2.obl)) = some (.bool true, pN a n 68 8 4) := by kernel_rfl
theorem q69 (a b : Nat → Int) (n : Int) : (runN a b n 69 8).map (fun r => (r.1, r.2.obl)) = some (.bool true, pN a n 69 8 5) := by kernel_rfl
theorem q70 (a b : Nat → Int) (n : Int) : (runN a b n 70 8).map (fun r => (r.1, r.2.obl)) = some (.bool true, pN a n 70 8 6) := by kernel_rfl
theorem q71 (a b : Nat → Int) (n : Int) : (runN a b n 71 8).map (fun r => (r.1, r.2.obl)) = some (.bool true, pN a n 71 8 7) := by kernel_rfl
theorem q72 (a b : Nat → Int) (n : Int) : (runN a b n 72 9).map (fun r => (r.1, r.2.obl)) = some (.bool true, pN a n 72 9 0) := by kernel_rfl
theorem q73 (a b : Nat → Int) (n : Int) : (runN a b n 73 9).map (fun r => (r.1, r.2.obl)) = some (.bool true, pN a n 73 9 1) := by kernel_rfl
theorem q74 (a b : Nat → Int) (n : Int) : (runN a b n 74 9).map (fun r => (r.1, r.2.obl)) = some (.bool true, pN a n 74 9 2) := by kernel_rfl
theorem q75 (a b : Nat → Int) (n : Int) : (runN a b n 75 9).map (fun r => (r.1, r.2.obl)) = some (.bool true, pN a n 75 9 3) := by kernel_rfl
theorem q76 (a b : Nat → Int) (n : Int) : (runN a b n 76 9).map (fun r => (r.1, r.2.obl)) = some (.bool true, pN a n 76 9 4) := by kernel_rfl
theorem q77 (a b : Nat → Int) (n : Int) : (runN a b n 77 9).map (fun r => (r.1, r.2.obl)) = some (.bool true, pN a n 77 9 5) := by kernel_rfl
theorem q78 (a b : Nat → Int) (n : Int) : (runN a b n 78 9).map (fun r => (r.1, r.2.obl)) = some (.bool true, pN a n 78 9 6) := by kernel_rfl
theorem q79 (a b : Nat → Int) (n : Int) : (runN a b n 79 9).map (fun r => (r.1, r.2.obl)) = some (.bool true, pN a n 79 9 7) := by kernel_rfl
theorem q80 (a b : Nat → Int) (n : Int) : (runN a b n 80 10).map (fun r => (r.1, r.2.obl)) = some (.bool true, pN a n 80 10 0) := by kernel_rfl
theorem q81 (a b : Nat → Int) (n : Int) : (runN a b n 81 10).map (fun r => (r.1, r.2.obl)) = some (.bool true, pN a n 81 10 1) := by kernel_rfl
theorem q82 (a b : Nat → Int) (n : Int) : (runN a b n 82 10).map (fun r => (r.1, r.2.obl)) = some (.bool true, pN a n 82 10 2) := by kernel_rfl
theorem q83 (a b : Nat → Int) (n : Int) : (runN a b n 83 10).map (fun r => (r.1, r.2.obl)) = some (.bool true, pN a n 83 10 3) := by kernel_rfl
theorem q84 (a b : Nat → Int) (n : Int) : (runN a b n 84 10).map (fun r => (r.1, r.2.obl)) = some (.bool true, pN a n 84 10 4) := by kernel_rfl
theorem q85 (a b : Nat → Int) (n : Int) : (runN a b n 85 10).map (fun r => (r.1, r.2.obl)) = some (.bool true, pN a n 85 10 5) := by kernel_rfl
theorem q86 (a b : Nat → Int) (n : Int) : (runN a b n 86 10).map (fun r => (r.1, r.2.obl)) = some (.bool true, pN a n 86 10 6) := by kernel_rfl
theorem q87 (a b : Nat → Int) (n : Int) : (runN a b n 87 10).map (fun r => (r.1, r.2.obl)) = some (.bool true, pN a n 87 10 7) := by kernel_rfl
theorem q88 (a b : Nat → Int) (n : Int) : (runN a b n 88 11).map (fun r => (r.1, r.2.obl)) = some (.bool true, pN a n 88 11 0) := by kernel_rfl
theorem q89 (a b : Nat → Int) (n : Int) : (runN a b n 89 11).map (fun r => (r.1, r.2.obl)) = some (.bool true, pN a n 89 11 1) := by kernel_rfl
theorem q90 (a b : Nat → Int) (n : Int) : (runN a b n 90 11).map (fun r => (r.1, r.2.obl)) = some (.bool true, pN a n 90 11 2) := by kernel_rfl
theorem q91 (a b : Nat → Int) (n : Int) : (runN a b n 91 11).map (fun r => (r.1, r.2.obl)) = some (.bool true, pN a n 91 11 3) := by kernel_rfl
theorem q92 (a b : Nat → Int) (n : Int) : (runN a b n 92 11).map (fun r => (r.1, r.2.obl)) = some (.bool true, pN a n 92 11 4) := by kernel_rfl
theorem q93 (a b : Nat → Int) (n : Int) : (runN a b n 93 11).map (fun r => (r.1, r.2.obl)) = some (.bool true, pN a n 93 11 5) := by kernel_rfl
theorem q94 (a b : Nat → Int) (n : Int) : (runN a b n 94 11).map (fun r => (r.1, r.2.obl)) = some (.bool true, pN a n 94 11 6) := by kernel_rfl
theorem q95 (a b : Nat → Int) (n : Int) : (runN a b n 95 11).map (fun r => (r.1, r.2.obl)) = some (.bool true, pN a n 95 11 7) := by kernel_rfl
theorem q96 (a b : Nat → Int) (n : Int) : (runN a b n 96 0).map (fun r => (r.1, r.2.obl)) = some (.bool true, pN a n 96 0 0) := by kernel_rfl
end sw
end Go.Proofs.Ytpplgfhjkepdhab
