/- What the functions of this layer come to: read off their code by the clean reading, loops by induction. -/
import Derived.Test.YtpplgfhjkepdhabClnV
set_option linter.unusedVariables false
set_option linter.unusedSimpArgs false
set_option linter.deprecated false
set_option maxRecDepth 100000
namespace Go.Proofs.Ytpplgfhjkepdhab
open Go.ChangeShapes Go.WideShapes Go.ChangeAt Go.RowKit Go.Cln
namespace sw
theorem q97 (a b : Nat → Int) (n : Int) : (runN a b n 97 0).map (fun r => (r.1, r.2.obl)) = some (.bool true, pN a n 97 0 1) := by kernel_rfl
theorem q98 (a b : Nat → Int) (n : Int) : (runN a b n 98 0).map (fun r => (r.1, r.2.obl)) = some (.bool true, pN a n 98 0 2) := by kernel_rfl
theorem q99 (a b : Nat → Int) (n : Int) : (runN a b n 99 0).map (fun r => (r.1, r.2.obl)) = some (.bool true, pN a n 99 0 3) := by kernel_rfl
theorem q100 (a b : Nat → Int) (n : Int) : (runN a b n 100 0).map (fun r => (r.1, r.2.obl)) = some (.bool true, pN a n 100 0 4) := by kernel_rfl
theorem q101 (a b : Nat → Int) (n : Int) : (runN a b n 101 0).map (fun r => (r.1, r.2.obl)) = some (.bool true, pN a n 101 0 5) := by kernel_rfl
theorem q102 (a b : Nat → Int) (n : Int) : (runN a b n 102 0).map (fun r => (r.1, r.2.obl)) = some (.bool true, pN a n 102 0 6) := by kernel_rfl
theorem q103 (a b : Nat → Int) (n : Int) : (runN a b n 103 0).map (fun r => (r.1, r.2.obl)) = some (.bool true, pN a n 103 0 7) := by kernel_rfl
theorem q104 (a b : Nat → Int) (n : Int) : (runN a b n 104 1).map (fun r => (r.1, r.2.obl)) = some (.bool true, pN a n 104 1 0) := by kernel_rfl
theorem q105 (a b : Nat → Int) (n : Int) : (runN a b n 105 1).map (fun r => (r.1, r.2.obl)) = some (.bool true, pN a n 105 1 1) := by kernel_rfl
theorem q106 (a b : Nat → Int) (n : Int) : (runN a b n 106 1).map (fun r => (r.1, r.2.obl)) = some (.bool true, pN a n 106 1 2) := by kernel_rfl
theorem q107 (a b : Nat → Int) (n : Int) : (runN a b n 107 1).map (fun r => (r.1, r.2.obl)) = some (.bool true, pN a n 107 1 3) := by kernel_rfl
theorem q108 (a b : Nat → Int) (n : Int) : (runN a b n 108 1).map (fun r => (r.1, r.2.obl)) = some (.bool true, pN a n 108 1 4) := by kernel_rfl
theorem q109 (a b : Nat → Int) (n : Int) : (runN a b n 109 1).map (fun r => (r.1, r.2.obl)) = some (.bool true, pN a n 109 1 5) := by kernel_rfl
theorem q110 (a b : Nat → Int) (n : Int) : (runN a b n 110 1).map (fun r => (r.1, r.2.obl)) = some (.bool true, pN a n 110 1 6) := by kernel_rfl
theorem q111 (a b : Nat → Int) (n : Int) : (runN a b n 111 1).map (fun r => (r.1, r.2.obl)) = some (.bool true, pN a n 111 1 7) := by kernel_rfl
theorem q112 (a b : Nat → Int) (n : Int) : (runN a b n 112 2).map (fun r => (r.1, r.2.obl)) = some (.bool true, pN a n 112 2 0) := by kernel_rfl
theorem q113 (a b : Nat → Int) (n : Int) : (runN a b n 113 2).map (fun r => (r.1, r.2.obl)) = some (.bool true, pN a n 113 2 1) := by kernel_rfl
theorem q114 (a b : Nat → Int) (n : Int) : (runN a b n 114 2).map (fun r => (r.1, r.2.obl)) = some (.bool true, pN a n 114 2 2) := by kernel_rfl
theorem q115 (a b : Nat → Int) (n : Int) : (runN a b n 115 2).map (fun r => (r.1, r.2.obl)) = some (.bool true, pN a n 115 2 3) := by kernel_rfl
theorem q116 (a b : Nat → Int) (n : Int) : (runN a b n 116 2).map (fun r => (r.1, r.2.obl)) = some (.bool true, pN a n 116 2 4) := by kernel_rfl
theorem q117 (a b : Nat → Int) (n : Int) : (runN a b n 117 2).map (fun r => (r.1, r.2.obl)) = some (.bool true, pN a n 117 2 5) := by kernel_rfl
theorem q118 (a b : Nat → Int) (n : Int) : (runN a b n 118 2).map (fun r => (r.1, r.2.obl)) = some (.bool true, pN a n 118 2 6) := by kernel_rfl
theorem q119 (a b : Nat → Int) (n : Int) : (runN a b n 119 2).map (fun r => (r.1, r.2.obl)) = some (.bool true, pN a n 119 2 7) := by kernel_rfl
theorem q120 (a b : Nat → Int) (n : Int) : (runN a b n 120 3).map (fun r => (r.1, r.2.obl)) = some (.bool true, pN a n 120 3 0) := by kernel_rfl
theorem q121 (a b : Nat → Int) (n : Int) : (runN a b n 121 3).map (fun r => (r.1, r.2.obl)) = some (.bool true, pN a n 121 3 1) := by kernel_rfl
theorem q122 (a b : Nat → Int) (n : Int) : (runN a b n 122 3).map (fun r => (r.1, r.2.obl)) = some (.bool true, pN a n 122 3 2) := by kernel_rfl
theorem q123 (a b : Nat → Int) (n : Int) : (runN a b n 123 3).map (fun r => (r.1, r.2.obl)) = some (.bool true, pN a n 123 3 3) := by kernel_rfl
theorem q124 (a b : Nat → Int) (n : Int) : (runN a b n 124 3).map (fun r => (r.1, r.2.obl)) = some (.bool true, pN a n 124 3 4) := by kernel_rfl
theorem q125 (a b : Nat → Int) (n : Int) : (runN a b n 125 3).map (fun r => (r.1, r.2.obl)) = some (.bool true, pN a n 125 3 5) := by kernel_rfl
theorem q126 (a b : Nat → Int) (n : Int) : (runN a b n 126 3).map (fun r => (r.1, r.2.obl)) = some (.bool true, pN a n 126 3 6) := by kernel_rfl
theorem q127 (a b : Nat → Int) (n : Int) : (runN a b n 127 3).map (fun r => (r.1, r.2.obl)) = some (.bool true, pN a n 127 3 7) := by kernel_rfl
theorem q128 (a b : Nat → Int) (n : Int) : (runN a b n 128 4).map (fun r => (r.1, r.2.obl)) = some (.bool true, pN a n 128 4 0) := by kernel_rfl
theorem q129 (a b : Nat → Int) (n : Int) : (runN a b n 129 4).map (fun r => (r.1, r.2.obl)) = some (.bool true, pN a n 129 4 1) := by kernel_rfl
theorem q130 (a b : Nat → Int) (n : Int) : (runN a b n 130 4).map (fun r => (r.1, r.2.obl)) = some (.bool true, pN a n 130 4 2) := by kernel_rfl
theorem q131 (a b : Nat → Int) (n : Int) : (runN a b n 131 4).map (fun r => (r.1, r.2.obl)) = some (.bool true, pN a n 131 4 3) := by kernel_rfl
theorem q132 (a b : Nat → Int) (n : Int) : (runN a b n 132 4).map (fun r => (r.1, r.2.obl)) = some (.bool true, pN a n 132 4 4) := by kernel_rfl
theorem q133 (a b : Nat → Int) (n : Int) : (runN a b n 133 4).map (fun r => (r.1, r.2.obl)) = some (.bool true, pN a n 133 4 5) := by kernel_rfl
theorem q134 (a b : Nat → Int) (n : Int) : (runN a b n 134 4).map (fun r => (r.1, r.2.obl)) = some (.bool true, pN a n 134 4 6) := by kernel_rfl
theorem q135 (a b : Nat → Int) (n : Int) : (runN a b n 135 4).map (fun r => (r.1, r.2.obl)) = some (.bool true, pN a n 135 4 7) := by kernel_rfl
theorem q136 (a b : Nat → Int) (n : Int) : (runN a b n 136 5).map (fun r => (r.1, r.2.obl)) = some (.bool true, pN a n 136 5 0) := by kernel_rfl
theorem q137 (a b : Nat → Int) (n : Int) : (runN a b n 137 5).map (fun r => (r.1, r.2.obl)) = some (.bool true, pN a n 137 5 1) := by kernel_rfl
theorem q138 (a b : Nat → Int) (n : Int) : (runN a b n 138 5).map (fun r => (r.1, r.2.obl)) = some (.bool true, pN a n 138 5 2) := by kernel_rfl
theorem q139 (a b : Nat → Int) (n : Int) : (runN a b n 139 5).map (fun r => (r.1, r.2.obl)) = some (.bool true, pN a n 139 5 3) := by kernel_rfl
theorem q140 (a b : Nat → Int) (n : Int) : (runN a b n 140 5).map (fun r => (r.1, r.2.obl)) = some (.bool true, pN a n 140 5 4) := by kernel_rfl
theorem q141 (a b : Nat → Int) (n : Int) : (runN a b n 141 5).map (fun r => (r.1, r.2.obl)) = some (.bool true, pN a n 141 5 5) := by kernel_rfl
theorem q142 (a b : Nat → Int) (n : Int) : (runN a b n 142 5).map (fun r => (r.1, r.2.obl)) = some (.bool true, pN a n 142 5 6) := by kernel_rfl
theorem q143 (a b : Nat → Int) (n : Int) : (runN a b n 143 5).map (fun r => (r.1, r.2.obl)) = some (.bool true, pN a n 143 5 7) := by kernel_rfl
theorem q144 (a b : Nat → Int) (n : Int) : (runN a b n 144 6).map (fun r => (r.1, r.2.obl)) = some (.bool true, pN a n 144 6 0) := by kernel_rfl
end sw
end Go.Proofs.Ytpplgfhjkepdhab
