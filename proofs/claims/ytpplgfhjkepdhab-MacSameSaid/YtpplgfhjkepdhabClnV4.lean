/- What the functions of this layer come to: read off their code by the clean reading, loops by induction. -/
import Derived.Test.YtpplgfhjkepdhabClnV
set_option linter.unusedVariables false
set_option linter.unusedSimpArgs false
set_option linter.deprecated false
set_option maxRecDepth 100000
namespace Go.Proofs.Ytpplgfhjkepdhab
open Go.ChangeShapes Go.WideShapes Go.ChangeAt Go.RowKit Go.Cln
namespace sw
theorem q145 (a b : Nat → Int) (n : Int) : (runN a b n 145 6).map (fun r => (r.1, r.2.obl)) = some (.bool true, pN a n 145 6 1) := by kernel_rfl
theorem q146 (a b : Nat → Int) (n : Int) : (runN a b n 146 6).map (fun r => (r.1, r.2.obl)) = some (.bool true, pN a n 146 6 2) := by kernel_rfl
theorem q147 (a b : Nat → Int) (n : Int) : (runN a b n 147 6).map (fun r => (r.1, r.2.obl)) = some (.bool true, pN a n 147 6 3) := by kernel_rfl
theorem q148 (a b : Nat → Int) (n : Int) : (runN a b n 148 6).map (fun r => (r.1, r.2.obl)) = some (.bool true, pN a n 148 6 4) := by kernel_rfl
theorem q149 (a b : Nat → Int) (n : Int) : (runN a b n 149 6).map (fun r => (r.1, r.2.obl)) = some (.bool true, pN a n 149 6 5) := by kernel_rfl
theorem q150 (a b : Nat → Int) (n : Int) : (runN a b n 150 6).map (fun r => (r.1, r.2.obl)) = some (.bool true, pN a n 150 6 6) := by kernel_rfl
theorem q151 (a b : Nat → Int) (n : Int) : (runN a b n 151 6).map (fun r => (r.1, r.2.obl)) = some (.bool true, pN a n 151 6 7) := by kernel_rfl
theorem q152 (a b : Nat → Int) (n : Int) : (runN a b n 152 7).map (fun r => (r.1, r.2.obl)) = some (.bool true, pN a n 152 7 0) := by kernel_rfl
theorem q153 (a b : Nat → Int) (n : Int) : (runN a b n 153 7).map (fun r => (r.1, r.2.obl)) = some (.bool true, pN a n 153 7 1) := by kernel_rfl
theorem q154 (a b : Nat → Int) (n : Int) : (runN a b n 154 7).map (fun r => (r.1, r.2.obl)) = some (.bool true, pN a n 154 7 2) := by kernel_rfl
theorem q155 (a b : Nat → Int) (n : Int) : (runN a b n 155 7).map (fun r => (r.1, r.2.obl)) = some (.bool true, pN a n 155 7 3) := by kernel_rfl
theorem q156 (a b : Nat → Int) (n : Int) : (runN a b n 156 7).map (fun r => (r.1, r.2.obl)) = some (.bool true, pN a n 156 7 4) := by kernel_rfl
theorem q157 (a b : Nat → Int) (n : Int) : (runN a b n 157 7).map (fun r => (r.1, r.2.obl)) = some (.bool true, pN a n 157 7 5) := by kernel_rfl
theorem q158 (a b : Nat → Int) (n : Int) : (runN a b n 158 7).map (fun r => (r.1, r.2.obl)) = some (.bool true, pN a n 158 7 6) := by kernel_rfl
theorem q159 (a b : Nat → Int) (n : Int) : (runN a b n 159 7).map (fun r => (r.1, r.2.obl)) = some (.bool true, pN a n 159 7 7) := by kernel_rfl
theorem q160 (a b : Nat → Int) (n : Int) : (runN a b n 160 8).map (fun r => (r.1, r.2.obl)) = some (.bool true, pN a n 160 8 0) := by kernel_rfl
theorem q161 (a b : Nat → Int) (n : Int) : (runN a b n 161 8).map (fun r => (r.1, r.2.obl)) = some (.bool true, pN a n 161 8 1) := by kernel_rfl
theorem q162 (a b : Nat → Int) (n : Int) : (runN a b n 162 8).map (fun r => (r.1, r.2.obl)) = some (.bool true, pN a n 162 8 2) := by kernel_rfl
theorem q163 (a b : Nat → Int) (n : Int) : (runN a b n 163 8).map (fun r => (r.1, r.2.obl)) = some (.bool true, pN a n 163 8 3) := by kernel_rfl
theorem q164 (a b : Nat → Int) (n : Int) : (runN a b n 164 8).map (fun r => (r.1, r.2.obl)) = some (.bool true, pN a n 164 8 4) := by kernel_rfl
theorem q165 (a b : Nat → Int) (n : Int) : (runN a b n 165 8).map (fun r => (r.1, r.2.obl)) = some (.bool true, pN a n 165 8 5) := by kernel_rfl
theorem q166 (a b : Nat → Int) (n : Int) : (runN a b n 166 8).map (fun r => (r.1, r.2.obl)) = some (.bool true, pN a n 166 8 6) := by kernel_rfl
theorem q167 (a b : Nat → Int) (n : Int) : (runN a b n 167 8).map (fun r => (r.1, r.2.obl)) = some (.bool true, pN a n 167 8 7) := by kernel_rfl
theorem q168 (a b : Nat → Int) (n : Int) : (runN a b n 168 9).map (fun r => (r.1, r.2.obl)) = some (.bool true, pN a n 168 9 0) := by kernel_rfl
theorem q169 (a b : Nat → Int) (n : Int) : (runN a b n 169 9).map (fun r => (r.1, r.2.obl)) = some (.bool true, pN a n 169 9 1) := by kernel_rfl
theorem q170 (a b : Nat → Int) (n : Int) : (runN a b n 170 9).map (fun r => (r.1, r.2.obl)) = some (.bool true, pN a n 170 9 2) := by kernel_rfl
theorem q171 (a b : Nat → Int) (n : Int) : (runN a b n 171 9).map (fun r => (r.1, r.2.obl)) = some (.bool true, pN a n 171 9 3) := by kernel_rfl
theorem q172 (a b : Nat → Int) (n : Int) : (runN a b n 172 9).map (fun r => (r.1, r.2.obl)) = some (.bool true, pN a n 172 9 4) := by kernel_rfl
theorem q173 (a b : Nat → Int) (n : Int) : (runN a b n 173 9).map (fun r => (r.1, r.2.obl)) = some (.bool true, pN a n 173 9 5) := by kernel_rfl
theorem q174 (a b : Nat → Int) (n : Int) : (runN a b n 174 9).map (fun r => (r.1, r.2.obl)) = some (.bool true, pN a n 174 9 6) := by kernel_rfl
theorem q175 (a b : Nat → Int) (n : Int) : (runN a b n 175 9).map (fun r => (r.1, r.2.obl)) = some (.bool true, pN a n 175 9 7) := by kernel_rfl
theorem q176 (a b : Nat → Int) (n : Int) : (runN a b n 176 10).map (fun r => (r.1, r.2.obl)) = some (.bool true, pN a n 176 10 0) := by kernel_rfl
theorem q177 (a b : Nat → Int) (n : Int) : (runN a b n 177 10).map (fun r => (r.1, r.2.obl)) = some (.bool true, pN a n 177 10 1) := by kernel_rfl
theorem q178 (a b : Nat → Int) (n : Int) : (runN a b n 178 10).map (fun r => (r.1, r.2.obl)) = some (.bool true, pN a n 178 10 2) := by kernel_rfl
theorem q179 (a b : Nat → Int) (n : Int) : (runN a b n 179 10).map (fun r => (r.1, r.2.obl)) = some (.bool true, pN a n 179 10 3) := by kernel_rfl
theorem q180 (a b : Nat → Int) (n : Int) : (runN a b n 180 10).map (fun r => (r.1, r.2.obl)) = some (.bool true, pN a n 180 10 4) := by kernel_rfl
theorem q181 (a b : Nat → Int) (n : Int) : (runN a b n 181 10).map (fun r => (r.1, r.2.obl)) = some (.bool true, pN a n 181 10 5) := by kernel_rfl
theorem q182 (a b : Nat → Int) (n : Int) : (runN a b n 182 10).map (fun r => (r.1, r.2.obl)) = some (.bool true, pN a n 182 10 6) := by kernel_rfl
theorem q183 (a b : Nat → Int) (n : Int) : (runN a b n 183 10).map (fun r => (r.1, r.2.obl)) = some (.bool true, pN a n 183 10 7) := by kernel_rfl
theorem q184 (a b : Nat → Int) (n : Int) : (runN a b n 184 11).map (fun r => (r.1, r.2.obl)) = some (.bool true, pN a n 184 11 0) := by kernel_rfl
theorem q185 (a b : Nat → Int) (n : Int) : (runN a b n 185 11).map (fun r => (r.1, r.2.obl)) = some (.bool true, pN a n 185 11 1) := by kernel_rfl
theorem q186 (a b : Nat → Int) (n : Int) : (runN a b n 186 11).map (fun r => (r.1, r.2.obl)) = some (.bool true, pN a n 186 11 2) := by kernel_rfl
theorem q187 (a b : Nat → Int) (n : Int) : (runN a b n 187 11).map (fun r => (r.1, r.2.obl)) = some (.bool true, pN a n 187 11 3) := by kernel_rfl
theorem q188 (a b : Nat → Int) (n : Int) : (runN a b n 188 11).map (fun r => (r.1, r.2.obl)) = some (.bool true, pN a n 188 11 4) := by kernel_rfl
theorem q189 (a b : Nat → Int) (n : Int) : (runN a b n 189 11).map (fun r => (r.1, r.2.obl)) = some (.bool true, pN a n 189 11 5) := by kernel_rfl
theorem q190 (a b : Nat → Int) (n : Int) : (runN a b n 190 11).map (fun r => (r.1, r.2.obl)) = some (.bool true, pN a n 190 11 6) := by kernel_rfl
theorem q191 (a b : Nat → Int) (n : Int) : (runN a b n 191 11).map (fun r => (r.1, r.2.obl)) = some (.bool true, pN a n 191 11 7) := by kernel_rfl
end sw
end Go.Proofs.Ytpplgfhjkepdhab
