/- Read off the code by the clean reading. -/
import Derived.Test.YtmgelikgcfjhhaaGreatClnYa
set_option linter.unusedVariables false
set_option linter.unusedSimpArgs false
set_option linter.deprecated false
set_option maxRecDepth 100000
namespace Go.Proofs.YtmgelikgcfjhhaaGreat
open Go.ChangeShapes Go.WideShapes Go.ChangeAt Go.RowKit Go.Cln
namespace km
set_option linter.unusedVariables false
noncomputable section
def R0 (W : Nat) : List Int := List.replicate W 0
def W9 (m : Nat) : Nat := (IntKind.i64.wrap (((nI 7) + (nI m)) + (nI 2))).toNat
def C7 (m : Nat) (M : List Int) : List Int := (List.take (0 + m) (List.take m M)) ++ [77]
def T7 (m : Nat) (M : List Int) : List Int := List.take (7 + m) ([1, 84, 67, 80, 45, 65, 79] ++ (List.take m M))
def LA (W : Nat) : List Int := layI (R0 W) 0 [1]
def LB (W : Nat) : List Int := layI (LA W) 1 [84, 67, 80, 45, 65, 79]
def B0 (x : Int) : Int := IntKind.u8.wrap (IntKind.i64.wrap (Int.tdiv x 256))
def B1 (x : Int) : Int := IntKind.u8.wrap (Int.tmod x 256)
def sZ (TG : GT) (K : List Int) : List Int := bs (TG (wd Zr 0 16) K)
def oK1si : List (Option Bool) := no 2 ++ [some false] ++ no 3 ++ [some false] ++ no 3 ++ [some false, some false, some false, some true] ++ no 4 ++ [some true] ++ no 5 ++ [some false] ++ no 6 ++ [some false] ++ no 27 ++ [some true] ++ no 4 ++ [some true] ++ no 5 ++ [some true, some true, some true, some true] ++ no 2 ++ [some true] ++ no 3 ++ [some true] ++ no 3 ++ [some true] ++ no 3 ++ [some true] ++ no 7 ++ [some true] ++ no 5 ++ [some false] ++ no 3 ++ [some false] ++ [none] ++ [some false] ++ no 2 ++ [some false] ++ [none] ++ [some true] ++ no 10 ++ [some true] ++ no 5 ++ [some true] ++ no 3 ++ [some true] ++ [none] ++ [some true] ++ no 3 ++ [some true] ++ [none] ++ [some true] ++ no 2 ++ [some true]
def pK1si (TH : HT) (TG : GT) (K : List Int) (n : Nat) (c : Nat) (M : List Int) (m : Nat) (d : Nat) : Prop := ((((((((((((((((((((((((((((((((((((((((((((((((True ∧ ((decide (300 < (nI n))) = false)) ∧ ((decide (300 < (nI m))) = false)) ∧ ((decide ((0 + n) ≤ 0)) = false)) ∧ (((0 + n) ≤ K.length) ∧ ((0 ≤ 0) ∧ ((((0 + n) * 1) ≤ mostBytes) ∧ ((0 + n) ≤ mostBytes))))) ∧ ((decide ((0 + m) ≤ 0)) = false)) ∧ (((0 + m) ≤ M.length) ∧ ((0 ≤ 0) ∧ ((((0 + m) * 1) ≤ mostBytes) ∧ ((0 + m) ≤ mostBytes))))) ∧ ((decide (((0 + m) + 1) ≤ (0 + m))) = false)) ∧ ((1 ≤ 1) ∧ (((0 + (0 + m)) ≤ (List.take m M).length) ∧ (((((0 + m) + 1) * 1) ≤ mostBytes) ∧ (((0 + m) + 1) ≤ mostBytes))))) ∧ ((0 ≤ (nI m)) ∧ (((nI m) ≤ (nI ((0 + m) + 1))) ∧ (((0 : Int) ≤ 0) ∧ (0 ≤ (nI m)))))) ∧ ((decide (0 < (nI (0 + n)))) = true)) ∧ ((!(decide ((nI (0 + n)) ≤ 80))) = false)) ∧ ((decide (200 < (nI m))) = false)) ∧ ((IntKind.i64.wrap ((nI 7) + (nI m))) = ((nI 7) + (nI m)))) ∧ ((IntKind.i64.wrap (((nI 7) + (nI m)) + (nI 2))) = (((nI 7) + (nI m)) + (nI 2)))) ∧ ((IntKind.i64.wrap (((nI 7) + (nI m)) + (nI 2))) = (((nI 7) + (nI m)) + (nI 2)))) ∧ ((decide (0 < (((nI 7) + (nI m)) + (nI 2)))) = true)) ∧ ((1 ≤ (IntKind.i64.wrap (((nI 7) + (nI m)) + (nI 2)))) ∧ ((((W9 m) * 1) ≤ mostBytes) ∧ ((W9 m) ≤ mostBytes)))) ∧ ((0 ≤ (nI 0)) ∧ (((nI 0) ≤ (nI (W9 m))) ∧ (((0 : Int) ≤ 0) ∧ (0 ≤ (nI 0)))))) ∧ ((decide (1 ≤ (W9 m))) = true)) ∧ ((1 ≤ 1) ∧ (1 ≤ (R0 (W9 m)).length))) ∧ ((decide (7 ≤ (W9 m))) = true)) ∧ ((6 ≤ 6) ∧ (7 ≤ (LA (W9 m)).length))) ∧ ((decide ((7 + m) ≤ (W9 m))) = true)) ∧ (((0 + m) ≤ (C7 m M).length) ∧ ((7 + m) ≤ (LB (W9 m)).length))) ∧ ((decide (((7 + m) + 2) ≤ (W9 m))) = true)) ∧ ((2 ≤ 2) ∧ (((0 + (7 + m)) + 2) ≤ (layI (LB (W9 m)) 7 (List.take m (C7 m M))).length))) ∧ ((TH = hd.tgN) ∧ ((km.okB (wd (List.take n K) 0 (0 + n)) (0 + n) (0 + n)) ∧ (km.okB (wd (layI (layI (LB (W9 m)) 7 (List.take m (C7 m M))) (0 + (7 + m)) [0, 160]) 0 ((7 + m) + 2)) ((7 + m) + 2) (W9 m))))) ∧ ((decide (1 ≤ (nI n))) = true)) ∧ ((!(decide ((nI n) ≤ 80))) = false)) ∧ ((decide (200 < (nI m))) = false)) ∧ ((decide ((7 + m) ≤ 7)) = false)) ∧ (((0 + m) ≤ M.length) ∧ ((7 ≤ 7) ∧ ((((7 + m) * 1) ≤ mostBytes) ∧ ((7 + m) ≤ mostBytes))))) ∧ ((decide (((7 + m) + 2) ≤ (7 + m))) = false)) ∧ ((2 ≤ 2) ∧ (((0 + (7 + m)) ≤ ([1, 84, 67, 80, 45, 65, 79] ++ (List.take m M)).length) ∧ (((((7 + m) + 2) * 1) ≤ mostBytes) ∧ (((7 + m) + 2) ≤ mostBytes))))) ∧ ((TH = hd.tgN) ∧ (((okH (wd K 0 n) n) ∧ (n ≤ c)) ∧ ((okH (wd ((T7 m M) ++ [B0 160, B1 160]) 0 ((7 + m) + 2)) ((7 + m) + 2)) ∧ (((7 + m) + 2) ≤ ((7 + m) + 2)))))) ∧ ((beqB (bytesI (List.take 20 (hy.ot1 (TH (wd (List.take n K) 0 (0 + n)) (wd (layI (layI (LB (W9 m)) 7 (List.take m (C7 m M))) (0 + (7 + m)) [0, 160]) 0 ((7 + m) + 2)))))).toList (bytesI (List.take 20 (hy.ot1 (TH (wd K 0 n) (wd ((T7 m M) ++ [B0 160, B1 160]) 0 ((7 + m) + 2)))))).toList) = true)) ∧ ((0 + (0 + n)) ≤ (List.take n K).length)) ∧ ((0 + n) ≤ K.length)) ∧ ((beqB (bytesI (List.take (0 + n) (List.take n K))).toList (bytesI (List.take n K)).toList) = true)) ∧ ((0 + m) ≤ (C7 m M).length)) ∧ ((0 + m) ≤ M.length)) ∧ ((beqB (bytesI (List.take m (C7 m M))).toList (bytesI (List.take m M)).toList) = true)) ∧ ((IntKind.i64.wrap ((nI m) + 1)) = ((nI m) + 1))) ∧ ((0 ≤ ((nI m) + 1)) ∧ ((((nI m) + 1) ≤ (nI ((0 + m) + 1))) ∧ (((0 : Int) ≤ 0) ∧ (0 ≤ ((nI m) + 1)))))) ∧ ((0 ≤ (nI m)) ∧ ((nI m) < (nI ((nI m) + 1).toNat)))) ∧ ((0 + (m * 1)).succ ≤ (C7 m M).length)) ∧ ((decide (((C7 m M).getD (0 + (m * 1)) 0) = 77)) = true)) ∧ True)
theorem runK1si (TH : HT) (TG : GT) (K : List Int) (n : Nat) (c : Nat) (M : List Int) (m : Nat) (d : Nat) : (rG (KKy TH TG) (.int .i64 1) (sl 0 none n c) (sl 1 none m d) [ae.oI K, ae.oI M] oK1si).map (fun r => (r.1, r.2.obl)) = some (.bool true, pK1si TH TG K n c M m d) := by kernel_rfl
def oK1sn : List (Option Bool) := no 2 ++ [some false] ++ no 7 ++ [some false] ++ no 5 ++ [some true] ++ no 5 ++ [some false] ++ no 47 ++ [some true] ++ no 23 ++ [some true] ++ no 5 ++ [some false] ++ no 8 ++ [some true] ++ no 10 ++ [some true]
def pK1sn (TH : HT) (TG : GT) (K : List Int) (n : Nat) (c : Nat) : Prop := (((((((((((((((((((True ∧ ((decide (300 < (nI n))) = false)) ∧ ((decide ((0 + n) ≤ 0)) = false)) ∧ (((0 + n) ≤ K.length) ∧ ((0 ≤ 0) ∧ ((((0 + n) * 1) ≤ mostBytes) ∧ ((0 + n) ≤ mostBytes))))) ∧ ((decide (0 < (nI (0 + n)))) = true)) ∧ ((!(decide ((nI (0 + n)) ≤ 80))) = false)) ∧ ((1 ≤ (nI 9)) ∧ ((9 ≤ mostBytes) ∧ (9 ≤ mostBytes)))) ∧ ((1 ≤ 1) ∧ (1 ≤ (R0 9).length))) ∧ ((6 ≤ 6) ∧ (7 ≤ (LA 9).length))) ∧ ((0 ≤ 1) ∧ (7 ≤ (LB 9).length))) ∧ ((2 ≤ 2) ∧ (9 ≤ (layI (LB 9) 7 []).length))) ∧ ((TH = hd.tgN) ∧ ((km.okB (wd (List.take n K) 0 (0 + n)) (0 + n) (0 + n)) ∧ (km.okB (wd (layI (layI (LB 9) 7 []) 7 [0, 160]) 0 9) 9 9)))) ∧ ((decide (1 ≤ (nI n))) = true)) ∧ ((!(decide ((nI n) ≤ 80))) = false)) ∧ ((TH = hd.tgN) ∧ (((okH (wd K 0 n) n) ∧ (n ≤ c)) ∧ ((okH (wd [1, 84, 67, 80, 45, 65, 79, B0 160, B1 160] 0 9) 9) ∧ (9 ≤ 9))))) ∧ ((beqB (bytesI (List.take 20 (hy.ot1 (TH (wd (List.take n K) 0 (0 + n)) (wd (layI (layI (LB 9) 7 []) 7 [0, 160]) 0 9))))).toList (bytesI (List.take 20 (hy.ot1 (TH (wd K 0 n) (wd [1, 84, 67, 80, 45, 65, 79, B0 160, B1 160] 0 9))))).toList) = true)) ∧ ((0 + (0 + n)) ≤ (List.take n K).length)) ∧ ((0 + n) ≤ K.length)) ∧ ((beqB (bytesI (List.take (0 + n) (List.take n K))).toList (bytesI (List.take n K)).toList) = true)) ∧ True)
theorem runK1sn (TH : HT) (TG : GT) (K : List Int) (n : Nat) (c : Nat) : (rG (KKy TH TG) (.int .i64 1) (sl 0 none n c) (.slice none 0 0) [ae.oI K] oK1sn).map (fun r => (r.1, r.2.obl)) = some (.bool true, pK1sn TH TG K n c) := by kernel_rfl
def oK1sz : List (Option Bool) := no 2 ++ [some false] ++ no 7 ++ [some false] ++ no 5 ++ [some true] ++ no 5 ++ [some false] ++ no 47 ++ [some true] ++ no 23 ++ [some true] ++ no 5 ++ [some false] ++ no 8 ++ [some true] ++ no 10 ++ [some true]
def pK1sz (TH : HT) (TG : GT) (K : List Int) (n : Nat) (c : Nat) (d : Nat) : Prop := (((((((((((((((((((True ∧ ((decide (300 < (nI n))) = false)) ∧ ((decide ((0 + n) ≤ 0)) = false)) ∧ (((0 + n) ≤ K.length) ∧ ((0 ≤ 0) ∧ ((((0 + n) * 1) ≤ mostBytes) ∧ ((0 + n) ≤ mostBytes))))) ∧ ((decide (0 < (nI (0 + n)))) = true)) ∧ ((!(decide ((nI (0 + n)) ≤ 80))) = false)) ∧ ((1 ≤ (nI 9)) ∧ ((9 ≤ mostBytes) ∧ (9 ≤ mostBytes)))) ∧ ((1 ≤ 1) ∧ (1 ≤ (R0 9).length))) ∧ ((6 ≤ 6) ∧ (7 ≤ (LA 9).length))) ∧ ((0 ≤ 1) ∧ (7 ≤ (LB 9).length))) ∧ ((2 ≤ 2) ∧ (9 ≤ (layI (LB 9) 7 []).length))) ∧ ((TH = hd.tgN) ∧ ((km.okB (wd (List.take n K) 0 (0 + n)) (0 + n) (0 + n)) ∧ (km.okB (wd (layI (layI (LB 9) 7 []) 7 [0, 160]) 0 9) 9 9)))) ∧ ((decide (1 ≤ (nI n))) = true)) ∧ ((!(decide ((nI n) ≤ 80))) = false)) ∧ ((TH = hd.tgN) ∧ (((okH (wd K 0 n) n) ∧ (n ≤ c)) ∧ ((okH (wd [1, 84, 67, 80, 45, 65, 79, B0 160, B1 160] 0 9) 9) ∧ (9 ≤ 9))))) ∧ ((beqB (bytesI (List.take 20 (hy.ot1 (TH (wd (List.take n K) 0 (0 + n)) (wd (layI (layI (LB 9) 7 []) 7 [0, 160]) 0 9))))).toList (bytesI (List.take 20 (hy.ot1 (TH (wd K 0 n) (wd [1, 84, 67, 80, 45, 65, 79, B0 160, B1 160] 0 9))))).toList) = true)) ∧ ((0 + (0 + n)) ≤ (List.take n K).length)) ∧ ((0 + n) ≤ K.length)) ∧ ((beqB (bytesI (List.take (0 + n) (List.take n K))).toList (bytesI (List.take n K)).toList) = true)) ∧ True)
theorem runK1sz (TH : HT) (TG : GT) (K : List Int) (n : Nat) (c : Nat) (d : Nat) : (rG (KKy TH TG) (.int .i64 1) (sl 0 none n c) (sl 1 none 0 d) [ae.oI K, none] oK1sz).map (fun r => (r.1, r.2.obl)) = some (.bool true, pK1sz TH TG K n c d) := by kernel_rfl
def oK2ki : List (Option Bool) := no 6 ++ [some false] ++ no 4 ++ [some false, some false, some true] ++ no 19 ++ [some false] ++ no 27 ++ [some true] ++ no 4 ++ [some true] ++ no 5 ++ [some true, some true, some true, some true] ++ no 2 ++ [some true] ++ no 3 ++ [some true] ++ no 3 ++ [some true] ++ no 3 ++ [some true] ++ no 27 ++ [some false] ++ no 3 ++ [some false] ++ no 2 ++ [some false] ++ [none] ++ [some true] ++ no 10 ++ [some true] ++ no 5 ++ [some true] ++ no 3 ++ [some true] ++ [none] ++ [some true] ++ no 3 ++ [some true] ++ [none] ++ [some true] ++ no 2 ++ [some true]
def pK2ki (TH : HT) (TG : GT) (K : List Int) (c : Nat) (M : List Int) (m : Nat) (d : Nat) : Prop := ((((((((((((((((((((((((((((((((((((((((((((True ∧ ((decide (300 < (nI m))) = false)) ∧ ((16 ≤ K.length) ∧ ((0 ≤ 0) ∧ ((16 ≤ mostBytes) ∧ (16 ≤ mostBytes))))) ∧ ((decide ((0 + m) ≤ 0)) = false)) ∧ (((0 + m) ≤ M.length) ∧ ((0 ≤ 0) ∧ ((((0 + m) * 1) ≤ mostBytes) ∧ ((0 + m) ≤ mostBytes))))) ∧ ((decide (((0 + m) + 1) ≤ (0 + m))) = false)) ∧ ((1 ≤ 1) ∧ (((0 + (0 + m)) ≤ (List.take m M).length) ∧ (((((0 + m) + 1) * 1) ≤ mostBytes) ∧ (((0 + m) + 1) ≤ mostBytes))))) ∧ ((0 ≤ (nI m)) ∧ (((nI m) ≤ (nI ((0 + m) + 1))) ∧ (((0 : Int) ≤ 0) ∧ (0 ≤ (nI m)))))) ∧ ((decide (200 < (nI m))) = false)) ∧ ((IntKind.i64.wrap ((nI 7) + (nI m))) = ((nI 7) + (nI m)))) ∧ ((IntKind.i64.wrap (((nI 7) + (nI m)) + (nI 2))) = (((nI 7) + (nI m)) + (nI 2)))) ∧ ((IntKind.i64.wrap (((nI 7) + (nI m)) + (nI 2))) = (((nI 7) + (nI m)) + (nI 2)))) ∧ ((decide (0 < (((nI 7) + (nI m)) + (nI 2)))) = true)) ∧ ((1 ≤ (IntKind.i64.wrap (((nI 7) + (nI m)) + (nI 2)))) ∧ ((((W9 m) * 1) ≤ mostBytes) ∧ ((W9 m) ≤ mostBytes)))) ∧ ((0 ≤ (nI 0)) ∧ (((nI 0) ≤ (nI (W9 m))) ∧ (((0 : Int) ≤ 0) ∧ (0 ≤ (nI 0)))))) ∧ ((decide (1 ≤ (W9 m))) = true)) ∧ ((1 ≤ 1) ∧ (1 ≤ (R0 (W9 m)).length))) ∧ ((decide (7 ≤ (W9 m))) = true)) ∧ ((6 ≤ 6) ∧ (7 ≤ (LA (W9 m)).length))) ∧ ((decide ((7 + m) ≤ (W9 m))) = true)) ∧ (((0 + m) ≤ (C7 m M).length) ∧ ((7 + m) ≤ (LB (W9 m)).length))) ∧ ((decide (((7 + m) + 2) ≤ (W9 m))) = true)) ∧ ((2 ≤ 2) ∧ (((0 + (7 + m)) + 2) ≤ (layI (LB (W9 m)) 7 (List.take m (C7 m M))).length))) ∧ ((16 ≤ (List.take 16 K).length) ∧ ((0 ≤ 0) ∧ ((16 ≤ mostBytes) ∧ (16 ≤ mostBytes))))) ∧ ((TG = ae.tagF) ∧ ((km.okA (wd (List.take 16 (List.take 16 K)) 0 16) (wd (layI (layI (LB (W9 m)) 7 (List.take m (C7 m M))) (0 + (7 + m)) [0, 128]) 0 ((7 + m) + 2)) ((7 + m) + 2)) ∧ ((0 < ((7 + m) + 2)) ∧ (((7 + m) + 2) ≤ (W9 m)))))) ∧ ((decide (200 < (nI m))) = false)) ∧ ((16 ≤ K.length) ∧ ((0 ≤ 0) ∧ ((16 ≤ mostBytes) ∧ (16 ≤ mostBytes))))) ∧ ((decide ((7 + m) ≤ 7)) = false)) ∧ (((0 + m) ≤ M.length) ∧ ((7 ≤ 7) ∧ ((((7 + m) * 1) ≤ mostBytes) ∧ ((7 + m) ≤ mostBytes))))) ∧ ((decide (((7 + m) + 2) ≤ (7 + m))) = false)) ∧ ((2 ≤ 2) ∧ (((0 + (7 + m)) ≤ ([1, 84, 67, 80, 45, 65, 79] ++ (List.take m M)).length) ∧ (((((7 + m) + 2) * 1) ≤ mostBytes) ∧ (((7 + m) + 2) ≤ mostBytes))))) ∧ ((TG = ae.tagF) ∧ ((km.okA (wd (List.take 16 K) 0 16) (wd ((T7 m M) ++ [B0 128, B1 128]) 0 ((7 + m) + 2)) ((7 + m) + 2)) ∧ ((16 ≤ 16) ∧ (((7 + m) + 2) ≤ ((7 + m) + 2)))))) ∧ ((beqB (bytesI (List.take 16 (bs (TG (wd (List.take 16 (List.take 16 K)) 0 16) (wd (layI (layI (LB (W9 m)) 7 (List.take m (C7 m M))) (0 + (7 + m)) [0, 128]) 0 ((7 + m) + 2)))))).toList (bytesI (List.take 16 (bs (TG (wd (List.take 16 K) 0 16) (wd ((T7 m M) ++ [B0 128, B1 128]) 0 ((7 + m) + 2)))))).toList) = true)) ∧ (16 ≤ (List.take 16 K).length)) ∧ (16 ≤ K.length)) ∧ ((beqB (bytesI (List.take 16 (List.take 16 K))).toList (bytesI (List.take 16 K)).toList) = true)) ∧ ((0 + m) ≤ (C7 m M).length)) ∧ ((0 + m) ≤ M.length)) ∧ ((beqB (bytesI (List.take m (C7 m M))).toList (bytesI (List.take m M)).toList) = true)) ∧ ((IntKind.i64.wrap ((nI m) + 1)) = ((nI m) + 1))) ∧ ((0 ≤ ((nI m) + 1)) ∧ ((((nI m) + 1) ≤ (nI ((0 + m) + 1))) ∧ (((0 : Int) ≤ 0) ∧ (0 ≤ ((nI m) + 1)))))) ∧ ((0 ≤ (nI m)) ∧ ((nI m) < (nI ((nI m) + 1).toNat)))) ∧ ((0 + (m * 1)).succ ≤ (C7 m M).length)) ∧ ((decide (((C7 m M).getD (0 + (m * 1)) 0) = 77)) = true)) ∧ True)
theorem runK2ki (TH : HT) (TG : GT) (K : List Int) (c : Nat) (M : List Int) (m : Nat) (d : Nat) : (rG (KKy TH TG) (.int .i64 2) (sl 0 none 16 c) (sl 1 none m d) [ae.oI K, ae.oI M] oK2ki).map (fun r => (r.1, r.2.obl)) = some (.bool true, pK2ki TH TG K c M m d) := by kernel_rfl
def oK2kn : List (Option Bool) := no 72 ++ [some true] ++ no 50 ++ [some true] ++ no 10 ++ [some true]
def pK2kn (TH : HT) (TG : GT) (K : List Int) (c : Nat) : Prop := (((((((((((((((True ∧ ((16 ≤ K.length) ∧ ((0 ≤ 0) ∧ ((16 ≤ mostBytes) ∧ (16 ≤ mostBytes))))) ∧ ((1 ≤ (nI 9)) ∧ ((9 ≤ mostBytes) ∧ (9 ≤ mostBytes)))) ∧ ((1 ≤ 1) ∧ (1 ≤ (R0 9).length))) ∧ ((6 ≤ 6) ∧ (7 ≤ (LA 9).length))) ∧ ((0 ≤ 1) ∧ (7 ≤ (LB 9).length))) ∧ ((2 ≤ 2) ∧ (9 ≤ (layI (LB 9) 7 []).length))) ∧ ((16 ≤ (List.take 16 K).length) ∧ ((0 ≤ 0) ∧ ((16 ≤ mostBytes) ∧ (16 ≤ mostBytes))))) ∧ ((TG = ae.tagF) ∧ ((km.okA (wd (List.take 16 (List.take 16 K)) 0 16) (wd (layI (layI (LB 9) 7 []) 7 [0, 128]) 0 9) 9) ∧ ((0 < 9) ∧ (9 ≤ 9))))) ∧ ((16 ≤ K.length) ∧ ((0 ≤ 0) ∧ ((16 ≤ mostBytes) ∧ (16 ≤ mostBytes))))) ∧ ((TG = ae.tagF) ∧ ((km.okA (wd (List.take 16 K) 0 16) (wd [1, 84, 67, 80, 45, 65, 79, B0 128, B1 128] 0 9) 9) ∧ ((16 ≤ 16) ∧ (9 ≤ 9))))) ∧ ((beqB (bytesI (List.take 16 (bs (TG (wd (List.take 16 (List.take 16 K)) 0 16) (wd (layI (layI (LB 9) 7 []) 7 [0, 128]) 0 9))))).toList (bytesI (List.take 16 (bs (TG (wd (List.take 16 K) 0 16) (wd [1, 84, 67, 80, 45, 65, 79, B0 128, B1 128] 0 9))))).toList) = true)) ∧ (16 ≤ (List.take 16 K).length)) ∧ (16 ≤ K.length)) ∧ ((beqB (bytesI (List.take 16 (List.take 16 K))).toList (bytesI (List.take 16 K)).toList) = true)) ∧ True)
theorem runK2kn (TH : HT) (TG : GT) (K : List Int) (c : Nat) : (rG (KKy TH TG) (.int .i64 2) (sl 0 none 16 c) (.slice none 0 0) [ae.oI K] oK2kn).map (fun r => (r.1, r.2.obl)) = some (.bool true, pK2kn TH TG K c) := by kernel_rfl
def oK2kz : List (Option Bool) := no 72 ++ [some true] ++ no 50 ++ [some true] ++ no 10 ++ [some true]
def pK2kz (TH : HT) (TG : GT) (K : List Int) (c : Nat) (d : Nat) : Prop := (((((((((((((((True ∧ ((16 ≤ K.length) ∧ ((0 ≤ 0) ∧ ((16 ≤ mostBytes) ∧ (16 ≤ mostBytes))))) ∧ ((1 ≤ (nI 9)) ∧ ((9 ≤ mostBytes) ∧ (9 ≤ mostBytes)))) ∧ ((1 ≤ 1) ∧ (1 ≤ (R0 9).length))) ∧ ((6 ≤ 6) ∧ (7 ≤ (LA 9).length))) ∧ ((0 ≤ 1) ∧ (7 ≤ (LB 9).length))) ∧ ((2 ≤ 2) ∧ (9 ≤ (layI (LB 9) 7 []).length))) ∧ ((16 ≤ (List.take 16 K).length) ∧ ((0 ≤ 0) ∧ ((16 ≤ mostBytes) ∧ (16 ≤ mostBytes))))) ∧ ((TG = ae.tagF) ∧ ((km.okA (wd (List.take 16 (List.take 16 K)) 0 16) (wd (layI (layI (LB 9) 7 []) 7 [0, 128]) 0 9) 9) ∧ ((0 < 9) ∧ (9 ≤ 9))))) ∧ ((16 ≤ K.length) ∧ ((0 ≤ 0) ∧ ((16 ≤ mostBytes) ∧ (16 ≤ mostBytes))))) ∧ ((TG = ae.tagF) ∧ ((km.okA (wd (List.take 16 K) 0 16) (wd [1, 84, 67, 80, 45, 65, 79, B0 128, B1 128] 0 9) 9) ∧ ((16 ≤ 16) ∧ (9 ≤ 9))))) ∧ ((beqB (bytesI (List.take 16 (bs (TG (wd (List.take 16 (List.take 16 K)) 0 16) (wd (layI (layI (LB 9) 7 []) 7 [0, 128]) 0 9))))).toList (bytesI (List.take 16 (bs (TG (wd (List.take 16 K) 0 16) (wd [1, 84, 67, 80, 45, 65, 79, B0 128, B1 128] 0 9))))).toList) = true)) ∧ (16 ≤ (List.take 16 K).length)) ∧ (16 ≤ K.length)) ∧ ((beqB (bytesI (List.take 16 (List.take 16 K))).toList (bytesI (List.take 16 K)).toList) = true)) ∧ True)
theorem runK2kz (TH : HT) (TG : GT) (K : List Int) (c : Nat) (d : Nat) : (rG (KKy TH TG) (.int .i64 2) (sl 0 none 16 c) (sl 1 none 0 d) [ae.oI K, none] oK2kz).map (fun r => (r.1, r.2.obl)) = some (.bool true, pK2kz TH TG K c d) := by kernel_rfl
def oK2si : List (Option Bool) := no 2 ++ [some false] ++ no 3 ++ [some false] ++ no 3 ++ [some false, some false, some false, some true] ++ no 5 ++ [some true] ++ no 5 ++ [some false] ++ no 7 ++ [some false] ++ no 27 ++ [some true] ++ no 4 ++ [some true] ++ no 5 ++ [some true, some true, some true, some true] ++ no 2 ++ [some true] ++ no 3 ++ [some true] ++ no 3 ++ [some true] ++ no 3 ++ [some true] ++ no 3 ++ [some true] ++ no 3 ++ [some false, some false] ++ no 8 ++ [some true] ++ no 5 ++ [some false] ++ no 3 ++ [some false] ++ [none] ++ [some false] ++ no 2 ++ [some false] ++ no 2 ++ [some false] ++ [none] ++ [some true] ++ no 10 ++ [some true] ++ no 5 ++ [some true] ++ no 3 ++ [some true] ++ [none] ++ [some true] ++ no 3 ++ [some true] ++ [none] ++ [some true] ++ no 2 ++ [some true]
def pK2si (TH : HT) (TG : GT) (K : List Int) (n : Nat) (c : Nat) (M : List Int) (m : Nat) (d : Nat) : Prop := ((((((((((((((((((((((((((((((((((((((((((((((((((((((True ∧ ((decide (300 < (nI n))) = false)) ∧ ((decide (300 < (nI m))) = false)) ∧ ((decide ((0 + n) ≤ 0)) = false)) ∧ (((0 + n) ≤ K.length) ∧ ((0 ≤ 0) ∧ ((((0 + n) * 1) ≤ mostBytes) ∧ ((0 + n) ≤ mostBytes))))) ∧ ((decide ((0 + m) ≤ 0)) = false)) ∧ (((0 + m) ≤ M.length) ∧ ((0 ≤ 0) ∧ ((((0 + m) * 1) ≤ mostBytes) ∧ ((0 + m) ≤ mostBytes))))) ∧ ((decide (((0 + m) + 1) ≤ (0 + m))) = false)) ∧ ((1 ≤ 1) ∧ (((0 + (0 + m)) ≤ (List.take m M).length) ∧ (((((0 + m) + 1) * 1) ≤ mostBytes) ∧ (((0 + m) + 1) ≤ mostBytes))))) ∧ ((0 ≤ (nI m)) ∧ (((nI m) ≤ (nI ((0 + m) + 1))) ∧ (((0 : Int) ≤ 0) ∧ (0 ≤ (nI m)))))) ∧ ((decide (0 < (nI (0 + n)))) = true)) ∧ ((!(decide ((nI (0 + n)) ≤ 80))) = false)) ∧ ((decide (200 < (nI m))) = false)) ∧ ((IntKind.i64.wrap ((nI 7) + (nI m))) = ((nI 7) + (nI m)))) ∧ ((IntKind.i64.wrap (((nI 7) + (nI m)) + (nI 2))) = (((nI 7) + (nI m)) + (nI 2)))) ∧ ((IntKind.i64.wrap (((nI 7) + (nI m)) + (nI 2))) = (((nI 7) + (nI m)) + (nI 2)))) ∧ ((decide (0 < (((nI 7) + (nI m)) + (nI 2)))) = true)) ∧ ((1 ≤ (IntKind.i64.wrap (((nI 7) + (nI m)) + (nI 2)))) ∧ ((((W9 m) * 1) ≤ mostBytes) ∧ ((W9 m) ≤ mostBytes)))) ∧ ((0 ≤ (nI 0)) ∧ (((nI 0) ≤ (nI (W9 m))) ∧ (((0 : Int) ≤ 0) ∧ (0 ≤ (nI 0)))))) ∧ ((decide (1 ≤ (W9 m))) = true)) ∧ ((1 ≤ 1) ∧ (1 ≤ (R0 (W9 m)).length))) ∧ ((decide (7 ≤ (W9 m))) = true)) ∧ ((6 ≤ 6) ∧ (7 ≤ (LA (W9 m)).length))) ∧ ((decide ((7 + m) ≤ (W9 m))) = true)) ∧ (((0 + m) ≤ (C7 m M).length) ∧ ((7 + m) ≤ (LB (W9 m)).length))) ∧ ((decide (((7 + m) + 2) ≤ (W9 m))) = true)) ∧ ((2 ≤ 2) ∧ (((0 + (7 + m)) + 2) ≤ (layI (LB (W9 m)) 7 (List.take m (C7 m M))).length))) ∧ ((decide (0 < (nI (0 + n)))) = true)) ∧ ((!(decide ((nI (0 + n)) ≤ 80))) = false)) ∧ ((decide ((nI (0 + n)) = 16)) = false)) ∧ ((TG = ae.tagF) ∧ ((km.okA (wd Zr 0 16) (wd (List.take n K) 0 (0 + n)) (0 + n)) ∧ ((0 < (0 + n)) ∧ ((0 + n) ≤ (0 + n)))))) ∧ ((TG = ae.tagF) ∧ ((km.okA (wd (sZ TG (wd (List.take n K) 0 (0 + n))) 0 16) (wd (layI (layI (LB (W9 m)) 7 (List.take m (C7 m M))) (0 + (7 + m)) [0, 128]) 0 ((7 + m) + 2)) ((7 + m) + 2)) ∧ ((0 < ((7 + m) + 2)) ∧ (((7 + m) + 2) ≤ (W9 m)))))) ∧ ((decide (1 ≤ (nI n))) = true)) ∧ ((!(decide ((nI n) ≤ 80))) = false)) ∧ ((decide (200 < (nI m))) = false)) ∧ ((decide ((nI n) = 16)) = false)) ∧ ((TG = ae.tagF) ∧ ((km.okA (wd Zr 0 16) (wd K 0 n) n) ∧ ((16 ≤ 16) ∧ (n ≤ c))))) ∧ ((decide ((7 + m) ≤ 7)) = false)) ∧ (((0 + m) ≤ M.length) ∧ ((7 ≤ 7) ∧ ((((7 + m) * 1) ≤ mostBytes) ∧ ((7 + m) ≤ mostBytes))))) ∧ ((decide (((7 + m) + 2) ≤ (7 + m))) = false)) ∧ ((2 ≤ 2) ∧ (((0 + (7 + m)) ≤ ([1, 84, 67, 80, 45, 65, 79] ++ (List.take m M)).length) ∧ (((((7 + m) + 2) * 1) ≤ mostBytes) ∧ (((7 + m) + 2) ≤ mostBytes))))) ∧ ((TG = ae.tagF) ∧ ((km.okA (wd (sZ TG (wd K 0 n)) 0 16) (wd ((T7 m M) ++ [B0 128, B1 128]) 0 ((7 + m) + 2)) ((7 + m) + 2)) ∧ ((16 ≤ 16) ∧ (((7 + m) + 2) ≤ ((7 + m) + 2)))))) ∧ ((beqB (bytesI (List.take 16 (bs (TG (wd (sZ TG (wd (List.take n K) 0 (0 + n))) 0 16) (wd (layI (layI (LB (W9 m)) 7 (List.take m (C7 m M))) (0 + (7 + m)) [0, 128]) 0 ((7 + m) + 2)))))).toList (bytesI (List.take 16 (bs (TG (wd (sZ TG (wd K 0 n)) 0 16) (wd ((T7 m M) ++ [B0 128, B1 128]) 0 ((7 + m) + 2)))))).toList) = true)) ∧ ((0 + (0 + n)) ≤ (List.take n K).length)) ∧ ((0 + n) ≤ K.length)) ∧ ((beqB (bytesI (List.take (0 + n) (List.take n K))).toList (bytesI (List.take n K)).toList) = true)) ∧ ((0 + m) ≤ (C7 m M).length)) ∧ ((0 + m) ≤ M.length)) ∧ ((beqB (bytesI (List.take m (C7 m M))).toList (bytesI (List.take m M)).toList) = true)) ∧ ((IntKind.i64.wrap ((nI m) + 1)) = ((nI m) + 1))) ∧ ((0 ≤ ((nI m) + 1)) ∧ ((((nI m) + 1) ≤ (nI ((0 + m) + 1))) ∧ (((0 : Int) ≤ 0) ∧ (0 ≤ ((nI m) + 1)))))) ∧ ((0 ≤ (nI m)) ∧ ((nI m) < (nI ((nI m) + 1).toNat)))) ∧ ((0 + (m * 1)).succ ≤ (C7 m M).length)) ∧ ((decide (((C7 m M).getD (0 + (m * 1)) 0) = 77)) = true)) ∧ True)
theorem runK2si (TH : HT) (TG : GT) (K : List Int) (n : Nat) (c : Nat) (M : List Int) (m : Nat) (d : Nat) : (rG (KKy TH TG) (.int .i64 2) (sl 0 none n c) (sl 1 none m d) [ae.oI K, ae.oI M] oK2si).map (fun r => (r.1, r.2.obl)) = some (.bool true, pK2si TH TG K n c M m d) := by kernel_rfl
def oK2sn : List (Option Bool) := no 2 ++ [some false] ++ no 7 ++ [some false] ++ no 6 ++ [some true] ++ no 5 ++ [some false] ++ no 48 ++ [some true] ++ no 19 ++ [some true] ++ no 3 ++ [some false, some false] ++ no 8 ++ [some true] ++ no 5 ++ [some false] ++ no 5 ++ [some false] ++ no 5 ++ [some true] ++ no 10 ++ [some true]
def pK2sn (TH : HT) (TG : GT) (K : List Int) (n : Nat) (c : Nat) : Prop := (((((((((((((((((((((((((True ∧ ((decide (300 < (nI n))) = false)) ∧ ((decide ((0 + n) ≤ 0)) = false)) ∧ (((0 + n) ≤ K.length) ∧ ((0 ≤ 0) ∧ ((((0 + n) * 1) ≤ mostBytes) ∧ ((0 + n) ≤ mostBytes))))) ∧ ((decide (0 < (nI (0 + n)))) = true)) ∧ ((!(decide ((nI (0 + n)) ≤ 80))) = false)) ∧ ((1 ≤ (nI 9)) ∧ ((9 ≤ mostBytes) ∧ (9 ≤ mostBytes)))) ∧ ((1 ≤ 1) ∧ (1 ≤ (R0 9).length))) ∧ ((6 ≤ 6) ∧ (7 ≤ (LA 9).length))) ∧ ((0 ≤ 1) ∧ (7 ≤ (LB 9).length))) ∧ ((2 ≤ 2) ∧ (9 ≤ (layI (LB 9) 7 []).length))) ∧ ((decide (0 < (nI (0 + n)))) = true)) ∧ ((!(decide ((nI (0 + n)) ≤ 80))) = false)) ∧ ((decide ((nI (0 + n)) = 16)) = false)) ∧ ((TG = ae.tagF) ∧ ((km.okA (wd Zr 0 16) (wd (List.take n K) 0 (0 + n)) (0 + n)) ∧ ((0 < (0 + n)) ∧ ((0 + n) ≤ (0 + n)))))) ∧ ((TG = ae.tagF) ∧ ((km.okA (wd (sZ TG (wd (List.take n K) 0 (0 + n))) 0 16) (wd (layI (layI (LB 9) 7 []) 7 [0, 128]) 0 9) 9) ∧ ((0 < 9) ∧ (9 ≤ 9))))) ∧ ((decide (1 ≤ (nI n))) = true)) ∧ ((!(decide ((nI n) ≤ 80))) = false)) ∧ ((decide ((nI n) = 16)) = false)) ∧ ((TG = ae.tagF) ∧ ((km.okA (wd Zr 0 16) (wd K 0 n) n) ∧ ((16 ≤ 16) ∧ (n ≤ c))))) ∧ ((TG = ae.tagF) ∧ ((km.okA (wd (sZ TG (wd K 0 n)) 0 16) (wd [1, 84, 67, 80, 45, 65, 79, B0 128, B1 128] 0 9) 9) ∧ ((16 ≤ 16) ∧ (9 ≤ 9))))) ∧ ((beqB (bytesI (List.take 16 (bs (TG (wd (sZ TG (wd (List.take n K) 0 (0 + n))) 0 16) (wd (layI (layI (LB 9) 7 []) 7 [0, 128]) 0 9))))).toList (bytesI (List.take 16 (bs (TG (wd (sZ TG (wd K 0 n)) 0 16) (wd [1, 84, 67, 80, 45, 65, 79, B0 128, B1 128] 0 9))))).toList) = true)) ∧ ((0 + (0 + n)) ≤ (List.take n K).length)) ∧ ((0 + n) ≤ K.length)) ∧ ((beqB (bytesI (List.take (0 + n) (List.take n K))).toList (bytesI (List.take n K)).toList) = true)) ∧ True)
theorem runK2sn (TH : HT) (TG : GT) (K : List Int) (n : Nat) (c : Nat) : (rG (KKy TH TG) (.int .i64 2) (sl 0 none n c) (.slice none 0 0) [ae.oI K] oK2sn).map (fun r => (r.1, r.2.obl)) = some (.bool true, pK2sn TH TG K n c) := by kernel_rfl
def oK2sz : List (Option Bool) := no 2 ++ [some false] ++ no 7 ++ [some false] ++ no 6 ++ [some true] ++ no 5 ++ [some false] ++ no 48 ++ [some true] ++ no 19 ++ [some true] ++ no 3 ++ [some false, some false] ++ no 8 ++ [some true] ++ no 5 ++ [some false] ++ no 5 ++ [some false] ++ no 5 ++ [some true] ++ no 10 ++ [some true]
def pK2sz (TH : HT) (TG : GT) (K : List Int) (n : Nat) (c : Nat) (d : Nat) : Prop := (((((((((((((((((((((((((True ∧ ((decide (300 < (nI n))) = false)) ∧ ((decide ((0 + n) ≤ 0)) = false)) ∧ (((0 + n) ≤ K.length) ∧ ((0 ≤ 0) ∧ ((((0 + n) * 1) ≤ mostBytes) ∧ ((0 + n) ≤ mostBytes))))) ∧ ((decide (0 < (nI (0 + n)))) = true)) ∧ ((!(decide ((nI (0 + n)) ≤ 80))) = false)) ∧ ((1 ≤ (nI 9)) ∧ ((9 ≤ mostBytes) ∧ (9 ≤ mostBytes)))) ∧ ((1 ≤ 1) ∧ (1 ≤ (R0 9).length))) ∧ ((6 ≤ 6) ∧ (7 ≤ (LA 9).length))) ∧ ((0 ≤ 1) ∧ (7 ≤ (LB 9).length))) ∧ ((2 ≤ 2) ∧ (9 ≤ (layI (LB 9) 7 []).length))) ∧ ((decide (0 < (nI (0 + n)))) = true)) ∧ ((!(decide ((nI (0 + n)) ≤ 80))) = false)) ∧ ((decide ((nI (0 + n)) = 16)) = false)) ∧ ((TG = ae.tagF) ∧ ((km.okA (wd Zr 0 16) (wd (List.take n K) 0 (0 + n)) (0 + n)) ∧ ((0 < (0 + n)) ∧ ((0 + n) ≤ (0 + n)))))) ∧ ((TG = ae.tagF) ∧ ((km.okA (wd (sZ TG (wd (List.take n K) 0 (0 + n))) 0 16) (wd (layI (layI (LB 9) 7 []) 7 [0, 128]) 0 9) 9) ∧ ((0 < 9) ∧ (9 ≤ 9))))) ∧ ((decide (1 ≤ (nI n))) = true)) ∧ ((!(decide ((nI n) ≤ 80))) = false)) ∧ ((decide ((nI n) = 16)) = false)) ∧ ((TG = ae.tagF) ∧ ((km.okA (wd Zr 0 16) (wd K 0 n) n) ∧ ((16 ≤ 16) ∧ (n ≤ c))))) ∧ ((TG = ae.tagF) ∧ ((km.okA (wd (sZ TG (wd K 0 n)) 0 16) (wd [1, 84, 67, 80, 45, 65, 79, B0 128, B1 128] 0 9) 9) ∧ ((16 ≤ 16) ∧ (9 ≤ 9))))) ∧ ((beqB (bytesI (List.take 16 (bs (TG (wd (sZ TG (wd (List.take n K) 0 (0 + n))) 0 16) (wd (layI (layI (LB 9) 7 []) 7 [0, 128]) 0 9))))).toList (bytesI (List.take 16 (bs (TG (wd (sZ TG (wd K 0 n)) 0 16) (wd [1, 84, 67, 80, 45, 65, 79, B0 128, B1 128] 0 9))))).toList) = true)) ∧ ((0 + (0 + n)) ≤ (List.take n K).length)) ∧ ((0 + n) ≤ K.length)) ∧ ((beqB (bytesI (List.take (0 + n) (List.take n K))).toList (bytesI (List.take n K)).toList) = true)) ∧ True)
theorem runK2sz (TH : HT) (TG : GT) (K : List Int) (n : Nat) (c : Nat) (d : Nat) : (rG (KKy TH TG) (.int .i64 2) (sl 0 none n c) (sl 1 none 0 d) [ae.oI K, none] oK2sz).map (fun r => (r.1, r.2.obl)) = some (.bool true, pK2sz TH TG K n c d) := by kernel_rfl
def oK1sl : List (Option Bool) := no 2 ++ [some false] ++ no 3 ++ [some false] ++ no 3 ++ [some false, some false, some false, some true] ++ no 4 ++ [some true] ++ no 5 ++ [some false] ++ no 6 ++ [some true] ++ no 4 ++ [some true] ++ no 5 ++ [some false] ++ no 3 ++ [some true] ++ no 11 ++ [some true] ++ no 5 ++ [some true] ++ no 3 ++ [some true] ++ [none] ++ [some true] ++ no 3 ++ [some true] ++ [none] ++ [some true] ++ no 2 ++ [some true]
def pK1sl (K : List Int) (n : Nat) (c : Nat) (M : List Int) (m : Nat) (d : Nat) : Prop := (((((((((((((((((((((((((((True ∧ ((decide (300 < (nI n))) = false)) ∧ ((decide (300 < (nI m))) = false)) ∧ ((decide ((0 + n) ≤ 0)) = false)) ∧ (((0 + n) ≤ K.length) ∧ ((0 ≤ 0) ∧ ((((0 + n) * 1) ≤ mostBytes) ∧ ((0 + n) ≤ mostBytes))))) ∧ ((decide ((0 + m) ≤ 0)) = false)) ∧ (((0 + m) ≤ M.length) ∧ ((0 ≤ 0) ∧ ((((0 + m) * 1) ≤ mostBytes) ∧ ((0 + m) ≤ mostBytes))))) ∧ ((decide (((0 + m) + 1) ≤ (0 + m))) = false)) ∧ ((1 ≤ 1) ∧ (((0 + (0 + m)) ≤ (List.take m M).length) ∧ (((((0 + m) + 1) * 1) ≤ mostBytes) ∧ (((0 + m) + 1) ≤ mostBytes))))) ∧ ((0 ≤ (nI m)) ∧ (((nI m) ≤ (nI ((0 + m) + 1))) ∧ (((0 : Int) ≤ 0) ∧ (0 ≤ (nI m)))))) ∧ ((decide (0 < (nI (0 + n)))) = true)) ∧ ((!(decide ((nI (0 + n)) ≤ 80))) = false)) ∧ ((decide (200 < (nI m))) = true)) ∧ ((decide (1 ≤ (nI n))) = true)) ∧ ((!(decide ((nI n) ≤ 80))) = false)) ∧ ((decide (200 < (nI m))) = true)) ∧ ((0 + (0 + n)) ≤ (List.take n K).length)) ∧ ((0 + n) ≤ K.length)) ∧ ((beqB (bytesI (List.take (0 + n) (List.take n K))).toList (bytesI (List.take n K)).toList) = true)) ∧ ((0 + m) ≤ (C7 m M).length)) ∧ ((0 + m) ≤ M.length)) ∧ ((beqB (bytesI (List.take m (C7 m M))).toList (bytesI (List.take m M)).toList) = true)) ∧ ((IntKind.i64.wrap ((nI m) + 1)) = ((nI m) + 1))) ∧ ((0 ≤ ((nI m) + 1)) ∧ ((((nI m) + 1) ≤ (nI ((0 + m) + 1))) ∧ (((0 : Int) ≤ 0) ∧ (0 ≤ ((nI m) + 1)))))) ∧ ((0 ≤ (nI m)) ∧ ((nI m) < (nI ((nI m) + 1).toNat)))) ∧ ((0 + (m * 1)).succ ≤ (C7 m M).length)) ∧ ((decide (((C7 m M).getD (0 + (m * 1)) 0) = 77)) = true)) ∧ True)
theorem runK1sl (K : List Int) (n : Nat) (c : Nat) (M : List Int) (m : Nat) (d : Nat) : (rG KKe (.int .i64 1) (sl 0 none n c) (sl 1 none m d) [ae.oI K, ae.oI M] oK1sl).map (fun r => (r.1, r.2.obl)) = some (.bool true, pK1sl K n c M m d) := by kernel_rfl
def oK1nn : List (Option Bool) := []
def pK1nn (n : Nat) : Prop := (True ∧ True)
theorem runK1nn (n : Nat) : (rG KKe (.int .i64 1) (.slice none 0 0) (.slice none 0 0) [] oK1nn).map (fun r => (r.1, r.2.obl)) = some (.bool true, pK1nn n) := by kernel_rfl
def oK1nz : List (Option Bool) := []
def pK1nz (d : Nat) : Prop := (True ∧ True)
theorem runK1nz (d : Nat) : (rG KKe (.int .i64 1) (.slice none 0 0) (sl 0 none 0 d) [none] oK1nz).map (fun r => (r.1, r.2.obl)) = some (.bool true, pK1nz d) := by kernel_rfl
def oK1nj : List (Option Bool) := no 6 ++ [some false] ++ no 3 ++ [some false, some false, some true] ++ no 42 ++ [some true] ++ no 3 ++ [some true] ++ [none] ++ [some true] ++ no 3 ++ [some true] ++ [none] ++ [some true] ++ no 2 ++ [some true]
def pK1nj (M : List Int) (m : Nat) (d : Nat) : Prop := (((((((((((((((True ∧ ((decide (300 < (nI m))) = false)) ∧ ((decide ((0 + m) ≤ 0)) = false)) ∧ (((0 + m) ≤ M.length) ∧ ((0 ≤ 0) ∧ ((((0 + m) * 1) ≤ mostBytes) ∧ ((0 + m) ≤ mostBytes))))) ∧ ((decide (((0 + m) + 1) ≤ (0 + m))) = false)) ∧ ((1 ≤ 1) ∧ (((0 + (0 + m)) ≤ (List.take m M).length) ∧ (((((0 + m) + 1) * 1) ≤ mostBytes) ∧ (((0 + m) + 1) ≤ mostBytes))))) ∧ ((0 ≤ (nI m)) ∧ (((nI m) ≤ (nI ((0 + m) + 1))) ∧ (((0 : Int) ≤ 0) ∧ (0 ≤ (nI m)))))) ∧ ((0 + m) ≤ (C7 m M).length)) ∧ ((0 + m) ≤ M.length)) ∧ ((beqB (bytesI (List.take m (C7 m M))).toList (bytesI (List.take m M)).toList) = true)) ∧ ((IntKind.i64.wrap ((nI m) + 1)) = ((nI m) + 1))) ∧ ((0 ≤ ((nI m) + 1)) ∧ ((((nI m) + 1) ≤ (nI ((0 + m) + 1))) ∧ (((0 : Int) ≤ 0) ∧ (0 ≤ ((nI m) + 1)))))) ∧ ((0 ≤ (nI m)) ∧ ((nI m) < (nI ((nI m) + 1).toNat)))) ∧ ((0 + (m * 1)).succ ≤ (C7 m M).length)) ∧ ((decide (((C7 m M).getD (0 + (m * 1)) 0) = 77)) = true)) ∧ True)
theorem runK1nj (M : List Int) (m : Nat) (d : Nat) : (rG KKe (.int .i64 1) (.slice none 0 0) (sl 0 none m d) [ae.oI M] oK1nj).map (fun r => (r.1, r.2.obl)) = some (.bool true, pK1nj M m d) := by kernel_rfl
def oK1zn : List (Option Bool) := []
def pK1zn (c : Nat) : Prop := (True ∧ True)
theorem runK1zn (c : Nat) : (rG KKe (.int .i64 1) (sl 0 none 0 c) (.slice none 0 0) [none] oK1zn).map (fun r => (r.1, r.2.obl)) = some (.bool true, pK1zn c) := by kernel_rfl
def oK1zz : List (Option Bool) := []
def pK1zz (c : Nat) (d : Nat) : Prop := (True ∧ True)
theorem runK1zz (c : Nat) (d : Nat) : (rG KKe (.int .i64 1) (sl 0 none 0 c) (sl 1 none 0 d) [none, none] oK1zz).map (fun r => (r.1, r.2.obl)) = some (.bool true, pK1zz c d) := by kernel_rfl
def oK1zj : List (Option Bool) := no 6 ++ [some false] ++ no 3 ++ [some false, some false, some true] ++ no 42 ++ [some true] ++ no 3 ++ [some true] ++ [none] ++ [some true] ++ no 3 ++ [some true] ++ [none] ++ [some true] ++ no 2 ++ [some true]
def pK1zj (c : Nat) (M : List Int) (m : Nat) (d : Nat) : Prop := (((((((((((((((True ∧ ((decide (300 < (nI m))) = false)) ∧ ((decide ((0 + m) ≤ 0)) = false)) ∧ (((0 + m) ≤ M.length) ∧ ((0 ≤ 0) ∧ ((((0 + m) * 1) ≤ mostBytes) ∧ ((0 + m) ≤ mostBytes))))) ∧ ((decide (((0 + m) + 1) ≤ (0 + m))) = false)) ∧ ((1 ≤ 1) ∧ (((0 + (0 + m)) ≤ (List.take m M).length) ∧ (((((0 + m) + 1) * 1) ≤ mostBytes) ∧ (((0 + m) + 1) ≤ mostBytes))))) ∧ ((0 ≤ (nI m)) ∧ (((nI m) ≤ (nI ((0 + m) + 1))) ∧ (((0 : Int) ≤ 0) ∧ (0 ≤ (nI m)))))) ∧ ((0 + m) ≤ (C7 m M).length)) ∧ ((0 + m) ≤ M.length)) ∧ ((beqB (bytesI (List.take m (C7 m M))).toList (bytesI (List.take m M)).toList) = true)) ∧ ((IntKind.i64.wrap ((nI m) + 1)) = ((nI m) + 1))) ∧ ((0 ≤ ((nI m) + 1)) ∧ ((((nI m) + 1) ≤ (nI ((0 + m) + 1))) ∧ (((0 : Int) ≤ 0) ∧ (0 ≤ ((nI m) + 1)))))) ∧ ((0 ≤ (nI m)) ∧ ((nI m) < (nI ((nI m) + 1).toNat)))) ∧ ((0 + (m * 1)).succ ≤ (C7 m M).length)) ∧ ((decide (((C7 m M).getD (0 + (m * 1)) 0) = 77)) = true)) ∧ True)
theorem runK1zj (c : Nat) (M : List Int) (m : Nat) (d : Nat) : (rG KKe (.int .i64 1) (sl 0 none 0 c) (sl 1 none m d) [none, ae.oI M] oK1zj).map (fun r => (r.1, r.2.obl)) = some (.bool true, pK1zj c M m d) := by kernel_rfl
def oK1ln : List (Option Bool) := no 2 ++ [some false] ++ no 7 ++ [some false] ++ no 5 ++ [some true] ++ no 5 ++ [some true] ++ no 3 ++ [some true] ++ no 5 ++ [some true] ++ no 15 ++ [some true]
def pK1ln (K : List Int) (n : Nat) (c : Nat) : Prop := (((((((((((True ∧ ((decide (300 < (nI n))) = false)) ∧ ((decide ((0 + n) ≤ 0)) = false)) ∧ (((0 + n) ≤ K.length) ∧ ((0 ≤ 0) ∧ ((((0 + n) * 1) ≤ mostBytes) ∧ ((0 + n) ≤ mostBytes))))) ∧ ((decide (0 < (nI (0 + n)))) = true)) ∧ ((!(decide ((nI (0 + n)) ≤ 80))) = true)) ∧ ((decide (1 ≤ (nI n))) = true)) ∧ ((!(decide ((nI n) ≤ 80))) = true)) ∧ ((0 + (0 + n)) ≤ (List.take n K).length)) ∧ ((0 + n) ≤ K.length)) ∧ ((beqB (bytesI (List.take (0 + n) (List.take n K))).toList (bytesI (List.take n K)).toList) = true)) ∧ True)
theorem runK1ln (K : List Int) (n : Nat) (c : Nat) : (rG KKe (.int .i64 1) (sl 0 none n c) (.slice none 0 0) [ae.oI K] oK1ln).map (fun r => (r.1, r.2.obl)) = some (.bool true, pK1ln K n c) := by kernel_rfl
def oK1lz : List (Option Bool) := no 2 ++ [some false] ++ no 7 ++ [some false] ++ no 5 ++ [some true] ++ no 5 ++ [some true] ++ no 3 ++ [some true] ++ no 5 ++ [some true] ++ no 15 ++ [some true]
def pK1lz (K : List Int) (n : Nat) (c : Nat) (d : Nat) : Prop := (((((((((((True ∧ ((decide (300 < (nI n))) = false)) ∧ ((decide ((0 + n) ≤ 0)) = false)) ∧ (((0 + n) ≤ K.length) ∧ ((0 ≤ 0) ∧ ((((0 + n) * 1) ≤ mostBytes) ∧ ((0 + n) ≤ mostBytes))))) ∧ ((decide (0 < (nI (0 + n)))) = true)) ∧ ((!(decide ((nI (0 + n)) ≤ 80))) = true)) ∧ ((decide (1 ≤ (nI n))) = true)) ∧ ((!(decide ((nI n) ≤ 80))) = true)) ∧ ((0 + (0 + n)) ≤ (List.take n K).length)) ∧ ((0 + n) ≤ K.length)) ∧ ((beqB (bytesI (List.take (0 + n) (List.take n K))).toList (bytesI (List.take n K)).toList) = true)) ∧ True)
theorem runK1lz (K : List Int) (n : Nat) (c : Nat) (d : Nat) : (rG KKe (.int .i64 1) (sl 0 none n c) (sl 1 none 0 d) [ae.oI K, none] oK1lz).map (fun r => (r.1, r.2.obl)) = some (.bool true, pK1lz K n c d) := by kernel_rfl
def oK1lj : List (Option Bool) := no 2 ++ [some false] ++ no 3 ++ [some false] ++ no 3 ++ [some false, some false, some false, some true] ++ no 4 ++ [some true] ++ no 5 ++ [some true] ++ no 3 ++ [some true] ++ no 5 ++ [some true] ++ no 15 ++ [some true] ++ no 5 ++ [some true] ++ no 3 ++ [some true] ++ [none] ++ [some true] ++ no 3 ++ [some true] ++ [none] ++ [some true] ++ no 2 ++ [some true]
def pK1lj (K : List Int) (n : Nat) (c : Nat) (M : List Int) (m : Nat) (d : Nat) : Prop := (((((((((((((((((((((((((True ∧ ((decide (300 < (nI n))) = false)) ∧ ((decide (300 < (nI m))) = false)) ∧ ((decide ((0 + n) ≤ 0)) = false)) ∧ (((0 + n) ≤ K.length) ∧ ((0 ≤ 0) ∧ ((((0 + n) * 1) ≤ mostBytes) ∧ ((0 + n) ≤ mostBytes))))) ∧ ((decide ((0 + m) ≤ 0)) = false)) ∧ (((0 + m) ≤ M.length) ∧ ((0 ≤ 0) ∧ ((((0 + m) * 1) ≤ mostBytes) ∧ ((0 + m) ≤ mostBytes))))) ∧ ((decide (((0 + m) + 1) ≤ (0 + m))) = false)) ∧ ((1 ≤ 1) ∧ (((0 + (0 + m)) ≤ (List.take m M).length) ∧ (((((0 + m) + 1) * 1) ≤ mostBytes) ∧ (((0 + m) + 1) ≤ mostBytes))))) ∧ ((0 ≤ (nI m)) ∧ (((nI m) ≤ (nI ((0 + m) + 1))) ∧ (((0 : Int) ≤ 0) ∧ (0 ≤ (nI m)))))) ∧ ((decide (0 < (nI (0 + n)))) = true)) ∧ ((!(decide ((nI (0 + n)) ≤ 80))) = true)) ∧ ((decide (1 ≤ (nI n))) = true)) ∧ ((!(decide ((nI n) ≤ 80))) = true)) ∧ ((0 + (0 + n)) ≤ (List.take n K).length)) ∧ ((0 + n) ≤ K.length)) ∧ ((beqB (bytesI (List.take (0 + n) (List.take n K))).toList (bytesI (List.take n K)).toList) = true)) ∧ ((0 + m) ≤ (C7 m M).length)) ∧ ((0 + m) ≤ M.length)) ∧ ((beqB (bytesI (List.take m (C7 m M))).toList (bytesI (List.take m M)).toList) = true)) ∧ ((IntKind.i64.wrap ((nI m) + 1)) = ((nI m) + 1))) ∧ ((0 ≤ ((nI m) + 1)) ∧ ((((nI m) + 1) ≤ (nI ((0 + m) + 1))) ∧ (((0 : Int) ≤ 0) ∧ (0 ≤ ((nI m) + 1)))))) ∧ ((0 ≤ (nI m)) ∧ ((nI m) < (nI ((nI m) + 1).toNat)))) ∧ ((0 + (m * 1)).succ ≤ (C7 m M).length)) ∧ ((decide (((C7 m M).getD (0 + (m * 1)) 0) = 77)) = true)) ∧ True)
theorem runK1lj (K : List Int) (n : Nat) (c : Nat) (M : List Int) (m : Nat) (d : Nat) : (rG KKe (.int .i64 1) (sl 0 none n c) (sl 1 none m d) [ae.oI K, ae.oI M] oK1lj).map (fun r => (r.1, r.2.obl)) = some (.bool true, pK1lj K n c M m d) := by kernel_rfl
def oK2Sl : List (Option Bool) := no 2 ++ [some false] ++ no 3 ++ [some false] ++ no 3 ++ [some false, some false, some false, some true] ++ no 5 ++ [some true] ++ no 5 ++ [some false] ++ no 7 ++ [some true] ++ no 5 ++ [some true] ++ no 5 ++ [some false] ++ no 3 ++ [some true] ++ no 11 ++ [some true] ++ no 5 ++ [some true] ++ no 3 ++ [some true] ++ [none] ++ [some true] ++ no 3 ++ [some true] ++ [none] ++ [some true] ++ no 2 ++ [some true]
def pK2Sl (K : List Int) (n : Nat) (c : Nat) (M : List Int) (m : Nat) (d : Nat) : Prop := (((((((((((((((((((((((((((True ∧ ((decide (300 < (nI n))) = false)) ∧ ((decide (300 < (nI m))) = false)) ∧ ((decide ((0 + n) ≤ 0)) = false)) ∧ (((0 + n) ≤ K.length) ∧ ((0 ≤ 0) ∧ ((((0 + n) * 1) ≤ mostBytes) ∧ ((0 + n) ≤ mostBytes))))) ∧ ((decide ((0 + m) ≤ 0)) = false)) ∧ (((0 + m) ≤ M.length) ∧ ((0 ≤ 0) ∧ ((((0 + m) * 1) ≤ mostBytes) ∧ ((0 + m) ≤ mostBytes))))) ∧ ((decide (((0 + m) + 1) ≤ (0 + m))) = false)) ∧ ((1 ≤ 1) ∧ (((0 + (0 + m)) ≤ (List.take m M).length) ∧ (((((0 + m) + 1) * 1) ≤ mostBytes) ∧ (((0 + m) + 1) ≤ mostBytes))))) ∧ ((0 ≤ (nI m)) ∧ (((nI m) ≤ (nI ((0 + m) + 1))) ∧ (((0 : Int) ≤ 0) ∧ (0 ≤ (nI m)))))) ∧ ((decide (0 < (nI (0 + n)))) = true)) ∧ ((!(decide ((nI (0 + n)) ≤ 80))) = false)) ∧ ((decide (200 < (nI m))) = true)) ∧ ((decide (1 ≤ (nI n))) = true)) ∧ ((!(decide ((nI n) ≤ 80))) = false)) ∧ ((decide (200 < (nI m))) = true)) ∧ ((0 + (0 + n)) ≤ (List.take n K).length)) ∧ ((0 + n) ≤ K.length)) ∧ ((beqB (bytesI (List.take (0 + n) (List.take n K))).toList (bytesI (List.take n K)).toList) = true)) ∧ ((0 + m) ≤ (C7 m M).length)) ∧ ((0 + m) ≤ M.length)) ∧ ((beqB (bytesI (List.take m (C7 m M))).toList (bytesI (List.take m M)).toList) = true)) ∧ ((IntKind.i64.wrap ((nI m) + 1)) = ((nI m) + 1))) ∧ ((0 ≤ ((nI m) + 1)) ∧ ((((nI m) + 1) ≤ (nI ((0 + m) + 1))) ∧ (((0 : Int) ≤ 0) ∧ (0 ≤ ((nI m) + 1)))))) ∧ ((0 ≤ (nI m)) ∧ ((nI m) < (nI ((nI m) + 1).toNat)))) ∧ ((0 + (m * 1)).succ ≤ (C7 m M).length)) ∧ ((decide (((C7 m M).getD (0 + (m * 1)) 0) = 77)) = true)) ∧ True)
theorem runK2Sl (K : List Int) (n : Nat) (c : Nat) (M : List Int) (m : Nat) (d : Nat) : (rG KKe (.int .i64 2) (sl 0 none n c) (sl 1 none m d) [ae.oI K, ae.oI M] oK2Sl).map (fun r => (r.1, r.2.obl)) = some (.bool true, pK2Sl K n c M m d) := by kernel_rfl
def oK2nn : List (Option Bool) := []
def pK2nn (n : Nat) : Prop := (True ∧ True)
theorem runK2nn (n : Nat) : (rG KKe (.int .i64 2) (.slice none 0 0) (.slice none 0 0) [] oK2nn).map (fun r => (r.1, r.2.obl)) = some (.bool true, pK2nn n) := by kernel_rfl
def oK2nz : List (Option Bool) := []
def pK2nz (d : Nat) : Prop := (True ∧ True)
theorem runK2nz (d : Nat) : (rG KKe (.int .i64 2) (.slice none 0 0) (sl 0 none 0 d) [none] oK2nz).map (fun r => (r.1, r.2.obl)) = some (.bool true, pK2nz d) := by kernel_rfl
def oK2nj : List (Option Bool) := no 6 ++ [some false] ++ no 3 ++ [some false, some false, some true] ++ no 44 ++ [some true] ++ no 3 ++ [some true] ++ [none] ++ [some true] ++ no 3 ++ [some true] ++ [none] ++ [some true] ++ no 2 ++ [some true]
def pK2nj (M : List Int) (m : Nat) (d : Nat) : Prop := (((((((((((((((True ∧ ((decide (300 < (nI m))) = false)) ∧ ((decide ((0 + m) ≤ 0)) = false)) ∧ (((0 + m) ≤ M.length) ∧ ((0 ≤ 0) ∧ ((((0 + m) * 1) ≤ mostBytes) ∧ ((0 + m) ≤ mostBytes))))) ∧ ((decide (((0 + m) + 1) ≤ (0 + m))) = false)) ∧ ((1 ≤ 1) ∧ (((0 + (0 + m)) ≤ (List.take m M).length) ∧ (((((0 + m) + 1) * 1) ≤ mostBytes) ∧ (((0 + m) + 1) ≤ mostBytes))))) ∧ ((0 ≤ (nI m)) ∧ (((nI m) ≤ (nI ((0 + m) + 1))) ∧ (((0 : Int) ≤ 0) ∧ (0 ≤ (nI m)))))) ∧ ((0 + m) ≤ (C7 m M).length)) ∧ ((0 + m) ≤ M.length)) ∧ ((beqB (bytesI (List.take m (C7 m M))).toList (bytesI (List.take m M)).toList) = true)) ∧ ((IntKind.i64.wrap ((nI m) + 1)) = ((nI m) + 1))) ∧ ((0 ≤ ((nI m) + 1)) ∧ ((((nI m) + 1) ≤ (nI ((0 + m) + 1))) ∧ (((0 : Int) ≤ 0) ∧ (0 ≤ ((nI m) + 1)))))) ∧ ((0 ≤ (nI m)) ∧ ((nI m) < (nI ((nI m) + 1).toNat)))) ∧ ((0 + (m * 1)).succ ≤ (C7 m M).length)) ∧ ((decide (((C7 m M).getD (0 + (m * 1)) 0) = 77)) = true)) ∧ True)
theorem runK2nj (M : List Int) (m : Nat) (d : Nat) : (rG KKe (.int .i64 2) (.slice none 0 0) (sl 0 none m d) [ae.oI M] oK2nj).map (fun r => (r.1, r.2.obl)) = some (.bool true, pK2nj M m d) := by kernel_rfl
def oK2zn : List (Option Bool) := []
def pK2zn (c : Nat) : Prop := (True ∧ True)
theorem runK2zn (c : Nat) : (rG KKe (.int .i64 2) (sl 0 none 0 c) (.slice none 0 0) [none] oK2zn).map (fun r => (r.1, r.2.obl)) = some (.bool true, pK2zn c) := by kernel_rfl
def oK2zz : List (Option Bool) := []
def pK2zz (c : Nat) (d : Nat) : Prop := (True ∧ True)
theorem runK2zz (c : Nat) (d : Nat) : (rG KKe (.int .i64 2) (sl 0 none 0 c) (sl 1 none 0 d) [none, none] oK2zz).map (fun r => (r.1, r.2.obl)) = some (.bool true, pK2zz c d) := by kernel_rfl
def oK2zj : List (Option Bool) := no 6 ++ [some false] ++ no 3 ++ [some false, some false, some true] ++ no 44 ++ [some true] ++ no 3 ++ [some true] ++ [none] ++ [some true] ++ no 3 ++ [some true] ++ [none] ++ [some true] ++ no 2 ++ [some true]
def pK2zj (c : Nat) (M : List Int) (m : Nat) (d : Nat) : Prop := (((((((((((((((True ∧ ((decide (300 < (nI m))) = false)) ∧ ((decide ((0 + m) ≤ 0)) = false)) ∧ (((0 + m) ≤ M.length) ∧ ((0 ≤ 0) ∧ ((((0 + m) * 1) ≤ mostBytes) ∧ ((0 + m) ≤ mostBytes))))) ∧ ((decide (((0 + m) + 1) ≤ (0 + m))) = false)) ∧ ((1 ≤ 1) ∧ (((0 + (0 + m)) ≤ (List.take m M).length) ∧ (((((0 + m) + 1) * 1) ≤ mostBytes) ∧ (((0 + m) + 1) ≤ mostBytes))))) ∧ ((0 ≤ (nI m)) ∧ (((nI m) ≤ (nI ((0 + m) + 1))) ∧ (((0 : Int) ≤ 0) ∧ (0 ≤ (nI m)))))) ∧ ((0 + m) ≤ (C7 m M).length)) ∧ ((0 + m) ≤ M.length)) ∧ ((beqB (bytesI (List.take m (C7 m M))).toList (bytesI (List.take m M)).toList) = true)) ∧ ((IntKind.i64.wrap ((nI m) + 1)) = ((nI m) + 1))) ∧ ((0 ≤ ((nI m) + 1)) ∧ ((((nI m) + 1) ≤ (nI ((0 + m) + 1))) ∧ (((0 : Int) ≤ 0) ∧ (0 ≤ ((nI m) + 1)))))) ∧ ((0 ≤ (nI m)) ∧ ((nI m) < (nI ((nI m) + 1).toNat)))) ∧ ((0 + (m * 1)).succ ≤ (C7 m M).length)) ∧ ((decide (((C7 m M).getD (0 + (m * 1)) 0) = 77)) = true)) ∧ True)
theorem runK2zj (c : Nat) (M : List Int) (m : Nat) (d : Nat) : (rG KKe (.int .i64 2) (sl 0 none 0 c) (sl 1 none m d) [none, ae.oI M] oK2zj).map (fun r => (r.1, r.2.obl)) = some (.bool true, pK2zj c M m d) := by kernel_rfl
def oK2ln : List (Option Bool) := no 2 ++ [some false] ++ no 7 ++ [some false] ++ no 6 ++ [some true] ++ no 5 ++ [some true] ++ no 4 ++ [some true] ++ no 5 ++ [some true] ++ no 15 ++ [some true]
def pK2ln (K : List Int) (n : Nat) (c : Nat) : Prop := (((((((((((True ∧ ((decide (300 < (nI n))) = false)) ∧ ((decide ((0 + n) ≤ 0)) = false)) ∧ (((0 + n) ≤ K.length) ∧ ((0 ≤ 0) ∧ ((((0 + n) * 1) ≤ mostBytes) ∧ ((0 + n) ≤ mostBytes))))) ∧ ((decide (0 < (nI (0 + n)))) = true)) ∧ ((!(decide ((nI (0 + n)) ≤ 80))) = true)) ∧ ((decide (1 ≤ (nI n))) = true)) ∧ ((!(decide ((nI n) ≤ 80))) = true)) ∧ ((0 + (0 + n)) ≤ (List.take n K).length)) ∧ ((0 + n) ≤ K.length)) ∧ ((beqB (bytesI (List.take (0 + n) (List.take n K))).toList (bytesI (List.take n K)).toList) = true)) ∧ True)
theorem runK2ln (K : List Int) (n : Nat) (c : Nat) : (rG KKe (.int .i64 2) (sl 0 none n c) (.slice none 0 0) [ae.oI K] oK2ln).map (fun r => (r.1, r.2.obl)) = some (.bool true, pK2ln K n c) := by kernel_rfl
def oK2lz : List (Option Bool) := no 2 ++ [some false] ++ no 7 ++ [some false] ++ no 6 ++ [some true] ++ no 5 ++ [some true] ++ no 4 ++ [some true] ++ no 5 ++ [some true] ++ no 15 ++ [some true]
def pK2lz (K : List Int) (n : Nat) (c : Nat) (d : Nat) : Prop := (((((((((((True ∧ ((decide (300 < (nI n))) = false)) ∧ ((decide ((0 + n) ≤ 0)) = false)) ∧ (((0 + n) ≤ K.length) ∧ ((0 ≤ 0) ∧ ((((0 + n) * 1) ≤ mostBytes) ∧ ((0 + n) ≤ mostBytes))))) ∧ ((decide (0 < (nI (0 + n)))) = true)) ∧ ((!(decide ((nI (0 + n)) ≤ 80))) = true)) ∧ ((decide (1 ≤ (nI n))) = true)) ∧ ((!(decide ((nI n) ≤ 80))) = true)) ∧ ((0 + (0 + n)) ≤ (List.take n K).length)) ∧ ((0 + n) ≤ K.length)) ∧ ((beqB (bytesI (List.take (0 + n) (List.take n K))).toList (bytesI (List.take n K)).toList) = true)) ∧ True)
theorem runK2lz (K : List Int) (n : Nat) (c : Nat) (d : Nat) : (rG KKe (.int .i64 2) (sl 0 none n c) (sl 1 none 0 d) [ae.oI K, none] oK2lz).map (fun r => (r.1, r.2.obl)) = some (.bool true, pK2lz K n c d) := by kernel_rfl
def oK2lj : List (Option Bool) := no 2 ++ [some false] ++ no 3 ++ [some false] ++ no 3 ++ [some false, some false, some false, some true] ++ no 5 ++ [some true] ++ no 5 ++ [some true] ++ no 4 ++ [some true] ++ no 5 ++ [some true] ++ no 15 ++ [some true] ++ no 5 ++ [some true] ++ no 3 ++ [some true] ++ [none] ++ [some true] ++ no 3 ++ [some true] ++ [none] ++ [some true] ++ no 2 ++ [some true]
def pK2lj (K : List Int) (n : Nat) (c : Nat) (M : List Int) (m : Nat) (d : Nat) : Prop := (((((((((((((((((((((((((True ∧ ((decide (300 < (nI n))) = false)) ∧ ((decide (300 < (nI m))) = false)) ∧ ((decide ((0 + n) ≤ 0)) = false)) ∧ (((0 + n) ≤ K.length) ∧ ((0 ≤ 0) ∧ ((((0 + n) * 1) ≤ mostBytes) ∧ ((0 + n) ≤ mostBytes))))) ∧ ((decide ((0 + m) ≤ 0)) = false)) ∧ (((0 + m) ≤ M.length) ∧ ((0 ≤ 0) ∧ ((((0 + m) * 1) ≤ mostBytes) ∧ ((0 + m) ≤ mostBytes))))) ∧ ((decide (((0 + m) + 1) ≤ (0 + m))) = false)) ∧ ((1 ≤ 1) ∧ (((0 + (0 + m)) ≤ (List.take m M).length) ∧ (((((0 + m) + 1) * 1) ≤ mostBytes) ∧ (((0 + m) + 1) ≤ mostBytes))))) ∧ ((0 ≤ (nI m)) ∧ (((nI m) ≤ (nI ((0 + m) + 1))) ∧ (((0 : Int) ≤ 0) ∧ (0 ≤ (nI m)))))) ∧ ((decide (0 < (nI (0 + n)))) = true)) ∧ ((!(decide ((nI (0 + n)) ≤ 80))) = true)) ∧ ((decide (1 ≤ (nI n))) = true)) ∧ ((!(decide ((nI n) ≤ 80))) = true)) ∧ ((0 + (0 + n)) ≤ (List.take n K).length)) ∧ ((0 + n) ≤ K.length)) ∧ ((beqB (bytesI (List.take (0 + n) (List.take n K))).toList (bytesI (List.take n K)).toList) = true)) ∧ ((0 + m) ≤ (C7 m M).length)) ∧ ((0 + m) ≤ M.length)) ∧ ((beqB (bytesI (List.take m (C7 m M))).toList (bytesI (List.take m M)).toList) = true)) ∧ ((IntKind.i64.wrap ((nI m) + 1)) = ((nI m) + 1))) ∧ ((0 ≤ ((nI m) + 1)) ∧ ((((nI m) + 1) ≤ (nI ((0 + m) + 1))) ∧ (((0 : Int) ≤ 0) ∧ (0 ≤ ((nI m) + 1)))))) ∧ ((0 ≤ (nI m)) ∧ ((nI m) < (nI ((nI m) + 1).toNat)))) ∧ ((0 + (m * 1)).succ ≤ (C7 m M).length)) ∧ ((decide (((C7 m M).getD (0 + (m * 1)) 0) = 77)) = true)) ∧ True)
theorem runK2lj (K : List Int) (n : Nat) (c : Nat) (M : List Int) (m : Nat) (d : Nat) : (rG KKe (.int .i64 2) (sl 0 none n c) (sl 1 none m d) [ae.oI K, ae.oI M] oK2lj).map (fun r => (r.1, r.2.obl)) = some (.bool true, pK2lj K n c M m d) := by kernel_rfl
def oKonn : List (Option Bool) := no 12 ++ [some false, some false] ++ no 5 ++ [some false, some false]
def pKonn (A : Int) : Prop := (((((True ∧ ((decide (A = 1)) = false)) ∧ ((decide (A = 2)) = false)) ∧ ((decide (A = 1)) = false)) ∧ ((decide (A = 2)) = false)) ∧ True)
theorem runKonn (A : Int) : (rG KKe (.int .i64 A) (.slice none 0 0) (.slice none 0 0) [] oKonn).map (fun r => (r.1, r.2.obl)) = some (.bool true, pKonn A) := by kernel_rfl
def oKonz : List (Option Bool) := no 12 ++ [some false, some false] ++ no 5 ++ [some false, some false]
def pKonz (A : Int) (d : Nat) : Prop := (((((True ∧ ((decide (A = 1)) = false)) ∧ ((decide (A = 2)) = false)) ∧ ((decide (A = 1)) = false)) ∧ ((decide (A = 2)) = false)) ∧ True)
theorem runKonz (A : Int) (d : Nat) : (rG KKe (.int .i64 A) (.slice none 0 0) (sl 0 none 0 d) [none] oKonz).map (fun r => (r.1, r.2.obl)) = some (.bool true, pKonz A d) := by kernel_rfl
def oKonj : List (Option Bool) := no 6 ++ [some false] ++ no 3 ++ [some false, some false, some true] ++ [none] ++ [some false, some false] ++ no 5 ++ [some false, some false] ++ no 26 ++ [some true] ++ no 3 ++ [some true] ++ [none] ++ [some true] ++ no 3 ++ [some true] ++ [none] ++ [some true] ++ no 2 ++ [some true]
def pKonj (A : Int) (M : List Int) (m : Nat) (d : Nat) : Prop := (((((((((((((((((((True ∧ ((decide (300 < (nI m))) = false)) ∧ ((decide ((0 + m) ≤ 0)) = false)) ∧ (((0 + m) ≤ M.length) ∧ ((0 ≤ 0) ∧ ((((0 + m) * 1) ≤ mostBytes) ∧ ((0 + m) ≤ mostBytes))))) ∧ ((decide (((0 + m) + 1) ≤ (0 + m))) = false)) ∧ ((1 ≤ 1) ∧ (((0 + (0 + m)) ≤ (List.take m M).length) ∧ (((((0 + m) + 1) * 1) ≤ mostBytes) ∧ (((0 + m) + 1) ≤ mostBytes))))) ∧ ((0 ≤ (nI m)) ∧ (((nI m) ≤ (nI ((0 + m) + 1))) ∧ (((0 : Int) ≤ 0) ∧ (0 ≤ (nI m)))))) ∧ ((decide (A = 1)) = false)) ∧ ((decide (A = 2)) = false)) ∧ ((decide (A = 1)) = false)) ∧ ((decide (A = 2)) = false)) ∧ ((0 + m) ≤ (C7 m M).length)) ∧ ((0 + m) ≤ M.length)) ∧ ((beqB (bytesI (List.take m (C7 m M))).toList (bytesI (List.take m M)).toList) = true)) ∧ ((IntKind.i64.wrap ((nI m) + 1)) = ((nI m) + 1))) ∧ ((0 ≤ ((nI m) + 1)) ∧ ((((nI m) + 1) ≤ (nI ((0 + m) + 1))) ∧ (((0 : Int) ≤ 0) ∧ (0 ≤ ((nI m) + 1)))))) ∧ ((0 ≤ (nI m)) ∧ ((nI m) < (nI ((nI m) + 1).toNat)))) ∧ ((0 + (m * 1)).succ ≤ (C7 m M).length)) ∧ ((decide (((C7 m M).getD (0 + (m * 1)) 0) = 77)) = true)) ∧ True)
theorem runKonj (A : Int) (M : List Int) (m : Nat) (d : Nat) : (rG KKe (.int .i64 A) (.slice none 0 0) (sl 0 none m d) [ae.oI M] oKonj).map (fun r => (r.1, r.2.obl)) = some (.bool true, pKonj A M m d) := by kernel_rfl
def oKozn : List (Option Bool) := no 12 ++ [some false, some false] ++ no 5 ++ [some false, some false]
def pKozn (A : Int) (c : Nat) : Prop := (((((True ∧ ((decide (A = 1)) = false)) ∧ ((decide (A = 2)) = false)) ∧ ((decide (A = 1)) = false)) ∧ ((decide (A = 2)) = false)) ∧ True)
theorem runKozn (A : Int) (c : Nat) : (rG KKe (.int .i64 A) (sl 0 none 0 c) (.slice none 0 0) [none] oKozn).map (fun r => (r.1, r.2.obl)) = some (.bool true, pKozn A c) := by kernel_rfl
def oKozz : List (Option Bool) := no 12 ++ [some false, some false] ++ no 5 ++ [some false, some false]
def pKozz (A : Int) (c : Nat) (d : Nat) : Prop := (((((True ∧ ((decide (A = 1)) = false)) ∧ ((decide (A = 2)) = false)) ∧ ((decide (A = 1)) = false)) ∧ ((decide (A = 2)) = false)) ∧ True)
theorem runKozz (A : Int) (c : Nat) (d : Nat) : (rG KKe (.int .i64 A) (sl 0 none 0 c) (sl 1 none 0 d) [none, none] oKozz).map (fun r => (r.1, r.2.obl)) = some (.bool true, pKozz A c d) := by kernel_rfl
def oKozj : List (Option Bool) := no 6 ++ [some false] ++ no 3 ++ [some false, some false, some true] ++ [none] ++ [some false, some false] ++ no 5 ++ [some false, some false] ++ no 26 ++ [some true] ++ no 3 ++ [some true] ++ [none] ++ [some true] ++ no 3 ++ [some true] ++ [none] ++ [some true] ++ no 2 ++ [some true]
def pKozj (A : Int) (c : Nat) (M : List Int) (m : Nat) (d : Nat) : Prop := (((((((((((((((((((True ∧ ((decide (300 < (nI m))) = false)) ∧ ((decide ((0 + m) ≤ 0)) = false)) ∧ (((0 + m) ≤ M.length) ∧ ((0 ≤ 0) ∧ ((((0 + m) * 1) ≤ mostBytes) ∧ ((0 + m) ≤ mostBytes))))) ∧ ((decide (((0 + m) + 1) ≤ (0 + m))) = false)) ∧ ((1 ≤ 1) ∧ (((0 + (0 + m)) ≤ (List.take m M).length) ∧ (((((0 + m) + 1) * 1) ≤ mostBytes) ∧ (((0 + m) + 1) ≤ mostBytes))))) ∧ ((0 ≤ (nI m)) ∧ (((nI m) ≤ (nI ((0 + m) + 1))) ∧ (((0 : Int) ≤ 0) ∧ (0 ≤ (nI m)))))) ∧ ((decide (A = 1)) = false)) ∧ ((decide (A = 2)) = false)) ∧ ((decide (A = 1)) = false)) ∧ ((decide (A = 2)) = false)) ∧ ((0 + m) ≤ (C7 m M).length)) ∧ ((0 + m) ≤ M.length)) ∧ ((beqB (bytesI (List.take m (C7 m M))).toList (bytesI (List.take m M)).toList) = true)) ∧ ((IntKind.i64.wrap ((nI m) + 1)) = ((nI m) + 1))) ∧ ((0 ≤ ((nI m) + 1)) ∧ ((((nI m) + 1) ≤ (nI ((0 + m) + 1))) ∧ (((0 : Int) ≤ 0) ∧ (0 ≤ ((nI m) + 1)))))) ∧ ((0 ≤ (nI m)) ∧ ((nI m) < (nI ((nI m) + 1).toNat)))) ∧ ((0 + (m * 1)).succ ≤ (C7 m M).length)) ∧ ((decide (((C7 m M).getD (0 + (m * 1)) 0) = 77)) = true)) ∧ True)
theorem runKozj (A : Int) (c : Nat) (M : List Int) (m : Nat) (d : Nat) : (rG KKe (.int .i64 A) (sl 0 none 0 c) (sl 1 none m d) [none, ae.oI M] oKozj).map (fun r => (r.1, r.2.obl)) = some (.bool true, pKozj A c M m d) := by kernel_rfl
def oKoin : List (Option Bool) := no 2 ++ [some false] ++ no 7 ++ [some false] ++ no 2 ++ [some false, some false] ++ no 5 ++ [some false, some false] ++ no 20 ++ [some true]
def pKoin (A : Int) (K : List Int) (n : Nat) (c : Nat) : Prop := (((((((((((True ∧ ((decide (300 < (nI n))) = false)) ∧ ((decide ((0 + n) ≤ 0)) = false)) ∧ (((0 + n) ≤ K.length) ∧ ((0 ≤ 0) ∧ ((((0 + n) * 1) ≤ mostBytes) ∧ ((0 + n) ≤ mostBytes))))) ∧ ((decide (A = 1)) = false)) ∧ ((decide (A = 2)) = false)) ∧ ((decide (A = 1)) = false)) ∧ ((decide (A = 2)) = false)) ∧ ((0 + (0 + n)) ≤ (List.take n K).length)) ∧ ((0 + n) ≤ K.length)) ∧ ((beqB (bytesI (List.take (0 + n) (List.take n K))).toList (bytesI (List.take n K)).toList) = true)) ∧ True)
theorem runKoin (A : Int) (K : List Int) (n : Nat) (c : Nat) : (rG KKe (.int .i64 A) (sl 0 none n c) (.slice none 0 0) [ae.oI K] oKoin).map (fun r => (r.1, r.2.obl)) = some (.bool true, pKoin A K n c) := by kernel_rfl
def oKoiz : List (Option Bool) := no 2 ++ [some false] ++ no 7 ++ [some false] ++ no 2 ++ [some false, some false] ++ no 5 ++ [some false, some false] ++ no 20 ++ [some true]
def pKoiz (A : Int) (K : List Int) (n : Nat) (c : Nat) (d : Nat) : Prop := (((((((((((True ∧ ((decide (300 < (nI n))) = false)) ∧ ((decide ((0 + n) ≤ 0)) = false)) ∧ (((0 + n) ≤ K.length) ∧ ((0 ≤ 0) ∧ ((((0 + n) * 1) ≤ mostBytes) ∧ ((0 + n) ≤ mostBytes))))) ∧ ((decide (A = 1)) = false)) ∧ ((decide (A = 2)) = false)) ∧ ((decide (A = 1)) = false)) ∧ ((decide (A = 2)) = false)) ∧ ((0 + (0 + n)) ≤ (List.take n K).length)) ∧ ((0 + n) ≤ K.length)) ∧ ((beqB (bytesI (List.take (0 + n) (List.take n K))).toList (bytesI (List.take n K)).toList) = true)) ∧ True)
theorem runKoiz (A : Int) (K : List Int) (n : Nat) (c : Nat) (d : Nat) : (rG KKe (.int .i64 A) (sl 0 none n c) (sl 1 none 0 d) [ae.oI K, none] oKoiz).map (fun r => (r.1, r.2.obl)) = some (.bool true, pKoiz A K n c d) := by kernel_rfl
def oKoij : List (Option Bool) := no 2 ++ [some false] ++ no 3 ++ [some false] ++ no 3 ++ [some false, some false, some false, some true] ++ [none] ++ [some false, some false] ++ no 5 ++ [some false, some false] ++ no 20 ++ [some true] ++ no 5 ++ [some true] ++ no 3 ++ [some true] ++ [none] ++ [some true] ++ no 3 ++ [some true] ++ [none] ++ [some true] ++ no 2 ++ [some true]
def pKoij (A : Int) (K : List Int) (n : Nat) (c : Nat) (M : List Int) (m : Nat) (d : Nat) : Prop := (((((((((((((((((((((((((True ∧ ((decide (300 < (nI n))) = false)) ∧ ((decide (300 < (nI m))) = false)) ∧ ((decide ((0 + n) ≤ 0)) = false)) ∧ (((0 + n) ≤ K.length) ∧ ((0 ≤ 0) ∧ ((((0 + n) * 1) ≤ mostBytes) ∧ ((0 + n) ≤ mostBytes))))) ∧ ((decide ((0 + m) ≤ 0)) = false)) ∧ (((0 + m) ≤ M.length) ∧ ((0 ≤ 0) ∧ ((((0 + m) * 1) ≤ mostBytes) ∧ ((0 + m) ≤ mostBytes))))) ∧ ((decide (((0 + m) + 1) ≤ (0 + m))) = false)) ∧ ((1 ≤ 1) ∧ (((0 + (0 + m)) ≤ (List.take m M).length) ∧ (((((0 + m) + 1) * 1) ≤ mostBytes) ∧ (((0 + m) + 1) ≤ mostBytes))))) ∧ ((0 ≤ (nI m)) ∧ (((nI m) ≤ (nI ((0 + m) + 1))) ∧ (((0 : Int) ≤ 0) ∧ (0 ≤ (nI m)))))) ∧ ((decide (A = 1)) = false)) ∧ ((decide (A = 2)) = false)) ∧ ((decide (A = 1)) = false)) ∧ ((decide (A = 2)) = false)) ∧ ((0 + (0 + n)) ≤ (List.take n K).length)) ∧ ((0 + n) ≤ K.length)) ∧ ((beqB (bytesI (List.take (0 + n) (List.take n K))).toList (bytesI (List.take n K)).toList) = true)) ∧ ((0 + m) ≤ (C7 m M).length)) ∧ ((0 + m) ≤ M.length)) ∧ ((beqB (bytesI (List.take m (C7 m M))).toList (bytesI (List.take m M)).toList) = true)) ∧ ((IntKind.i64.wrap ((nI m) + 1)) = ((nI m) + 1))) ∧ ((0 ≤ ((nI m) + 1)) ∧ ((((nI m) + 1) ≤ (nI ((0 + m) + 1))) ∧ (((0 : Int) ≤ 0) ∧ (0 ≤ ((nI m) + 1)))))) ∧ ((0 ≤ (nI m)) ∧ ((nI m) < (nI ((nI m) + 1).toNat)))) ∧ ((0 + (m * 1)).succ ≤ (C7 m M).length)) ∧ ((decide (((C7 m M).getD (0 + (m * 1)) 0) = 77)) = true)) ∧ True)
theorem runKoij (A : Int) (K : List Int) (n : Nat) (c : Nat) (M : List Int) (m : Nat) (d : Nat) : (rG KKe (.int .i64 A) (sl 0 none n c) (sl 1 none m d) [ae.oI K, ae.oI M] oKoij).map (fun r => (r.1, r.2.obl)) = some (.bool true, pKoij A K n c M m d) := by kernel_rfl
def oKobj : List (Option Bool) := no 2 ++ [some true]
def pKobj (A : Int) (n : Nat) (c : Nat) (m : Nat) (d : Nat) : Prop := ((True ∧ ((decide (300 < (nI n))) = true)) ∧ True)
theorem runKobj (A : Int) (n : Nat) (c : Nat) (m : Nat) (d : Nat) : (rG KKe (.int .i64 A) (sl 0 none n c) (sl 1 none m d) [none, none] oKobj).map (fun r => (r.1, r.2.obl)) = some (.bool true, pKobj A n c m d) := by kernel_rfl
def oKobn : List (Option Bool) := no 2 ++ [some true]
def pKobn (A : Int) (n : Nat) (c : Nat) : Prop := ((True ∧ ((decide (300 < (nI n))) = true)) ∧ True)
theorem runKobn (A : Int) (n : Nat) (c : Nat) : (rG KKe (.int .i64 A) (sl 0 none n c) (.slice none 0 0) [none] oKobn).map (fun r => (r.1, r.2.obl)) = some (.bool true, pKobn A n c) := by kernel_rfl
def oKoib : List (Option Bool) := no 2 ++ [some false] ++ no 3 ++ [some true]
def pKoib (A : Int) (n : Nat) (c : Nat) (m : Nat) (d : Nat) : Prop := (((True ∧ ((decide (300 < (nI n))) = false)) ∧ ((decide (300 < (nI m))) = true)) ∧ True)
theorem runKoib (A : Int) (n : Nat) (c : Nat) (m : Nat) (d : Nat) : (rG KKe (.int .i64 A) (sl 0 none n c) (sl 1 none m d) [none, none] oKoib).map (fun r => (r.1, r.2.obl)) = some (.bool true, pKoib A n c m d) := by kernel_rfl
def oKonb : List (Option Bool) := no 6 ++ [some true]
def pKonb (A : Int) (m : Nat) (d : Nat) : Prop := ((True ∧ ((decide (300 < (nI m))) = true)) ∧ True)
theorem runKonb (A : Int) (m : Nat) (d : Nat) : (rG KKe (.int .i64 A) (.slice none 0 0) (sl 0 none m d) [none] oKonb).map (fun r => (r.1, r.2.obl)) = some (.bool true, pKonb A m d) := by kernel_rfl
end
end km
end Go.Proofs.YtmgelikgcfjhhaaGreat
namespace Go.Proofs.YtmgelikgcfjhhaaGreat
open Go.ChangeShapes Go.WideShapes Go.ChangeAt Go.RowKit Go.Cln
namespace km
set_option linter.unusedVariables false
noncomputable section
def inp (a b : Int) (M : List Int) : List Int := [1, 84, 67, 80, 45, 65, 79] ++ (M ++ [a, b])
theorem inp_len {a b : Int} {M : List Int} {m : Nat} (hM : M.length = m) : (inp a b M).length = 7 + m + 2 := by unfold inp; simp [hM]; omega
theorem inp_byt {a b : Int} {M : List Int} (hM : hx.Byt M) (ha : 0 ≤ a ∧ a < 256) (hb : 0 ≤ b ∧ b < 256) : hx.Byt (inp a b M) := fun x hx => by
  unfold inp at hx
  simp only [List.mem_append, List.mem_cons, List.not_mem_nil, or_false] at hx
  rcases hx with h | h | h
  · omega
  · exact hM x h
  · omega
theorem W9_eq {m : Nat} (h : m ≤ 300) : W9 m = 7 + m + 2 := by unfold W9; rw [IntKind.wrap_i64]; simp only [nI]; omega
theorem W9i {m : Nat} (h : m ≤ 300) : IntKind.i64.wrap (((7 : Nat) : Int) + (m : Int) + ((2 : Nat) : Int)) = ((7 : Nat) : Int) + (m : Int) + ((2 : Nat) : Int) := by rw [IntKind.wrap_i64]; omega
theorem W7i {m : Nat} (h : m ≤ 300) : IntKind.i64.wrap (((7 : Nat) : Int) + (m : Int)) = ((7 : Nat) : Int) + (m : Int) := by rw [IntKind.wrap_i64]; omega
theorem R0_len (W : Nat) : (R0 W).length = W := by simp [R0]
theorem LA_len (k : Nat) : (LA (9 + k)).length = 9 + k := by unfold LA; rw [layI_length (by rw [R0_len]; simp; omega), R0_len]
theorem LB_len (k : Nat) : (LB (9 + k)).length = 9 + k := by unfold LB; rw [layI_length (by rw [LA_len]; simp; omega), LA_len]
theorem LB_eq (k : Nat) : LB (9 + k) = [1, 84, 67, 80, 45, 65, 79] ++ (List.replicate k 0 ++ (List.replicate 2 0 ++ [])) := by
  have e : R0 (9 + k) = [] ++ (List.replicate 1 0 ++ (List.replicate 6 0 ++ (List.replicate k 0 ++ (List.replicate 2 0 ++ [])))) := by
    unfold R0
    rw [List.nil_append, List.append_nil, List.replicate_append_replicate, List.replicate_append_replicate, List.replicate_append_replicate]
    congr 1; omega
  unfold LB LA
  rw [e, layI_mid (o := 0) (p := []) (q := List.replicate 1 0) (r := [1]) rfl rfl, List.nil_append, layI_mid (o := 1) (p := [1]) (q := List.replicate 6 0) (r := [84, 67, 80, 45, 65, 79]) rfl rfl, ← List.append_assoc]
  rfl
theorem LC_eq {M : List Int} {m : Nat} (hM : M.length = m) : layI (LB (9 + m)) 7 M = [1, 84, 67, 80, 45, 65, 79] ++ (M ++ (List.replicate 2 0 ++ [])) := by
  rw [LB_eq, layI_mid (o := 7) (p := [1, 84, 67, 80, 45, 65, 79]) (q := List.replicate m 0) (r := M) rfl (by simp [hM])]
theorem LC_len {M : List Int} {m : Nat} (hM : M.length = m) : (layI (LB (9 + m)) 7 M).length = 9 + m := by rw [LC_eq hM]; simp [hM]; omega
theorem LD_eq {M : List Int} {m : Nat} {a b : Int} (hM : M.length = m) : layI (layI (LB (9 + m)) 7 M) (7 + m) [a, b] = inp a b M := by
  rw [LC_eq hM, ← List.append_assoc, layI_mid (o := 7 + m) (p := [1, 84, 67, 80, 45, 65, 79] ++ M) (q := List.replicate 2 0) (r := [a, b]) (by simp [hM]; omega) rfl]
  unfold inp; simp
theorem LD0 {a b : Int} : layI (layI (LB 9) 7 []) 7 [a, b] = inp a b [] := rfl
theorem LC0 : (layI (LB 9) 7 []).length = 9 := rfl
theorem LB0 : (LB 9).length = 9 := rfl
theorem LA0 : (LA 9).length = 9 := rfl
theorem T7_eq {M : List Int} {m : Nat} (hM : M.length = m) : T7 m M = [1, 84, 67, 80, 45, 65, 79] ++ M := by unfold T7; rw [take_all hM, take_all (by simp [hM]; omega)]
theorem DD_eq {M : List Int} {m : Nat} {a b : Int} (hM : M.length = m) : T7 m M ++ [a, b] = inp a b M := by rw [T7_eq hM]; unfold inp; rw [List.append_assoc]
theorem DD0 {a b : Int} : [1, 84, 67, 80, 45, 65, 79, a, b] = inp a b [] := rfl
theorem C7_eq {M : List Int} {m : Nat} (hM : M.length = m) : C7 m M = M ++ [77] := by unfold C7; rw [Nat.zero_add, tkM hM, tkM hM]
theorem b0 : B0 160 = 0 := by decide
theorem b1 : B1 160 = 160 := by decide
theorem b2 : B0 128 = 0 := by decide
theorem b3 : B1 128 = 128 := by decide
theorem nD {n k : Nat} (h : n ≤ k) : (!(decide ((n : Int) ≤ (k : Int)))) = false := by rw [decide_eq_true (by omega)]; rfl
theorem nD' {n k : Nat} (h : k < n) : (!(decide ((n : Int) ≤ (k : Int)))) = true := by rw [decide_eq_false (by omega)]; rfl
theorem iN {a b : Int} (h : a ≠ b) : decide (a = b) = false := decide_eq_false h
theorem dN {n k : Nat} (h : n ≠ k) : decide ((n : Int) = (k : Int)) = false := decide_eq_false (by omega)
theorem sZ_ok (K : List Int) : ae.OkK (sZ ae.tagF K) := bs_ok (tag_in _ _)
theorem byt0 : hx.Byt [] := fun x hx => by cases hx
theorem pK1si_ok {K : List Int} {n : Nat} {c : Nat} {M : List Int} {m : Nat} {d : Nat} (hK : K.length = n) (bK : hx.Byt K) (p0 : 0 < n) (p1 : n ≤ 80) (cK : n ≤ c) (bM : hx.Byt M) (hM : M.length = m) (q0 : 0 < m) (q1 : m ≤ 200) (dM : m ≤ d) : pK1si hd.tgN ae.tagF K n c M m d := by
  have hK' := hK.symm
  have hM' := hM.symm
  have lE : (M ++ [(77 : Int)]).length = m + 1 := by simp [hM]
  have hW : W9 m = 9 + m := by rw [W9_eq (by omega)]; omega
  have e9 : 7 + m + 2 = 9 + m := by omega
  have hl : (inp 0 160 M).length = 9 + m := by rw [inp_len hM]; omega
  have hl2 : 9 + m = (inp 0 160 M).length := hl.symm
  have hb : hx.Byt (inp 0 160 M) := inp_byt bM (by omega) (by omega)
  have lA := LA_len m
  have lB := LB_len m
  have lC := LC_len hM
  have lR := R0_len (9 + m)
  unfold pK1si
  simp only [Nat.zero_add, Nat.mul_one, nI, tkM hK, wdM hK, nD (n := n) (k := 80) p1, show ((80 : Nat) : Int) = 80 from rfl, C7_eq hM, tkM hM, tkE hM, gtE hM, hW, W9i (m := m) (by omega), W7i (m := m) (by omega), LD_eq hM, DD_eq hM, e9, wdM hl, b0, b1, b2, b3, decide_true, and_true, true_and, and_self]
  repeat' apply And.intro
  all_goals first | trivial | assumption | rfl | (unfold mostBytes; omega) | (simp only [decide_eq_true_eq, decide_eq_false_iff_not]; omega) | exact nB rfl | exact yB rfl | exact iN ‹_› | exact wrI (by omega) | (simp only [List.length_append, List.length_cons, List.length_nil]; omega) | exact nD p1 | omega
theorem pK1sn_ok {K : List Int} {n : Nat} {c : Nat} (hK : K.length = n) (bK : hx.Byt K) (p0 : 0 < n) (p1 : n ≤ 80) (cK : n ≤ c) : pK1sn hd.tgN ae.tagF K n c := by
  have hK' := hK.symm
  have hl : (inp 0 160 []).length = 9 := rfl
  have hl2 : 9 = (inp 0 160 []).length := rfl
  have hb : hx.Byt (inp 0 160 []) := inp_byt byt0 (by omega) (by omega)
  have lA := LA0
  have lB := LB0
  have lC := LC0
  have lR := R0_len 9
  unfold pK1sn
  simp only [Nat.zero_add, Nat.mul_one, nI, tkM hK, wdM hK, nD (n := n) (k := 80) p1, show ((80 : Nat) : Int) = 80 from rfl, LD0, DD0, wdM hl, b0, b1, b2, b3, decide_true, and_true, true_and, and_self]
  repeat' apply And.intro
  all_goals first | trivial | assumption | rfl | (unfold mostBytes; omega) | (simp only [decide_eq_true_eq, decide_eq_false_iff_not]; omega) | exact nB rfl | exact yB rfl | exact iN ‹_› | exact wrI (by omega) | (simp only [List.length_append, List.length_cons, List.length_nil]; omega) | exact nD p1 | omega
theorem pK1sz_ok {K : List Int} {n : Nat} {c : Nat} {d : Nat} (hK : K.length = n) (bK : hx.Byt K) (p0 : 0 < n) (p1 : n ≤ 80) (cK : n ≤ c) : pK1sz hd.tgN ae.tagF K n c d := by
  have hK' := hK.symm
  have hl : (inp 0 160 []).length = 9 := rfl
  have hl2 : 9 = (inp 0 160 []).length := rfl
  have hb : hx.Byt (inp 0 160 []) := inp_byt byt0 (by omega) (by omega)
  have lA := LA0
  have lB := LB0
  have lC := LC0
  have lR := R0_len 9
  unfold pK1sz
  simp only [Nat.zero_add, Nat.mul_one, nI, tkM hK, wdM hK, nD (n := n) (k := 80) p1, show ((80 : Nat) : Int) = 80 from rfl, LD0, DD0, wdM hl, b0, b1, b2, b3, decide_true, and_true, true_and, and_self]
  repeat' apply And.intro
  all_goals first | trivial | assumption | rfl | (unfold mostBytes; omega) | (simp only [decide_eq_true_eq, decide_eq_false_iff_not]; omega) | exact nB rfl | exact yB rfl | exact iN ‹_› | exact wrI (by omega) | (simp only [List.length_append, List.length_cons, List.length_nil]; omega) | exact nD p1 | omega
theorem pK2ki_ok {K : List Int} {c : Nat} {M : List Int} {m : Nat} {d : Nat} (bK : hx.Byt K) (hK : K.length = 16) (cK : 16 ≤ c) (bM : hx.Byt M) (hM : M.length = m) (q0 : 0 < m) (q1 : m ≤ 200) (dM : m ≤ d) : pK2ki hd.tgN ae.tagF K c M m d := by
  have hA : ae.OkK K := ⟨hK, keyIn bK⟩
  have hA2 := hA.2
  have hM' := hM.symm
  have lE : (M ++ [(77 : Int)]).length = m + 1 := by simp [hM]
  have hW : W9 m = 9 + m := by rw [W9_eq (by omega)]; omega
  have e9 : 7 + m + 2 = 9 + m := by omega
  have hl : (inp 0 128 M).length = 9 + m := by rw [inp_len hM]; omega
  have hl2 : 9 + m = (inp 0 128 M).length := hl.symm
  have hb : hx.Byt (inp 0 128 M) := inp_byt bM (by omega) (by omega)
  have lA := LA_len m
  have lB := LB_len m
  have lC := LC_len hM
  have lR := R0_len (9 + m)
  unfold pK2ki
  simp only [Nat.zero_add, Nat.mul_one, nI, tkM hK, wdM hK, C7_eq hM, tkM hM, tkE hM, gtE hM, hW, W9i (m := m) (by omega), W7i (m := m) (by omega), LD_eq hM, DD_eq hM, e9, wdM hl, b0, b1, b2, b3, decide_true, and_true, true_and, and_self]
  repeat' apply And.intro
  all_goals first | trivial | assumption | rfl | (unfold mostBytes; omega) | (simp only [decide_eq_true_eq, decide_eq_false_iff_not]; omega) | exact nB rfl | exact yB rfl | exact iN ‹_› | exact wrI (by omega) | (simp only [List.length_append, List.length_cons, List.length_nil]; omega) | omega
theorem pK2kn_ok {K : List Int} {c : Nat} (bK : hx.Byt K) (hK : K.length = 16) (cK : 16 ≤ c) : pK2kn hd.tgN ae.tagF K c := by
  have hA : ae.OkK K := ⟨hK, keyIn bK⟩
  have hA2 := hA.2
  have hl : (inp 0 128 []).length = 9 := rfl
  have hl2 : 9 = (inp 0 128 []).length := rfl
  have hb : hx.Byt (inp 0 128 []) := inp_byt byt0 (by omega) (by omega)
  have lA := LA0
  have lB := LB0
  have lC := LC0
  have lR := R0_len 9
  unfold pK2kn
  simp only [Nat.zero_add, Nat.mul_one, nI, tkM hK, wdM hK, LD0, DD0, wdM hl, b0, b1, b2, b3, decide_true, and_true, true_and, and_self]
  repeat' apply And.intro
  all_goals first | trivial | assumption | rfl | (unfold mostBytes; omega) | (simp only [decide_eq_true_eq, decide_eq_false_iff_not]; omega) | exact nB rfl | exact yB rfl | exact iN ‹_› | exact wrI (by omega) | (simp only [List.length_append, List.length_cons, List.length_nil]; omega) | omega
theorem pK2kz_ok {K : List Int} {c : Nat} {d : Nat} (bK : hx.Byt K) (hK : K.length = 16) (cK : 16 ≤ c) : pK2kz hd.tgN ae.tagF K c d := by
  have hA : ae.OkK K := ⟨hK, keyIn bK⟩
  have hA2 := hA.2
  have hl : (inp 0 128 []).length = 9 := rfl
  have hl2 : 9 = (inp 0 128 []).length := rfl
  have hb : hx.Byt (inp 0 128 []) := inp_byt byt0 (by omega) (by omega)
  have lA := LA0
  have lB := LB0
  have lC := LC0
  have lR := R0_len 9
  unfold pK2kz
  simp only [Nat.zero_add, Nat.mul_one, nI, tkM hK, wdM hK, LD0, DD0, wdM hl, b0, b1, b2, b3, decide_true, and_true, true_and, and_self]
  repeat' apply And.intro
  all_goals first | trivial | assumption | rfl | (unfold mostBytes; omega) | (simp only [decide_eq_true_eq, decide_eq_false_iff_not]; omega) | exact nB rfl | exact yB rfl | exact iN ‹_› | exact wrI (by omega) | (simp only [List.length_append, List.length_cons, List.length_nil]; omega) | omega
theorem pK2si_ok {K : List Int} {n : Nat} {c : Nat} {M : List Int} {m : Nat} {d : Nat} (hK : K.length = n) (bK : hx.Byt K) (p0 : 0 < n) (p1 : n ≤ 80) (h16 : n ≠ 16) (cK : n ≤ c) (bM : hx.Byt M) (hM : M.length = m) (q0 : 0 < m) (q1 : m ≤ 200) (dM : m ≤ d) : pK2si hd.tgN ae.tagF K n c M m d := by
  have hK' := hK.symm
  have hZ : (wd Zr 0 16) = Zr := wdM (by simp [Zr])
  have z1 := Zr_ok.1
  have z2 := Zr_ok.2
  have s1 := (sZ_ok K).1
  have s2 := (sZ_ok K).2
  have hS : wd (sZ ae.tagF K) 0 16 = sZ ae.tagF K := wdM (sZ_ok K).1
  have hM' := hM.symm
  have lE : (M ++ [(77 : Int)]).length = m + 1 := by simp [hM]
  have hW : W9 m = 9 + m := by rw [W9_eq (by omega)]; omega
  have e9 : 7 + m + 2 = 9 + m := by omega
  have hl : (inp 0 128 M).length = 9 + m := by rw [inp_len hM]; omega
  have hl2 : 9 + m = (inp 0 128 M).length := hl.symm
  have hb : hx.Byt (inp 0 128 M) := inp_byt bM (by omega) (by omega)
  have lA := LA_len m
  have lB := LB_len m
  have lC := LC_len hM
  have lR := R0_len (9 + m)
  unfold pK2si
  simp only [Nat.zero_add, Nat.mul_one, nI, tkM hK, wdM hK, nD (n := n) (k := 80) p1, show ((80 : Nat) : Int) = 80 from rfl, dN (n := n) (k := 16) h16, show ((16 : Nat) : Int) = 16 from rfl, hZ, hS, C7_eq hM, tkM hM, tkE hM, gtE hM, hW, W9i (m := m) (by omega), W7i (m := m) (by omega), LD_eq hM, DD_eq hM, e9, wdM hl, b0, b1, b2, b3, decide_true, and_true, true_and, and_self]
  repeat' apply And.intro
  all_goals first | trivial | assumption | rfl | (unfold mostBytes; omega) | (simp only [decide_eq_true_eq, decide_eq_false_iff_not]; omega) | exact nB rfl | exact yB rfl | exact iN ‹_› | exact wrI (by omega) | (simp only [List.length_append, List.length_cons, List.length_nil]; omega) | exact nD p1 | exact dN h16 | omega
theorem pK2sn_ok {K : List Int} {n : Nat} {c : Nat} (hK : K.length = n) (bK : hx.Byt K) (p0 : 0 < n) (p1 : n ≤ 80) (h16 : n ≠ 16) (cK : n ≤ c) : pK2sn hd.tgN ae.tagF K n c := by
  have hK' := hK.symm
  have hZ : (wd Zr 0 16) = Zr := wdM (by simp [Zr])
  have z1 := Zr_ok.1
  have z2 := Zr_ok.2
  have s1 := (sZ_ok K).1
  have s2 := (sZ_ok K).2
  have hS : wd (sZ ae.tagF K) 0 16 = sZ ae.tagF K := wdM (sZ_ok K).1
  have hl : (inp 0 128 []).length = 9 := rfl
  have hl2 : 9 = (inp 0 128 []).length := rfl
  have hb : hx.Byt (inp 0 128 []) := inp_byt byt0 (by omega) (by omega)
  have lA := LA0
  have lB := LB0
  have lC := LC0
  have lR := R0_len 9
  unfold pK2sn
  simp only [Nat.zero_add, Nat.mul_one, nI, tkM hK, wdM hK, nD (n := n) (k := 80) p1, show ((80 : Nat) : Int) = 80 from rfl, dN (n := n) (k := 16) h16, show ((16 : Nat) : Int) = 16 from rfl, hZ, hS, LD0, DD0, wdM hl, b0, b1, b2, b3, decide_true, and_true, true_and, and_self]
  repeat' apply And.intro
  all_goals first | trivial | assumption | rfl | (unfold mostBytes; omega) | (simp only [decide_eq_true_eq, decide_eq_false_iff_not]; omega) | exact nB rfl | exact yB rfl | exact iN ‹_› | exact wrI (by omega) | (simp only [List.length_append, List.length_cons, List.length_nil]; omega) | exact nD p1 | exact dN h16 | omega
theorem pK2sz_ok {K : List Int} {n : Nat} {c : Nat} {d : Nat} (hK : K.length = n) (bK : hx.Byt K) (p0 : 0 < n) (p1 : n ≤ 80) (h16 : n ≠ 16) (cK : n ≤ c) : pK2sz hd.tgN ae.tagF K n c d := by
  have hK' := hK.symm
  have hZ : (wd Zr 0 16) = Zr := wdM (by simp [Zr])
  have z1 := Zr_ok.1
  have z2 := Zr_ok.2
  have s1 := (sZ_ok K).1
  have s2 := (sZ_ok K).2
  have hS : wd (sZ ae.tagF K) 0 16 = sZ ae.tagF K := wdM (sZ_ok K).1
  have hl : (inp 0 128 []).length = 9 := rfl
  have hl2 : 9 = (inp 0 128 []).length := rfl
  have hb : hx.Byt (inp 0 128 []) := inp_byt byt0 (by omega) (by omega)
  have lA := LA0
  have lB := LB0
  have lC := LC0
  have lR := R0_len 9
  unfold pK2sz
  simp only [Nat.zero_add, Nat.mul_one, nI, tkM hK, wdM hK, nD (n := n) (k := 80) p1, show ((80 : Nat) : Int) = 80 from rfl, dN (n := n) (k := 16) h16, show ((16 : Nat) : Int) = 16 from rfl, hZ, hS, LD0, DD0, wdM hl, b0, b1, b2, b3, decide_true, and_true, true_and, and_self]
  repeat' apply And.intro
  all_goals first | trivial | assumption | rfl | (unfold mostBytes; omega) | (simp only [decide_eq_true_eq, decide_eq_false_iff_not]; omega) | exact nB rfl | exact yB rfl | exact iN ‹_› | exact wrI (by omega) | (simp only [List.length_append, List.length_cons, List.length_nil]; omega) | exact nD p1 | exact dN h16 | omega
theorem pK1sl_ok {K : List Int} {n : Nat} {c : Nat} {M : List Int} {m : Nat} {d : Nat} (hK : K.length = n) (bK : hx.Byt K) (p0 : 0 < n) (p1 : n ≤ 80) (cK : n ≤ c) (hM : M.length = m) (q0 : 0 < m) (q1 : 200 < m) (q2 : m ≤ 300) : pK1sl K n c M m d := by
  have hK' := hK.symm
  have hM' := hM.symm
  have lE : (M ++ [(77 : Int)]).length = m + 1 := by simp [hM]
  unfold pK1sl
  simp only [Nat.zero_add, Nat.mul_one, nI, tkM hK, wdM hK, nD (n := n) (k := 80) p1, show ((80 : Nat) : Int) = 80 from rfl, C7_eq hM, tkM hM, tkE hM, gtE hM, decide_true, and_true, true_and, and_self]
  repeat' apply And.intro
  all_goals first | trivial | assumption | rfl | (unfold mostBytes; omega) | (simp only [decide_eq_true_eq, decide_eq_false_iff_not]; omega) | exact nB rfl | exact yB rfl | exact iN ‹_› | exact wrI (by omega) | (simp only [List.length_append, List.length_cons, List.length_nil]; omega) | exact nD p1 | omega
theorem pK1nn_ok {n : Nat} : pK1nn n := by
  unfold pK1nn
  simp only [Nat.zero_add, Nat.mul_one, nI, decide_true, and_true, true_and, and_self]
theorem pK1nz_ok {d : Nat} : pK1nz d := by
  unfold pK1nz
  simp only [Nat.zero_add, Nat.mul_one, nI, decide_true, and_true, true_and, and_self]
theorem pK1nj_ok {M : List Int} {m : Nat} {d : Nat} (hM : M.length = m) (q0 : 0 < m) (q2 : m ≤ 300) : pK1nj M m d := by
  have hM' := hM.symm
  have lE : (M ++ [(77 : Int)]).length = m + 1 := by simp [hM]
  unfold pK1nj
  simp only [Nat.zero_add, Nat.mul_one, nI, C7_eq hM, tkM hM, tkE hM, gtE hM, decide_true, and_true, true_and, and_self]
  repeat' apply And.intro
  all_goals first | trivial | assumption | rfl | (unfold mostBytes; omega) | (simp only [decide_eq_true_eq, decide_eq_false_iff_not]; omega) | exact nB rfl | exact yB rfl | exact iN ‹_› | exact wrI (by omega) | (simp only [List.length_append, List.length_cons, List.length_nil]; omega) | omega
theorem pK1zn_ok {c : Nat} : pK1zn c := by
  unfold pK1zn
  simp only [Nat.zero_add, Nat.mul_one, nI, decide_true, and_true, true_and, and_self]
theorem pK1zz_ok {c : Nat} {d : Nat} : pK1zz c d := by
  unfold pK1zz
  simp only [Nat.zero_add, Nat.mul_one, nI, decide_true, and_true, true_and, and_self]
theorem pK1zj_ok {c : Nat} {M : List Int} {m : Nat} {d : Nat} (hM : M.length = m) (q0 : 0 < m) (q2 : m ≤ 300) : pK1zj c M m d := by
  have hM' := hM.symm
  have lE : (M ++ [(77 : Int)]).length = m + 1 := by simp [hM]
  unfold pK1zj
  simp only [Nat.zero_add, Nat.mul_one, nI, C7_eq hM, tkM hM, tkE hM, gtE hM, decide_true, and_true, true_and, and_self]
  repeat' apply And.intro
  all_goals first | trivial | assumption | rfl | (unfold mostBytes; omega) | (simp only [decide_eq_true_eq, decide_eq_false_iff_not]; omega) | exact nB rfl | exact yB rfl | exact iN ‹_› | exact wrI (by omega) | (simp only [List.length_append, List.length_cons, List.length_nil]; omega) | omega
theorem pK1ln_ok {K : List Int} {n : Nat} {c : Nat} (hK : K.length = n) (p1 : 80 < n) (p2 : n ≤ 300) : pK1ln K n c := by
  have p0 : 0 < n := by omega
  have hK' := hK.symm
  unfold pK1ln
  simp only [Nat.zero_add, Nat.mul_one, nI, tkM hK, wdM hK, nD' (n := n) (k := 80) p1, show ((80 : Nat) : Int) = 80 from rfl, decide_true, and_true, true_and, and_self]
  repeat' apply And.intro
  all_goals first | trivial | assumption | rfl | (unfold mostBytes; omega) | (simp only [decide_eq_true_eq, decide_eq_false_iff_not]; omega) | exact nB rfl | exact yB rfl | exact iN ‹_› | exact wrI (by omega) | (simp only [List.length_append, List.length_cons, List.length_nil]; omega) | exact nD' p1 | omega
theorem pK1lz_ok {K : List Int} {n : Nat} {c : Nat} {d : Nat} (hK : K.length = n) (p1 : 80 < n) (p2 : n ≤ 300) : pK1lz K n c d := by
  have p0 : 0 < n := by omega
  have hK' := hK.symm
  unfold pK1lz
  simp only [Nat.zero_add, Nat.mul_one, nI, tkM hK, wdM hK, nD' (n := n) (k := 80) p1, show ((80 : Nat) : Int) = 80 from rfl, decide_true, and_true, true_and, and_self]
  repeat' apply And.intro
  all_goals first | trivial | assumption | rfl | (unfold mostBytes; omega) | (simp only [decide_eq_true_eq, decide_eq_false_iff_not]; omega) | exact nB rfl | exact yB rfl | exact iN ‹_› | exact wrI (by omega) | (simp only [List.length_append, List.length_cons, List.length_nil]; omega) | exact nD' p1 | omega
theorem pK1lj_ok {K : List Int} {n : Nat} {c : Nat} {M : List Int} {m : Nat} {d : Nat} (hK : K.length = n) (p1 : 80 < n) (p2 : n ≤ 300) (hM : M.length = m) (q0 : 0 < m) (q2 : m ≤ 300) : pK1lj K n c M m d := by
  have p0 : 0 < n := by omega
  have hK' := hK.symm
  have hM' := hM.symm
  have lE : (M ++ [(77 : Int)]).length = m + 1 := by simp [hM]
  unfold pK1lj
  simp only [Nat.zero_add, Nat.mul_one, nI, tkM hK, wdM hK, nD' (n := n) (k := 80) p1, show ((80 : Nat) : Int) = 80 from rfl, C7_eq hM, tkM hM, tkE hM, gtE hM, decide_true, and_true, true_and, and_self]
  repeat' apply And.intro
  all_goals first | trivial | assumption | rfl | (unfold mostBytes; omega) | (simp only [decide_eq_true_eq, decide_eq_false_iff_not]; omega) | exact nB rfl | exact yB rfl | exact iN ‹_› | exact wrI (by omega) | (simp only [List.length_append, List.length_cons, List.length_nil]; omega) | exact nD' p1 | omega
theorem pK2Sl_ok {K : List Int} {n : Nat} {c : Nat} {M : List Int} {m : Nat} {d : Nat} (hK : K.length = n) (p0 : 0 < n) (p1 : n ≤ 80) (hM : M.length = m) (q0 : 0 < m) (q1 : 200 < m) (q2 : m ≤ 300) : pK2Sl K n c M m d := by
  have hK' := hK.symm
  have hM' := hM.symm
  have lE : (M ++ [(77 : Int)]).length = m + 1 := by simp [hM]
  unfold pK2Sl
  simp only [Nat.zero_add, Nat.mul_one, nI, tkM hK, wdM hK, nD (n := n) (k := 80) p1, show ((80 : Nat) : Int) = 80 from rfl, C7_eq hM, tkM hM, tkE hM, gtE hM, decide_true, and_true, true_and, and_self]
  repeat' apply And.intro
  all_goals first | trivial | assumption | rfl | (unfold mostBytes; omega) | (simp only [decide_eq_true_eq, decide_eq_false_iff_not]; omega) | exact nB rfl | exact yB rfl | exact iN ‹_› | exact wrI (by omega) | (simp only [List.length_append, List.length_cons, List.length_nil]; omega) | exact nD p1 | omega
theorem pK2nn_ok {n : Nat} : pK2nn n := by
  unfold pK2nn
  simp only [Nat.zero_add, Nat.mul_one, nI, decide_true, and_true, true_and, and_self]
theorem pK2nz_ok {d : Nat} : pK2nz d := by
  unfold pK2nz
  simp only [Nat.zero_add, Nat.mul_one, nI, decide_true, and_true, true_and, and_self]
theorem pK2nj_ok {M : List Int} {m : Nat} {d : Nat} (hM : M.length = m) (q0 : 0 < m) (q2 : m ≤ 300) : pK2nj M m d := by
  have hM' := hM.symm
  have lE : (M ++ [(77 : Int)]).length = m + 1 := by simp [hM]
  unfold pK2nj
  simp only [Nat.zero_add, Nat.mul_one, nI, C7_eq hM, tkM hM, tkE hM, gtE hM, decide_true, and_true, true_and, and_self]
  repeat' apply And.intro
  all_goals first | trivial | assumption | rfl | (unfold mostBytes; omega) | (simp only [decide_eq_true_eq, decide_eq_false_iff_not]; omega) | exact nB rfl | exact yB rfl | exact iN ‹_› | exact wrI (by omega) | (simp only [List.length_append, List.length_cons, List.length_nil]; omega) | omega
theorem pK2zn_ok {c : Nat} : pK2zn c := by
  unfold pK2zn
  simp only [Nat.zero_add, Nat.mul_one, nI, decide_true, and_true, true_and, and_self]
theorem pK2zz_ok {c : Nat} {d : Nat} : pK2zz c d := by
  unfold pK2zz
  simp only [Nat.zero_add, Nat.mul_one, nI, decide_true, and_true, true_and, and_self]
theorem pK2zj_ok {c : Nat} {M : List Int} {m : Nat} {d : Nat} (hM : M.length = m) (q0 : 0 < m) (q2 : m ≤ 300) : pK2zj c M m d := by
  have hM' := hM.symm
  have lE : (M ++ [(77 : Int)]).length = m + 1 := by simp [hM]
  unfold pK2zj
  simp only [Nat.zero_add, Nat.mul_one, nI, C7_eq hM, tkM hM, tkE hM, gtE hM, decide_true, and_true, true_and, and_self]
  repeat' apply And.intro
  all_goals first | trivial | assumption | rfl | (unfold mostBytes; omega) | (simp only [decide_eq_true_eq, decide_eq_false_iff_not]; omega) | exact nB rfl | exact yB rfl | exact iN ‹_› | exact wrI (by omega) | (simp only [List.length_append, List.length_cons, List.length_nil]; omega) | omega
theorem pK2ln_ok {K : List Int} {n : Nat} {c : Nat} (hK : K.length = n) (p1 : 80 < n) (p2 : n ≤ 300) : pK2ln K n c := by
  have p0 : 0 < n := by omega
  have hK' := hK.symm
  unfold pK2ln
  simp only [Nat.zero_add, Nat.mul_one, nI, tkM hK, wdM hK, nD' (n := n) (k := 80) p1, show ((80 : Nat) : Int) = 80 from rfl, decide_true, and_true, true_and, and_self]
  repeat' apply And.intro
  all_goals first | trivial | assumption | rfl | (unfold mostBytes; omega) | (simp only [decide_eq_true_eq, decide_eq_false_iff_not]; omega) | exact nB rfl | exact yB rfl | exact iN ‹_› | exact wrI (by omega) | (simp only [List.length_append, List.length_cons, List.length_nil]; omega) | exact nD' p1 | omega
theorem pK2lz_ok {K : List Int} {n : Nat} {c : Nat} {d : Nat} (hK : K.length = n) (p1 : 80 < n) (p2 : n ≤ 300) : pK2lz K n c d := by
  have p0 : 0 < n := by omega
  have hK' := hK.symm
  unfold pK2lz
  simp only [Nat.zero_add, Nat.mul_one, nI, tkM hK, wdM hK, nD' (n := n) (k := 80) p1, show ((80 : Nat) : Int) = 80 from rfl, decide_true, and_true, true_and, and_self]
  repeat' apply And.intro
  all_goals first | trivial | assumption | rfl | (unfold mostBytes; omega) | (simp only [decide_eq_true_eq, decide_eq_false_iff_not]; omega) | exact nB rfl | exact yB rfl | exact iN ‹_› | exact wrI (by omega) | (simp only [List.length_append, List.length_cons, List.length_nil]; omega) | exact nD' p1 | omega
theorem pK2lj_ok {K : List Int} {n : Nat} {c : Nat} {M : List Int} {m : Nat} {d : Nat} (hK : K.length = n) (p1 : 80 < n) (p2 : n ≤ 300) (hM : M.length = m) (q0 : 0 < m) (q2 : m ≤ 300) : pK2lj K n c M m d := by
  have p0 : 0 < n := by omega
  have hK' := hK.symm
  have hM' := hM.symm
  have lE : (M ++ [(77 : Int)]).length = m + 1 := by simp [hM]
  unfold pK2lj
  simp only [Nat.zero_add, Nat.mul_one, nI, tkM hK, wdM hK, nD' (n := n) (k := 80) p1, show ((80 : Nat) : Int) = 80 from rfl, C7_eq hM, tkM hM, tkE hM, gtE hM, decide_true, and_true, true_and, and_self]
  repeat' apply And.intro
  all_goals first | trivial | assumption | rfl | (unfold mostBytes; omega) | (simp only [decide_eq_true_eq, decide_eq_false_iff_not]; omega) | exact nB rfl | exact yB rfl | exact iN ‹_› | exact wrI (by omega) | (simp only [List.length_append, List.length_cons, List.length_nil]; omega) | exact nD' p1 | omega
theorem pKonn_ok {A : Int} (h1 : A ≠ 1) (h2 : A ≠ 2) : pKonn A := by
  unfold pKonn
  simp only [Nat.zero_add, Nat.mul_one, nI, iN h1, iN h2, decide_true, and_true, true_and, and_self]
  repeat' apply And.intro
  all_goals first | trivial | assumption | rfl | (unfold mostBytes; omega) | (simp only [decide_eq_true_eq, decide_eq_false_iff_not]; omega) | exact nB rfl | exact yB rfl | exact iN ‹_› | exact wrI (by omega) | (simp only [List.length_append, List.length_cons, List.length_nil]; omega) | omega
theorem pKonz_ok {A : Int} {d : Nat} (h1 : A ≠ 1) (h2 : A ≠ 2) : pKonz A d := by
  unfold pKonz
  simp only [Nat.zero_add, Nat.mul_one, nI, iN h1, iN h2, decide_true, and_true, true_and, and_self]
  repeat' apply And.intro
  all_goals first | trivial | assumption | rfl | (unfold mostBytes; omega) | (simp only [decide_eq_true_eq, decide_eq_false_iff_not]; omega) | exact nB rfl | exact yB rfl | exact iN ‹_› | exact wrI (by omega) | (simp only [List.length_append, List.length_cons, List.length_nil]; omega) | omega
theorem pKonj_ok {A : Int} {M : List Int} {m : Nat} {d : Nat} (h1 : A ≠ 1) (h2 : A ≠ 2) (hM : M.length = m) (q0 : 0 < m) (q2 : m ≤ 300) : pKonj A M m d := by
  have hM' := hM.symm
  have lE : (M ++ [(77 : Int)]).length = m + 1 := by simp [hM]
  unfold pKonj
  simp only [Nat.zero_add, Nat.mul_one, nI, iN h1, iN h2, C7_eq hM, tkM hM, tkE hM, gtE hM, decide_true, and_true, true_and, and_self]
  repeat' apply And.intro
  all_goals first | trivial | assumption | rfl | (unfold mostBytes; omega) | (simp only [decide_eq_true_eq, decide_eq_false_iff_not]; omega) | exact nB rfl | exact yB rfl | exact iN ‹_› | exact wrI (by omega) | (simp only [List.length_append, List.length_cons, List.length_nil]; omega) | omega
theorem pKozn_ok {A : Int} {c : Nat} (h1 : A ≠ 1) (h2 : A ≠ 2) : pKozn A c := by
  unfold pKozn
  simp only [Nat.zero_add, Nat.mul_one, nI, iN h1, iN h2, decide_true, and_true, true_and, and_self]
  repeat' apply And.intro
  all_goals first | trivial | assumption | rfl | (unfold mostBytes; omega) | (simp only [decide_eq_true_eq, decide_eq_false_iff_not]; omega) | exact nB rfl | exact yB rfl | exact iN ‹_› | exact wrI (by omega) | (simp only [List.length_append, List.length_cons, List.length_nil]; omega) | omega
theorem pKozz_ok {A : Int} {c : Nat} {d : Nat} (h1 : A ≠ 1) (h2 : A ≠ 2) : pKozz A c d := by
  unfold pKozz
  simp only [Nat.zero_add, Nat.mul_one, nI, iN h1, iN h2, decide_true, and_true, true_and, and_self]
  repeat' apply And.intro
  all_goals first | trivial | assumption | rfl | (unfold mostBytes; omega) | (simp only [decide_eq_true_eq, decide_eq_false_iff_not]; omega) | exact nB rfl | exact yB rfl | exact iN ‹_› | exact wrI (by omega) | (simp only [List.length_append, List.length_cons, List.length_nil]; omega) | omega
theorem pKozj_ok {A : Int} {c : Nat} {M : List Int} {m : Nat} {d : Nat} (h1 : A ≠ 1) (h2 : A ≠ 2) (hM : M.length = m) (q0 : 0 < m) (q2 : m ≤ 300) : pKozj A c M m d := by
  have hM' := hM.symm
  have lE : (M ++ [(77 : Int)]).length = m + 1 := by simp [hM]
  unfold pKozj
  simp only [Nat.zero_add, Nat.mul_one, nI, iN h1, iN h2, C7_eq hM, tkM hM, tkE hM, gtE hM, decide_true, and_true, true_and, and_self]
  repeat' apply And.intro
  all_goals first | trivial | assumption | rfl | (unfold mostBytes; omega) | (simp only [decide_eq_true_eq, decide_eq_false_iff_not]; omega) | exact nB rfl | exact yB rfl | exact iN ‹_› | exact wrI (by omega) | (simp only [List.length_append, List.length_cons, List.length_nil]; omega) | omega
theorem pKoin_ok {A : Int} {K : List Int} {n : Nat} {c : Nat} (h1 : A ≠ 1) (h2 : A ≠ 2) (hK : K.length = n) (p0 : 0 < n) (p2 : n ≤ 300) : pKoin A K n c := by
  have hK' := hK.symm
  unfold pKoin
  simp only [Nat.zero_add, Nat.mul_one, nI, iN h1, iN h2, tkM hK, wdM hK, decide_true, and_true, true_and, and_self]
  repeat' apply And.intro
  all_goals first | trivial | assumption | rfl | (unfold mostBytes; omega) | (simp only [decide_eq_true_eq, decide_eq_false_iff_not]; omega) | exact nB rfl | exact yB rfl | exact iN ‹_› | exact wrI (by omega) | (simp only [List.length_append, List.length_cons, List.length_nil]; omega) | omega
theorem pKoiz_ok {A : Int} {K : List Int} {n : Nat} {c : Nat} {d : Nat} (h1 : A ≠ 1) (h2 : A ≠ 2) (hK : K.length = n) (p0 : 0 < n) (p2 : n ≤ 300) : pKoiz A K n c d := by
  have hK' := hK.symm
  unfold pKoiz
  simp only [Nat.zero_add, Nat.mul_one, nI, iN h1, iN h2, tkM hK, wdM hK, decide_true, and_true, true_and, and_self]
  repeat' apply And.intro
  all_goals first | trivial | assumption | rfl | (unfold mostBytes; omega) | (simp only [decide_eq_true_eq, decide_eq_false_iff_not]; omega) | exact nB rfl | exact yB rfl | exact iN ‹_› | exact wrI (by omega) | (simp only [List.length_append, List.length_cons, List.length_nil]; omega) | omega
theorem pKoij_ok {A : Int} {K : List Int} {n : Nat} {c : Nat} {M : List Int} {m : Nat} {d : Nat} (h1 : A ≠ 1) (h2 : A ≠ 2) (hK : K.length = n) (p0 : 0 < n) (p2 : n ≤ 300) (hM : M.length = m) (q0 : 0 < m) (q2 : m ≤ 300) : pKoij A K n c M m d := by
  have hK' := hK.symm
  have hM' := hM.symm
  have lE : (M ++ [(77 : Int)]).length = m + 1 := by simp [hM]
  unfold pKoij
  simp only [Nat.zero_add, Nat.mul_one, nI, iN h1, iN h2, tkM hK, wdM hK, C7_eq hM, tkM hM, tkE hM, gtE hM, decide_true, and_true, true_and, and_self]
  repeat' apply And.intro
  all_goals first | trivial | assumption | rfl | (unfold mostBytes; omega) | (simp only [decide_eq_true_eq, decide_eq_false_iff_not]; omega) | exact nB rfl | exact yB rfl | exact iN ‹_› | exact wrI (by omega) | (simp only [List.length_append, List.length_cons, List.length_nil]; omega) | omega
end
end km
end Go.Proofs.YtmgelikgcfjhhaaGreat
namespace Go.Proofs.YtmgelikgcfjhhaaGreat
open Go.ChangeShapes Go.WideShapes Go.ChangeAt Go.RowKit Go.Cln
namespace km
set_option linter.unusedVariables false
noncomputable section
abbrev Fin6 (W : World) (v : Array Value) : Prop := Calls Tryz.prog 6 v W fun e w' => e = .returned (.bool true) ∧ Below W.heap.size W w'
theorem go0 {W : World} {G : Given} {A : Int} {o : List (Option Bool)} {p : Prop} (hG : GivenOk Tryz.prog G) (hr : (rG G (.int .i64 A) (.slice none 0 0) (.slice none 0 0) [] o).map (fun r => (r.1, r.2.obl)) = some (.bool true, p)) (hp : p) : Fin6 W #[.int .i64 A, .slice none 0 0, .slice none 0 0] :=
  ranG ae.pg hG (ρ := pl ⟨0, 0, 0⟩ ⟨0, 0, 0⟩) hr hp rfl (start_hs (l := []) (by simp) ok0) (VL.cons (.same rfl) (VL.cons (.same rfl) (VL.cons (.same rfl) VL.nil)))
theorem goA {W : World} {G : Given} {A : Int} {o : List (Option Bool)} {p : Prop} {b1 o1 l1 n c : Nat} {x : Option Ob} (hG : GivenOk Tryz.prog G) (hr : (rG G (.int .i64 A) (sl 0 none n c) (.slice none 0 0) [x] o).map (fun r => (r.1, r.2.obl)) = some (.bool true, p)) (hp : p) (hx : OkAt W ⟨b1, o1, l1⟩ x) (hc : n ≤ c) : Fin6 W #[.int .i64 A, .slice (some ⟨b1, o1, none⟩) n c, .slice none 0 0] :=
  ranG ae.pg hG (ρ := pl ⟨b1, o1, l1⟩ ⟨0, 0, 0⟩) hr hp rfl (start_hs (l := [x]) (by simp) (ok1 hx)) (VL.cons (.same rfl) (VL.cons (vr_at (by simp) (len := l1) rfl hc) (VL.cons (.same rfl) VL.nil)))
theorem goB {W : World} {G : Given} {A : Int} {o : List (Option Bool)} {p : Prop} {b1 o1 l1 n c : Nat} {x : Option Ob} (hG : GivenOk Tryz.prog G) (hr : (rG G (.int .i64 A) (.slice none 0 0) (sl 0 none n c) [x] o).map (fun r => (r.1, r.2.obl)) = some (.bool true, p)) (hp : p) (hx : OkAt W ⟨b1, o1, l1⟩ x) (hc : n ≤ c) : Fin6 W #[.int .i64 A, .slice none 0 0, .slice (some ⟨b1, o1, none⟩) n c] :=
  ranG ae.pg hG (ρ := pl ⟨b1, o1, l1⟩ ⟨0, 0, 0⟩) hr hp rfl (start_hs (l := [x]) (by simp) (ok1 hx)) (VL.cons (.same rfl) (VL.cons (.same rfl) (VL.cons (vr_at (by simp) (len := l1) rfl hc) VL.nil)))
theorem go2 {W : World} {G : Given} {A : Int} {o : List (Option Bool)} {p : Prop} {b1 o1 l1 n c b2 o2 l2 m d : Nat} {x y : Option Ob} (hG : GivenOk Tryz.prog G) (hr : (rG G (.int .i64 A) (sl 0 none n c) (sl 1 none m d) [x, y] o).map (fun r => (r.1, r.2.obl)) = some (.bool true, p)) (hp : p) (hx : OkAt W ⟨b1, o1, l1⟩ x) (hy : OkAt W ⟨b2, o2, l2⟩ y) (hc : n ≤ c) (hd : m ≤ d) : Fin6 W #[.int .i64 A, .slice (some ⟨b1, o1, none⟩) n c, .slice (some ⟨b2, o2, none⟩) m d] :=
  ranG ae.pg hG (ρ := pl ⟨b1, o1, l1⟩ ⟨b2, o2, l2⟩) hr hp rfl (start_hs (l := [x, y]) (by simp) (ok2 hx hy)) (VL.cons (.same rfl) (VL.cons (vr_at (by simp) (len := l1) rfl hc) (VL.cons (vr_at (by simp) (len := l2) rfl hd) VL.nil)))
theorem kdfKeys (W : World) (a0 : Int) (w0 : (Lit.int .i64 a0).wf = true) (a1 : Option Addr) (n1 c1 : Nat) (s1 : (a1 = none ∧ n1 = 0 ∧ c1 = 0) ∨ ∃ b o, a1 = some ⟨b, o, none⟩ ∧ n1 ≤ c1 ∧ (c1 : Int) ≤ 9223372036854775807)
    (z1 : n1 = 0 ∨ ∃ (b o : Nat) (L : List Int), a1 = some ⟨b, o, none⟩ ∧ L.length = n1 ∧ (∀ x ∈ L, (Lit.int .u8 x).wf = true) ∧ HasCells W b o (L.map (Value.int .u8)))
    (a2 : Option Addr) (n2 c2 : Nat) (s2 : (a2 = none ∧ n2 = 0 ∧ c2 = 0) ∨ ∃ b o, a2 = some ⟨b, o, none⟩ ∧ n2 ≤ c2 ∧ (c2 : Int) ≤ 9223372036854775807)
    (z2 : n2 = 0 ∨ ∃ (b o : Nat) (L : List Int), a2 = some ⟨b, o, none⟩ ∧ L.length = n2 ∧ (∀ x ∈ L, (Lit.int .u8 x).wf = true) ∧ HasCells W b o (L.map (Value.int .u8))) :
    Calls Tryz.prog 6 #[.int .i64 a0, .slice a1 n1 c1, .slice a2 n2 c2] W fun e w' => e = .returned (.bool true) ∧ Below W.heap.size W w' := by
  by_cases h1 : a0 = 1
  · subst h1
    rcases cameIn 300 s1 z1 with ⟨rfl, rfl, rfl⟩ | ⟨b1, o1, rfl, hc, _, rfl | ⟨p1, q1, K, l1, hK, bK, kK⟩ | g1⟩
    · rcases cameIn 300 s2 z2 with ⟨rfl, rfl, rfl⟩ | ⟨b2, o2, rfl, hdd, _, rfl | ⟨p2, q2, M, l2, hM, bM, kM⟩ | g2⟩
      · exact go0 (KKe_ok) (runK1nn 0) (pK1nn_ok)
      · exact goB (KKe_ok) (runK1nz c2) (pK1nz_ok) (l1 := 0) trivial hdd
      · exact goB (KKe_ok) (runK1nj M n2 c2) (pK1nj_ok hM p2 q2) kM hdd
      · exact goB (KKe_ok) (runKonb 1 n2 c2) (⟨⟨trivial, decide_eq_true (show 300 < (n2 : Int) by omega)⟩, trivial⟩) (l1 := 0) trivial hdd
    · rcases cameIn 300 s2 z2 with ⟨rfl, rfl, rfl⟩ | ⟨b2, o2, rfl, hdd, _, rfl | ⟨p2, q2, M, l2, hM, bM, kM⟩ | g2⟩
      · exact goA (KKe_ok) (runK1zn c1) (pK1zn_ok) (l1 := 0) trivial hc
      · exact go2 (KKe_ok) (runK1zz c1 c2) (pK1zz_ok) (l1 := 0) (l2 := 0) trivial trivial hc hdd
      · exact go2 (KKe_ok) (runK1zj c1 M n2 c2) (pK1zj_ok hM p2 q2) (l1 := 0) trivial kM hc hdd
      · exact go2 (KKe_ok) (runKoib 1 0 c1 n2 c2) (⟨⟨⟨trivial, decide_eq_false (show ¬ 300 < ((0 : Nat) : Int) by omega)⟩, decide_eq_true (show 300 < (n2 : Int) by omega)⟩, trivial⟩) (l1 := 0) (l2 := 0) trivial trivial hc hdd
    · rcases Nat.lt_or_ge 80 n1 with h80 | h80
      · rcases cameIn 300 s2 z2 with ⟨rfl, rfl, rfl⟩ | ⟨b2, o2, rfl, hdd, _, rfl | ⟨p2, q2, M, l2, hM, bM, kM⟩ | g2⟩
        · exact goA (KKe_ok) (runK1ln K n1 c1) (pK1ln_ok hK h80 q1) kK hc
        · exact go2 (KKe_ok) (runK1lz K n1 c1 c2) (pK1lz_ok hK h80 q1) (l2 := 0) kK trivial hc hdd
        · exact go2 (KKe_ok) (runK1lj K n1 c1 M n2 c2) (pK1lj_ok hK h80 q1 hM p2 q2) kK kM hc hdd
        · exact go2 (KKe_ok) (runKoib 1 n1 c1 n2 c2) (⟨⟨⟨trivial, decide_eq_false (show ¬ 300 < ((n1 : Nat) : Int) by omega)⟩, decide_eq_true (show 300 < (n2 : Int) by omega)⟩, trivial⟩) (l1 := 0) (l2 := 0) trivial trivial hc hdd
      · rcases cameIn 300 s2 z2 with ⟨rfl, rfl, rfl⟩ | ⟨b2, o2, rfl, hdd, _, rfl | ⟨p2, q2, M, l2, hM, bM, kM⟩ | g2⟩
        · exact goA (KKy_ok hd.tgN ae.tagF) (runK1sn hd.tgN ae.tagF K n1 c1) (pK1sn_ok hK bK p1 h80 hc) kK hc
        · exact go2 (KKy_ok hd.tgN ae.tagF) (runK1sz hd.tgN ae.tagF K n1 c1 c2) (pK1sz_ok hK bK p1 h80 hc) (l2 := 0) kK trivial hc hdd
        · rcases Nat.lt_or_ge 200 n2 with h200 | h200
          · exact go2 (KKe_ok) (runK1sl K n1 c1 M n2 c2) (pK1sl_ok hK bK p1 h80 hc hM p2 h200 q2) kK kM hc hdd
          · exact go2 (KKy_ok hd.tgN ae.tagF) (runK1si hd.tgN ae.tagF K n1 c1 M n2 c2) (pK1si_ok hK bK p1 h80 hc bM hM p2 h200 hdd) kK kM hc hdd
        · exact go2 (KKe_ok) (runKoib 1 n1 c1 n2 c2) (⟨⟨⟨trivial, decide_eq_false (show ¬ 300 < ((n1 : Nat) : Int) by omega)⟩, decide_eq_true (show 300 < (n2 : Int) by omega)⟩, trivial⟩) (l1 := 0) (l2 := 0) trivial trivial hc hdd
    · rcases cameIn 300 s2 z2 with ⟨rfl, rfl, rfl⟩ | ⟨b2, o2, rfl, hdd, _, _⟩
      · exact goA (KKe_ok) (runKobn 1 n1 c1) (⟨⟨trivial, decide_eq_true (show 300 < (n1 : Int) by omega)⟩, trivial⟩) (l1 := 0) trivial hc
      · exact go2 (KKe_ok) (runKobj 1 n1 c1 n2 c2) (⟨⟨trivial, decide_eq_true (show 300 < (n1 : Int) by omega)⟩, trivial⟩) (l1 := 0) (l2 := 0) trivial trivial hc hdd
  · by_cases h2 : a0 = 2
    · subst h2
      rcases cameIn 300 s1 z1 with ⟨rfl, rfl, rfl⟩ | ⟨b1, o1, rfl, hc, _, rfl | ⟨p1, q1, K, l1, hK, bK, kK⟩ | g1⟩
      · rcases cameIn 300 s2 z2 with ⟨rfl, rfl, rfl⟩ | ⟨b2, o2, rfl, hdd, _, rfl | ⟨p2, q2, M, l2, hM, bM, kM⟩ | g2⟩
        · exact go0 (KKe_ok) (runK2nn 0) (pK2nn_ok)
        · exact goB (KKe_ok) (runK2nz c2) (pK2nz_ok) (l1 := 0) trivial hdd
        · exact goB (KKe_ok) (runK2nj M n2 c2) (pK2nj_ok hM p2 q2) kM hdd
        · exact goB (KKe_ok) (runKonb 2 n2 c2) (⟨⟨trivial, decide_eq_true (show 300 < (n2 : Int) by omega)⟩, trivial⟩) (l1 := 0) trivial hdd
      · rcases cameIn 300 s2 z2 with ⟨rfl, rfl, rfl⟩ | ⟨b2, o2, rfl, hdd, _, rfl | ⟨p2, q2, M, l2, hM, bM, kM⟩ | g2⟩
        · exact goA (KKe_ok) (runK2zn c1) (pK2zn_ok) (l1 := 0) trivial hc
        · exact go2 (KKe_ok) (runK2zz c1 c2) (pK2zz_ok) (l1 := 0) (l2 := 0) trivial trivial hc hdd
        · exact go2 (KKe_ok) (runK2zj c1 M n2 c2) (pK2zj_ok hM p2 q2) (l1 := 0) trivial kM hc hdd
        · exact go2 (KKe_ok) (runKoib 2 0 c1 n2 c2) (⟨⟨⟨trivial, decide_eq_false (show ¬ 300 < ((0 : Nat) : Int) by omega)⟩, decide_eq_true (show 300 < (n2 : Int) by omega)⟩, trivial⟩) (l1 := 0) (l2 := 0) trivial trivial hc hdd
      · rcases Nat.lt_or_ge 80 n1 with h80 | h80
        · rcases cameIn 300 s2 z2 with ⟨rfl, rfl, rfl⟩ | ⟨b2, o2, rfl, hdd, _, rfl | ⟨p2, q2, M, l2, hM, bM, kM⟩ | g2⟩
          · exact goA (KKe_ok) (runK2ln K n1 c1) (pK2ln_ok hK h80 q1) kK hc
          · exact go2 (KKe_ok) (runK2lz K n1 c1 c2) (pK2lz_ok hK h80 q1) (l2 := 0) kK trivial hc hdd
          · exact go2 (KKe_ok) (runK2lj K n1 c1 M n2 c2) (pK2lj_ok hK h80 q1 hM p2 q2) kK kM hc hdd
          · exact go2 (KKe_ok) (runKoib 2 n1 c1 n2 c2) (⟨⟨⟨trivial, decide_eq_false (show ¬ 300 < ((n1 : Nat) : Int) by omega)⟩, decide_eq_true (show 300 < (n2 : Int) by omega)⟩, trivial⟩) (l1 := 0) (l2 := 0) trivial trivial hc hdd
        · by_cases h16 : n1 = 16
          · subst h16
            rcases cameIn 300 s2 z2 with ⟨rfl, rfl, rfl⟩ | ⟨b2, o2, rfl, hdd, _, rfl | ⟨p2, q2, M, l2, hM, bM, kM⟩ | g2⟩
            · exact goA (KKy_ok hd.tgN ae.tagF) (runK2kn hd.tgN ae.tagF K c1) (pK2kn_ok bK hK hc) kK hc
            · exact go2 (KKy_ok hd.tgN ae.tagF) (runK2kz hd.tgN ae.tagF K c1 c2) (pK2kz_ok bK hK hc) (l2 := 0) kK trivial hc hdd
            · rcases Nat.lt_or_ge 200 n2 with h200 | h200
              · exact go2 (KKe_ok) (runK2Sl K 16 c1 M n2 c2) (pK2Sl_ok hK p1 h80 hM p2 h200 q2) kK kM hc hdd
              · exact go2 (KKy_ok hd.tgN ae.tagF) (runK2ki hd.tgN ae.tagF K c1 M n2 c2) (pK2ki_ok bK hK hc bM hM p2 h200 hdd) kK kM hc hdd
            · exact go2 (KKe_ok) (runKoib 2 16 c1 n2 c2) (⟨⟨⟨trivial, decide_eq_false (show ¬ 300 < ((16 : Nat) : Int) by omega)⟩, decide_eq_true (show 300 < (n2 : Int) by omega)⟩, trivial⟩) (l1 := 0) (l2 := 0) trivial trivial hc hdd
          · rcases cameIn 300 s2 z2 with ⟨rfl, rfl, rfl⟩ | ⟨b2, o2, rfl, hdd, _, rfl | ⟨p2, q2, M, l2, hM, bM, kM⟩ | g2⟩
            · exact goA (KKy_ok hd.tgN ae.tagF) (runK2sn hd.tgN ae.tagF K n1 c1) (pK2sn_ok hK bK p1 h80 h16 hc) kK hc
            · exact go2 (KKy_ok hd.tgN ae.tagF) (runK2sz hd.tgN ae.tagF K n1 c1 c2) (pK2sz_ok hK bK p1 h80 h16 hc) (l2 := 0) kK trivial hc hdd
            · rcases Nat.lt_or_ge 200 n2 with h200 | h200
              · exact go2 (KKe_ok) (runK2Sl K n1 c1 M n2 c2) (pK2Sl_ok hK p1 h80 hM p2 h200 q2) kK kM hc hdd
              · exact go2 (KKy_ok hd.tgN ae.tagF) (runK2si hd.tgN ae.tagF K n1 c1 M n2 c2) (pK2si_ok hK bK p1 h80 h16 hc bM hM p2 h200 hdd) kK kM hc hdd
            · exact go2 (KKe_ok) (runKoib 2 n1 c1 n2 c2) (⟨⟨⟨trivial, decide_eq_false (show ¬ 300 < ((n1 : Nat) : Int) by omega)⟩, decide_eq_true (show 300 < (n2 : Int) by omega)⟩, trivial⟩) (l1 := 0) (l2 := 0) trivial trivial hc hdd
      · rcases cameIn 300 s2 z2 with ⟨rfl, rfl, rfl⟩ | ⟨b2, o2, rfl, hdd, _, _⟩
        · exact goA (KKe_ok) (runKobn 2 n1 c1) (⟨⟨trivial, decide_eq_true (show 300 < (n1 : Int) by omega)⟩, trivial⟩) (l1 := 0) trivial hc
        · exact go2 (KKe_ok) (runKobj 2 n1 c1 n2 c2) (⟨⟨trivial, decide_eq_true (show 300 < (n1 : Int) by omega)⟩, trivial⟩) (l1 := 0) (l2 := 0) trivial trivial hc hdd
    · rcases cameIn 300 s1 z1 with ⟨rfl, rfl, rfl⟩ | ⟨b1, o1, rfl, hc, _, rfl | ⟨p1, q1, K, l1, hK, bK, kK⟩ | g1⟩
      · rcases cameIn 300 s2 z2 with ⟨rfl, rfl, rfl⟩ | ⟨b2, o2, rfl, hdd, _, rfl | ⟨p2, q2, M, l2, hM, bM, kM⟩ | g2⟩
        · exact go0 (KKe_ok) (runKonn a0) (pKonn_ok h1 h2)
        · exact goB (KKe_ok) (runKonz a0 c2) (pKonz_ok h1 h2) (l1 := 0) trivial hdd
        · exact goB (KKe_ok) (runKonj a0 M n2 c2) (pKonj_ok h1 h2 hM p2 q2) kM hdd
        · exact goB (KKe_ok) (runKonb a0 n2 c2) (⟨⟨trivial, decide_eq_true (show 300 < (n2 : Int) by omega)⟩, trivial⟩) (l1 := 0) trivial hdd
      · rcases cameIn 300 s2 z2 with ⟨rfl, rfl, rfl⟩ | ⟨b2, o2, rfl, hdd, _, rfl | ⟨p2, q2, M, l2, hM, bM, kM⟩ | g2⟩
        · exact goA (KKe_ok) (runKozn a0 c1) (pKozn_ok h1 h2) (l1 := 0) trivial hc
        · exact go2 (KKe_ok) (runKozz a0 c1 c2) (pKozz_ok h1 h2) (l1 := 0) (l2 := 0) trivial trivial hc hdd
        · exact go2 (KKe_ok) (runKozj a0 c1 M n2 c2) (pKozj_ok h1 h2 hM p2 q2) (l1 := 0) trivial kM hc hdd
        · exact go2 (KKe_ok) (runKoib a0 0 c1 n2 c2) (⟨⟨⟨trivial, decide_eq_false (show ¬ 300 < ((0 : Nat) : Int) by omega)⟩, decide_eq_true (show 300 < (n2 : Int) by omega)⟩, trivial⟩) (l1 := 0) (l2 := 0) trivial trivial hc hdd
      · rcases cameIn 300 s2 z2 with ⟨rfl, rfl, rfl⟩ | ⟨b2, o2, rfl, hdd, _, rfl | ⟨p2, q2, M, l2, hM, bM, kM⟩ | g2⟩
        · exact goA (KKe_ok) (runKoin a0 K n1 c1) (pKoin_ok h1 h2 hK p1 q1) kK hc
        · exact go2 (KKe_ok) (runKoiz a0 K n1 c1 c2) (pKoiz_ok h1 h2 hK p1 q1) (l2 := 0) kK trivial hc hdd
        · exact go2 (KKe_ok) (runKoij a0 K n1 c1 M n2 c2) (pKoij_ok h1 h2 hK p1 q1 hM p2 q2) kK kM hc hdd
        · exact go2 (KKe_ok) (runKoib a0 n1 c1 n2 c2) (⟨⟨⟨trivial, decide_eq_false (show ¬ 300 < ((n1 : Nat) : Int) by omega)⟩, decide_eq_true (show 300 < (n2 : Int) by omega)⟩, trivial⟩) (l1 := 0) (l2 := 0) trivial trivial hc hdd
      · rcases cameIn 300 s2 z2 with ⟨rfl, rfl, rfl⟩ | ⟨b2, o2, rfl, hdd, _, _⟩
        · exact goA (KKe_ok) (runKobn a0 n1 c1) (⟨⟨trivial, decide_eq_true (show 300 < (n1 : Int) by omega)⟩, trivial⟩) (l1 := 0) trivial hc
        · exact go2 (KKe_ok) (runKobj a0 n1 c1 n2 c2) (⟨⟨trivial, decide_eq_true (show 300 < (n1 : Int) by omega)⟩, trivial⟩) (l1 := 0) (l2 := 0) trivial trivial hc hdd
end
end km
end Go.Proofs.YtmgelikgcfjhhaaGreat
