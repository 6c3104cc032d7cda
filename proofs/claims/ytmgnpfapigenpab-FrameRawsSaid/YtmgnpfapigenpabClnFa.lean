/- Read off the code by the clean reading. -/
import Derived.Test.YtmgnpfapigenpabClnQc
import Derived.Test.YtmgnpfapigenpabRows
import Derived.WalkKit
import Derived.ProofKit
import Derived.Below
import Derived.IntWalk
set_option linter.unusedVariables false
set_option linter.unusedSimpArgs false
set_option linter.deprecated false
set_option maxRecDepth 100000
namespace Go.Proofs.Ytmgnpfapigenpab
open Go.ChangeShapes Go.WideShapes Go.ChangeAt Go.RowKit Go.Cln
namespace fr
set_option linter.unusedVariables false
theorem pg : PG Try.prog := PG.of (by decide +kernel)
theorem knownRuns : ((mk Try.prog Given.nothing 300).call 5 [] (St.start 0 .leaf [])).map (fun r => (r.1, r.2.obl)) = some (.bool true, True) := by kernel_rfl
theorem known (W : World) : Calls Try.prog 5 #[] W fun e w' => e = .returned (.bool true) ∧ Below W.heap.size W w' := ran pg (GivenOk.nothing _) knownRuns trivial rfl rfl W
noncomputable section
def KW : Given := { Given.one 5 (.bool true) with fits := true }
theorem KW_ok : GivenOk Try.prog KW := frames_fits (GivenOk.one (P := Try.prog) (f := 5) (v := .bool true) rfl known) true
def hI (L : List Int) : List (Option Ob) := [some (.cells (.ints .u8 L) 5)]
def rR (k : Int) (L : List Int) (n c : Nat) (o : List (Option Bool)) : Option (Value × St) := (mk Try.prog KW 300).call 3 [.int .i64 k, .slice (some ⟨0, 0, none⟩) n c] (smSt 1 (hI L) o)
def rC (L : List Int) (n c : Nat) (o : List (Option Bool)) : Option (Value × St) := (mk Try.prog KW 300).call 4 [.slice (some ⟨0, 0, none⟩) n c] (smSt 1 (hI L) o)
end
end fr
end Go.Proofs.Ytmgnpfapigenpab
namespace Go.Proofs.Ytmgnpfapigenpab
open Go.ChangeShapes Go.WideShapes Go.ChangeAt Go.RowKit Go.Cln
namespace fr
set_option linter.unusedVariables false
noncomputable section
noncomputable def obig : List (Option Bool) := [some true]
noncomputable def pbig (k : Int) (L : List Int) (n : Nat) (c : Nat) : Prop := (True ∧ ((decide (600 < (nI n))) = true))
theorem runbig (k : Int) (L : List Int) (n : Nat) (c : Nat) : (rR k L n c obig).map (fun r => (r.1, r.2.obl)) = some (.bool true, pbig k L n c) := by kernel_rfl
noncomputable def olo : List (Option Bool) := [some false, some false, some false, some true, some false, none, none, none, some true, none, none, none, none, none, none, none, none, none, none, none, none, none, none, some true, none, none, none, some true, none, some true, none, none, none, some true, none, some true, none, none, some true]
noncomputable def plo (k : Int) (L : List Int) (n : Nat) (c : Nat) : Prop := ((((((((((((((((True ∧ ((decide (600 < (nI n))) = false)) ∧ ((decide ((0 + n) ≤ 0)) = false)) ∧ (((0 + n) ≤ L.length) ∧ ((0 ≤ 0) ∧ ((((0 + n) * 1) ≤ mostBytes) ∧ ((0 + n) ≤ mostBytes))))) ∧ ((decide (((0 + n) + 1) ≤ (0 + n))) = false)) ∧ ((1 ≤ 1) ∧ (((0 + (0 + n)) ≤ (List.take n L).length) ∧ (((((0 + n) + 1) * 1) ≤ mostBytes) ∧ (((0 + n) + 1) ≤ mostBytes))))) ∧ ((0 ≤ (nI n)) ∧ (((nI n) ≤ (nI ((0 + n) + 1))) ∧ (((0 : Int) ≤ 0) ∧ (0 ≤ (nI n)))))) ∧ ((decide (1 ≤ k)) = false)) ∧ ((decide (k < 1)) = true)) ∧ ((0 + n) ≤ ((List.take (0 + n) (List.take n L)) ++ [77]).length)) ∧ ((0 + n) ≤ L.length)) ∧ ((beqB (bytesI (List.take n ((List.take (0 + n) (List.take n L)) ++ [77]))).toList (bytesI (List.take n L)).toList) = true)) ∧ ((IntKind.i64.wrap ((nI n) + 1)) = ((nI n) + 1))) ∧ ((0 ≤ ((nI n) + 1)) ∧ ((((nI n) + 1) ≤ (nI ((0 + n) + 1))) ∧ (((0 : Int) ≤ 0) ∧ (0 ≤ ((nI n) + 1)))))) ∧ ((0 ≤ (nI n)) ∧ ((nI n) < (nI ((nI n) + 1).toNat)))) ∧ ((0 + (n * 1)).succ ≤ ((List.take (0 + n) (List.take n L)) ++ [77]).length)) ∧ ((decide ((((List.take (0 + n) (List.take n L)) ++ [77]).getD (0 + (n * 1)) 0) = 77)) = true))
theorem runlo (k : Int) (L : List Int) (n : Nat) (c : Nat) : (rR k L n c olo).map (fun r => (r.1, r.2.obl)) = some (.bool true, plo k L n c) := by kernel_rfl
noncomputable def ohi : List (Option Bool) := [some false, some false, some false, some true, some true, none, none, some true, some false, none, none, some true, none, none, none, none, none, none, none, none, none, none, none, some true, none, none, none, some true, none, some true, none, none, none, some true, none, some true, none, none, some true]
noncomputable def phi (k : Int) (L : List Int) (n : Nat) (c : Nat) : Prop := ((((((((((((((((((True ∧ ((decide (600 < (nI n))) = false)) ∧ ((decide ((0 + n) ≤ 0)) = false)) ∧ (((0 + n) ≤ L.length) ∧ ((0 ≤ 0) ∧ ((((0 + n) * 1) ≤ mostBytes) ∧ ((0 + n) ≤ mostBytes))))) ∧ ((decide (((0 + n) + 1) ≤ (0 + n))) = false)) ∧ ((1 ≤ 1) ∧ (((0 + (0 + n)) ≤ (List.take n L).length) ∧ (((((0 + n) + 1) * 1) ≤ mostBytes) ∧ (((0 + n) + 1) ≤ mostBytes))))) ∧ ((0 ≤ (nI n)) ∧ (((nI n) ≤ (nI ((0 + n) + 1))) ∧ (((0 : Int) ≤ 0) ∧ (0 ≤ (nI n)))))) ∧ ((decide (1 ≤ k)) = true)) ∧ ((!(decide (k ≤ 4))) = true)) ∧ ((decide (k < 1)) = false)) ∧ ((decide (4 < k)) = true)) ∧ ((0 + n) ≤ ((List.take (0 + n) (List.take n L)) ++ [77]).length)) ∧ ((0 + n) ≤ L.length)) ∧ ((beqB (bytesI (List.take n ((List.take (0 + n) (List.take n L)) ++ [77]))).toList (bytesI (List.take n L)).toList) = true)) ∧ ((IntKind.i64.wrap ((nI n) + 1)) = ((nI n) + 1))) ∧ ((0 ≤ ((nI n) + 1)) ∧ ((((nI n) + 1) ≤ (nI ((0 + n) + 1))) ∧ (((0 : Int) ≤ 0) ∧ (0 ≤ ((nI n) + 1)))))) ∧ ((0 ≤ (nI n)) ∧ ((nI n) < (nI ((nI n) + 1).toNat)))) ∧ ((0 + (n * 1)).succ ≤ ((List.take (0 + n) (List.take n L)) ++ [77]).length)) ∧ ((decide ((((List.take (0 + n) (List.take n L)) ++ [77]).getD (0 + (n * 1)) 0) = 77)) = true))
theorem runhi (k : Int) (L : List Int) (n : Nat) (c : Nat) : (rR k L n c ohi).map (fun r => (r.1, r.2.obl)) = some (.bool true, phi k L n c) := by kernel_rfl
noncomputable def olong : List (Option Bool) := [some false, some false, some false, some true, some true, none, none, some false, some true, some true, some false, none, none, some false, some true, none, none, none, none, none, none, none, none, none, none, none, some true, none, none, none, some true, none, some true, none, none, none, some true, none, some true, none, none, some true]
noncomputable def plong (k : Int) (L : List Int) (n : Nat) (c : Nat) : Prop := (((((((((((((((((((((True ∧ ((decide (600 < (nI n))) = false)) ∧ ((decide ((0 + n) ≤ 0)) = false)) ∧ (((0 + n) ≤ L.length) ∧ ((0 ≤ 0) ∧ ((((0 + n) * 1) ≤ mostBytes) ∧ ((0 + n) ≤ mostBytes))))) ∧ ((decide (((0 + n) + 1) ≤ (0 + n))) = false)) ∧ ((1 ≤ 1) ∧ (((0 + (0 + n)) ≤ (List.take n L).length) ∧ (((((0 + n) + 1) * 1) ≤ mostBytes) ∧ (((0 + n) + 1) ≤ mostBytes))))) ∧ ((0 ≤ (nI n)) ∧ (((nI n) ≤ (nI ((0 + n) + 1))) ∧ (((0 : Int) ≤ 0) ∧ (0 ≤ (nI n)))))) ∧ ((decide (1 ≤ k)) = true)) ∧ ((!(decide (k ≤ 4))) = false)) ∧ ((IntKind.i64.wrap (19 + (nI n))) = (19 + (nI n)))) ∧ ((decide (512 < (19 + (nI n)))) = true)) ∧ ((decide (k < 1)) = false)) ∧ ((decide (4 < k)) = false)) ∧ ((decide (493 < (nI n))) = true)) ∧ ((0 + n) ≤ ((List.take (0 + n) (List.take n L)) ++ [77]).length)) ∧ ((0 + n) ≤ L.length)) ∧ ((beqB (bytesI (List.take n ((List.take (0 + n) (List.take n L)) ++ [77]))).toList (bytesI (List.take n L)).toList) = true)) ∧ ((IntKind.i64.wrap ((nI n) + 1)) = ((nI n) + 1))) ∧ ((0 ≤ ((nI n) + 1)) ∧ ((((nI n) + 1) ≤ (nI ((0 + n) + 1))) ∧ (((0 : Int) ≤ 0) ∧ (0 ≤ ((nI n) + 1)))))) ∧ ((0 ≤ (nI n)) ∧ ((nI n) < (nI ((nI n) + 1).toNat)))) ∧ ((0 + (n * 1)).succ ≤ ((List.take (0 + n) (List.take n L)) ++ [77]).length)) ∧ ((decide ((((List.take (0 + n) (List.take n L)) ++ [77]).getD (0 + (n * 1)) 0) = 77)) = true))
theorem runlong (k : Int) (L : List Int) (n : Nat) (c : Nat) : (rR k L n c olong).map (fun r => (r.1, r.2.obl)) = some (.bool true, plong k L n c) := by kernel_rfl
noncomputable def ook : List (Option Bool) := [some false, some false, some false, some true, some true, none, none, some false, some true, some false, none, none, none, none, none, none, none, none, none, none, none, none, none, none, none, none, none, none, none, none, none, none, none, none, none, none, none, none, none, none, none, none, none, none, none, none, none, none, none, none, none, none, none, none, none, none, none, none, none, none, none, some true, none, none, none, none, none, some true, some true, some true, some true, none, none, some true, none, none, none, some true, none, none, none, some true, none, none, some false, none, none, some false, some false, none, none, none, none, none, none, none, none, none, none, none, none, none, none, none, none, none, none, none, none, none, none, none, none, none, none, none, none, none, none, none, none, none, some true, none, none, none, some false, some true, none, none, none, none, none, none, none, none, none, none, some true, none, none, none, some true, none, some true, none, none, none, some true, none, some true, none, none, some true]
noncomputable def pok (k : Int) (L : List Int) (n : Nat) (c : Nat) : Prop := ((((((((((((((((((((((((((((((((((((((True ∧ ((decide (600 < (nI n))) = false)) ∧ ((decide ((0 + n) ≤ 0)) = false)) ∧ (((0 + n) ≤ L.length) ∧ ((0 ≤ 0) ∧ ((((0 + n) * 1) ≤ mostBytes) ∧ ((0 + n) ≤ mostBytes))))) ∧ ((decide (((0 + n) + 1) ≤ (0 + n))) = false)) ∧ ((1 ≤ 1) ∧ (((0 + (0 + n)) ≤ (List.take n L).length) ∧ (((((0 + n) + 1) * 1) ≤ mostBytes) ∧ (((0 + n) + 1) ≤ mostBytes))))) ∧ ((0 ≤ (nI n)) ∧ (((nI n) ≤ (nI ((0 + n) + 1))) ∧ (((0 : Int) ≤ 0) ∧ (0 ≤ (nI n)))))) ∧ ((decide (1 ≤ k)) = true)) ∧ ((!(decide (k ≤ 4))) = false)) ∧ ((IntKind.i64.wrap (19 + (nI n))) = (19 + (nI n)))) ∧ ((decide (512 < (19 + (nI n)))) = false)) ∧ ((IntKind.i64.wrap ((nI 19) + (nI n))) = ((nI 19) + (nI n)))) ∧ ((IntKind.i64.wrap ((nI 19) + (nI n))) = ((nI 19) + (nI n)))) ∧ ((decide (0 < ((nI 19) + (nI n)))) = true)) ∧ ((1 ≤ (IntKind.i64.wrap ((nI 19) + (nI n)))) ∧ ((((IntKind.i64.wrap ((nI 19) + (nI n))).toNat * 1) ≤ mostBytes) ∧ ((IntKind.i64.wrap ((nI 19) + (nI n))).toNat ≤ mostBytes)))) ∧ ((0 ≤ (nI 0)) ∧ (((nI 0) ≤ (nI (IntKind.i64.wrap ((nI 19) + (nI n))).toNat)) ∧ (((0 : Int) ≤ 0) ∧ (0 ≤ (nI 0)))))) ∧ ((decide (16 ≤ (IntKind.i64.wrap ((nI 19) + (nI n))).toNat)) = true)) ∧ ((16 ≤ 16) ∧ (16 ≤ (List.replicate (IntKind.i64.wrap ((nI 19) + (nI n))).toNat (0 : Int)).length))) ∧ ((decide (19 ≤ (IntKind.i64.wrap ((nI 19) + (nI n))).toNat)) = true)) ∧ ((3 ≤ 3) ∧ (19 ≤ (layI (List.replicate (IntKind.i64.wrap ((nI 19) + (nI n))).toNat (0 : Int)) 0 [255, 255, 255, 255, 255, 255, 255, 255, 255, 255, 255, 255, 255, 255, 255, 255]).length))) ∧ ((decide ((19 + n) ≤ (IntKind.i64.wrap ((nI 19) + (nI n))).toNat)) = true)) ∧ (((0 + n) ≤ ((List.take (0 + n) (List.take n L)) ++ [77]).length) ∧ ((19 + n) ≤ (layI (layI (List.replicate (IntKind.i64.wrap ((nI 19) + (nI n))).toNat (0 : Int)) 0 [255, 255, 255, 255, 255, 255, 255, 255, 255, 255, 255, 255, 255, 255, 255, 255]) 16 [(IntKind.u8.wrap ((19 + (nI n)).fdiv 256)), (IntKind.u8.wrap (19 + (nI n))), (IntKind.u8.wrap k)]).length))) ∧ ((decide (k < 1)) = false)) ∧ ((decide (4 < k)) = false)) ∧ ((decide (493 < (nI n))) = false)) ∧ ((IntKind.i64.wrap (19 + (nI n))) = (19 + (nI n)))) ∧ ((decide ((19 + n) ≤ 19)) = false)) ∧ (((0 + n) ≤ L.length) ∧ ((19 ≤ 19) ∧ ((((19 + n) * 1) ≤ mostBytes) ∧ ((19 + n) ≤ mostBytes))))) ∧ ((0 + (19 + n)) ≤ (layI (layI (layI (List.replicate (IntKind.i64.wrap ((nI 19) + (nI n))).toNat (0 : Int)) 0 [255, 255, 255, 255, 255, 255, 255, 255, 255, 255, 255, 255, 255, 255, 255, 255]) 16 [(IntKind.u8.wrap ((19 + (nI n)).fdiv 256)), (IntKind.u8.wrap (19 + (nI n))), (IntKind.u8.wrap k)]) 19 (List.take n ((List.take (0 + n) (List.take n L)) ++ [77]))).length)) ∧ ((0 + (19 + n)) ≤ ([255, 255, 255, 255, 255, 255, 255, 255, 255, 255, 255, 255, 255, 255, 255, 255, (IntKind.u8.wrap (IntKind.i64.wrap ((19 + (nI n)).tdiv 256))), (IntKind.u8.wrap ((19 + (nI n)).tmod 256)), (IntKind.u8.wrap k)] ++ (List.take n L)).length)) ∧ ((beqB (bytesI (List.take (19 + n) (layI (layI (layI (List.replicate (IntKind.i64.wrap ((nI 19) + (nI n))).toNat (0 : Int)) 0 [255, 255, 255, 255, 255, 255, 255, 255, 255, 255, 255, 255, 255, 255, 255, 255]) 16 [(IntKind.u8.wrap ((19 + (nI n)).fdiv 256)), (IntKind.u8.wrap (19 + (nI n))), (IntKind.u8.wrap k)]) 19 (List.take n ((List.take (0 + n) (List.take n L)) ++ [77]))))).toList (bytesI (List.take (19 + n) ([255, 255, 255, 255, 255, 255, 255, 255, 255, 255, 255, 255, 255, 255, 255, 255, (IntKind.u8.wrap (IntKind.i64.wrap ((19 + (nI n)).tdiv 256))), (IntKind.u8.wrap ((19 + (nI n)).tmod 256)), (IntKind.u8.wrap k)] ++ (List.take n L)))).toList) = true)) ∧ ((0 + n) ≤ ((List.take (0 + n) (List.take n L)) ++ [77]).length)) ∧ ((0 + n) ≤ L.length)) ∧ ((beqB (bytesI (List.take n ((List.take (0 + n) (List.take n L)) ++ [77]))).toList (bytesI (List.take n L)).toList) = true)) ∧ ((IntKind.i64.wrap ((nI n) + 1)) = ((nI n) + 1))) ∧ ((0 ≤ ((nI n) + 1)) ∧ ((((nI n) + 1) ≤ (nI ((0 + n) + 1))) ∧ (((0 : Int) ≤ 0) ∧ (0 ≤ ((nI n) + 1)))))) ∧ ((0 ≤ (nI n)) ∧ ((nI n) < (nI ((nI n) + 1).toNat)))) ∧ ((0 + (n * 1)).succ ≤ ((List.take (0 + n) (List.take n L)) ++ [77]).length)) ∧ ((decide ((((List.take (0 + n) (List.take n L)) ++ [77]).getD (0 + (n * 1)) 0) = 77)) = true))
theorem runok (k : Int) (L : List Int) (n : Nat) (c : Nat) : (rR k L n c ook).map (fun r => (r.1, r.2.obl)) = some (.bool true, pok k L n c) := by kernel_rfl
noncomputable def onlo : List (Option Bool) := [none, none, some false, none, none, none, some true]
noncomputable def pnlo (k : Int) : Prop := ((True ∧ ((decide (1 ≤ k)) = false)) ∧ ((decide (k < 1)) = true))
theorem runnlo (k : Int) : ((mk Try.prog KW 300).call 3 [.int .i64 k, .slice none 0 0] (St.start 0 .leaf onlo)).map (fun r => (r.1, r.2.obl)) = some (.bool true, pnlo k) := by kernel_rfl
noncomputable def ozlo : List (Option Bool) := [none, none, some false, none, none, none, some true]
noncomputable def pzlo (k : Int) (c : Nat) : Prop := ((True ∧ ((decide (1 ≤ k)) = false)) ∧ ((decide (k < 1)) = true))
theorem runzlo (k : Int) (c : Nat) : ((mk Try.prog KW 300).call 3 [.int .i64 k, .slice (some ⟨0, 0, none⟩) 0 c] (St.start 1 .leaf ozlo)).map (fun r => (r.1, r.2.obl)) = some (.bool true, pzlo k c) := by kernel_rfl
noncomputable def onhi : List (Option Bool) := [none, none, some true, none, none, some true, some false, none, none, some true]
noncomputable def pnhi (k : Int) : Prop := ((((True ∧ ((decide (1 ≤ k)) = true)) ∧ ((!(decide (k ≤ 4))) = true)) ∧ ((decide (k < 1)) = false)) ∧ ((decide (4 < k)) = true))
theorem runnhi (k : Int) : ((mk Try.prog KW 300).call 3 [.int .i64 k, .slice none 0 0] (St.start 0 .leaf onhi)).map (fun r => (r.1, r.2.obl)) = some (.bool true, pnhi k) := by kernel_rfl
noncomputable def ozhi : List (Option Bool) := [none, none, some true, none, none, some true, some false, none, none, some true]
noncomputable def pzhi (k : Int) (c : Nat) : Prop := ((((True ∧ ((decide (1 ≤ k)) = true)) ∧ ((!(decide (k ≤ 4))) = true)) ∧ ((decide (k < 1)) = false)) ∧ ((decide (4 < k)) = true))
theorem runzhi (k : Int) (c : Nat) : ((mk Try.prog KW 300).call 3 [.int .i64 k, .slice (some ⟨0, 0, none⟩) 0 c] (St.start 1 .leaf ozhi)).map (fun r => (r.1, r.2.obl)) = some (.bool true, pzhi k c) := by kernel_rfl
noncomputable def onok : List (Option Bool) := [none, none, some true, none, none, some false, none, none, none, none, none, none, none, none, none, none, none, none, none, none, none, none, none, none, none, none, none, none, none, none, none, none, none, none, none, none, none, none, none, none, none, none, none, none, none, none, none, none, none, none, none, none, none, none, none, none, none, none, none, none, none, none, none, none, none, none, none, some true, none, none, none, none, none, none, none, none, none, none, none, none, none, none, some false, none, none, some false, none, none, none, none, none, none, none, none, none, none, none, none, none, none, none, none, none, none, none, none, none, none, none, none, none, none, none, none, none, none, none, none, none, none, none, none, none, none, some true]
noncomputable def pnok (k : Int) : Prop := ((((((((((True ∧ ((decide (1 ≤ k)) = true)) ∧ ((!(decide (k ≤ 4))) = false)) ∧ ((1 ≤ (nI 19)) ∧ ((19 ≤ mostBytes) ∧ (19 ≤ mostBytes)))) ∧ ((16 ≤ 16) ∧ (16 ≤ (List.replicate 19 (0 : Int)).length))) ∧ ((3 ≤ 3) ∧ (19 ≤ (layI (List.replicate 19 (0 : Int)) 0 [255, 255, 255, 255, 255, 255, 255, 255, 255, 255, 255, 255, 255, 255, 255, 255]).length))) ∧ ((0 ≤ 1) ∧ (19 ≤ (layI (layI (List.replicate 19 (0 : Int)) 0 [255, 255, 255, 255, 255, 255, 255, 255, 255, 255, 255, 255, 255, 255, 255, 255]) 16 [(nI 0), (nI 19), (IntKind.u8.wrap k)]).length))) ∧ ((decide (k < 1)) = false)) ∧ ((decide (4 < k)) = false)) ∧ (19 ≤ (layI (layI (layI (List.replicate 19 (0 : Int)) 0 [255, 255, 255, 255, 255, 255, 255, 255, 255, 255, 255, 255, 255, 255, 255, 255]) 16 [(nI 0), (nI 19), (IntKind.u8.wrap k)]) 19 []).length)) ∧ ((beqB (bytesI [255, 255, 255, 255, 255, 255, 255, 255, 255, 255, 255, 255, 255, 255, 255, 255, 0, 19, IntKind.u8.wrap k]).toList (bytesI [255, 255, 255, 255, 255, 255, 255, 255, 255, 255, 255, 255, 255, 255, 255, 255, 0, 19, IntKind.u8.wrap k]).toList) = true))
theorem runnok (k : Int) : ((mk Try.prog KW 300).call 3 [.int .i64 k, .slice none 0 0] (St.start 0 .leaf onok)).map (fun r => (r.1, r.2.obl)) = some (.bool true, pnok k) := by kernel_rfl
noncomputable def ozok : List (Option Bool) := [none, none, some true, none, none, some false, none, none, none, none, none, none, none, none, none, none, none, none, none, none, none, none, none, none, none, none, none, none, none, none, none, none, none, none, none, none, none, none, none, none, none, none, none, none, none, none, none, none, none, none, none, none, none, none, none, none, none, none, none, none, none, none, none, none, none, none, none, some true, none, none, none, none, none, none, none, none, none, none, none, none, none, none, some false, none, none, some false, none, none, none, none, none, none, none, none, none, none, none, none, none, none, none, none, none, none, none, none, none, none, none, none, none, none, none, none, none, none, none, none, none, none, none, none, none, none, some true]
noncomputable def pzok (k : Int) (c : Nat) : Prop := ((((((((((True ∧ ((decide (1 ≤ k)) = true)) ∧ ((!(decide (k ≤ 4))) = false)) ∧ ((1 ≤ (nI 19)) ∧ ((19 ≤ mostBytes) ∧ (19 ≤ mostBytes)))) ∧ ((16 ≤ 16) ∧ (16 ≤ (List.replicate 19 (0 : Int)).length))) ∧ ((3 ≤ 3) ∧ (19 ≤ (layI (List.replicate 19 (0 : Int)) 0 [255, 255, 255, 255, 255, 255, 255, 255, 255, 255, 255, 255, 255, 255, 255, 255]).length))) ∧ ((0 ≤ 1) ∧ (19 ≤ (layI (layI (List.replicate 19 (0 : Int)) 0 [255, 255, 255, 255, 255, 255, 255, 255, 255, 255, 255, 255, 255, 255, 255, 255]) 16 [(nI 0), (nI 19), (IntKind.u8.wrap k)]).length))) ∧ ((decide (k < 1)) = false)) ∧ ((decide (4 < k)) = false)) ∧ (19 ≤ (layI (layI (layI (List.replicate 19 (0 : Int)) 0 [255, 255, 255, 255, 255, 255, 255, 255, 255, 255, 255, 255, 255, 255, 255, 255]) 16 [(nI 0), (nI 19), (IntKind.u8.wrap k)]) 19 []).length)) ∧ ((beqB (bytesI [255, 255, 255, 255, 255, 255, 255, 255, 255, 255, 255, 255, 255, 255, 255, 255, 0, 19, IntKind.u8.wrap k]).toList (bytesI [255, 255, 255, 255, 255, 255, 255, 255, 255, 255, 255, 255, 255, 255, 255, 255, 0, 19, IntKind.u8.wrap k]).toList) = true))
theorem runzok (k : Int) (c : Nat) : ((mk Try.prog KW 300).call 3 [.int .i64 k, .slice (some ⟨0, 0, none⟩) 0 c] (St.start 1 .leaf ozok)).map (fun r => (r.1, r.2.obl)) = some (.bool true, pzok k c) := by kernel_rfl
end
end fr
end Go.Proofs.Ytmgnpfapigenpab
namespace Go.Proofs.Ytmgnpfapigenpab
open Go.ChangeShapes Go.WideShapes Go.ChangeAt Go.RowKit Go.Cln
namespace fr
set_option linter.unusedVariables false
noncomputable section
def m16 : List Int := [255, 255, 255, 255, 255, 255, 255, 255, 255, 255, 255, 255, 255, 255, 255, 255]
theorem frame_eq {L : List Int} {n : Nat} (hn : L.length = n) (h1 : n ≤ 493) (a b c a' b' : Int) (ha : a = a') (hb : b = b') :
    List.take (19 + n) (layI (layI (layI (List.replicate (19 + n) (0 : Int)) 0 m16) 16 [a, b, c]) 19 L) = List.take (19 + n) (m16 ++ [a', b', c] ++ L) := by
  subst ha; subst hb
  have e1 : List.replicate (19 + n) (0 : Int) = [] ++ (List.replicate 16 0 ++ (List.replicate 3 0 ++ List.replicate n 0)) := by
    rw [List.nil_append, ← rep_split, ← rep_split]; congr 1; omega
  have e2 := layI_mid (p := []) (q := List.replicate 16 0) (s := List.replicate 3 0 ++ List.replicate n 0) (r := m16) (o := 0) rfl rfl
  have e3 := layI_mid (p := m16) (q := List.replicate 3 0) (s := List.replicate n 0) (r := [a, b, c]) (o := 16) rfl rfl
  have e4 := layI_mid (p := m16 ++ [a, b, c]) (q := List.replicate n 0) (s := []) (r := L) (o := 19) rfl (by simp [hn])
  rw [e1, e2, List.nil_append, e3]
  rw [List.append_nil, List.append_nil, List.append_assoc] at e4
  rw [e4]
theorem mid_eq {L : List Int} {n : Nat} (hn : L.length = n) : List.take n (List.take (0 + n) (List.take n L) ++ [77]) = List.take n L := by
  rw [Nat.zero_add, take_all hn, take_all hn, take_end hn]
theorem end_eq {L : List Int} {n : Nat} (hn : L.length = n) : (List.take (0 + n) (List.take n L) ++ [77]).getD (0 + (n * 1)) 0 = 77 := by
  rw [Nat.zero_add, Nat.zero_add, Nat.mul_one, take_all hn, take_all hn, getD_end hn]
theorem len_eq {L : List Int} {n : Nat} (hn : L.length = n) : (List.take (0 + n) (List.take n L) ++ [77]).length = n + 1 := by
  rw [Nat.zero_add, take_all hn, take_all hn, List.length_append, hn]; rfl
theorem pbig_ok {k : Int} {L : List Int} {n c : Nat} (h : 600 < n) : pbig k L n c := by
  unfold pbig
  repeat' apply And.intro
  all_goals first | trivial | (simp only [nI, decide_eq_true_eq]; omega)
theorem plo_ok {k : Int} {L : List Int} {n c : Nat} (hn : L.length = n) (h0 : 0 < n) (h : n ≤ 600) (hk : k < 1) : plo k L n c := by
  unfold plo
  rw [mid_eq hn, end_eq hn, len_eq hn, take_all hn]
  repeat' apply And.intro
  all_goals first | trivial | omega | (simp only [nI, mostBytes, decide_eq_true_eq, decide_eq_false_iff_not, IntKind.wrap_i64]; omega) | exact beqB_of rfl
theorem phi_ok {k : Int} {L : List Int} {n c : Nat} (hn : L.length = n) (h0 : 0 < n) (h : n ≤ 600) (hk : 4 < k) : phi k L n c := by
  unfold phi
  rw [mid_eq hn, end_eq hn, len_eq hn, take_all hn]
  repeat' apply And.intro
  all_goals first | trivial | omega | (simp only [nI, mostBytes, decide_eq_true_eq, decide_eq_false_iff_not, IntKind.wrap_i64, Bool.not_eq_true']; omega) | exact beqB_of rfl
theorem plong_ok {k : Int} {L : List Int} {n c : Nat} (hn : L.length = n) (h0 : 493 < n) (h : n ≤ 600) (hk : 1 ≤ k ∧ k ≤ 4) : plong k L n c := by
  unfold plong
  rw [mid_eq hn, end_eq hn, len_eq hn, take_all hn]
  repeat' apply And.intro
  all_goals first | trivial | omega | (simp only [nI, mostBytes, decide_eq_true_eq, decide_eq_false_iff_not, IntKind.wrap_i64, Bool.not_eq_false']; omega) | exact beqB_of rfl
theorem pok_ok {k : Int} {L : List Int} {n c : Nat} (hn : L.length = n) (h0 : 0 < n) (h : n ≤ 493) (hk : 1 ≤ k ∧ k ≤ 4) : pok k L n c := by
  unfold pok
  have ew : (IntKind.i64.wrap ((nI 19) + (nI n))).toNat = 19 + n := by simp only [nI, IntKind.wrap_i64]; omega
  rw [mid_eq hn, end_eq hn, len_eq hn, take_all hn, ew]
  have l1 : (layI (List.replicate (19 + n) (0 : Int)) 0 [255, 255, 255, 255, 255, 255, 255, 255, 255, 255, 255, 255, 255, 255, 255, 255]).length = 19 + n := by
    rw [layI_length (by simp; omega)]; simp
  have l2 : ∀ a b c : Int, (layI (layI (List.replicate (19 + n) (0 : Int)) 0 [255, 255, 255, 255, 255, 255, 255, 255, 255, 255, 255, 255, 255, 255, 255, 255]) 16 [a, b, c]).length = 19 + n := fun a b c => by
    rw [layI_length (by rw [l1]; simp), l1]
  have l3 : ∀ a b c : Int, (layI (layI (layI (List.replicate (19 + n) (0 : Int)) 0 [255, 255, 255, 255, 255, 255, 255, 255, 255, 255, 255, 255, 255, 255, 255, 255]) 16 [a, b, c]) 19 L).length = 19 + n := fun a b c => by
    rw [layI_length (by rw [l2, hn]; omega), l2]
  rw [l1, l2, l3]
  repeat' apply And.intro
  all_goals first
    | trivial
    | omega
    | (simp only [nI, mostBytes, decide_eq_true_eq, decide_eq_false_iff_not, IntKind.wrap_i64, Bool.not_eq_false', List.length_replicate]; omega)
    | (simp only [List.length_append, List.length_cons, List.length_nil, hn]; omega)
    | exact beqB_of rfl
    | exact beqB_of (frame_eq hn h _ _ _ _ _ (by rw [Int.fdiv_eq_ediv_of_nonneg _ (by omega), Int.tdiv_eq_ediv_of_nonneg (by simp only [nI]; omega)]; simp only [nI, IntKind.wrap_i64, IntKind.wrap_u8]; omega) (by rw [Int.tmod_eq_emod_of_nonneg (by simp only [nI]; omega)]; simp only [nI, IntKind.wrap_u8]; omega))
theorem pnlo_ok {k : Int} (hk : k < 1) : pnlo k := by
  unfold pnlo
  repeat' apply And.intro
  all_goals first | trivial | (simp only [decide_eq_true_eq, decide_eq_false_iff_not]; omega)
theorem pnhi_ok {k : Int} (hk : 4 < k) : pnhi k := by
  unfold pnhi
  repeat' apply And.intro
  all_goals first | trivial | (simp only [decide_eq_true_eq, decide_eq_false_iff_not, Bool.not_eq_true']; omega)
theorem pnok_ok {k : Int} (hk : 1 ≤ k ∧ k ≤ 4) : pnok k := by
  unfold pnok
  repeat' apply And.intro
  all_goals first | trivial | (simp only [decide_eq_true_eq, decide_eq_false_iff_not, Bool.not_eq_false']; omega) | (simp only [nI]; unfold mostBytes; omega) | (show _ ≤ List.length _; simp [layI]; done) | exact beqB_of rfl | simp [layI]
theorem frameRaws (W : World) (k : Int) (a0 : Option Addr) (n0 c0 : Nat) (s0 : (a0 = none ∧ n0 = 0 ∧ c0 = 0) ∨ ∃ b o, a0 = some ⟨b, o, none⟩ ∧ n0 ≤ c0 ∧ (c0 : Int) ≤ 9223372036854775807)
    (z0 : n0 = 0 ∨ ∃ (b o : Nat) (L : List Int), a0 = some ⟨b, o, none⟩ ∧ L.length = n0 ∧ (∀ x ∈ L, (Lit.int .u8 x).wf = true) ∧ HasCells W b o (L.map (Value.int .u8))) :
    Calls Try.prog 3 #[.int .i64 k, .slice a0 n0 c0] W fun e w' => e = .returned (.bool true) ∧ Below W.heap.size W w' := by
  have hk3 : k < 1 ∨ 4 < k ∨ (1 ≤ k ∧ k ≤ 4) := by omega
  rcases s0 with ⟨rfl, rfl, rfl⟩ | ⟨b, o, rfl, hle, hmax⟩
  · rcases hk3 with hk | hk | hk
    · exact ran pg KW_ok (runnlo k) (pnlo_ok hk) rfl rfl W
    · exact ran pg KW_ok (runnhi k) (pnhi_ok hk) rfl rfl W
    · exact ran pg KW_ok (runnok k) (pnok_ok hk) rfl rfl W
  · have zero : n0 = 0 → Calls Try.prog 3 #[.int .i64 k, .slice (some ⟨b, o, none⟩) n0 c0] W fun e w' => e = .returned (.bool true) ∧ Below W.heap.size W w' := fun h0 => by
      subst h0
      have vl : ∀ orc, VL (Dm (St.start 1 .leaf orc)) (fun _ => (⟨b, o, 0⟩ : PB)) [.int .i64 k, .slice (some ⟨0, 0, none⟩) 0 c0] [.int .i64 k, .slice (some ⟨b, o, none⟩) 0 c0] := fun orc =>
        VL.cons (.same rfl) (VL.cons (VR.unread (a := ⟨b, o, none⟩) (by decide) rfl rfl hle) VL.nil)
      rcases hk3 with hk | hk | hk
      · exact ranG pg KW_ok (ρ := fun _ => ⟨b, o, 0⟩) (runzlo k c0) (pnlo_ok hk) rfl (named_hs 1 _ _ W) (vl _)
      · exact ranG pg KW_ok (ρ := fun _ => ⟨b, o, 0⟩) (runzhi k c0) (pnhi_ok hk) rfl (named_hs 1 _ _ W) (vl _)
      · exact ranG pg KW_ok (ρ := fun _ => ⟨b, o, 0⟩) (runzok k c0) (pnok_ok hk) rfl (named_hs 1 _ _ W) (vl _)
    rcases z0 with h0 | ⟨b', o', L, e, hl, hw, hc⟩
    · exact zero h0
    · cases e
      by_cases h0 : n0 = 0
      · exact zero h0
      · have go : ∀ {orc : List (Option Bool)} {p : Prop}, (rR k L n0 c0 orc).map (fun r => (r.1, r.2.obl)) = some (.bool true, p) → p → Calls Try.prog 3 #[.int .i64 k, .slice (some ⟨b, o, none⟩) n0 c0] W fun e w' => e = .returned (.bool true) ∧ Below W.heap.size W w' := fun {orc p} hr hp => by
          obtain ⟨ρ, g1, g2⟩ := ints_start (t := 5) orc hc
          exact ranG pg KW_ok (ρ := ρ) hr hp rfl g1 (VL.cons (.same rfl) (VL.cons (g2 n0 c0 hle) VL.nil))
        by_cases hb : 600 < n0
        · exact go (runbig k L n0 c0) (pbig_ok hb)
        · rcases hk3 with hk | hk | hk
          · exact go (runlo k L n0 c0) (plo_ok hl (by omega) (by omega) hk)
          · exact go (runhi k L n0 c0) (phi_ok hl (by omega) (by omega) hk)
          · by_cases hg : 493 < n0
            · exact go (runlong k L n0 c0) (plong_ok hl hg (by omega) hk)
            · exact go (runok k L n0 c0) (pok_ok hl (by omega) (by omega) hk)
end
end fr
end Go.Proofs.Ytmgnpfapigenpab
