/- Read off the code by the clean reading. -/
import Derived.Test.YtkcngffpnnlmeaaClnQa
import Derived.Test.YtkcngffpnnlmeaaRows
import Derived.WalkKit
import Derived.ProofKit
import Derived.Below
import Derived.Test.YtkcngffpnnlmeaaClnQc
set_option linter.unusedVariables false
set_option linter.unusedSimpArgs false
set_option linter.deprecated false
set_option maxRecDepth 100000
namespace Go.Proofs.Ytkcngffpnnlmeaa
open Go.ChangeShapes Go.WideShapes Go.ChangeAt Go.RowKit Go.Cln
namespace ae
theorem pg : PG Try.prog := PG.of (by decide +kernel)
noncomputable section
def w8 (x : Int) : Int := IntKind.u8.wrap x
def xr8 (a b : Int) : Int := xorI .u8 a b
def dbl (x : Int) : Int := xr8 (w8 (x * 2 ^ 1)) (w8 (x.fdiv (2 ^ 7) * 27))
def rot8 (s : Nat) (x : Int) : Int := orI .u8 (w8 (x * 2 ^ s)) (x.fdiv (2 ^ (8 - s)))
def box8 (i : Int) : Int := xr8 (xr8 (xr8 (xr8 (xr8 i (rot8 1 i)) (rot8 2 i)) (rot8 3 i)) (rot8 4 i)) 99
theorem eD (x : Int) : ((mk Try.prog Given.nothing 100).call 52 [.int .u8 x] (St.start 0 .leaf [])).map (fun r => (r.1, r.2.obl)) = some (.int .u8 (dbl x), True) := by kernel_rfl
theorem eX (x : Int) : ((mk Try.prog Given.nothing 100).call 61 [.int .u8 x] (St.start 0 .leaf [])).map (fun r => (r.1, r.2.obl)) = some (.int .u8 (box8 x), True) := by kernel_rfl
def F1 (f : FuncId) (args : List Value) : Option Value := match args with
 | [.int .u8 x] => if f == 52 then some (.int .u8 (dbl x)) else if f == 61 then some (.int .u8 (box8 x)) else none
 | _ => none
theorem F1_ok : CallsOk Try.prog F1 := fun f args v h => by
 unfold F1 at h
 split at h
 ·rename_i x
  split at h
  ·rename_i hf
   have hf' : f = 52 := by simpa using hf
   subst hf'; cases h
   exact ⟨rfl, rfl, fun W => ranF pg (GivenOk.nothing _) (eD x) trivial rfl rfl W⟩
  ·split at h
   ·rename_i hf
    have hf' : f = 61 := by simpa using hf
    subst hf'; cases h
    exact ⟨rfl, rfl, fun W => ranF pg (GivenOk.nothing _) (eX x) trivial rfl rfl W⟩
   ·cases h
 ·cases h
def allB : Value := .agg #[.int .u8 99, .int .u8 124, .int .u8 119, .int .u8 123, .int .u8 242, .int .u8 107, .int .u8 111, .int .u8 197, .int .u8 48, .int .u8 1, .int .u8 103, .int .u8 43, .int .u8 254, .int .u8 215, .int .u8 171, .int .u8 118, .int .u8 202, .int .u8 130, .int .u8 201, .int .u8 125, .int .u8 250, .int .u8 89, .int .u8 71, .int .u8 240, .int .u8 173, .int .u8 212, .int .u8 162, .int .u8 175, .int .u8 156, .int .u8 164, .int .u8 114, .int .u8 192, .int .u8 183, .int .u8 253, .int .u8 147, .int .u8 38, .int .u8 54, .int .u8 63, .int .u8 247, .int .u8 204, .int .u8 52, .int .u8 165, .int .u8 229, .int .u8 241, .int .u8 113, .int .u8 216, .int .u8 49, .int .u8 21, .int .u8 4, .int .u8 199, .int .u8 35, .int .u8 195, .int .u8 24, .int .u8 150, .int .u8 5, .int .u8 154, .int .u8 7, .int .u8 18, .int .u8 128, .int .u8 226, .int .u8 235, .int .u8 39, .int .u8 178, .int .u8 117, .int .u8 9, .int .u8 131, .int .u8 44, .int .u8 26, .int .u8 27, .int .u8 110, .int .u8 90, .int .u8 160, .int .u8 82, .int .u8 59, .int .u8 214, .int .u8 179, .int .u8 41, .int .u8 227, .int .u8 47, .int .u8 132, .int .u8 83, .int .u8 209, .int .u8 0, .int .u8 237, .int .u8 32, .int .u8 252, .int .u8 177, .int .u8 91, .int .u8 106, .int .u8 203, .int .u8 190, .int .u8 57, .int .u8 74, .int .u8 76, .int .u8 88, .int .u8 207, .int .u8 208, .int .u8 239, .int .u8 170, .int .u8 251, .int .u8 67, .int .u8 77, .int .u8 51, .int .u8 133, .int .u8 69, .int .u8 249, .int .u8 2, .int .u8 127, .int .u8 80, .int .u8 60, .int .u8 159, .int .u8 168, .int .u8 81, .int .u8 163, .int .u8 64, .int .u8 143, .int .u8 146, .int .u8 157, .int .u8 56, .int .u8 245, .int .u8 188, .int .u8 182, .int .u8 218, .int .u8 33, .int .u8 16, .int .u8 255, .int .u8 243, .int .u8 210, .int .u8 205, .int .u8 12, .int .u8 19, .int .u8 236, .int .u8 95, .int .u8 151, .int .u8 68, .int .u8 23, .int .u8 196, .int .u8 167, .int .u8 126, .int .u8 61, .int .u8 100, .int .u8 93, .int .u8 25, .int .u8 115, .int .u8 96, .int .u8 129, .int .u8 79, .int .u8 220, .int .u8 34, .int .u8 42, .int .u8 144, .int .u8 136, .int .u8 70, .int .u8 238, .int .u8 184, .int .u8 20, .int .u8 222, .int .u8 94, .int .u8 11, .int .u8 219, .int .u8 224, .int .u8 50, .int .u8 58, .int .u8 10, .int .u8 73, .int .u8 6, .int .u8 36, .int .u8 92, .int .u8 194, .int .u8 211, .int .u8 172, .int .u8 98, .int .u8 145, .int .u8 149, .int .u8 228, .int .u8 121, .int .u8 231, .int .u8 200, .int .u8 55, .int .u8 109, .int .u8 141, .int .u8 213, .int .u8 78, .int .u8 169, .int .u8 108, .int .u8 86, .int .u8 244, .int .u8 234, .int .u8 101, .int .u8 122, .int .u8 174, .int .u8 8, .int .u8 186, .int .u8 120, .int .u8 37, .int .u8 46, .int .u8 28, .int .u8 166, .int .u8 180, .int .u8 198, .int .u8 232, .int .u8 221, .int .u8 116, .int .u8 31, .int .u8 75, .int .u8 189, .int .u8 139, .int .u8 138, .int .u8 112, .int .u8 62, .int .u8 181, .int .u8 102, .int .u8 72, .int .u8 3, .int .u8 246, .int .u8 14, .int .u8 97, .int .u8 53, .int .u8 87, .int .u8 185, .int .u8 134, .int .u8 193, .int .u8 29, .int .u8 158, .int .u8 225, .int .u8 248, .int .u8 152, .int .u8 17, .int .u8 105, .int .u8 217, .int .u8 142, .int .u8 148, .int .u8 155, .int .u8 30, .int .u8 135, .int .u8 233, .int .u8 206, .int .u8 85, .int .u8 40, .int .u8 223, .int .u8 140, .int .u8 161, .int .u8 137, .int .u8 13, .int .u8 191, .int .u8 230, .int .u8 66, .int .u8 104, .int .u8 65, .int .u8 153, .int .u8 45, .int .u8 15, .int .u8 176, .int .u8 84, .int .u8 187, .int .u8 22]
theorem eA : ((mk Try.prog (Given.calls F1) 300).call 45 [] (St.start 0 .leaf [])).map (fun r => (r.1, r.2.obl)) = some (allB, True) := by kernel_rfl
def keyF (b k : Nat -> Int) (j : Nat) : Int := xr8 (b j) (k j)
def shiF (b : Nat -> Int) (i : Nat) : Int := b ((i + 4 * (i % 4)) % 16)
def all4 (a b c d : Int) : Int := xr8 (xr8 (xr8 (xr8 0 a) b) c) d
def mix1 (a b all : Int) : Int := xr8 (xr8 a all) (dbl (xr8 a b))
def mixF (b : Nat -> Int) (i : Nat) : Int := mix1 (b i) (b (4 * (i / 4) + (i + 1) % 4)) (all4 (b (4 * (i / 4))) (b (4 * (i / 4) + 1)) (b (4 * (i / 4) + 2)) (b (4 * (i / 4) + 3)))
def K1 : Given := Given.calls F1
theorem eK (b k : Nat -> Int) : ((mk Try.prog K1 100).call 66 [.agg (rowV .u8 16 b).toArray, .agg (rowV .u8 16 k).toArray] (St.start 0 .leaf [])).map (fun r => (r.1, r.2.obl)) = some (.agg (rowV .u8 16 (keyF b k)).toArray, True) := by kernel_rfl
theorem eS (b k : Nat -> Int) : ((mk Try.prog K1 100).call 68 [.agg (rowV .u8 16 b).toArray, .agg (rowV .u8 16 k).toArray] (St.start 0 .leaf [])).map (fun r => (r.1, r.2.obl)) = some (.agg (rowV .u8 16 (shiF b)).toArray, True) := by kernel_rfl
theorem eM (b k : Nat -> Int) : ((mk Try.prog K1 100).call 69 [.agg (rowV .u8 16 b).toArray, .agg (rowV .u8 16 k).toArray] (St.start 0 .leaf [])).map (fun r => (r.1, r.2.obl)) = some (.agg (rowV .u8 16 (mixF b)).toArray, True) := by kernel_rfl
def is16 (x : Array Value) : Bool := decide (x.toList.length = 16) && x.toList.all (isKind .u8)
def F2 (f : FuncId) (args : List Value) : Option Value := match args with
 | [.agg x, .agg y] => if is16 x && is16 y then
   (if f == 66 then some (.agg (rowV .u8 16 (keyF (intAt x.toList) (intAt y.toList))).toArray)
   else if f == 68 then some (.agg (rowV .u8 16 (shiF (intAt x.toList))).toArray)
   else if f == 69 then some (.agg (rowV .u8 16 (mixF (intAt x.toList))).toArray) else none) else none
 | _ => none
theorem is16_row {x : Array Value} (h : is16 x = true) : x = (rowV .u8 16 (intAt x.toList)).toArray := by
 unfold is16 at h
 rw [Bool.and_eq_true, decide_eq_true_eq] at h
 rw [rowV_of h.1 h.2]
theorem F2_ok : CallsOk Try.prog F2 := fun f args v h => by
 unfold F2 at h
 split at h
 ·rename_i x y
  split at h
  ·rename_i hc
   rw [Bool.and_eq_true] at hc
   have ex := is16_row hc.1
   have ey := is16_row hc.2
   have hfl : ([.agg x, .agg y] : List Value).all flat = true := by rw [ex, ey]; rfl
   split at h
   ·rename_i hf
    have hf' : f = 66 := by simpa using hf
    subst hf'; cases h
    refine ⟨hfl, rfl, fun W => ?_⟩
    have := ranF pg F1_ok.given (eK (intAt x.toList) (intAt y.toList)) trivial rfl rfl W
    rw [← ex, ← ey] at this; exact this
   ·split at h
    ·rename_i hf
     have hf' : f = 68 := by simpa using hf
     subst hf'; cases h
     refine ⟨hfl, rfl, fun W => ?_⟩
     have := ranF pg F1_ok.given (eS (intAt x.toList) (intAt y.toList)) trivial rfl rfl W
     rw [← ex, ← ey] at this; exact this
    ·split at h
     ·rename_i hf
      have hf' : f = 69 := by simpa using hf
      subst hf'; cases h
      refine ⟨hfl, rfl, fun W => ?_⟩
      have := ranF pg F1_ok.given (eM (intAt x.toList) (intAt y.toList)) trivial rfl rfl W
      rw [← ex, ← ey] at this; exact this
     ·cases h
  ·cases h
 ·cases h
theorem knownA (W : World) : Calls Try.prog 45 #[] W fun e w' => e = .returned allB /\ Below W.heap.size W w' := ranF pg F1_ok.given (n := 300) (orc := []) eA trivial rfl rfl W
def F3 : FuncId -> List Value -> Option Value := orF (oneF 45 allB) (orF F1 F2)
theorem F3_ok : CallsOk Try.prog F3 := (CallsOk.one rfl knownA).or (F1_ok.or F2_ok)
def BOX : List Int := [99, 124, 119, 123, 242, 107, 111, 197, 48, 1, 103, 43, 254, 215, 171, 118, 202, 130, 201, 125, 250, 89, 71, 240, 173, 212, 162, 175, 156, 164, 114, 192, 183, 253, 147, 38, 54, 63, 247, 204, 52, 165, 229, 241, 113, 216, 49, 21, 4, 199, 35, 195, 24, 150, 5, 154, 7, 18, 128, 226, 235, 39, 178, 117, 9, 131, 44, 26, 27, 110, 90, 160, 82, 59, 214, 179, 41, 227, 47, 132, 83, 209, 0, 237, 32, 252, 177, 91, 106, 203, 190, 57, 74, 76, 88, 207, 208, 239, 170, 251, 67, 77, 51, 133, 69, 249, 2, 127, 80, 60, 159, 168, 81, 163, 64, 143, 146, 157, 56, 245, 188, 182, 218, 33, 16, 255, 243, 210, 205, 12, 19, 236, 95, 151, 68, 23, 196, 167, 126, 61, 100, 93, 25, 115, 96, 129, 79, 220, 34, 42, 144, 136, 70, 238, 184, 20, 222, 94, 11, 219, 224, 50, 58, 10, 73, 6, 36, 92, 194, 211, 172, 98, 145, 149, 228, 121, 231, 200, 55, 109, 141, 213, 78, 169, 108, 86, 244, 234, 101, 122, 174, 8, 186, 120, 37, 46, 28, 166, 180, 198, 232, 221, 116, 31, 75, 189, 139, 138, 112, 62, 181, 102, 72, 3, 246, 14, 97, 53, 87, 185, 134, 193, 29, 158, 225, 248, 152, 17, 105, 217, 142, 148, 155, 30, 135, 233, 206, 85, 40, 223, 140, 161, 137, 13, 191, 230, 66, 104, 65, 153, 45, 15, 176, 84, 187, 22]
def row16 (b : Nat -> Int) : Value := .agg (rowV .u8 16 b).toArray
def subF (B : List Int) (b : Nat -> Int) (i : Nat) : Int := B.getD (0 + (b i).toNat * 1) 0
def oSub : List (Option Bool) := (List.range 16).flatMap fun _ => [none, none, some true, some true, none]
def pSub (B : List Int) (b : Nat -> Int) : Nat -> Prop
 | 0 => True
 | i + 1 => (pSub B b i /\ (0 <= b i /\ b i < ((256 : Nat) : Int))) /\ 0 + (b i).toNat * 1 < B.length
def hB (B : List Int) : List (Option Ob) := [some (.cells (.ints .u8 B) 94)]
theorem runSub (B : List Int) (b k : Nat -> Int) : ((mk Try.prog Given.nothing 100).call 67 [P0 0 0, row16 b, row16 k] (smSt 1 (hB B) oSub)).map (fun r => (r.1, r.2.obl, r.2.next, keepL [true, false, false, false] r.2.heap.get 0)) = some (row16 (subF B b), pSub B b 16, (hB B ++ [none, none, none]).length, hB B ++ [none, none, none]) := by kernel_rfl
theorem pSub_ok {B : List Int} {b : Nat -> Int} (hB : B.length = 256) : ∀ n, (∀ i, i < n -> 0 <= b i /\ b i < 256) -> pSub B b n
 | 0, _ => trivial
 | n + 1, h => by
  have h1 := h n (by omega)
  exact ⟨⟨pSub_ok hB n fun i hi => h i (by omega), h1.1, h1.2⟩, by omega⟩
def nn (k : Nat) : List (Option Bool) := List.replicate k none
def X8 (a b : Int) : Int := xr8 (xr8 0 a) b
def bx (B : List Int) (k : Nat -> Int) (j : Nat) : Int := B.getD (0 + (k j).toNat * 1) 0
def kc (B : List Int) (pw : Int) (k : Nat -> Int) : Nat -> Int
 | 0 => X8 (bx B k 13) pw
 | 1 => bx B k 14
 | 2 => bx B k 15
 | _ => bx B k 12
def col (B : List Int) (pw : Int) (k : Nat -> Int) : Nat -> Nat -> Int
 | 0, r => X8 (kc B pw k r) (k r)
 | c + 1, r => X8 (col B pw k c r) (k (4 * (c + 1) + r))
def nx (B : List Int) (pw : Int) (k : Nat -> Int) (j : Nat) : Int := col B pw k (j / 4) (j % 4)
def pw : Nat -> Int
 | 0 => 1
 | n + 1 => dbl (pw n)
def kr (B : List Int) (key : Nat -> Int) : Nat -> Nat -> Int
 | 0 => key
 | n + 1 => nx B (pw n) (kr B key n)
def ksF (B : List Int) (key : Nat -> Int) (j : Nat) : Int := kr B key (j / 16) (j % 16)
def cnd (B : List Int) (k : Nat -> Int) (j : Nat) (p : Prop) : Prop := (p /\ (0 <= k j /\ k j < ((256 : Nat) : Int))) /\ 0 + (k j).toNat * 1 < B.length
def pK (B : List Int) (key : Nat -> Int) : Nat -> Prop
 | 0 => True
 | n + 1 => cnd B (kr B key n) 12 (cnd B (kr B key n) 15 (cnd B (kr B key n) 14 (cnd B (kr B key n) 13 (pK B key n))))
def K3 : Given := Given.calls F3
def oKs : List (Option Bool) := nn 22 ++ ([some true, some true, none, some true, some true, none, some true, some true, none, some true, some true] ++ (nn 205 ++ ([some true, some true, none, some true, some true, none, some true, some true, none, some true, some true] ++ (nn 205 ++ ([some true, some true, none, some true, some true, none, some true, some true, none, some true, some true] ++ (nn 205 ++ ([some true, some true, none, some true, some true, none, some true, some true, none, some true, some true] ++ (nn 205 ++ ([some true, some true, none, some true, some true, none, some true, some true, none, some true, some true] ++ (nn 205 ++ ([some true, some true, none, some true, some true, none, some true, some true, none, some true, some true] ++ (nn 205 ++ ([some true, some true, none, some true, some true, none, some true, some true, none, some true, some true] ++ (nn 205 ++ ([some true, some true, none, some true, some true, none, some true, some true, none, some true, some true] ++ (nn 205 ++ ([some true, some true, none, some true, some true, none, some true, some true, none, some true, some true] ++ (nn 205 ++ ([some true, some true, none, some true, some true, none, some true, some true, none, some true, some true])))))))))))))))))))
theorem runKs (key : Nat -> Int) : ((mk Try.prog K3 200).call 37 [row16 key] (St.start 0 .leaf oKs)).map (fun r => (r.1, r.2.obl)) = some (.agg (rowV .u8 176 (ksF BOX key)).toArray, pK BOX key 10) := by kernel_rfl
end
end ae
end Go.Proofs.Ytkcngffpnnlmeaa
