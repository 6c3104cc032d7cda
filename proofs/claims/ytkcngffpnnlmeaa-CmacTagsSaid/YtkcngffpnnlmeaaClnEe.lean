/- Read off the code by the clean reading. -/
import Derived.Test.YtkcngffpnnlmeaaClnEd
set_option linter.unusedVariables false
set_option linter.unusedSimpArgs false
set_option linter.deprecated false
set_option maxRecDepth 100000
namespace Go.Proofs.Ytkcngffpnnlmeaa
open Go.ChangeShapes Go.WideShapes Go.ChangeAt Go.RowKit Go.Cln
namespace ae
set_option linter.unusedVariables false
noncomputable section
def nn (k : Nat) : List (Option Bool) := List.replicate k none
def X8 (a b : Int) : Int := xr8 (xr8 0 a) b
def bx (B : List Int) (k : Nat → Int) (j : Nat) : Int := B.getD (0 + (k j).toNat * 1) 0
def kc (B : List Int) (pw : Int) (k : Nat → Int) : Nat → Int
  | 0 => X8 (bx B k 13) pw
  | 1 => bx B k 14
  | 2 => bx B k 15
  | _ => bx B k 12
def col (B : List Int) (pw : Int) (k : Nat → Int) : Nat → Nat → Int
  | 0, r => X8 (kc B pw k r) (k r)
  | c + 1, r => X8 (col B pw k c r) (k (4 * (c + 1) + r))
def nx (B : List Int) (pw : Int) (k : Nat → Int) (j : Nat) : Int := col B pw k (j / 4) (j % 4)
def pw : Nat → Int
  | 0 => 1
  | n + 1 => dbl (pw n)
def kr (B : List Int) (key : Nat → Int) : Nat → Nat → Int
  | 0 => key
  | n + 1 => nx B (pw n) (kr B key n)
def ksF (B : List Int) (key : Nat → Int) (j : Nat) : Int := kr B key (j / 16) (j % 16)
def cnd (B : List Int) (k : Nat → Int) (j : Nat) (p : Prop) : Prop := (p ∧ (0 ≤ k j ∧ k j < ((256 : Nat) : Int))) ∧ 0 + (k j).toNat * 1 < B.length
def pK (B : List Int) (key : Nat → Int) : Nat → Prop
  | 0 => True
  | n + 1 => cnd B (kr B key n) 12 (cnd B (kr B key n) 15 (cnd B (kr B key n) 14 (cnd B (kr B key n) 13 (pK B key n))))
def K3 : Given := Given.calls F3
def oKs : List (Option Bool) := nn 22 ++ ([some true, some true, none, some true, some true, none, some true, some true, none, some true, some true] ++ (nn 205 ++ ([some true, some true, none, some true, some true, none, some true, some true, none, some true, some true] ++ (nn 205 ++ ([some true, some true, none, some true, some true, none, some true, some true, none, some true, some true] ++ (nn 205 ++ ([some true, some true, none, some true, some true, none, some true, some true, none, some true, some true] ++ (nn 205 ++ ([some true, some true, none, some true, some true, none, some true, some true, none, some true, some true] ++ (nn 205 ++ ([some true, some true, none, some true, some true, none, some true, some true, none, some true, some true] ++ (nn 205 ++ ([some true, some true, none, some true, some true, none, some true, some true, none, some true, some true] ++ (nn 205 ++ ([some true, some true, none, some true, some true, none, some true, some true, none, some true, some true] ++ (nn 205 ++ ([some true, some true, none, some true, some true, none, some true, some true, none, some true, some true] ++ (nn 205 ++ ([some true, some true, none, some true, some true, none, some true, some true, none, some true, some true])))))))))))))))))))
theorem runKs (key : Nat → Int) : ((mk Try.prog K3 200).call 37 [row16 key] (St.start 0 .leaf oKs)).map (fun r => (r.1, r.2.obl)) = some (.agg (rowV .u8 176 (ksF BOX key)).toArray, pK BOX key 10) := by kernel_rfl
end
end ae
end Go.Proofs.Ytkcngffpnnlmeaa
