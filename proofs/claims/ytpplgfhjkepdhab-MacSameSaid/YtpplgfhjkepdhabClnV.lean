/- What the functions of this layer come to: read off their code by the clean reading, loops by induction. -/
import Derived.Test.YtpplgfhjkepdhabClnW
import Derived.Test.YtpplgfhjkepdhabClnQ6
import Derived.IntWalk
set_option linter.unusedVariables false
set_option linter.unusedSimpArgs false
set_option linter.deprecated false
set_option maxRecDepth 100000
namespace Go.Proofs.Ytpplgfhjkepdhab
open Go.ChangeShapes Go.WideShapes Go.ChangeAt Go.RowKit Go.Cln
namespace sw
noncomputable section
def nn (k : Nat) : List (Option Bool) := List.replicate k none
def tt (k : Nat) : List (Option Bool) := List.replicate k (some true)
def conjL : Prop → List Prop → Prop
  | a, [] => a
  | a, p :: l => conjL (a ∧ p) l
def sS (a b : Nat → Int) : Nat → Int
  | 0 => 0
  | k + 1 => orI .u8 (sS a b k) (xorI .u8 (a k) (b k))
theorem eSame (a b : Nat → Int) : ((mk Try.prog Given.nothing 100).call 4 [.agg (rowV .u8 12 a).toArray, .agg (rowV .u8 12 b).toArray] (St.start 0 .leaf [])).map (fun r => (r.1, r.2.obl)) = some (.bool (sS a b 12 == 0), True) := by kernel_rfl
def is12 (x : Array Value) : Bool := decide (x.toList.length = 12) && x.toList.all (isKind .u8)
def F4 (f : FuncId) (args : List Value) : Option Value := if f == 4 then match args with
  | [.agg x, .agg y] => if is12 x && is12 y then some (.bool (sS (intAt x.toList) (intAt y.toList) 12 == 0)) else none
  | _ => none else none
theorem is12_row {x : Array Value} (h : is12 x = true) : x = (rowV .u8 12 (intAt x.toList)).toArray := by
  unfold is12 at h
  rw [Bool.and_eq_true, decide_eq_true_eq] at h
  rw [rowV_of h.1 h.2]
theorem F4_ok : CallsOk Try.prog F4 := fun f args v h => by
  unfold F4 at h
  split at h
  · rename_i hf
    have hf' : f = 4 := by simpa using hf
    subst hf'
    split at h
    · rename_i x y
      split at h
      · rename_i hc
        rw [Bool.and_eq_true] at hc
        have ex := is12_row hc.1
        have ey := is12_row hc.2
        cases h
        refine ⟨by rw [ex, ey]; rfl, rfl, fun W => ?_⟩
        have := ranF pg (GivenOk.nothing _) (eSame (intAt x.toList) (intAt y.toList)) trivial rfl rfl W
        rw [← ex, ← ey] at this; exact this
      · cases h
    · cases h
  · cases h
def KM : Given := { Given.calls (orF (oneF 5 (.bool true)) F4) with fits := true }
/-- how two rows are held against each other: the first so many places are the same, and then, if there is one more, it is not -/
def orQ (k : Nat) (e : Bool) : List (Option Bool) := tt k ++ (if e then [] else [some false])
def eqs (a b : Nat → Int) (k : Nat) (e : Bool) : List Prop := ((List.range k).map fun i => (a i == b i) = true) ++ (if e then [] else [(a k == b k) = false])
def big (a b : Nat → Int) (k : Nat) (e : Bool) : List Prop := eqs a b k e ++ (List.replicate 5 (((sS a b 12 == 0) == e) = true) ++ (eqs a b k e ++ (List.replicate 3 (((sS a b 12 == 0) == e) = true) ++ (List.replicate 4 (((sS b a 12 == 0) == e) = true) ++ List.replicate 2 ((sS a a 12 == 0) = true)))))
def orM (k : Nat) (e : Bool) : List (Option Bool) := nn 1 ++ (orQ k e ++ (tt 5 ++ (orQ k e ++ tt 9)))
def pM (a b : Nat → Int) (k : Nat) (e : Bool) : Prop := conjL True (big a b k e)
def runM (a b : Nat → Int) (n : Int) (k : Nat) (e : Bool) : Option (Value × St) := (mk Try.prog KM 300).call 3 [.agg (rowV .u8 12 a).toArray, .agg (rowV .u8 12 b).toArray, .bool false, .int .i64 n] (St.start 0 .leaf (orM k e))
theorem m12 (a b : Nat → Int) (n : Int) : (runM a b n 12 true).map (fun r => (r.1, r.2.obl)) = some (.bool true, pM a b 12 true) := by kernel_rfl
theorem m0 (a b : Nat → Int) (n : Int) : (runM a b n 0 false).map (fun r => (r.1, r.2.obl)) = some (.bool true, pM a b 0 false) := by kernel_rfl
theorem m1 (a b : Nat → Int) (n : Int) : (runM a b n 1 false).map (fun r => (r.1, r.2.obl)) = some (.bool true, pM a b 1 false) := by kernel_rfl
theorem m2 (a b : Nat → Int) (n : Int) : (runM a b n 2 false).map (fun r => (r.1, r.2.obl)) = some (.bool true, pM a b 2 false) := by kernel_rfl
theorem m3 (a b : Nat → Int) (n : Int) : (runM a b n 3 false).map (fun r => (r.1, r.2.obl)) = some (.bool true, pM a b 3 false) := by kernel_rfl
theorem m4 (a b : Nat → Int) (n : Int) : (runM a b n 4 false).map (fun r => (r.1, r.2.obl)) = some (.bool true, pM a b 4 false) := by kernel_rfl
theorem m5 (a b : Nat → Int) (n : Int) : (runM a b n 5 false).map (fun r => (r.1, r.2.obl)) = some (.bool true, pM a b 5 false) := by kernel_rfl
theorem m6 (a b : Nat → Int) (n : Int) : (runM a b n 6 false).map (fun r => (r.1, r.2.obl)) = some (.bool true, pM a b 6 false) := by kernel_rfl
theorem m7 (a b : Nat → Int) (n : Int) : (runM a b n 7 false).map (fun r => (r.1, r.2.obl)) = some (.bool true, pM a b 7 false) := by kernel_rfl
theorem m8 (a b : Nat → Int) (n : Int) : (runM a b n 8 false).map (fun r => (r.1, r.2.obl)) = some (.bool true, pM a b 8 false) := by kernel_rfl
theorem m9 (a b : Nat → Int) (n : Int) : (runM a b n 9 false).map (fun r => (r.1, r.2.obl)) = some (.bool true, pM a b 9 false) := by kernel_rfl
theorem m10 (a b : Nat → Int) (n : Int) : (runM a b n 10 false).map (fun r => (r.1, r.2.obl)) = some (.bool true, pM a b 10 false) := by kernel_rfl
theorem m11 (a b : Nat → Int) (n : Int) : (runM a b n 11 false).map (fun r => (r.1, r.2.obl)) = some (.bool true, pM a b 11 false) := by kernel_rfl
def fl (a : Nat → Int) (j s : Nat) (i : Nat) : Int := if i = j then xorI .u8 (a i) (IntKind.u8.wrap (1 * 2 ^ s)) else a i
def orN (m j : Nat) : List (Option Bool) := nn 1 ++ (some false :: (nn m ++ (some true :: (nn 3 ++ (orQ j false ++ (tt 5 ++ (orQ j false ++ tt 9)))))))
def runN (a b : Nat → Int) (n : Int) (m j : Nat) : Option (Value × St) := (mk Try.prog KM 300).call 3 [.agg (rowV .u8 12 a).toArray, .agg (rowV .u8 12 b).toArray, .bool true, .int .i64 n] (St.start 0 .leaf (orN m j))
def pN (a : Nat → Int) (n : Int) (m j s : Nat) : Prop := conjL (True ∧ IntKind.i64.wrap (n.tmod 96 + 96) = Int.ofNat m) (big a (fl a j s) j false)
end
end sw
end Go.Proofs.Ytpplgfhjkepdhab
