/- Read off the code by the clean reading. -/
import Derived.Test.YtpfmilkddapfiaaClnMc
set_option linter.unusedVariables false
set_option linter.unusedSimpArgs false
set_option linter.deprecated false
set_option maxRecDepth 100000
namespace Go.Proofs.Ytpfmilkddapfiaa
open Go.ChangeShapes Go.WideShapes Go.ChangeAt Go.RowKit Go.Cln
namespace ob
set_option linter.unusedVariables false
noncomputable section
def b6 : Code := ((Try.prog.funcs[6]?).bind (·.body)).getD .skip
def e6 : Code := sndC (sndC b6)
def x6 : Code := sndC e6
def r4c : Code := fstC x6
def o4 : Array Oper := opsC r4c
def m6 : Code := loopB Try.prog 6 0
noncomputable def w0 (a b : OV) (w : Int) : List Value := [a.v, b.v, .int .u8 w, .pointer (some ⟨1, 0, none⟩), .pointer (some ⟨2, 0, none⟩), undef, junk, undef, undef, undef, undef, undef, undef, .agg #[junk, junk, junk, junk], junk, junk, junk, .agg #[junk, junk, junk, junk], junk, junk, junk, undef, undef, undef, undef, undef, undef, undef, undef, undef, undef, undef, undef, undef, undef, undef, undef, undef, undef, undef, undef, undef, undef, undef, undef, undef, undef, undef, undef, undef, undef, undef, undef, undef, undef, undef, undef, undef, undef, undef, undef, undef, undef, undef, undef, undef, undef, undef, undef, undef, undef, undef, undef, undef, undef, undef, undef, undef, undef, undef, undef, undef, undef, undef, undef, undef, undef, undef, undef, undef, undef, undef, undef, undef, undef, undef, undef, undef, undef, undef, undef, undef, undef, undef, undef, undef, undef, undef, undef, undef, undef, undef, undef]
noncomputable def w1 (a b : OV) (w : Int) : List Value := [a.v, b.v, .int .u8 w, .pointer (some ⟨1, 0, none⟩), .pointer (some ⟨2, 0, none⟩), undef, junk, undef, undef, undef, undef, undef, undef, .agg #[junk, junk, junk, junk], junk, junk, junk, .agg #[junk, junk, junk, junk], junk, junk, junk, undef, a.v, undef, undef, undef, undef, undef, undef, undef, undef, undef, undef, undef, undef, undef, undef, undef, undef, undef, undef, undef, undef, undef, undef, undef, undef, undef, undef, undef, undef, undef, undef, undef, undef, undef, undef, undef, undef, undef, undef, undef, undef, undef, undef, undef, undef, undef, undef, undef, undef, undef, undef, undef, undef, undef, undef, undef, undef, undef, undef, undef, undef, undef, undef, undef, undef, undef, undef, undef, undef, undef, undef, undef, undef, undef, undef, undef, undef, undef, undef, undef, undef, undef, undef, undef, undef, undef, undef, undef, undef, undef, undef]
noncomputable def w2 (a b d : OV) (w : Int) : List Value := [a.v, b.v, .int .u8 w, .pointer (some ⟨1, 0, none⟩), .pointer (some ⟨2, 0, none⟩), undef, junk, undef, undef, undef, undef, undef, undef, .agg #[junk, junk, junk, junk], junk, junk, junk, .agg #[junk, junk, junk, junk], junk, junk, junk, undef, a.v, d.v, undef, undef, undef, undef, undef, undef, undef, undef, undef, undef, undef, undef, undef, undef, undef, undef, undef, undef, undef, undef, undef, undef, undef, undef, undef, undef, undef, undef, undef, undef, undef, undef, undef, undef, undef, undef, undef, undef, undef, undef, undef, undef, undef, undef, undef, undef, undef, undef, undef, undef, undef, undef, undef, undef, undef, undef, undef, undef, undef, undef, undef, undef, undef, undef, undef, undef, undef, undef, undef, undef, undef, undef, undef, undef, undef, undef, undef, undef, undef, undef, undef, undef, undef, undef, undef, undef, undef, undef, undef]
noncomputable def w3 (a b : OV) (w : Int) : List Value := [a.v, b.v, .int .u8 w, .pointer (some ⟨1, 0, none⟩), .pointer (some ⟨2, 0, none⟩), undef, junk, .pointer (some ⟨3, 0, none⟩), undef, undef, undef, undef, undef, .agg #[junk, junk, junk, junk], junk, junk, junk, .agg #[junk, junk, junk, junk], junk, junk, junk, undef, .agg #[junk, junk, junk, junk], .agg #[junk, junk, junk, junk], undef, undef, undef, undef, undef, undef, undef, undef, undef, undef, undef, undef, undef, undef, undef, undef, undef, undef, undef, undef, undef, undef, undef, undef, undef, undef, undef, undef, undef, undef, undef, undef, undef, undef, undef, undef, undef, undef, undef, undef, undef, undef, undef, undef, undef, undef, undef, undef, undef, undef, undef, undef, undef, undef, undef, undef, undef, undef, undef, undef, undef, undef, undef, undef, undef, undef, undef, undef, undef, undef, undef, undef, undef, undef, undef, undef, undef, undef, undef, undef, undef, undef, undef, undef, undef, undef, undef, undef, undef]
def as6 (x : MX) (a : OV) : Prop := x.F = x.F ∧ a.n ≤ x.CN a.P ∧ a.n ≤ 9223372036854775807
end
end ob
end Go.Proofs.Ytpfmilkddapfiaa
namespace Go.Proofs.Ytpfmilkddapfiaa
open Go.ChangeShapes Go.WideShapes Go.ChangeAt Go.RowKit Go.Cln
namespace ob
set_option linter.unusedVariables false
noncomputable section
end
end ob
end Go.Proofs.Ytpfmilkddapfiaa
namespace Go.Proofs.Ytpfmilkddapfiaa
open Go.ChangeShapes Go.WideShapes Go.ChangeAt Go.RowKit Go.Cln
namespace ob
set_option linter.unusedVariables false
noncomputable section
noncomputable def strQ (l m : List Int) : Bool := beqB (bytesI l).toList (bytesI m).toList
noncomputable def rowK (x : MX) (P k : Nat) : List Int := ((x.D (x.CQ P (ix3 k))).drop 0).take (x.CM P (ix3 k))
end
end ob
end Go.Proofs.Ytpfmilkddapfiaa
