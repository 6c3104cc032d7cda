/- What the functions of this layer come to: read off their code by the clean reading, loops by induction. -/
import Derived.Test.YtpplgfhjkepdhacGreatClnYM0
import Derived.Test.YtpplgfhjkepdhacGreatClnYM1
import Derived.Test.YtpplgfhjkepdhacGreatClnYM2
import Derived.Test.YtpplgfhjkepdhacGreatClnYM3
import Derived.Test.YtpplgfhjkepdhacGreatClnYM4
import Derived.Test.YtpplgfhjkepdhacGreatClnYM5
import Derived.Test.YtpplgfhjkepdhacGreatClnYM6
import Derived.IntWalk
set_option linter.unusedVariables false
set_option linter.unusedSimpArgs false
set_option linter.deprecated false
set_option maxRecDepth 100000
namespace Go.Proofs.YtpplgfhjkepdhacGreat
open Go.ChangeShapes Go.WideShapes Go.ChangeAt Go.RowKit Go.Cln
namespace ae
noncomputable section
def TP : List (TellP Tryz.prog) := [M0, M1, M2, M3, M4, M5, M6]
def K9 : Given := Given.reads (Given.calls F9) (lookP TP)
theorem knownRuns : ((mk Tryz.prog K9 400).call 8 [] (St.start 0 .leaf [])).map (fun r => (r.1, r.2.obl)) = some (.bool true, True) := by kernel_rfl
theorem known (W : World) : Calls Tryz.prog 8 #[] W fun e w' => e = .returned (.bool true) ∧ Below W.heap.size W w' := ran pg (GivenOk.tellP F9_ok.given TP) knownRuns trivial rfl rfl W
end
end ae
end Go.Proofs.YtpplgfhjkepdhacGreat
namespace Go.Proofs.YtpplgfhjkepdhacGreat
open Go.ChangeShapes Go.WideShapes Go.ChangeAt Go.RowKit Go.Cln
namespace ae
noncomputable section
def nn (k : Nat) : List (Option Bool) := List.replicate k none
def tt (k : Nat) : List (Option Bool) := List.replicate k (some true)
def ub (x : Int) : UInt8 := UInt8.ofNat (IntKind.u8.wrap x).toNat
def c4 (a : Int) : List UInt8 := [ub (((a.fdiv (2 ^ 8)).fdiv (2 ^ 8)).fdiv (2 ^ 8)), ub ((a.fdiv (2 ^ 8)).fdiv (2 ^ 8)), ub (a.fdiv (2 ^ 8)), ub a]
def c2 (a : Int) : List UInt8 := [ub (a.fdiv (2 ^ 8)), ub a]
def by4 (a : Int) : List UInt8 := [ub (IntKind.u32.wrap (a.tdiv 16777216)), ub ((IntKind.u32.wrap (a.tdiv 65536)).tmod 256), ub ((IntKind.u32.wrap (a.tdiv 256)).tmod 256), ub (a.tmod 256)]
def by2 (a : Int) : List UInt8 := [ub (IntKind.u16.wrap (a.tdiv 256)), ub (a.tmod 256)]
def sA (a b c d e f : Int) : ByteArray := ⟨(c4 a ++ (c4 b ++ (c2 c ++ (c2 d ++ (c4 e ++ c4 f))))).toArray⟩
def sB (a b c d e f : Int) : ByteArray := ⟨(by4 a ++ (by4 b ++ (by2 c ++ (by2 d ++ (by4 e ++ by4 f))))).toArray⟩
def eqA (a b c d e f : Int) : Bool := (sA a b c d e f).toList == (sB a b c d e f).toList
def pK (a b c d e f : Int) : Prop := ((((((((((((True ∧ eqA a b c d e f = true) ∧ eqA a b c d e f = true) ∧ eqA a b c d e f = true) ∧ eqA a b c d e f = true) ∧ eqA a b c d e f = true) ∧ (b == b) = true) ∧ (a == a) = true) ∧ (d == d) = true) ∧ (c == c) = true) ∧ (f == f) = true) ∧ (e == e) = true) ∧ eqA a b c d e f = true)
def K8 : Given := Given.calls (oneF 8 (.bool true))
theorem eLk (a b c d e f : Int) : ((mk Tryz.prog K8 300).call 3 [.agg #[.int .u32 a, .int .u32 b, .int .u16 c, .int .u16 d, .int .u32 e, .int .u32 f]] (St.start 0 .leaf (nn 117 ++ tt 12))).map (fun r => (r.1, r.2.obl)) = some (.bool true, pK a b c d e f) := by kernel_rfl
end
theorem ub_eq {x y : Int} (h : x % 256 = y % 256) : ub x = ub y := by
  unfold ub; rw [IntKind.wrap_u8, IntKind.wrap_u8, h]
theorem c4_eq {a : Int} (h : 0 ≤ a ∧ a < 4294967296) : c4 a = by4 a := by
  unfold c4 by4
  have k : ∀ x : Int, x.fdiv (2 ^ 8) = x / 256 := fun x => Int.fdiv_eq_ediv_of_nonneg x (by decide)
  have t1 : ∀ m : Int, a.tdiv m = a / m := fun m => Int.tdiv_eq_ediv_of_nonneg h.1
  rw [k, k, k, t1, t1, t1]
  have w1 : ∀ m : Int, 0 ≤ a / m → a / m < 4294967296 → IntKind.u32.wrap (a / m) = a / m := fun m x y => by rw [IntKind.wrap_u32]; omega
  rw [w1 16777216 (by omega) (by omega), w1 65536 (by omega) (by omega), w1 256 (by omega) (by omega)]
  rw [Int.tmod_eq_emod_of_nonneg (a := a / 65536) (by omega), Int.tmod_eq_emod_of_nonneg (a := a / 256) (by omega), Int.tmod_eq_emod_of_nonneg h.1]
  rw [ub_eq (x := a / 256 / 256 / 256) (y := a / 16777216) (by omega), ub_eq (x := a / 256 / 256) (y := a / 65536 % 256) (by omega), ub_eq (x := a / 256) (y := a / 256 % 256) (by omega), ub_eq (x := a) (y := a % 256) (by omega)]
theorem c2_eq {a : Int} (h : 0 ≤ a ∧ a < 65536) : c2 a = by2 a := by
  unfold c2 by2
  rw [Int.fdiv_eq_ediv_of_nonneg _ (by decide), Int.tdiv_eq_ediv_of_nonneg h.1, Int.tmod_eq_emod_of_nonneg h.1]
  have : IntKind.u16.wrap (a / 256) = a / 256 := by rw [IntKind.wrap_u16]; omega
  rw [this, ub_eq (x := a / 2 ^ 8) (y := a / 256) (by omega), ub_eq (x := a) (y := a % 256) (by omega)]
theorem wf32 {a : Int} (h : (Lit.int .u32 a).wf = true) : 0 ≤ a ∧ a < 4294967296 := by
  have h : IntKind.u32.min ≤ a ∧ a ≤ IntKind.u32.max := by simpa [Lit.wf] using h
  have e1 : IntKind.u32.min = 0 := by decide
  have e2 : IntKind.u32.max = 4294967295 := by decide
  rw [e1, e2] at h; omega
theorem wf16 {a : Int} (h : (Lit.int .u16 a).wf = true) : 0 ≤ a ∧ a < 65536 := by
  have h : IntKind.u16.min ≤ a ∧ a ≤ IntKind.u16.max := by simpa [Lit.wf] using h
  have e1 : IntKind.u16.min = 0 := by decide
  have e2 : IntKind.u16.max = 65535 := by decide
  rw [e1, e2] at h; omega
theorem kdfLinks (W : World) (a : Int) (wa : (Lit.int .u32 a).wf = true) (b : Int) (wb : (Lit.int .u32 b).wf = true) (c : Int) (wc : (Lit.int .u16 c).wf = true) (d : Int) (wd : (Lit.int .u16 d).wf = true) (e : Int) (we : (Lit.int .u32 e).wf = true) (f : Int) (wf : (Lit.int .u32 f).wf = true) :
    Calls Tryz.prog 3 #[.agg #[.int .u32 a, .int .u32 b, .int .u16 c, .int .u16 d, .int .u32 e, .int .u32 f]] W fun e w' => e = .returned (.bool true) ∧ Below W.heap.size W w' := by
  have hq : eqA a b c d e f = true := by
    unfold eqA sA sB
    rw [c4_eq (wf32 wa), c4_eq (wf32 wb), c2_eq (wf16 wc), c2_eq (wf16 wd), c4_eq (wf32 we), c4_eq (wf32 wf)]
    exact BEq.rfl
  refine ranF pg ((CallsOk.one rfl known).given) (eLk a b c d e f) ?_ rfl rfl W
  exact ⟨⟨⟨⟨⟨⟨⟨⟨⟨⟨⟨⟨trivial, hq⟩, hq⟩, hq⟩, hq⟩, hq⟩, by simp⟩, by simp⟩, by simp⟩, by simp⟩, by simp⟩, by simp⟩, hq⟩
end ae
end Go.Proofs.YtpplgfhjkepdhacGreat
