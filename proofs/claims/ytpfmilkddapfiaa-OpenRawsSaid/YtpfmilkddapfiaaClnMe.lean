/- Read off the code by the clean reading. -/
import Derived.Test.YtpfmilkddapfiaaClnMd
import Derived.Test.YtpfmilkddapfiaaClnQd
set_option linter.unusedVariables false
set_option linter.unusedSimpArgs false
set_option linter.deprecated false
set_option maxRecDepth 100000
namespace Go.Proofs.Ytpfmilkddapfiaa
open Go.ChangeShapes Go.WideShapes Go.ChangeAt Go.RowKit Go.Cln
namespace ob
set_option linter.unusedVariables false
noncomputable section
theorem runLoopW {P : Program} {rd : Option Nat} {s0 : St} {ρ0 : Nat → PB} {w0 : World} {c : Code} {id N : Nat} {I : Nat → St → Prop} {J : St → Prop}
    (h : ∀ i s, i < N → I i s → StepW P rd s0 ρ0 w0 c s fun e s' => e = .normal ∧ I (i + 1) s') (hx : ∀ s, I N s → StepW P rd s0 ρ0 w0 c s fun e s' => e = .exit id ∧ J s') {s : St} (h0 : I 0 s) : StepW P rd s0 ρ0 w0 (.loop c) s fun e s' => e = .exit id ∧ J s' := by
  refine StepW.loop (fun q s => ∃ i, q = N - i ∧ i ≤ N ∧ I i s) ?_ N s ⟨0, by omega, Nat.zero_le _, h0⟩
  rintro q s ⟨i, rfl, hi, hI⟩
  by_cases e : i = N
  · subst e
    refine (hx s hI).mono ?_
    rintro e s' ⟨rfl, hj⟩
    exact .inr ⟨(by intro h; cases h), rfl, hj⟩
  · refine (h i s (by omega) hI).mono ?_
    rintro e s' ⟨rfl, hj⟩
    exact .inl ⟨rfl, N - (i + 1), by omega, i + 1, rfl, by omega, hj⟩
structure Got (y : MX) (a b d : OV) : Prop where
  hA : capOk y a.P a.n
  hB : capOk y b.P b.n
  hD : capOk y d.P d.n
  n : d.n = a.n
  al : Alike y d.P a.P a.n
  e1 : openE y d a = true
  e2 : openE y a d = true
theorem strQ_self (l : List Int) : strQ l l = true := beqB_self _
end
end ob
end Go.Proofs.Ytpfmilkddapfiaa
namespace Go.Proofs.Ytpfmilkddapfiaa
open Go.ChangeShapes Go.WideShapes Go.ChangeAt Go.RowKit Go.Cln
namespace ob
set_option linter.unusedVariables false
noncomputable section
def shCap : List FC := [.int .u8, .list [.int .u8]]
def OPEN : List FC := [.int .u32, .int .u16, .int .u32, .list shCap]
noncomputable def xW (B : Nat) (W : World) : MX where
  D := worldK .u8 W
  CN P := lead (okRows W shCap P) B
  CK P i := iV (cW W P (i * 2 + 0))
  CQ P i := rowQ (cW W P (i * 2 + 1))
  CM P i := rowM (cW W P (i * 2 + 1))
  CC P i := rowC (cW W P (i * 2 + 1))
theorem famX (B : Nat) (W : World) : FamOk W (xW B W).F := by
  intro g P i v hv
  unfold MX.F at hv
  split at hv
  · exact famInts (k := .u8) hv
  · refine famRows (sh := shCap) (sg := 1000) (w := 2) (n := B) (g := (xW B W).cap P) rfl rfl (fun i j v h => ?_) hv
    rcases j with _ | _ | j
    · cases h; exact ⟨_, rfl, rfl⟩
    · cases h; exact ⟨_, rfl, rfl⟩
    · cases h
def oW (s h i : Int) (v : Value) : OV := ⟨s, h, i, rowQ v, rowM v, rowC v⟩
theorem rawW {B : Nat} (hB : maxLen ≤ B) {W : World} {s h i : Int} {v : Value} (t : FCv W 8 (.list shCap) v) : (oW s h i v).n ≤ (xW B W).CN (oW s h i v).P ∧ (oW s h i v).n ≤ 9223372036854775807 ∧ ∀ j, j < (oW s h i v).n → (xW B W).CM (oW s h i v).P j ≤ ((xW B W).D ((xW B W).CQ (oW s h i v).P j)).length := by
  refine ⟨lenRows (n := 7) hB t, ?_, fun j hj => ?_⟩
  · have hl := t.le
    have : maxLen = 9223372036854775807 := rfl
    unfold oW
    show rowM v ≤ _
    rw [← this]; exact hl
  · exact FCv.nums (n := 5) (FCv.cell (n := 7) t hj (j := 1) (q := .list [.int .u8]) rfl (w := 2) rfl)
theorem vrO {B : Nat} {W : World} {s h i : Int} {v : Value} {ρ : Nat → PB} (t : FCv W 8 (.list shCap) v) : VR (Dm (smSt 1 [some (.fam (xW B W).F)] [])) ρ (oW s h i v).v (.agg #[.int .u32 s, .int .u16 h, .int .u32 i, v]) := by
  have d0 := fam_dm (F := (xW B W).F) (orc := [])
  refine .agg rfl fun j u w hu hw => ?_
  have hu : (oW s h i v).l[j]? = some u := hu
  have hw : ([.int .u32 s, .int .u16 h, .int .u32 i, v] : List Value)[j]? = some w := hw
  rcases j with _ | _ | _ | _ | j
  · cases hu; cases hw; exact .same rfl
  · cases hu; cases hw; exact .same rfl
  · cases hu; cases hw; exact .same rfl
  · cases hu; cases hw; exact .abs d0 rfl (FCv.abs (n := 8) t)
  · cases hu
end
end ob
end Go.Proofs.Ytpfmilkddapfiaa
