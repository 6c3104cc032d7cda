/- Read off the code by the clean reading. -/
import Derived.Test.YthpoeegoankpoaaGreatClnQd
import Derived.Test.YthpoeegoankpoaaGreatClnQc
import Derived.Test.YthpoeegoankpoaaGreatRows
import Derived.WalkKit
import Derived.ProofKit
import Derived.Below
import Derived.IntWalk
set_option linter.unusedVariables false
set_option linter.unusedSimpArgs false
set_option linter.deprecated false
set_option maxRecDepth 100000
namespace Go.Proofs.YthpoeegoankpoaaGreat
open Go.ChangeShapes Go.WideShapes Go.ChangeAt Go.RowKit Go.Cln
namespace ob
set_option linter.unusedVariables false
theorem pg : PG Tryz.prog := PG.of (by decide +kernel)
theorem worksRuns : ((mk Tryz.prog Given.nothing 300).call 6 [] (St.start 0 .leaf [])).map (fun r => (r.1, r.2.obl)) = some (.bool true, True) := by kernel_rfl
theorem works (W : World) : Calls Tryz.prog 6 #[] W fun e w' => e = .returned (.bool true) ∧ Below W.heap.size W w' := ran pg (GivenOk.nothing _) worksRuns trivial rfl rfl W
noncomputable section
def vs (v : Nat → Value) (b : Nat) : Nat → List Value → List Value
  | 0, l => l
  | k + 1, l => vs v b k (v (b + k) :: l)
theorem deadT_vs {B : Nat → Bool} {v : Nat → Value} (h : ∀ i, DeadV (v i)) : ∀ (n : Nat) {a b : Nat} {l : List Value}, deadT B (a + n) l → deadT B a (vs v b n l)
  | 0, _, _, _, g => g
  | n + 1, a, b, l, g => deadT_vs h n (a := a) (b := b) (l := v (b + n) :: l) ⟨fun _ => h _, g⟩
abbrev VF := Nat → Value
def vU : VF := fun _ => undef
theorem vU_dead (i : Nat) : DeadV (vU i) := DeadV.undef
def dropC : Nat → Code → Code
  | 0, c => c
  | k + 1, .seq x y => dropC k y
  | _ + 1, c => c
structure MX where
  RN : Nat → Nat
  A : Nat → Nat → Int
  B : Nat → Nat → Int
  C : Nat → Nat → Int
  D : Nat → Nat → Int
  E : Nat → Nat → Bool
  G : Nat → Nat → Int
  H : Nat → Nat → Int
  I : Nat → Nat → Bool
  J : Nat → Nat → Bool
  K : Nat → Nat → Bool
  L : Nat → Nat → Bool
  M : Nat → Nat → Int
  O : Nat → Nat → Int
  Q : Nat → Nat → Int
  T : Nat → Nat → Int
abbrev PR (P n c : Nat) : Value := .slice (some ⟨P, 0, some 1000⟩) n c
def MX.row (x : MX) (P i : Nat) : List Value := [.int .u32 (x.A P i), .int .u8 (x.B P i), .int .u8 (x.C P i), .int .u8 (x.D P i), .bool (x.E P i), .int .u32 (x.G P i), .int .u32 (x.H P i), .bool (x.I P i), .bool (x.J P i), .bool (x.K P i), .bool (x.L P i), .int .u32 (x.M P i), .int .u32 (x.O P i), .int .u32 (x.Q P i), .int .u8 (x.T P i)]
def MX.F (x : MX) (g P : Nat) : Cells := .rows (x.RN P) 15 (x.row P)
theorem beq_ne {n m : Nat} (h : ¬ n = m) : Nat.beq n m = false := by
  cases e : Nat.beq n m with
  | false => rfl
  | true => exact absurd (Nat.eq_of_beq_eq_true e) h
theorem beq_self (n : Nat) : Nat.beq n n = true := Nat.beq_refl n
def ix2 (i : Nat) : Nat := (0 + i * 15) / 15
def ruleE (x : MX) (P Q i : Nat) : Bool := (x.A P (ix2 i) == x.A Q (ix2 i)) && ((x.B P (ix2 i) == x.B Q (ix2 i)) && ((x.C P (ix2 i) == x.C Q (ix2 i)) && ((x.D P (ix2 i) == x.D Q (ix2 i)) && ((x.E P (ix2 i) == x.E Q (ix2 i)) && ((x.G P (ix2 i) == x.G Q (ix2 i)) && ((x.H P (ix2 i) == x.H Q (ix2 i)) && ((x.I P (ix2 i) == x.I Q (ix2 i)) && ((x.J P (ix2 i) == x.J Q (ix2 i)) && ((x.K P (ix2 i) == x.K Q (ix2 i)) && ((x.L P (ix2 i) == x.L Q (ix2 i)) && ((x.M P (ix2 i) == x.M Q (ix2 i)) && ((x.O P (ix2 i) == x.O Q (ix2 i)) && ((x.Q P (ix2 i) == x.Q Q (ix2 i)) && ((x.T P (ix2 i) == x.T Q (ix2 i))))))))))))))))
def rulesE (x : MX) (P n Q m : Nat) : Bool := Nat.beq n m && allB (ruleE x P Q) n
def ruOk (x : MX) (P n : Nat) : Prop := n ≤ x.RN P ∧ n ≤ 1000
structure PV where
  P : Nat
  n : Nat
  c : Nat
  e : Bool
def PV.l (a : PV) : List Value := [PR a.P a.n a.c, .bool a.e]
def PV.v (a : PV) : Value := .agg a.l.toArray
def polE (x : MX) (a b : PV) : Bool := (a.e == b.e) && rulesE x a.P a.n b.P b.n
theorem bne_t {α : Type} [BEq α] {a b : α} (h : (a == b) = false) : (a != b) = true := by unfold bne; rw [h]; rfl
theorem bne_f {α : Type} [BEq α] {a b : α} (h : (a == b) = true) : (a != b) = false := by unfold bne; rw [h]; rfl
def KN : Given := { Given.nothing with fits := true }
theorem KN_ok : GivenOk Tryz.prog KN := frames_fits (GivenOk.nothing _) true
end
end ob
end Go.Proofs.YthpoeegoankpoaaGreat
namespace Go.Proofs.YthpoeegoankpoaaGreat
open Go.ChangeShapes Go.WideShapes Go.ChangeAt Go.RowKit Go.Cln
namespace ob
set_option linter.unusedVariables false
noncomputable section
def b28 : Code := ((Tryz.prog.funcs[28]?).bind (·.body)).getD .skip
def l28 : Code := loopB Tryz.prog 28 0
def e28 : Code := dropC 3 b28
theorem fn28 : (Tryz.prog.funcs[28]?).map (fun f => (f.body, f.results.toList, f.ntmps)) = some (some b28, [.tmp 4], 26) := by kernel_rfl
noncomputable abbrev a28 (P n c Q m d : Nat) : List Value := [PR P n c, PR Q m d]
noncomputable def z28 (x : MX) (P n c Q m d : Nat) : St := { smSt 1 [some (.fam x.F)] [] with tmps := a28 P n c Q m d ++ List.replicate (26 - (a28 P n c Q m d).length) undef, defers := [] }
noncomputable def tm28 (v : VF) (P n c Q m d : Nat) (i : Nat) : List Value := (PR P n c :: PR Q m d :: vs v 2 10 (.int .i64 (nI n) :: .int .i64 (nI i) :: vs v 14 12 []))
theorem tm28_dead {v : VF} {P n c Q m d : Nat} {i : Nat} {B : Nat → Bool} (h : ∀ i, DeadV (v i)) (hB : ∀ i, ((Nat.ble 0 i && Nat.ble i 1) || (Nat.ble 12 i && Nat.ble i 13)) = true → B i = true) : deadT B 0 (tm28 v P n c Q m d i) :=
  ⟨fun e => absurd e (by rw [hB 0 rfl]; decide), ⟨fun e => absurd e (by rw [hB 1 rfl]; decide), deadT_vs h 10 (⟨fun e => absurd e (by rw [hB 12 rfl]; decide), ⟨fun e => absurd e (by rw [hB 13 rfl]; decide), deadT_vs h 12 (trivial)⟩⟩)⟩⟩
noncomputable def h28 (x : MX) (P n c Q m d : Nat) : Nat → Option Ob := fun i => match i with
  | 0 => some (.fam x.F)
  | _ => none
theorem h28_ok (x : MX) (P n c Q m d : Nat) : Go.Cln.RowsIn (h28 x P n c Q m d) := by
  intro b n' w' g' t h
  unfold h28 at h
  split at h <;> first | (cases h; done) | cases h
noncomputable def s28 (x : MX) (P n c Q m d : Nat) (i : Nat) (v : VF) : St := ⟨tm28 v P n c Q m d i, [], Tr.rebuild (h28 x P n c Q m d) 1, 1, 1, [], fun _ => false, True, []⟩
def go28 (K : Given) (c : Code) (s : St) (o : List (Option Bool)) : Option (Exit × St) := (mk Tryz.prog K 200).code 28 none c { s with obl := True, orc := o }
def gd28 (K : Given) (s : St) (o : List (Option Bool)) : Option (St × Code) := down (mk Tryz.prog K 200) 28 none [2, 2, 3, 2, 0] b28 { s with obl := True, orc := o }
def WD28 (i : Nat) : Bool := Nat.beq i 4 || (Nat.ble 6 i && Nat.ble i 11)
noncomputable def VD28 (v : VF) : VF := fun i => match WD28 i with
  | true => junk
  | false => v i
def BD28 (i : Nat) : Bool := ((Nat.ble 0 i && Nat.ble i 1) || (Nat.ble 12 i && Nat.ble i 13)) || WD28 i
theorem VD28_dead {v : VF} (h : ∀ i, DeadV (v i)) (i : Nat) : DeadV (VD28 v i) := by
  unfold VD28
  split
  · exact DeadV.junk
  · exact h i
theorem lvD28 (i : Nat) (h : ((Nat.ble 0 i && Nat.ble i 1) || (Nat.ble 12 i && Nat.ble i 13)) = true) : BD28 i = true := by
  unfold BD28
  simp only [Bool.or_eq_true] at h ⊢
  exact .inl h
def WR28 (i : Nat) : Bool := Nat.beq i 5 || (Nat.ble 14 i && Nat.ble i 18) || (Nat.ble 20 i && Nat.ble i 22) || (Nat.ble 24 i && Nat.ble i 25)
noncomputable def VR28 (v : VF) : VF := fun i => match Nat.beq i 19 with
  | true => .agg #[junk, junk, junk, junk, junk, junk, junk, junk, junk, junk, junk, junk, junk, junk, junk]
  | false => match Nat.beq i 23 with
  | true => .agg #[junk, junk, junk, junk, junk, junk, junk, junk, junk, junk, junk, junk, junk, junk, junk]
  | false => match WR28 i with
  | true => junk
  | false => v i
def BR28 (i : Nat) : Bool := ((Nat.ble 0 i && Nat.ble i 1) || (Nat.ble 12 i && Nat.ble i 13)) || WR28 i || Nat.beq i 19 || Nat.beq i 23
theorem VR28_dead {v : VF} (h : ∀ i, DeadV (v i)) (i : Nat) : DeadV (VR28 v i) := by
  unfold VR28
  split
  · exact ⟨rfl, fun _ => rfl, fun _ => rfl⟩
  split
  · exact ⟨rfl, fun _ => rfl, fun _ => rfl⟩
  split
  · exact DeadV.junk
  · exact h i
theorem lvR28 (i : Nat) (h : ((Nat.ble 0 i && Nat.ble i 1) || (Nat.ble 12 i && Nat.ble i 13)) = true) : BR28 i = true := by
  unfold BR28
  simp only [Bool.or_eq_true] at h ⊢
  refine .inl ?_
  refine .inl ?_
  exact .inl h
def WX28 (i : Nat) : Bool := Nat.beq i 14
noncomputable def VX28 (v : VF) : VF := fun i => match WX28 i with
  | true => junk
  | false => v i
def BX28 (i : Nat) : Bool := ((Nat.ble 0 i && Nat.ble i 1) || (Nat.ble 12 i && Nat.ble i 13)) || WX28 i
theorem VX28_dead {v : VF} (h : ∀ i, DeadV (v i)) (i : Nat) : DeadV (VX28 v i) := by
  unfold VX28
  split
  · exact DeadV.junk
  · exact h i
theorem lvX28 (i : Nat) (h : ((Nat.ble 0 i && Nat.ble i 1) || (Nat.ble 12 i && Nat.ble i 13)) = true) : BX28 i = true := by
  unfold BX28
  simp only [Bool.or_eq_true] at h ⊢
  exact .inl h
def pD_28 (x : MX) (P n c Q m d : Nat) (i : Nat) : Prop := (True ∧ (nI n != nI m) = false)
def pR_28 (x : MX) (P n c Q m d : Nat) (i : Nat) : Prop := (((((((((((((((((((((True ∧ decide (nI i < nI n) = true) ∧ (0 ≤ nI i ∧ nI i < nI n)) ∧ ((0 + i * 15) % 15 = 0 ∧ (0 + i * 15) / 15 < x.RN P)) ∧ (0 ≤ nI i ∧ nI i < nI m)) ∧ ((0 + i * 15) % 15 = 0 ∧ (0 + i * 15) / 15 < x.RN Q)) ∧ (x.A P (ix2 i) == x.A Q (ix2 i)) = true) ∧ (x.B P (ix2 i) == x.B Q (ix2 i)) = true) ∧ (x.C P (ix2 i) == x.C Q (ix2 i)) = true) ∧ (x.D P (ix2 i) == x.D Q (ix2 i)) = true) ∧ (x.E P (ix2 i) == x.E Q (ix2 i)) = true) ∧ (x.G P (ix2 i) == x.G Q (ix2 i)) = true) ∧ (x.H P (ix2 i) == x.H Q (ix2 i)) = true) ∧ (x.I P (ix2 i) == x.I Q (ix2 i)) = true) ∧ (x.J P (ix2 i) == x.J Q (ix2 i)) = true) ∧ (x.K P (ix2 i) == x.K Q (ix2 i)) = true) ∧ (x.L P (ix2 i) == x.L Q (ix2 i)) = true) ∧ (x.M P (ix2 i) == x.M Q (ix2 i)) = true) ∧ (x.O P (ix2 i) == x.O Q (ix2 i)) = true) ∧ (x.Q P (ix2 i) == x.Q Q (ix2 i)) = true) ∧ (x.T P (ix2 i) == x.T Q (ix2 i)) = true) ∧ IntKind.i64.wrap (nI i + 1) = nI i + 1)
def pN0_28 (x : MX) (P n c Q m d : Nat) (i : Nat) : Prop := (True ∧ (nI n != nI m) = true)
def pF0_28 (x : MX) (P n c Q m d : Nat) (i : Nat) : Prop := ((((((True ∧ decide (nI i < nI n) = true) ∧ (0 ≤ nI i ∧ nI i < nI n)) ∧ ((0 + i * 15) % 15 = 0 ∧ (0 + i * 15) / 15 < x.RN P)) ∧ (0 ≤ nI i ∧ nI i < nI m)) ∧ ((0 + i * 15) % 15 = 0 ∧ (0 + i * 15) / 15 < x.RN Q)) ∧ (x.A P (ix2 i) == x.A Q (ix2 i)) = false)
def pF1_28 (x : MX) (P n c Q m d : Nat) (i : Nat) : Prop := (((((((True ∧ decide (nI i < nI n) = true) ∧ (0 ≤ nI i ∧ nI i < nI n)) ∧ ((0 + i * 15) % 15 = 0 ∧ (0 + i * 15) / 15 < x.RN P)) ∧ (0 ≤ nI i ∧ nI i < nI m)) ∧ ((0 + i * 15) % 15 = 0 ∧ (0 + i * 15) / 15 < x.RN Q)) ∧ (x.A P (ix2 i) == x.A Q (ix2 i)) = true) ∧ (x.B P (ix2 i) == x.B Q (ix2 i)) = false)
def pF2_28 (x : MX) (P n c Q m d : Nat) (i : Nat) : Prop := ((((((((True ∧ decide (nI i < nI n) = true) ∧ (0 ≤ nI i ∧ nI i < nI n)) ∧ ((0 + i * 15) % 15 = 0 ∧ (0 + i * 15) / 15 < x.RN P)) ∧ (0 ≤ nI i ∧ nI i < nI m)) ∧ ((0 + i * 15) % 15 = 0 ∧ (0 + i * 15) / 15 < x.RN Q)) ∧ (x.A P (ix2 i) == x.A Q (ix2 i)) = true) ∧ (x.B P (ix2 i) == x.B Q (ix2 i)) = true) ∧ (x.C P (ix2 i) == x.C Q (ix2 i)) = false)
def pF3_28 (x : MX) (P n c Q m d : Nat) (i : Nat) : Prop := (((((((((True ∧ decide (nI i < nI n) = true) ∧ (0 ≤ nI i ∧ nI i < nI n)) ∧ ((0 + i * 15) % 15 = 0 ∧ (0 + i * 15) / 15 < x.RN P)) ∧ (0 ≤ nI i ∧ nI i < nI m)) ∧ ((0 + i * 15) % 15 = 0 ∧ (0 + i * 15) / 15 < x.RN Q)) ∧ (x.A P (ix2 i) == x.A Q (ix2 i)) = true) ∧ (x.B P (ix2 i) == x.B Q (ix2 i)) = true) ∧ (x.C P (ix2 i) == x.C Q (ix2 i)) = true) ∧ (x.D P (ix2 i) == x.D Q (ix2 i)) = false)
def pF4_28 (x : MX) (P n c Q m d : Nat) (i : Nat) : Prop := ((((((((((True ∧ decide (nI i < nI n) = true) ∧ (0 ≤ nI i ∧ nI i < nI n)) ∧ ((0 + i * 15) % 15 = 0 ∧ (0 + i * 15) / 15 < x.RN P)) ∧ (0 ≤ nI i ∧ nI i < nI m)) ∧ ((0 + i * 15) % 15 = 0 ∧ (0 + i * 15) / 15 < x.RN Q)) ∧ (x.A P (ix2 i) == x.A Q (ix2 i)) = true) ∧ (x.B P (ix2 i) == x.B Q (ix2 i)) = true) ∧ (x.C P (ix2 i) == x.C Q (ix2 i)) = true) ∧ (x.D P (ix2 i) == x.D Q (ix2 i)) = true) ∧ (x.E P (ix2 i) == x.E Q (ix2 i)) = false)
def pF5_28 (x : MX) (P n c Q m d : Nat) (i : Nat) : Prop := (((((((((((True ∧ decide (nI i < nI n) = true) ∧ (0 ≤ nI i ∧ nI i < nI n)) ∧ ((0 + i * 15) % 15 = 0 ∧ (0 + i * 15) / 15 < x.RN P)) ∧ (0 ≤ nI i ∧ nI i < nI m)) ∧ ((0 + i * 15) % 15 = 0 ∧ (0 + i * 15) / 15 < x.RN Q)) ∧ (x.A P (ix2 i) == x.A Q (ix2 i)) = true) ∧ (x.B P (ix2 i) == x.B Q (ix2 i)) = true) ∧ (x.C P (ix2 i) == x.C Q (ix2 i)) = true) ∧ (x.D P (ix2 i) == x.D Q (ix2 i)) = true) ∧ (x.E P (ix2 i) == x.E Q (ix2 i)) = true) ∧ (x.G P (ix2 i) == x.G Q (ix2 i)) = false)
def pF6_28 (x : MX) (P n c Q m d : Nat) (i : Nat) : Prop := ((((((((((((True ∧ decide (nI i < nI n) = true) ∧ (0 ≤ nI i ∧ nI i < nI n)) ∧ ((0 + i * 15) % 15 = 0 ∧ (0 + i * 15) / 15 < x.RN P)) ∧ (0 ≤ nI i ∧ nI i < nI m)) ∧ ((0 + i * 15) % 15 = 0 ∧ (0 + i * 15) / 15 < x.RN Q)) ∧ (x.A P (ix2 i) == x.A Q (ix2 i)) = true) ∧ (x.B P (ix2 i) == x.B Q (ix2 i)) = true) ∧ (x.C P (ix2 i) == x.C Q (ix2 i)) = true) ∧ (x.D P (ix2 i) == x.D Q (ix2 i)) = true) ∧ (x.E P (ix2 i) == x.E Q (ix2 i)) = true) ∧ (x.G P (ix2 i) == x.G Q (ix2 i)) = true) ∧ (x.H P (ix2 i) == x.H Q (ix2 i)) = false)
def pF7_28 (x : MX) (P n c Q m d : Nat) (i : Nat) : Prop := (((((((((((((True ∧ decide (nI i < nI n) = true) ∧ (0 ≤ nI i ∧ nI i < nI n)) ∧ ((0 + i * 15) % 15 = 0 ∧ (0 + i * 15) / 15 < x.RN P)) ∧ (0 ≤ nI i ∧ nI i < nI m)) ∧ ((0 + i * 15) % 15 = 0 ∧ (0 + i * 15) / 15 < x.RN Q)) ∧ (x.A P (ix2 i) == x.A Q (ix2 i)) = true) ∧ (x.B P (ix2 i) == x.B Q (ix2 i)) = true) ∧ (x.C P (ix2 i) == x.C Q (ix2 i)) = true) ∧ (x.D P (ix2 i) == x.D Q (ix2 i)) = true) ∧ (x.E P (ix2 i) == x.E Q (ix2 i)) = true) ∧ (x.G P (ix2 i) == x.G Q (ix2 i)) = true) ∧ (x.H P (ix2 i) == x.H Q (ix2 i)) = true) ∧ (x.I P (ix2 i) == x.I Q (ix2 i)) = false)
def pF8_28 (x : MX) (P n c Q m d : Nat) (i : Nat) : Prop := ((((((((((((((True ∧ decide (nI i < nI n) = true) ∧ (0 ≤ nI i ∧ nI i < nI n)) ∧ ((0 + i * 15) % 15 = 0 ∧ (0 + i * 15) / 15 < x.RN P)) ∧ (0 ≤ nI i ∧ nI i < nI m)) ∧ ((0 + i * 15) % 15 = 0 ∧ (0 + i * 15) / 15 < x.RN Q)) ∧ (x.A P (ix2 i) == x.A Q (ix2 i)) = true) ∧ (x.B P (ix2 i) == x.B Q (ix2 i)) = true) ∧ (x.C P (ix2 i) == x.C Q (ix2 i)) = true) ∧ (x.D P (ix2 i) == x.D Q (ix2 i)) = true) ∧ (x.E P (ix2 i) == x.E Q (ix2 i)) = true) ∧ (x.G P (ix2 i) == x.G Q (ix2 i)) = true) ∧ (x.H P (ix2 i) == x.H Q (ix2 i)) = true) ∧ (x.I P (ix2 i) == x.I Q (ix2 i)) = true) ∧ (x.J P (ix2 i) == x.J Q (ix2 i)) = false)
def pF9_28 (x : MX) (P n c Q m d : Nat) (i : Nat) : Prop := (((((((((((((((True ∧ decide (nI i < nI n) = true) ∧ (0 ≤ nI i ∧ nI i < nI n)) ∧ ((0 + i * 15) % 15 = 0 ∧ (0 + i * 15) / 15 < x.RN P)) ∧ (0 ≤ nI i ∧ nI i < nI m)) ∧ ((0 + i * 15) % 15 = 0 ∧ (0 + i * 15) / 15 < x.RN Q)) ∧ (x.A P (ix2 i) == x.A Q (ix2 i)) = true) ∧ (x.B P (ix2 i) == x.B Q (ix2 i)) = true) ∧ (x.C P (ix2 i) == x.C Q (ix2 i)) = true) ∧ (x.D P (ix2 i) == x.D Q (ix2 i)) = true) ∧ (x.E P (ix2 i) == x.E Q (ix2 i)) = true) ∧ (x.G P (ix2 i) == x.G Q (ix2 i)) = true) ∧ (x.H P (ix2 i) == x.H Q (ix2 i)) = true) ∧ (x.I P (ix2 i) == x.I Q (ix2 i)) = true) ∧ (x.J P (ix2 i) == x.J Q (ix2 i)) = true) ∧ (x.K P (ix2 i) == x.K Q (ix2 i)) = false)
def pF10_28 (x : MX) (P n c Q m d : Nat) (i : Nat) : Prop := ((((((((((((((((True ∧ decide (nI i < nI n) = true) ∧ (0 ≤ nI i ∧ nI i < nI n)) ∧ ((0 + i * 15) % 15 = 0 ∧ (0 + i * 15) / 15 < x.RN P)) ∧ (0 ≤ nI i ∧ nI i < nI m)) ∧ ((0 + i * 15) % 15 = 0 ∧ (0 + i * 15) / 15 < x.RN Q)) ∧ (x.A P (ix2 i) == x.A Q (ix2 i)) = true) ∧ (x.B P (ix2 i) == x.B Q (ix2 i)) = true) ∧ (x.C P (ix2 i) == x.C Q (ix2 i)) = true) ∧ (x.D P (ix2 i) == x.D Q (ix2 i)) = true) ∧ (x.E P (ix2 i) == x.E Q (ix2 i)) = true) ∧ (x.G P (ix2 i) == x.G Q (ix2 i)) = true) ∧ (x.H P (ix2 i) == x.H Q (ix2 i)) = true) ∧ (x.I P (ix2 i) == x.I Q (ix2 i)) = true) ∧ (x.J P (ix2 i) == x.J Q (ix2 i)) = true) ∧ (x.K P (ix2 i) == x.K Q (ix2 i)) = true) ∧ (x.L P (ix2 i) == x.L Q (ix2 i)) = false)
def pF11_28 (x : MX) (P n c Q m d : Nat) (i : Nat) : Prop := (((((((((((((((((True ∧ decide (nI i < nI n) = true) ∧ (0 ≤ nI i ∧ nI i < nI n)) ∧ ((0 + i * 15) % 15 = 0 ∧ (0 + i * 15) / 15 < x.RN P)) ∧ (0 ≤ nI i ∧ nI i < nI m)) ∧ ((0 + i * 15) % 15 = 0 ∧ (0 + i * 15) / 15 < x.RN Q)) ∧ (x.A P (ix2 i) == x.A Q (ix2 i)) = true) ∧ (x.B P (ix2 i) == x.B Q (ix2 i)) = true) ∧ (x.C P (ix2 i) == x.C Q (ix2 i)) = true) ∧ (x.D P (ix2 i) == x.D Q (ix2 i)) = true) ∧ (x.E P (ix2 i) == x.E Q (ix2 i)) = true) ∧ (x.G P (ix2 i) == x.G Q (ix2 i)) = true) ∧ (x.H P (ix2 i) == x.H Q (ix2 i)) = true) ∧ (x.I P (ix2 i) == x.I Q (ix2 i)) = true) ∧ (x.J P (ix2 i) == x.J Q (ix2 i)) = true) ∧ (x.K P (ix2 i) == x.K Q (ix2 i)) = true) ∧ (x.L P (ix2 i) == x.L Q (ix2 i)) = true) ∧ (x.M P (ix2 i) == x.M Q (ix2 i)) = false)
def pF12_28 (x : MX) (P n c Q m d : Nat) (i : Nat) : Prop := ((((((((((((((((((True ∧ decide (nI i < nI n) = true) ∧ (0 ≤ nI i ∧ nI i < nI n)) ∧ ((0 + i * 15) % 15 = 0 ∧ (0 + i * 15) / 15 < x.RN P)) ∧ (0 ≤ nI i ∧ nI i < nI m)) ∧ ((0 + i * 15) % 15 = 0 ∧ (0 + i * 15) / 15 < x.RN Q)) ∧ (x.A P (ix2 i) == x.A Q (ix2 i)) = true) ∧ (x.B P (ix2 i) == x.B Q (ix2 i)) = true) ∧ (x.C P (ix2 i) == x.C Q (ix2 i)) = true) ∧ (x.D P (ix2 i) == x.D Q (ix2 i)) = true) ∧ (x.E P (ix2 i) == x.E Q (ix2 i)) = true) ∧ (x.G P (ix2 i) == x.G Q (ix2 i)) = true) ∧ (x.H P (ix2 i) == x.H Q (ix2 i)) = true) ∧ (x.I P (ix2 i) == x.I Q (ix2 i)) = true) ∧ (x.J P (ix2 i) == x.J Q (ix2 i)) = true) ∧ (x.K P (ix2 i) == x.K Q (ix2 i)) = true) ∧ (x.L P (ix2 i) == x.L Q (ix2 i)) = true) ∧ (x.M P (ix2 i) == x.M Q (ix2 i)) = true) ∧ (x.O P (ix2 i) == x.O Q (ix2 i)) = false)
def pF13_28 (x : MX) (P n c Q m d : Nat) (i : Nat) : Prop := (((((((((((((((((((True ∧ decide (nI i < nI n) = true) ∧ (0 ≤ nI i ∧ nI i < nI n)) ∧ ((0 + i * 15) % 15 = 0 ∧ (0 + i * 15) / 15 < x.RN P)) ∧ (0 ≤ nI i ∧ nI i < nI m)) ∧ ((0 + i * 15) % 15 = 0 ∧ (0 + i * 15) / 15 < x.RN Q)) ∧ (x.A P (ix2 i) == x.A Q (ix2 i)) = true) ∧ (x.B P (ix2 i) == x.B Q (ix2 i)) = true) ∧ (x.C P (ix2 i) == x.C Q (ix2 i)) = true) ∧ (x.D P (ix2 i) == x.D Q (ix2 i)) = true) ∧ (x.E P (ix2 i) == x.E Q (ix2 i)) = true) ∧ (x.G P (ix2 i) == x.G Q (ix2 i)) = true) ∧ (x.H P (ix2 i) == x.H Q (ix2 i)) = true) ∧ (x.I P (ix2 i) == x.I Q (ix2 i)) = true) ∧ (x.J P (ix2 i) == x.J Q (ix2 i)) = true) ∧ (x.K P (ix2 i) == x.K Q (ix2 i)) = true) ∧ (x.L P (ix2 i) == x.L Q (ix2 i)) = true) ∧ (x.M P (ix2 i) == x.M Q (ix2 i)) = true) ∧ (x.O P (ix2 i) == x.O Q (ix2 i)) = true) ∧ (x.Q P (ix2 i) == x.Q Q (ix2 i)) = false)
def pF14_28 (x : MX) (P n c Q m d : Nat) (i : Nat) : Prop := ((((((((((((((((((((True ∧ decide (nI i < nI n) = true) ∧ (0 ≤ nI i ∧ nI i < nI n)) ∧ ((0 + i * 15) % 15 = 0 ∧ (0 + i * 15) / 15 < x.RN P)) ∧ (0 ≤ nI i ∧ nI i < nI m)) ∧ ((0 + i * 15) % 15 = 0 ∧ (0 + i * 15) / 15 < x.RN Q)) ∧ (x.A P (ix2 i) == x.A Q (ix2 i)) = true) ∧ (x.B P (ix2 i) == x.B Q (ix2 i)) = true) ∧ (x.C P (ix2 i) == x.C Q (ix2 i)) = true) ∧ (x.D P (ix2 i) == x.D Q (ix2 i)) = true) ∧ (x.E P (ix2 i) == x.E Q (ix2 i)) = true) ∧ (x.G P (ix2 i) == x.G Q (ix2 i)) = true) ∧ (x.H P (ix2 i) == x.H Q (ix2 i)) = true) ∧ (x.I P (ix2 i) == x.I Q (ix2 i)) = true) ∧ (x.J P (ix2 i) == x.J Q (ix2 i)) = true) ∧ (x.K P (ix2 i) == x.K Q (ix2 i)) = true) ∧ (x.L P (ix2 i) == x.L Q (ix2 i)) = true) ∧ (x.M P (ix2 i) == x.M Q (ix2 i)) = true) ∧ (x.O P (ix2 i) == x.O Q (ix2 i)) = true) ∧ (x.Q P (ix2 i) == x.Q Q (ix2 i)) = true) ∧ (x.T P (ix2 i) == x.T Q (ix2 i)) = false)
theorem kD28 (x : MX) (P n c Q m d : Nat) : (gd28 KN (z28 x P n c Q m d) [some false]).map (fun r => (r.2, r.1.obl, seenInT BD28 r.1 (s28 x P n c Q m d 0 (VD28 vU)) [0])) = some (.loop l28, pD_28 x P n c Q m d 0, seenAsT BD28 (s28 x P n c Q m d 0 (VD28 vU)) [0] 1) := by kernel_rfl
theorem kN0_28 (x : MX) (P n c Q m d : Nat) : ((mk Tryz.prog KN 200).call 28 (a28 P n c Q m d) (smSt 1 [some (.fam x.F)] [some true])).map (fun r => (r.1, r.2.obl)) = some (.bool false, pN0_28 x P n c Q m d 0) := by kernel_rfl
theorem kR28 (x : MX) (P n c Q m d : Nat) (i : Nat) (v : VF) : (go28 KN l28 (s28 x P n c Q m d i v) [some true, some true, some false, some true, some true, some false, some true, some true, some true, some true, some true, some true, some true, some true, some true, some true, some true, some true, some true, some true, some true, some true, none, some true]).map (fun r => (r.1, r.2.obl, seenInT BR28 r.2 (s28 x P n c Q m d (i + 1) (VR28 v)) [0])) = some (.normal, pR_28 x P n c Q m d i, seenAsT BR28 (s28 x P n c Q m d (i + 1) (VR28 v)) [0] 1) := by kernel_rfl
theorem kX28 (x : MX) (P n c Q m d : Nat) (i : Nat) (v : VF) : (go28 KN l28 (s28 x P n c Q m d i v) [some false]).map (fun r => (r.1, r.2.obl, seenInT BX28 r.2 (s28 x P n c Q m d i (VX28 v)) [0])) = some (.exit 0, True ∧ decide (nI i < nI n) = false, seenAsT BX28 (s28 x P n c Q m d i (VX28 v)) [0] 1) := by kernel_rfl
theorem kF0_28 (x : MX) (P n c Q m d : Nat) (i : Nat) (v : VF) : (go28 KN l28 (s28 x P n c Q m d i v) [some true, some true, some false, some true, some true, some false, some true, some false]).bind (fun r => (results1 Tryz.prog r.2 [.tmp 4]).map fun q => (r.1, q.2.obl, r.2.defers, oneOf q.1)) = some (.ret, pF0_28 x P n c Q m d i, [], .bool false) := by kernel_rfl
theorem kF1_28 (x : MX) (P n c Q m d : Nat) (i : Nat) (v : VF) : (go28 KN l28 (s28 x P n c Q m d i v) [some true, some true, some false, some true, some true, some false, some true, some true, some false]).bind (fun r => (results1 Tryz.prog r.2 [.tmp 4]).map fun q => (r.1, q.2.obl, r.2.defers, oneOf q.1)) = some (.ret, pF1_28 x P n c Q m d i, [], .bool false) := by kernel_rfl
theorem kF2_28 (x : MX) (P n c Q m d : Nat) (i : Nat) (v : VF) : (go28 KN l28 (s28 x P n c Q m d i v) [some true, some true, some false, some true, some true, some false, some true, some true, some true, some false]).bind (fun r => (results1 Tryz.prog r.2 [.tmp 4]).map fun q => (r.1, q.2.obl, r.2.defers, oneOf q.1)) = some (.ret, pF2_28 x P n c Q m d i, [], .bool false) := by kernel_rfl
theorem kF3_28 (x : MX) (P n c Q m d : Nat) (i : Nat) (v : VF) : (go28 KN l28 (s28 x P n c Q m d i v) [some true, some true, some false, some true, some true, some false, some true, some true, some true, some true, some false]).bind (fun r => (results1 Tryz.prog r.2 [.tmp 4]).map fun q => (r.1, q.2.obl, r.2.defers, oneOf q.1)) = some (.ret, pF3_28 x P n c Q m d i, [], .bool false) := by kernel_rfl
theorem kF4_28 (x : MX) (P n c Q m d : Nat) (i : Nat) (v : VF) : (go28 KN l28 (s28 x P n c Q m d i v) [some true, some true, some false, some true, some true, some false, some true, some true, some true, some true, some true, some false]).bind (fun r => (results1 Tryz.prog r.2 [.tmp 4]).map fun q => (r.1, q.2.obl, r.2.defers, oneOf q.1)) = some (.ret, pF4_28 x P n c Q m d i, [], .bool false) := by kernel_rfl
theorem kF5_28 (x : MX) (P n c Q m d : Nat) (i : Nat) (v : VF) : (go28 KN l28 (s28 x P n c Q m d i v) [some true, some true, some false, some true, some true, some false, some true, some true, some true, some true, some true, some true, some false]).bind (fun r => (results1 Tryz.prog r.2 [.tmp 4]).map fun q => (r.1, q.2.obl, r.2.defers, oneOf q.1)) = some (.ret, pF5_28 x P n c Q m d i, [], .bool false) := by kernel_rfl
theorem kF6_28 (x : MX) (P n c Q m d : Nat) (i : Nat) (v : VF) : (go28 KN l28 (s28 x P n c Q m d i v) [some true, some true, some false, some true, some true, some false, some true, some true, some true, some true, some true, some true, some true, some false]).bind (fun r => (results1 Tryz.prog r.2 [.tmp 4]).map fun q => (r.1, q.2.obl, r.2.defers, oneOf q.1)) = some (.ret, pF6_28 x P n c Q m d i, [], .bool false) := by kernel_rfl
theorem kF7_28 (x : MX) (P n c Q m d : Nat) (i : Nat) (v : VF) : (go28 KN l28 (s28 x P n c Q m d i v) [some true, some true, some false, some true, some true, some false, some true, some true, some true, some true, some true, some true, some true, some true, some false]).bind (fun r => (results1 Tryz.prog r.2 [.tmp 4]).map fun q => (r.1, q.2.obl, r.2.defers, oneOf q.1)) = some (.ret, pF7_28 x P n c Q m d i, [], .bool false) := by kernel_rfl
theorem kF8_28 (x : MX) (P n c Q m d : Nat) (i : Nat) (v : VF) : (go28 KN l28 (s28 x P n c Q m d i v) [some true, some true, some false, some true, some true, some false, some true, some true, some true, some true, some true, some true, some true, some true, some true, some false]).bind (fun r => (results1 Tryz.prog r.2 [.tmp 4]).map fun q => (r.1, q.2.obl, r.2.defers, oneOf q.1)) = some (.ret, pF8_28 x P n c Q m d i, [], .bool false) := by kernel_rfl
theorem kF9_28 (x : MX) (P n c Q m d : Nat) (i : Nat) (v : VF) : (go28 KN l28 (s28 x P n c Q m d i v) [some true, some true, some false, some true, some true, some false, some true, some true, some true, some true, some true, some true, some true, some true, some true, some true, some false]).bind (fun r => (results1 Tryz.prog r.2 [.tmp 4]).map fun q => (r.1, q.2.obl, r.2.defers, oneOf q.1)) = some (.ret, pF9_28 x P n c Q m d i, [], .bool false) := by kernel_rfl
theorem kF10_28 (x : MX) (P n c Q m d : Nat) (i : Nat) (v : VF) : (go28 KN l28 (s28 x P n c Q m d i v) [some true, some true, some false, some true, some true, some false, some true, some true, some true, some true, some true, some true, some true, some true, some true, some true, some true, some false]).bind (fun r => (results1 Tryz.prog r.2 [.tmp 4]).map fun q => (r.1, q.2.obl, r.2.defers, oneOf q.1)) = some (.ret, pF10_28 x P n c Q m d i, [], .bool false) := by kernel_rfl
theorem kF11_28 (x : MX) (P n c Q m d : Nat) (i : Nat) (v : VF) : (go28 KN l28 (s28 x P n c Q m d i v) [some true, some true, some false, some true, some true, some false, some true, some true, some true, some true, some true, some true, some true, some true, some true, some true, some true, some true, some false]).bind (fun r => (results1 Tryz.prog r.2 [.tmp 4]).map fun q => (r.1, q.2.obl, r.2.defers, oneOf q.1)) = some (.ret, pF11_28 x P n c Q m d i, [], .bool false) := by kernel_rfl
theorem kF12_28 (x : MX) (P n c Q m d : Nat) (i : Nat) (v : VF) : (go28 KN l28 (s28 x P n c Q m d i v) [some true, some true, some false, some true, some true, some false, some true, some true, some true, some true, some true, some true, some true, some true, some true, some true, some true, some true, some true, some false]).bind (fun r => (results1 Tryz.prog r.2 [.tmp 4]).map fun q => (r.1, q.2.obl, r.2.defers, oneOf q.1)) = some (.ret, pF12_28 x P n c Q m d i, [], .bool false) := by kernel_rfl
theorem kF13_28 (x : MX) (P n c Q m d : Nat) (i : Nat) (v : VF) : (go28 KN l28 (s28 x P n c Q m d i v) [some true, some true, some false, some true, some true, some false, some true, some true, some true, some true, some true, some true, some true, some true, some true, some true, some true, some true, some true, some true, some false]).bind (fun r => (results1 Tryz.prog r.2 [.tmp 4]).map fun q => (r.1, q.2.obl, r.2.defers, oneOf q.1)) = some (.ret, pF13_28 x P n c Q m d i, [], .bool false) := by kernel_rfl
theorem kF14_28 (x : MX) (P n c Q m d : Nat) (i : Nat) (v : VF) : (go28 KN l28 (s28 x P n c Q m d i v) [some true, some true, some false, some true, some true, some false, some true, some true, some true, some true, some true, some true, some true, some true, some true, some true, some true, some true, some true, some true, some true, some false]).bind (fun r => (results1 Tryz.prog r.2 [.tmp 4]).map fun q => (r.1, q.2.obl, r.2.defers, oneOf q.1)) = some (.ret, pF14_28 x P n c Q m d i, [], .bool false) := by kernel_rfl
theorem kE28 (x : MX) (P n c Q m d : Nat) (i : Nat) (v : VF) : (go28 KN e28 (s28 x P n c Q m d i v) []).bind (fun r => (results1 Tryz.prog r.2 [.tmp 4]).map fun q => (r.1, q.2.obl, r.2.defers, oneOf q.1)) = some (.ret, True, [], .bool true) := by kernel_rfl
theorem okD28 (x : MX) (P n c Q m d : Nat) (i : Nat) (v : VF) : picOkT BD28 (z28 x P n c Q m d) (s28 x P n c Q m d i (VD28 v)) [0] = true := by kernel_rfl
theorem okR28 (x : MX) (P n c Q m d : Nat) (i : Nat) (v : VF) : picOkT BR28 (z28 x P n c Q m d) (s28 x P n c Q m d i (VR28 v)) [0] = true := by kernel_rfl
theorem okX28 (x : MX) (P n c Q m d : Nat) (i : Nat) (v : VF) : picOkT BX28 (z28 x P n c Q m d) (s28 x P n c Q m d i (VX28 v)) [0] = true := by kernel_rfl
theorem up28 (x : MX) (P n c Q m d : Nat) (Q_ : Exit → St → Prop) : upQ Tryz.prog none (z28 x P n c Q m d) [2, 2, 3, 2, 0] b28 Q_ = fun e s => (fun e s => (e = .normal ∧ StepG Tryz.prog none (z28 x P n c Q m d) e28 s Q_) ∨ (e ≠ .normal ∧ Q_ e s)) (blockOut 0 e) s := by kernel_rfl
def b15 : Code := ((Tryz.prog.funcs[15]?).bind (·.body)).getD .skip
def l15 : Code := loopB Tryz.prog 15 0
def e15 : Code := dropC 3 b15
theorem fn15 : (Tryz.prog.funcs[15]?).map (fun f => (f.body, f.results.toList, f.ntmps)) = some (some b15, [.tmp 4], 38) := by kernel_rfl
noncomputable abbrev a15 (a b : PV) : List Value := [a.v, b.v]
noncomputable def z15 (x : MX) (a b : PV) : St := { smSt 1 [some (.fam x.F)] [] with tmps := a15 a b ++ List.replicate (38 - (a15 a b).length) undef, defers := [] }
noncomputable def tm15 (v : VF) (a b : PV) (i : Nat) : List Value := (a.v :: b.v :: .pointer (some ⟨1, 0, none⟩) :: .pointer (some ⟨2, 0, none⟩) :: v 4 :: .int .i64 (nI i) :: vs v 6 32 [])
theorem tm15_dead {v : VF} {a b : PV} {i : Nat} {B : Nat → Bool} (h : ∀ i, DeadV (v i)) (hB : ∀ i, ((Nat.ble 0 i && Nat.ble i 3) || Nat.beq i 5) = true → B i = true) : deadT B 0 (tm15 v a b i) :=
  ⟨fun e => absurd e (by rw [hB 0 rfl]; decide), ⟨fun e => absurd e (by rw [hB 1 rfl]; decide), ⟨fun e => absurd e (by rw [hB 2 rfl]; decide), ⟨fun e => absurd e (by rw [hB 3 rfl]; decide), ⟨fun _ => h 4, ⟨fun e => absurd e (by rw [hB 5 rfl]; decide), deadT_vs h 32 (trivial)⟩⟩⟩⟩⟩⟩
noncomputable def h15 (x : MX) (a b : PV) : Nat → Option Ob := fun i => match i with
  | 0 => some (.fam x.F)
  | 1 => some (.cells (.lit a.l) 29)
  | 2 => some (.cells (.lit b.l) 29)
  | _ => none
theorem h15_ok (x : MX) (a b : PV) : Go.Cln.RowsIn (h15 x a b) := by
  intro b n' w' g' t h
  unfold h15 at h
  split at h <;> first | (cases h; done) | cases h
noncomputable def s15 (x : MX) (a b : PV) (i : Nat) (v : VF) : St := ⟨tm15 v a b i, [], Tr.rebuild (h15 x a b) 3, 3, 1, [], fun _ => false, True, []⟩
def go15 (K : Given) (c : Code) (s : St) (o : List (Option Bool)) : Option (Exit × St) := (mk Tryz.prog K 200).code 15 none c { s with obl := True, orc := o }
def gd15 (K : Given) (s : St) (o : List (Option Bool)) : Option (St × Code) := down (mk Tryz.prog K 200) 15 none [2, 2, 3, 2, 0] b15 { s with obl := True, orc := o }
def WD15 (i : Nat) : Bool := Nat.beq i 4 || (Nat.ble 6 i && Nat.ble i 19)
noncomputable def VD15 (v : VF) : VF := fun i => match WD15 i with
  | true => junk
  | false => v i
def BD15 (i : Nat) : Bool := ((Nat.ble 0 i && Nat.ble i 3) || Nat.beq i 5) || WD15 i
theorem VD15_dead {v : VF} (h : ∀ i, DeadV (v i)) (i : Nat) : DeadV (VD15 v i) := by
  unfold VD15
  split
  · exact DeadV.junk
  · exact h i
theorem lvD15 (i : Nat) (h : ((Nat.ble 0 i && Nat.ble i 3) || Nat.beq i 5) = true) : BD15 i = true := by
  unfold BD15
  simp only [Bool.or_eq_true] at h ⊢
  exact .inl h
def WR15 (i : Nat) : Bool := (Nat.ble 20 i && Nat.ble i 30) || (Nat.ble 32 i && Nat.ble i 35) || Nat.beq i 37
noncomputable def VR15 (v : VF) : VF := fun i => match Nat.beq i 31 with
  | true => .agg #[junk, junk, junk, junk, junk, junk, junk, junk, junk, junk, junk, junk, junk, junk, junk]
  | false => match Nat.beq i 36 with
  | true => .agg #[junk, junk, junk, junk, junk, junk, junk, junk, junk, junk, junk, junk, junk, junk, junk]
  | false => match WR15 i with
  | true => junk
  | false => v i
def BR15 (i : Nat) : Bool := ((Nat.ble 0 i && Nat.ble i 3) || Nat.beq i 5) || WR15 i || Nat.beq i 31 || Nat.beq i 36
theorem VR15_dead {v : VF} (h : ∀ i, DeadV (v i)) (i : Nat) : DeadV (VR15 v i) := by
  unfold VR15
  split
  · exact ⟨rfl, fun _ => rfl, fun _ => rfl⟩
  split
  · exact ⟨rfl, fun _ => rfl, fun _ => rfl⟩
  split
  · exact DeadV.junk
  · exact h i
theorem lvR15 (i : Nat) (h : ((Nat.ble 0 i && Nat.ble i 3) || Nat.beq i 5) = true) : BR15 i = true := by
  unfold BR15
  simp only [Bool.or_eq_true] at h ⊢
  refine .inl ?_
  refine .inl ?_
  exact .inl h
def WX15 (i : Nat) : Bool := (Nat.ble 20 i && Nat.ble i 24)
noncomputable def VX15 (v : VF) : VF := fun i => match WX15 i with
  | true => junk
  | false => v i
def BX15 (i : Nat) : Bool := ((Nat.ble 0 i && Nat.ble i 3) || Nat.beq i 5) || WX15 i
theorem VX15_dead {v : VF} (h : ∀ i, DeadV (v i)) (i : Nat) : DeadV (VX15 v i) := by
  unfold VX15
  split
  · exact DeadV.junk
  · exact h i
theorem lvX15 (i : Nat) (h : ((Nat.ble 0 i && Nat.ble i 3) || Nat.beq i 5) = true) : BX15 i = true := by
  unfold BX15
  simp only [Bool.or_eq_true] at h ⊢
  exact .inl h
def pD_15 (x : MX) (a b : PV) (i : Nat) : Prop := ((True ∧ (a.e != b.e) = false) ∧ (nI a.n != nI b.n) = false)
def pR_15 (x : MX) (a b : PV) (i : Nat) : Prop := (((((((((((((((((((((True ∧ decide (nI i < nI a.n) = true) ∧ (0 ≤ nI i ∧ nI i < nI a.n)) ∧ ((0 + i * 15) % 15 = 0 ∧ (0 + i * 15) / 15 < x.RN a.P)) ∧ (0 ≤ nI i ∧ nI i < nI b.n)) ∧ ((0 + i * 15) % 15 = 0 ∧ (0 + i * 15) / 15 < x.RN b.P)) ∧ (x.A a.P (ix2 i) == x.A b.P (ix2 i)) = true) ∧ (x.B a.P (ix2 i) == x.B b.P (ix2 i)) = true) ∧ (x.C a.P (ix2 i) == x.C b.P (ix2 i)) = true) ∧ (x.D a.P (ix2 i) == x.D b.P (ix2 i)) = true) ∧ (x.E a.P (ix2 i) == x.E b.P (ix2 i)) = true) ∧ (x.G a.P (ix2 i) == x.G b.P (ix2 i)) = true) ∧ (x.H a.P (ix2 i) == x.H b.P (ix2 i)) = true) ∧ (x.I a.P (ix2 i) == x.I b.P (ix2 i)) = true) ∧ (x.J a.P (ix2 i) == x.J b.P (ix2 i)) = true) ∧ (x.K a.P (ix2 i) == x.K b.P (ix2 i)) = true) ∧ (x.L a.P (ix2 i) == x.L b.P (ix2 i)) = true) ∧ (x.M a.P (ix2 i) == x.M b.P (ix2 i)) = true) ∧ (x.O a.P (ix2 i) == x.O b.P (ix2 i)) = true) ∧ (x.Q a.P (ix2 i) == x.Q b.P (ix2 i)) = true) ∧ (x.T a.P (ix2 i) == x.T b.P (ix2 i)) = true) ∧ IntKind.i64.wrap (nI i + 1) = nI i + 1)
def pN0_15 (x : MX) (a b : PV) (i : Nat) : Prop := (True ∧ (a.e != b.e) = true)
def pN1_15 (x : MX) (a b : PV) (i : Nat) : Prop := ((True ∧ (a.e != b.e) = false) ∧ (nI a.n != nI b.n) = true)
def pF0_15 (x : MX) (a b : PV) (i : Nat) : Prop := ((((((True ∧ decide (nI i < nI a.n) = true) ∧ (0 ≤ nI i ∧ nI i < nI a.n)) ∧ ((0 + i * 15) % 15 = 0 ∧ (0 + i * 15) / 15 < x.RN a.P)) ∧ (0 ≤ nI i ∧ nI i < nI b.n)) ∧ ((0 + i * 15) % 15 = 0 ∧ (0 + i * 15) / 15 < x.RN b.P)) ∧ (x.A a.P (ix2 i) == x.A b.P (ix2 i)) = false)
def pF1_15 (x : MX) (a b : PV) (i : Nat) : Prop := (((((((True ∧ decide (nI i < nI a.n) = true) ∧ (0 ≤ nI i ∧ nI i < nI a.n)) ∧ ((0 + i * 15) % 15 = 0 ∧ (0 + i * 15) / 15 < x.RN a.P)) ∧ (0 ≤ nI i ∧ nI i < nI b.n)) ∧ ((0 + i * 15) % 15 = 0 ∧ (0 + i * 15) / 15 < x.RN b.P)) ∧ (x.A a.P (ix2 i) == x.A b.P (ix2 i)) = true) ∧ (x.B a.P (ix2 i) == x.B b.P (ix2 i)) = false)
def pF2_15 (x : MX) (a b : PV) (i : Nat) : Prop := ((((((((True ∧ decide (nI i < nI a.n) = true) ∧ (0 ≤ nI i ∧ nI i < nI a.n)) ∧ ((0 + i * 15) % 15 = 0 ∧ (0 + i * 15) / 15 < x.RN a.P)) ∧ (0 ≤ nI i ∧ nI i < nI b.n)) ∧ ((0 + i * 15) % 15 = 0 ∧ (0 + i * 15) / 15 < x.RN b.P)) ∧ (x.A a.P (ix2 i) == x.A b.P (ix2 i)) = true) ∧ (x.B a.P (ix2 i) == x.B b.P (ix2 i)) = true) ∧ (x.C a.P (ix2 i) == x.C b.P (ix2 i)) = false)
def pF3_15 (x : MX) (a b : PV) (i : Nat) : Prop := (((((((((True ∧ decide (nI i < nI a.n) = true) ∧ (0 ≤ nI i ∧ nI i < nI a.n)) ∧ ((0 + i * 15) % 15 = 0 ∧ (0 + i * 15) / 15 < x.RN a.P)) ∧ (0 ≤ nI i ∧ nI i < nI b.n)) ∧ ((0 + i * 15) % 15 = 0 ∧ (0 + i * 15) / 15 < x.RN b.P)) ∧ (x.A a.P (ix2 i) == x.A b.P (ix2 i)) = true) ∧ (x.B a.P (ix2 i) == x.B b.P (ix2 i)) = true) ∧ (x.C a.P (ix2 i) == x.C b.P (ix2 i)) = true) ∧ (x.D a.P (ix2 i) == x.D b.P (ix2 i)) = false)
def pF4_15 (x : MX) (a b : PV) (i : Nat) : Prop := ((((((((((True ∧ decide (nI i < nI a.n) = true) ∧ (0 ≤ nI i ∧ nI i < nI a.n)) ∧ ((0 + i * 15) % 15 = 0 ∧ (0 + i * 15) / 15 < x.RN a.P)) ∧ (0 ≤ nI i ∧ nI i < nI b.n)) ∧ ((0 + i * 15) % 15 = 0 ∧ (0 + i * 15) / 15 < x.RN b.P)) ∧ (x.A a.P (ix2 i) == x.A b.P (ix2 i)) = true) ∧ (x.B a.P (ix2 i) == x.B b.P (ix2 i)) = true) ∧ (x.C a.P (ix2 i) == x.C b.P (ix2 i)) = true) ∧ (x.D a.P (ix2 i) == x.D b.P (ix2 i)) = true) ∧ (x.E a.P (ix2 i) == x.E b.P (ix2 i)) = false)
def pF5_15 (x : MX) (a b : PV) (i : Nat) : Prop := (((((((((((True ∧ decide (nI i < nI a.n) = true) ∧ (0 ≤ nI i ∧ nI i < nI a.n)) ∧ ((0 + i * 15) % 15 = 0 ∧ (0 + i * 15) / 15 < x.RN a.P)) ∧ (0 ≤ nI i ∧ nI i < nI b.n)) ∧ ((0 + i * 15) % 15 = 0 ∧ (0 + i * 15) / 15 < x.RN b.P)) ∧ (x.A a.P (ix2 i) == x.A b.P (ix2 i)) = true) ∧ (x.B a.P (ix2 i) == x.B b.P (ix2 i)) = true) ∧ (x.C a.P (ix2 i) == x.C b.P (ix2 i)) = true) ∧ (x.D a.P (ix2 i) == x.D b.P (ix2 i)) = true) ∧ (x.E a.P (ix2 i) == x.E b.P (ix2 i)) = true) ∧ (x.G a.P (ix2 i) == x.G b.P (ix2 i)) = false)
def pF6_15 (x : MX) (a b : PV) (i : Nat) : Prop := ((((((((((((True ∧ decide (nI i < nI a.n) = true) ∧ (0 ≤ nI i ∧ nI i < nI a.n)) ∧ ((0 + i * 15) % 15 = 0 ∧ (0 + i * 15) / 15 < x.RN a.P)) ∧ (0 ≤ nI i ∧ nI i < nI b.n)) ∧ ((0 + i * 15) % 15 = 0 ∧ (0 + i * 15) / 15 < x.RN b.P)) ∧ (x.A a.P (ix2 i) == x.A b.P (ix2 i)) = true) ∧ (x.B a.P (ix2 i) == x.B b.P (ix2 i)) = true) ∧ (x.C a.P (ix2 i) == x.C b.P (ix2 i)) = true) ∧ (x.D a.P (ix2 i) == x.D b.P (ix2 i)) = true) ∧ (x.E a.P (ix2 i) == x.E b.P (ix2 i)) = true) ∧ (x.G a.P (ix2 i) == x.G b.P (ix2 i)) = true) ∧ (x.H a.P (ix2 i) == x.H b.P (ix2 i)) = false)
def pF7_15 (x : MX) (a b : PV) (i : Nat) : Prop := (((((((((((((True ∧ decide (nI i < nI a.n) = true) ∧ (0 ≤ nI i ∧ nI i < nI a.n)) ∧ ((0 + i * 15) % 15 = 0 ∧ (0 + i * 15) / 15 < x.RN a.P)) ∧ (0 ≤ nI i ∧ nI i < nI b.n)) ∧ ((0 + i * 15) % 15 = 0 ∧ (0 + i * 15) / 15 < x.RN b.P)) ∧ (x.A a.P (ix2 i) == x.A b.P (ix2 i)) = true) ∧ (x.B a.P (ix2 i) == x.B b.P (ix2 i)) = true) ∧ (x.C a.P (ix2 i) == x.C b.P (ix2 i)) = true) ∧ (x.D a.P (ix2 i) == x.D b.P (ix2 i)) = true) ∧ (x.E a.P (ix2 i) == x.E b.P (ix2 i)) = true) ∧ (x.G a.P (ix2 i) == x.G b.P (ix2 i)) = true) ∧ (x.H a.P (ix2 i) == x.H b.P (ix2 i)) = true) ∧ (x.I a.P (ix2 i) == x.I b.P (ix2 i)) = false)
def pF8_15 (x : MX) (a b : PV) (i : Nat) : Prop := ((((((((((((((True ∧ decide (nI i < nI a.n) = true) ∧ (0 ≤ nI i ∧ nI i < nI a.n)) ∧ ((0 + i * 15) % 15 = 0 ∧ (0 + i * 15) / 15 < x.RN a.P)) ∧ (0 ≤ nI i ∧ nI i < nI b.n)) ∧ ((0 + i * 15) % 15 = 0 ∧ (0 + i * 15) / 15 < x.RN b.P)) ∧ (x.A a.P (ix2 i) == x.A b.P (ix2 i)) = true) ∧ (x.B a.P (ix2 i) == x.B b.P (ix2 i)) = true) ∧ (x.C a.P (ix2 i) == x.C b.P (ix2 i)) = true) ∧ (x.D a.P (ix2 i) == x.D b.P (ix2 i)) = true) ∧ (x.E a.P (ix2 i) == x.E b.P (ix2 i)) = true) ∧ (x.G a.P (ix2 i) == x.G b.P (ix2 i)) = true) ∧ (x.H a.P (ix2 i) == x.H b.P (ix2 i)) = true) ∧ (x.I a.P (ix2 i) == x.I b.P (ix2 i)) = true) ∧ (x.J a.P (ix2 i) == x.J b.P (ix2 i)) = false)
def pF9_15 (x : MX) (a b : PV) (i : Nat) : Prop := (((((((((((((((True ∧ decide (nI i < nI a.n) = true) ∧ (0 ≤ nI i ∧ nI i < nI a.n)) ∧ ((0 + i * 15) % 15 = 0 ∧ (0 + i * 15) / 15 < x.RN a.P)) ∧ (0 ≤ nI i ∧ nI i < nI b.n)) ∧ ((0 + i * 15) % 15 = 0 ∧ (0 + i * 15) / 15 < x.RN b.P)) ∧ (x.A a.P (ix2 i) == x.A b.P (ix2 i)) = true) ∧ (x.B a.P (ix2 i) == x.B b.P (ix2 i)) = true) ∧ (x.C a.P (ix2 i) == x.C b.P (ix2 i)) = true) ∧ (x.D a.P (ix2 i) == x.D b.P (ix2 i)) = true) ∧ (x.E a.P (ix2 i) == x.E b.P (ix2 i)) = true) ∧ (x.G a.P (ix2 i) == x.G b.P (ix2 i)) = true) ∧ (x.H a.P (ix2 i) == x.H b.P (ix2 i)) = true) ∧ (x.I a.P (ix2 i) == x.I b.P (ix2 i)) = true) ∧ (x.J a.P (ix2 i) == x.J b.P (ix2 i)) = true) ∧ (x.K a.P (ix2 i) == x.K b.P (ix2 i)) = false)
def pF10_15 (x : MX) (a b : PV) (i : Nat) : Prop := ((((((((((((((((True ∧ decide (nI i < nI a.n) = true) ∧ (0 ≤ nI i ∧ nI i < nI a.n)) ∧ ((0 + i * 15) % 15 = 0 ∧ (0 + i * 15) / 15 < x.RN a.P)) ∧ (0 ≤ nI i ∧ nI i < nI b.n)) ∧ ((0 + i * 15) % 15 = 0 ∧ (0 + i * 15) / 15 < x.RN b.P)) ∧ (x.A a.P (ix2 i) == x.A b.P (ix2 i)) = true) ∧ (x.B a.P (ix2 i) == x.B b.P (ix2 i)) = true) ∧ (x.C a.P (ix2 i) == x.C b.P (ix2 i)) = true) ∧ (x.D a.P (ix2 i) == x.D b.P (ix2 i)) = true) ∧ (x.E a.P (ix2 i) == x.E b.P (ix2 i)) = true) ∧ (x.G a.P (ix2 i) == x.G b.P (ix2 i)) = true) ∧ (x.H a.P (ix2 i) == x.H b.P (ix2 i)) = true) ∧ (x.I a.P (ix2 i) == x.I b.P (ix2 i)) = true) ∧ (x.J a.P (ix2 i) == x.J b.P (ix2 i)) = true) ∧ (x.K a.P (ix2 i) == x.K b.P (ix2 i)) = true) ∧ (x.L a.P (ix2 i) == x.L b.P (ix2 i)) = false)
def pF11_15 (x : MX) (a b : PV) (i : Nat) : Prop := (((((((((((((((((True ∧ decide (nI i < nI a.n) = true) ∧ (0 ≤ nI i ∧ nI i < nI a.n)) ∧ ((0 + i * 15) % 15 = 0 ∧ (0 + i * 15) / 15 < x.RN a.P)) ∧ (0 ≤ nI i ∧ nI i < nI b.n)) ∧ ((0 + i * 15) % 15 = 0 ∧ (0 + i * 15) / 15 < x.RN b.P)) ∧ (x.A a.P (ix2 i) == x.A b.P (ix2 i)) = true) ∧ (x.B a.P (ix2 i) == x.B b.P (ix2 i)) = true) ∧ (x.C a.P (ix2 i) == x.C b.P (ix2 i)) = true) ∧ (x.D a.P (ix2 i) == x.D b.P (ix2 i)) = true) ∧ (x.E a.P (ix2 i) == x.E b.P (ix2 i)) = true) ∧ (x.G a.P (ix2 i) == x.G b.P (ix2 i)) = true) ∧ (x.H a.P (ix2 i) == x.H b.P (ix2 i)) = true) ∧ (x.I a.P (ix2 i) == x.I b.P (ix2 i)) = true) ∧ (x.J a.P (ix2 i) == x.J b.P (ix2 i)) = true) ∧ (x.K a.P (ix2 i) == x.K b.P (ix2 i)) = true) ∧ (x.L a.P (ix2 i) == x.L b.P (ix2 i)) = true) ∧ (x.M a.P (ix2 i) == x.M b.P (ix2 i)) = false)
def pF12_15 (x : MX) (a b : PV) (i : Nat) : Prop := ((((((((((((((((((True ∧ decide (nI i < nI a.n) = true) ∧ (0 ≤ nI i ∧ nI i < nI a.n)) ∧ ((0 + i * 15) % 15 = 0 ∧ (0 + i * 15) / 15 < x.RN a.P)) ∧ (0 ≤ nI i ∧ nI i < nI b.n)) ∧ ((0 + i * 15) % 15 = 0 ∧ (0 + i * 15) / 15 < x.RN b.P)) ∧ (x.A a.P (ix2 i) == x.A b.P (ix2 i)) = true) ∧ (x.B a.P (ix2 i) == x.B b.P (ix2 i)) = true) ∧ (x.C a.P (ix2 i) == x.C b.P (ix2 i)) = true) ∧ (x.D a.P (ix2 i) == x.D b.P (ix2 i)) = true) ∧ (x.E a.P (ix2 i) == x.E b.P (ix2 i)) = true) ∧ (x.G a.P (ix2 i) == x.G b.P (ix2 i)) = true) ∧ (x.H a.P (ix2 i) == x.H b.P (ix2 i)) = true) ∧ (x.I a.P (ix2 i) == x.I b.P (ix2 i)) = true) ∧ (x.J a.P (ix2 i) == x.J b.P (ix2 i)) = true) ∧ (x.K a.P (ix2 i) == x.K b.P (ix2 i)) = true) ∧ (x.L a.P (ix2 i) == x.L b.P (ix2 i)) = true) ∧ (x.M a.P (ix2 i) == x.M b.P (ix2 i)) = true) ∧ (x.O a.P (ix2 i) == x.O b.P (ix2 i)) = false)
def pF13_15 (x : MX) (a b : PV) (i : Nat) : Prop := (((((((((((((((((((True ∧ decide (nI i < nI a.n) = true) ∧ (0 ≤ nI i ∧ nI i < nI a.n)) ∧ ((0 + i * 15) % 15 = 0 ∧ (0 + i * 15) / 15 < x.RN a.P)) ∧ (0 ≤ nI i ∧ nI i < nI b.n)) ∧ ((0 + i * 15) % 15 = 0 ∧ (0 + i * 15) / 15 < x.RN b.P)) ∧ (x.A a.P (ix2 i) == x.A b.P (ix2 i)) = true) ∧ (x.B a.P (ix2 i) == x.B b.P (ix2 i)) = true) ∧ (x.C a.P (ix2 i) == x.C b.P (ix2 i)) = true) ∧ (x.D a.P (ix2 i) == x.D b.P (ix2 i)) = true) ∧ (x.E a.P (ix2 i) == x.E b.P (ix2 i)) = true) ∧ (x.G a.P (ix2 i) == x.G b.P (ix2 i)) = true) ∧ (x.H a.P (ix2 i) == x.H b.P (ix2 i)) = true) ∧ (x.I a.P (ix2 i) == x.I b.P (ix2 i)) = true) ∧ (x.J a.P (ix2 i) == x.J b.P (ix2 i)) = true) ∧ (x.K a.P (ix2 i) == x.K b.P (ix2 i)) = true) ∧ (x.L a.P (ix2 i) == x.L b.P (ix2 i)) = true) ∧ (x.M a.P (ix2 i) == x.M b.P (ix2 i)) = true) ∧ (x.O a.P (ix2 i) == x.O b.P (ix2 i)) = true) ∧ (x.Q a.P (ix2 i) == x.Q b.P (ix2 i)) = false)
def pF14_15 (x : MX) (a b : PV) (i : Nat) : Prop := ((((((((((((((((((((True ∧ decide (nI i < nI a.n) = true) ∧ (0 ≤ nI i ∧ nI i < nI a.n)) ∧ ((0 + i * 15) % 15 = 0 ∧ (0 + i * 15) / 15 < x.RN a.P)) ∧ (0 ≤ nI i ∧ nI i < nI b.n)) ∧ ((0 + i * 15) % 15 = 0 ∧ (0 + i * 15) / 15 < x.RN b.P)) ∧ (x.A a.P (ix2 i) == x.A b.P (ix2 i)) = true) ∧ (x.B a.P (ix2 i) == x.B b.P (ix2 i)) = true) ∧ (x.C a.P (ix2 i) == x.C b.P (ix2 i)) = true) ∧ (x.D a.P (ix2 i) == x.D b.P (ix2 i)) = true) ∧ (x.E a.P (ix2 i) == x.E b.P (ix2 i)) = true) ∧ (x.G a.P (ix2 i) == x.G b.P (ix2 i)) = true) ∧ (x.H a.P (ix2 i) == x.H b.P (ix2 i)) = true) ∧ (x.I a.P (ix2 i) == x.I b.P (ix2 i)) = true) ∧ (x.J a.P (ix2 i) == x.J b.P (ix2 i)) = true) ∧ (x.K a.P (ix2 i) == x.K b.P (ix2 i)) = true) ∧ (x.L a.P (ix2 i) == x.L b.P (ix2 i)) = true) ∧ (x.M a.P (ix2 i) == x.M b.P (ix2 i)) = true) ∧ (x.O a.P (ix2 i) == x.O b.P (ix2 i)) = true) ∧ (x.Q a.P (ix2 i) == x.Q b.P (ix2 i)) = true) ∧ (x.T a.P (ix2 i) == x.T b.P (ix2 i)) = false)
theorem kD15 (x : MX) (a b : PV) : (gd15 KN (z15 x a b) [some false, none, none, none, none, none, none, none, some false]).map (fun r => (r.2, r.1.obl, seenInT BD15 r.1 (s15 x a b 0 (VD15 vU)) [0, 1, 2])) = some (.loop l15, pD_15 x a b 0, seenAsT BD15 (s15 x a b 0 (VD15 vU)) [0, 1, 2] 3) := by kernel_rfl
theorem kN0_15 (x : MX) (a b : PV) : ((mk Tryz.prog KN 200).call 15 (a15 a b) (smSt 1 [some (.fam x.F)] [some true])).map (fun r => (r.1, r.2.obl)) = some (.bool false, pN0_15 x a b 0) := by kernel_rfl
theorem kN1_15 (x : MX) (a b : PV) : ((mk Tryz.prog KN 200).call 15 (a15 a b) (smSt 1 [some (.fam x.F)] [some false, none, none, none, none, none, none, none, some true])).map (fun r => (r.1, r.2.obl)) = some (.bool false, pN1_15 x a b 0) := by kernel_rfl
theorem kR15 (x : MX) (a b : PV) (i : Nat) (v : VF) : (go15 KN l15 (s15 x a b i v) [some true, some true, some false, some true, some true, some false, some true, some true, some true, some true, some true, some true, some true, some true, some true, some true, some true, some true, some true, some true, some true, some true, none, some true]).map (fun r => (r.1, r.2.obl, seenInT BR15 r.2 (s15 x a b (i + 1) (VR15 v)) [0, 1, 2])) = some (.normal, pR_15 x a b i, seenAsT BR15 (s15 x a b (i + 1) (VR15 v)) [0, 1, 2] 3) := by kernel_rfl
theorem kX15 (x : MX) (a b : PV) (i : Nat) (v : VF) : (go15 KN l15 (s15 x a b i v) [some false]).map (fun r => (r.1, r.2.obl, seenInT BX15 r.2 (s15 x a b i (VX15 v)) [0, 1, 2])) = some (.exit 0, True ∧ decide (nI i < nI a.n) = false, seenAsT BX15 (s15 x a b i (VX15 v)) [0, 1, 2] 3) := by kernel_rfl
theorem kF0_15 (x : MX) (a b : PV) (i : Nat) (v : VF) : (go15 KN l15 (s15 x a b i v) [some true, some true, some false, some true, some true, some false, some true, some false]).bind (fun r => (results1 Tryz.prog r.2 [.tmp 4]).map fun q => (r.1, q.2.obl, r.2.defers, oneOf q.1)) = some (.ret, pF0_15 x a b i, [], .bool false) := by kernel_rfl
theorem kF1_15 (x : MX) (a b : PV) (i : Nat) (v : VF) : (go15 KN l15 (s15 x a b i v) [some true, some true, some false, some true, some true, some false, some true, some true, some false]).bind (fun r => (results1 Tryz.prog r.2 [.tmp 4]).map fun q => (r.1, q.2.obl, r.2.defers, oneOf q.1)) = some (.ret, pF1_15 x a b i, [], .bool false) := by kernel_rfl
theorem kF2_15 (x : MX) (a b : PV) (i : Nat) (v : VF) : (go15 KN l15 (s15 x a b i v) [some true, some true, some false, some true, some true, some false, some true, some true, some true, some false]).bind (fun r => (results1 Tryz.prog r.2 [.tmp 4]).map fun q => (r.1, q.2.obl, r.2.defers, oneOf q.1)) = some (.ret, pF2_15 x a b i, [], .bool false) := by kernel_rfl
theorem kF3_15 (x : MX) (a b : PV) (i : Nat) (v : VF) : (go15 KN l15 (s15 x a b i v) [some true, some true, some false, some true, some true, some false, some true, some true, some true, some true, some false]).bind (fun r => (results1 Tryz.prog r.2 [.tmp 4]).map fun q => (r.1, q.2.obl, r.2.defers, oneOf q.1)) = some (.ret, pF3_15 x a b i, [], .bool false) := by kernel_rfl
theorem kF4_15 (x : MX) (a b : PV) (i : Nat) (v : VF) : (go15 KN l15 (s15 x a b i v) [some true, some true, some false, some true, some true, some false, some true, some true, some true, some true, some true, some false]).bind (fun r => (results1 Tryz.prog r.2 [.tmp 4]).map fun q => (r.1, q.2.obl, r.2.defers, oneOf q.1)) = some (.ret, pF4_15 x a b i, [], .bool false) := by kernel_rfl
theorem kF5_15 (x : MX) (a b : PV) (i : Nat) (v : VF) : (go15 KN l15 (s15 x a b i v) [some true, some true, some false, some true, some true, some false, some true, some true, some true, some true, some true, some true, some false]).bind (fun r => (results1 Tryz.prog r.2 [.tmp 4]).map fun q => (r.1, q.2.obl, r.2.defers, oneOf q.1)) = some (.ret, pF5_15 x a b i, [], .bool false) := by kernel_rfl
theorem kF6_15 (x : MX) (a b : PV) (i : Nat) (v : VF) : (go15 KN l15 (s15 x a b i v) [some true, some true, some false, some true, some true, some false, some true, some true, some true, some true, some true, some true, some true, some false]).bind (fun r => (results1 Tryz.prog r.2 [.tmp 4]).map fun q => (r.1, q.2.obl, r.2.defers, oneOf q.1)) = some (.ret, pF6_15 x a b i, [], .bool false) := by kernel_rfl
theorem kF7_15 (x : MX) (a b : PV) (i : Nat) (v : VF) : (go15 KN l15 (s15 x a b i v) [some true, some true, some false, some true, some true, some false, some true, some true, some true, some true, some true, some true, some true, some true, some false]).bind (fun r => (results1 Tryz.prog r.2 [.tmp 4]).map fun q => (r.1, q.2.obl, r.2.defers, oneOf q.1)) = some (.ret, pF7_15 x a b i, [], .bool false) := by kernel_rfl
theorem kF8_15 (x : MX) (a b : PV) (i : Nat) (v : VF) : (go15 KN l15 (s15 x a b i v) [some true, some true, some false, some true, some true, some false, some true, some true, some true, some true, some true, some true, some true, some true, some true, some false]).bind (fun r => (results1 Tryz.prog r.2 [.tmp 4]).map fun q => (r.1, q.2.obl, r.2.defers, oneOf q.1)) = some (.ret, pF8_15 x a b i, [], .bool false) := by kernel_rfl
theorem kF9_15 (x : MX) (a b : PV) (i : Nat) (v : VF) : (go15 KN l15 (s15 x a b i v) [some true, some true, some false, some true, some true, some false, some true, some true, some true, some true, some true, some true, some true, some true, some true, some true, some false]).bind (fun r => (results1 Tryz.prog r.2 [.tmp 4]).map fun q => (r.1, q.2.obl, r.2.defers, oneOf q.1)) = some (.ret, pF9_15 x a b i, [], .bool false) := by kernel_rfl
theorem kF10_15 (x : MX) (a b : PV) (i : Nat) (v : VF) : (go15 KN l15 (s15 x a b i v) [some true, some true, some false, some true, some true, some false, some true, some true, some true, some true, some true, some true, some true, some true, some true, some true, some true, some false]).bind (fun r => (results1 Tryz.prog r.2 [.tmp 4]).map fun q => (r.1, q.2.obl, r.2.defers, oneOf q.1)) = some (.ret, pF10_15 x a b i, [], .bool false) := by kernel_rfl
theorem kF11_15 (x : MX) (a b : PV) (i : Nat) (v : VF) : (go15 KN l15 (s15 x a b i v) [some true, some true, some false, some true, some true, some false, some true, some true, some true, some true, some true, some true, some true, some true, some true, some true, some true, some true, some false]).bind (fun r => (results1 Tryz.prog r.2 [.tmp 4]).map fun q => (r.1, q.2.obl, r.2.defers, oneOf q.1)) = some (.ret, pF11_15 x a b i, [], .bool false) := by kernel_rfl
theorem kF12_15 (x : MX) (a b : PV) (i : Nat) (v : VF) : (go15 KN l15 (s15 x a b i v) [some true, some true, some false, some true, some true, some false, some true, some true, some true, some true, some true, some true, some true, some true, some true, some true, some true, some true, some true, some false]).bind (fun r => (results1 Tryz.prog r.2 [.tmp 4]).map fun q => (r.1, q.2.obl, r.2.defers, oneOf q.1)) = some (.ret, pF12_15 x a b i, [], .bool false) := by kernel_rfl
theorem kF13_15 (x : MX) (a b : PV) (i : Nat) (v : VF) : (go15 KN l15 (s15 x a b i v) [some true, some true, some false, some true, some true, some false, some true, some true, some true, some true, some true, some true, some true, some true, some true, some true, some true, some true, some true, some true, some false]).bind (fun r => (results1 Tryz.prog r.2 [.tmp 4]).map fun q => (r.1, q.2.obl, r.2.defers, oneOf q.1)) = some (.ret, pF13_15 x a b i, [], .bool false) := by kernel_rfl
theorem kF14_15 (x : MX) (a b : PV) (i : Nat) (v : VF) : (go15 KN l15 (s15 x a b i v) [some true, some true, some false, some true, some true, some false, some true, some true, some true, some true, some true, some true, some true, some true, some true, some true, some true, some true, some true, some true, some true, some false]).bind (fun r => (results1 Tryz.prog r.2 [.tmp 4]).map fun q => (r.1, q.2.obl, r.2.defers, oneOf q.1)) = some (.ret, pF14_15 x a b i, [], .bool false) := by kernel_rfl
theorem kE15 (x : MX) (a b : PV) (i : Nat) (v : VF) : (go15 KN e15 (s15 x a b i v) []).bind (fun r => (results1 Tryz.prog r.2 [.tmp 4]).map fun q => (r.1, q.2.obl, r.2.defers, oneOf q.1)) = some (.ret, True, [], .bool true) := by kernel_rfl
theorem okD15 (x : MX) (a b : PV) (i : Nat) (v : VF) : picOkT BD15 (z15 x a b) (s15 x a b i (VD15 v)) [0, 1, 2] = true := by kernel_rfl
theorem okR15 (x : MX) (a b : PV) (i : Nat) (v : VF) : picOkT BR15 (z15 x a b) (s15 x a b i (VR15 v)) [0, 1, 2] = true := by kernel_rfl
theorem okX15 (x : MX) (a b : PV) (i : Nat) (v : VF) : picOkT BX15 (z15 x a b) (s15 x a b i (VX15 v)) [0, 1, 2] = true := by kernel_rfl
theorem up15 (x : MX) (a b : PV) (Q_ : Exit → St → Prop) : upQ Tryz.prog none (z15 x a b) [2, 2, 3, 2, 0] b15 Q_ = fun e s => (fun e s => (e = .normal ∧ StepG Tryz.prog none (z15 x a b) e15 s Q_) ∨ (e ≠ .normal ∧ Q_ e s)) (blockOut 0 e) s := by kernel_rfl
end
end ob
end Go.Proofs.YthpoeegoankpoaaGreat
