/- Read off the code by the clean reading. -/
import Derived.Test.YtopgddoncehhnaaGreatClnQd
import Derived.Test.YtopgddoncehhnaaGreatClnQc
import Derived.Test.YtopgddoncehhnaaGreatRows
import Derived.WalkKit
import Derived.ProofKit
import Derived.Below
import Derived.IntWalk
set_option linter.unusedVariables false
set_option linter.unusedSimpArgs false
set_option linter.deprecated false
set_option maxRecDepth 100000
namespace Go.Proofs.YtopgddoncehhnaaGreat
open Go.ChangeShapes Go.WideShapes Go.ChangeAt Go.RowKit Go.Cln
namespace ob
set_option linter.unusedVariables false
theorem pg : PG Tryz.prog := PG.of (by decide +kernel)
theorem worksRuns : ((mk Tryz.prog Given.nothing 300).call 5 [] (St.start 0 .leaf [])).map (fun r => (r.1, r.2.obl)) = some (.bool true, True) := by kernel_rfl
theorem works (W : World) : Calls Tryz.prog 5 #[] W fun e w' => e = .returned (.bool true) ∧ Below W.heap.size W w' := ran pg (GivenOk.nothing _) worksRuns trivial rfl rfl W
noncomputable section
def vs (v : Nat → Value) (b : Nat) : Nat → List Value → List Value
  | 0, l => l
  | k + 1, l => vs v b k (v (b + k) :: l)
theorem deadT_vs {B : Nat → Bool} {v : Nat → Value} (h : ∀ i, DeadV (v i)) : ∀ (n : Nat) {a b : Nat} {l : List Value}, deadT B (a + n) l → deadT B a (vs v b n l)
  | 0, _, _, _, g => g
  | n + 1, a, b, l, g => deadT_vs h n (a := a) (b := b) (l := v (b + n) :: l) ⟨fun _ => h _, g⟩
abbrev VF := Nat → Value
def vU : VF := fun _ => undef
theorem vU_dead (i : Nat) : DeadV (vU i) := DeadV.undef
def dropC : Nat → Code → Code
  | 0, c => c
  | k + 1, .seq x y => dropC k y
  | _ + 1, c => c
structure MX where
  D : Nat → List Int
  U : Nat → List Int
  LN : Nat → Nat
  LS : Nat → Nat → Bool
  LQ : Nat → Nat → Nat
  LM : Nat → Nat → Nat
  LC : Nat → Nat → Nat
  CN : Nat → Nat
  CK : Nat → Nat → Int
  CQ : Nat → Nat → Nat
  CM : Nat → Nat → Nat
  CC : Nat → Nat → Nat
  PN : Nat → Nat
  PA : Nat → Nat → Int
  PL : Nat → Nat → Int
abbrev PB_ (P n c : Nat) : Value := .slice (some ⟨P, 0, some 1000⟩) n c
abbrev PU (P n c : Nat) : Value := .slice (some ⟨P, 0, some 1001⟩) n c
abbrev PLg (P n c : Nat) : Value := .slice (some ⟨P, 0, some 1002⟩) n c
abbrev PC (P n c : Nat) : Value := .slice (some ⟨P, 0, some 1003⟩) n c
abbrev PP (P n c : Nat) : Value := .slice (some ⟨P, 0, some 1004⟩) n c
def MX.leg (x : MX) (P i : Nat) : List Value := [.bool (x.LS P i), PU (x.LQ P i) (x.LM P i) (x.LC P i)]
def MX.cap (x : MX) (P i : Nat) : List Value := [.int .u8 (x.CK P i), PB_ (x.CQ P i) (x.CM P i) (x.CC P i)]
def MX.pre (x : MX) (P i : Nat) : List Value := [.int .u32 (x.PA P i), .int .u8 (x.PL P i)]
def MX.F (x : MX) (g P : Nat) : Cells := match Nat.beq g 1000 with
  | true => .ints .u8 (x.D P)
  | false => match Nat.beq g 1001 with
  | true => .ints .u32 (x.U P)
  | false => match Nat.beq g 1002 with
  | true => .rows (x.LN P) 2 (x.leg P)
  | false => match Nat.beq g 1003 with
  | true => .rows (x.CN P) 2 (x.cap P)
  | false => .rows (x.PN P) 2 (x.pre P)
theorem beq_ne {n m : Nat} (h : ¬ n = m) : Nat.beq n m = false := by
  cases e : Nat.beq n m with
  | false => rfl
  | true => exact absurd (Nat.eq_of_beq_eq_true e) h
theorem beq_self (n : Nat) : Nat.beq n n = true := Nat.beq_refl n
def strE (x : MX) (P n Q m : Nat) : Bool := beqB (bytesI (((x.D P).drop 0).take n)).toList (bytesI (((x.D Q).drop 0).take m)).toList
def u32E (x : MX) (P Q i : Nat) : Bool := (x.U P).getD (0 + i * 1) 0 == (x.U Q).getD (0 + i * 1) 0
def rowE (x : MX) (P n Q m : Nat) : Bool := Nat.beq n m && allB (u32E x P Q) n
def ix2 (i : Nat) : Nat := (0 + i * 2) / 2
theorem ix2_eq (i : Nat) : ix2 i = i := by unfold ix2; omega
def legE (x : MX) (P Q i : Nat) : Bool := (x.LS P (ix2 i) == x.LS Q (ix2 i)) && rowE x (x.LQ P (ix2 i)) (x.LM P (ix2 i)) (x.LQ Q (ix2 i)) (x.LM Q (ix2 i))
def legsE (x : MX) (P n Q m : Nat) : Bool := Nat.beq n m && allB (legE x P Q) n
def capE (x : MX) (P Q i : Nat) : Bool := (x.CK P (ix2 i) == x.CK Q (ix2 i)) && strE x (x.CQ P (ix2 i)) (x.CM P (ix2 i)) (x.CQ Q (ix2 i)) (x.CM Q (ix2 i))
def capsE (x : MX) (P n Q m : Nat) : Bool := Nat.beq n m && allB (capE x P Q) n
def preE (x : MX) (P Q i : Nat) : Bool := (x.PA P (ix2 i) == x.PA Q (ix2 i)) && (x.PL P (ix2 i) == x.PL Q (ix2 i))
def presE (x : MX) (P n Q m : Nat) : Bool := Nat.beq n m && allB (preE x P Q) n
def bytOk (x : MX) (P n : Nat) : Prop := n ≤ (x.D P).length ∧ n ≤ 1000
def numOk (x : MX) (P n : Nat) : Prop := n ≤ (x.U P).length ∧ n ≤ 1000
def legOk (x : MX) (P n : Nat) : Prop := n ≤ x.LN P ∧ n ≤ 1000 ∧ ∀ i, i < n → numOk x (x.LQ P i) (x.LM P i)
def capOk (x : MX) (P n : Nat) : Prop := n ≤ x.CN P ∧ n ≤ 1000 ∧ ∀ i, i < n → bytOk x (x.CQ P i) (x.CM P i)
def preOk (x : MX) (P n : Nat) : Prop := n ≤ x.PN P ∧ n ≤ 1000
end
end ob
end Go.Proofs.YtopgddoncehhnaaGreat
namespace Go.Proofs.YtopgddoncehhnaaGreat
open Go.ChangeShapes Go.WideShapes Go.ChangeAt Go.RowKit Go.Cln
namespace ob
set_option linter.unusedVariables false
noncomputable section
def KN : Given := { Given.nothing with fits := true }
theorem KN_ok : GivenOk Tryz.prog KN := frames_fits (GivenOk.nothing _) true
def b77 : Code := ((Tryz.prog.funcs[77]?).bind (·.body)).getD .skip
def l77 : Code := loopB Tryz.prog 77 0
def e77 : Code := dropC 3 b77
theorem fn77 : (Tryz.prog.funcs[77]?).map (fun f => (f.body, f.results.toList, f.ntmps)) = some (some b77, [.tmp 4], 26) := by kernel_rfl
noncomputable abbrev a77 (P n c Q m d : Nat) : List Value := [PU P n c, PU Q m d]
noncomputable def z77 (x : MX) (P n c Q m d : Nat) : St := { smSt 1 [some (.fam x.F)] [] with tmps := a77 P n c Q m d ++ List.replicate (26 - (a77 P n c Q m d).length) undef, defers := [] }
noncomputable def tm77 (v : VF) (P n c Q m d : Nat) (i : Nat) : List Value := (PU P n c :: PU Q m d :: vs v 2 10 (.int .i64 (nI n) :: .int .i64 (nI i) :: vs v 14 12 []))
theorem tm77_dead {v : VF} {P n c Q m d : Nat} {i : Nat} {B : Nat → Bool} (h : ∀ i, DeadV (v i)) (hB : ∀ i, ((Nat.ble 0 i && Nat.ble i 1) || (Nat.ble 12 i && Nat.ble i 13)) = true → B i = true) : deadT B 0 (tm77 v P n c Q m d i) :=
  ⟨fun e => absurd e (by rw [hB 0 rfl]; decide), ⟨fun e => absurd e (by rw [hB 1 rfl]; decide), deadT_vs h 10 (⟨fun e => absurd e (by rw [hB 12 rfl]; decide), ⟨fun e => absurd e (by rw [hB 13 rfl]; decide), deadT_vs h 12 (trivial)⟩⟩)⟩⟩
noncomputable def h77 (x : MX) (P n c Q m d : Nat) : Nat → Option Ob := fun i => match i with
  | 0 => some (.fam x.F)
  | _ => none
theorem h77_ok (x : MX) (P n c Q m d : Nat) : Go.Cln.RowsIn (h77 x P n c Q m d) := by
  intro b n' w' g' t h
  unfold h77 at h
  split at h <;> first | (cases h; done) | cases h
noncomputable def s77 (x : MX) (P n c Q m d : Nat) (i : Nat) (v : VF) : St := ⟨tm77 v P n c Q m d i, [], Tr.rebuild (h77 x P n c Q m d) 1, 1, 1, [], fun _ => false, True, []⟩
def go77 (K : Given) (c : Code) (s : St) (o : List (Option Bool)) : Option (Exit × St) := (mk Tryz.prog K 200).code 77 none c { s with obl := True, orc := o }
def gd77 (K : Given) (s : St) (o : List (Option Bool)) : Option (St × Code) := down (mk Tryz.prog K 200) 77 none [2, 2, 3, 2, 0] b77 { s with obl := True, orc := o }
def WD77 (i : Nat) : Bool := Nat.beq i 4 || (Nat.ble 6 i && Nat.ble i 11)
noncomputable def VD77 (v : VF) : VF := fun i => match WD77 i with
  | true => junk
  | false => v i
def BD77 (i : Nat) : Bool := ((Nat.ble 0 i && Nat.ble i 1) || (Nat.ble 12 i && Nat.ble i 13)) || WD77 i
theorem VD77_dead {v : VF} (h : ∀ i, DeadV (v i)) (i : Nat) : DeadV (VD77 v i) := by
  unfold VD77
  split
  · exact DeadV.junk
  · exact h i
theorem lvD77 (i : Nat) (h : ((Nat.ble 0 i && Nat.ble i 1) || (Nat.ble 12 i && Nat.ble i 13)) = true) : BD77 i = true := by
  unfold BD77
  simp only [Bool.or_eq_true] at h ⊢
  exact .inl h
def WR77 (i : Nat) : Bool := Nat.beq i 5 || (Nat.ble 14 i && Nat.ble i 25)
noncomputable def VR77 (v : VF) : VF := fun i => match WR77 i with
  | true => junk
  | false => v i
def BR77 (i : Nat) : Bool := ((Nat.ble 0 i && Nat.ble i 1) || (Nat.ble 12 i && Nat.ble i 13)) || WR77 i
theorem VR77_dead {v : VF} (h : ∀ i, DeadV (v i)) (i : Nat) : DeadV (VR77 v i) := by
  unfold VR77
  split
  · exact DeadV.junk
  · exact h i
theorem lvR77 (i : Nat) (h : ((Nat.ble 0 i && Nat.ble i 1) || (Nat.ble 12 i && Nat.ble i 13)) = true) : BR77 i = true := by
  unfold BR77
  simp only [Bool.or_eq_true] at h ⊢
  exact .inl h
def WX77 (i : Nat) : Bool := Nat.beq i 14
noncomputable def VX77 (v : VF) : VF := fun i => match WX77 i with
  | true => junk
  | false => v i
def BX77 (i : Nat) : Bool := ((Nat.ble 0 i && Nat.ble i 1) || (Nat.ble 12 i && Nat.ble i 13)) || WX77 i
theorem VX77_dead {v : VF} (h : ∀ i, DeadV (v i)) (i : Nat) : DeadV (VX77 v i) := by
  unfold VX77
  split
  · exact DeadV.junk
  · exact h i
theorem lvX77 (i : Nat) (h : ((Nat.ble 0 i && Nat.ble i 1) || (Nat.ble 12 i && Nat.ble i 13)) = true) : BX77 i = true := by
  unfold BX77
  simp only [Bool.or_eq_true] at h ⊢
  exact .inl h
def pD_77 (x : MX) (P n c Q m d : Nat) (i : Nat) : Prop := (True ∧ (nI n != nI m) = false)
def pR_77 (x : MX) (P n c Q m d : Nat) (i : Nat) : Prop := (((((((True ∧ decide (nI i < nI n) = true) ∧ (0 ≤ nI i ∧ nI i < nI n)) ∧ (0 + i * 1 < (x.U P).length)) ∧ (0 ≤ nI i ∧ nI i < nI m)) ∧ (0 + i * 1 < (x.U Q).length)) ∧ ((x.U P).getD (0 + i * 1) 0 != (x.U Q).getD (0 + i * 1) 0) = false) ∧ IntKind.i64.wrap (nI i + 1) = nI i + 1)
def pN0_77 (x : MX) (P n c Q m d : Nat) (i : Nat) : Prop := (True ∧ (nI n != nI m) = true)
def pF0_77 (x : MX) (P n c Q m d : Nat) (i : Nat) : Prop := ((((((True ∧ decide (nI i < nI n) = true) ∧ (0 ≤ nI i ∧ nI i < nI n)) ∧ (0 + i * 1 < (x.U P).length)) ∧ (0 ≤ nI i ∧ nI i < nI m)) ∧ (0 + i * 1 < (x.U Q).length)) ∧ ((x.U P).getD (0 + i * 1) 0 != (x.U Q).getD (0 + i * 1) 0) = true)
theorem kD77 (x : MX) (P n c Q m d : Nat) : (gd77 KN (z77 x P n c Q m d) [some false]).map (fun r => (r.2, r.1.obl, seenInT BD77 r.1 (s77 x P n c Q m d 0 (VD77 vU)) [0])) = some (.loop l77, pD_77 x P n c Q m d 0, seenAsT BD77 (s77 x P n c Q m d 0 (VD77 vU)) [0] 1) := by kernel_rfl
theorem kN0_77 (x : MX) (P n c Q m d : Nat) : ((mk Tryz.prog KN 200).call 77 (a77 P n c Q m d) (smSt 1 [some (.fam x.F)] [some true])).map (fun r => (r.1, r.2.obl)) = some (.bool false, pN0_77 x P n c Q m d 0) := by kernel_rfl
theorem kR77 (x : MX) (P n c Q m d : Nat) (i : Nat) (v : VF) : (go77 KN l77 (s77 x P n c Q m d i v) [some true, some true, some true, some true, some true, some false, some true]).map (fun r => (r.1, r.2.obl, seenInT BR77 r.2 (s77 x P n c Q m d (i + 1) (VR77 v)) [0])) = some (.normal, pR_77 x P n c Q m d i, seenAsT BR77 (s77 x P n c Q m d (i + 1) (VR77 v)) [0] 1) := by kernel_rfl
theorem kX77 (x : MX) (P n c Q m d : Nat) (i : Nat) (v : VF) : (go77 KN l77 (s77 x P n c Q m d i v) [some false]).map (fun r => (r.1, r.2.obl, seenInT BX77 r.2 (s77 x P n c Q m d i (VX77 v)) [0])) = some (.exit 0, True ∧ decide (nI i < nI n) = false, seenAsT BX77 (s77 x P n c Q m d i (VX77 v)) [0] 1) := by kernel_rfl
theorem kF0_77 (x : MX) (P n c Q m d : Nat) (i : Nat) (v : VF) : (go77 KN l77 (s77 x P n c Q m d i v) [some true, some true, some true, some true, some true, some true]).bind (fun r => (results1 Tryz.prog r.2 [.tmp 4]).map fun q => (r.1, q.2.obl, r.2.defers, oneOf q.1)) = some (.ret, pF0_77 x P n c Q m d i, [], .bool false) := by kernel_rfl
theorem kE77 (x : MX) (P n c Q m d : Nat) (i : Nat) (v : VF) : (go77 KN e77 (s77 x P n c Q m d i v) []).bind (fun r => (results1 Tryz.prog r.2 [.tmp 4]).map fun q => (r.1, q.2.obl, r.2.defers, oneOf q.1)) = some (.ret, True, [], .bool true) := by kernel_rfl
theorem okD77 (x : MX) (P n c Q m d : Nat) (i : Nat) (v : VF) : picOkT BD77 (z77 x P n c Q m d) (s77 x P n c Q m d i (VD77 v)) [0] = true := by kernel_rfl
theorem okR77 (x : MX) (P n c Q m d : Nat) (i : Nat) (v : VF) : picOkT BR77 (z77 x P n c Q m d) (s77 x P n c Q m d i (VR77 v)) [0] = true := by kernel_rfl
theorem okX77 (x : MX) (P n c Q m d : Nat) (i : Nat) (v : VF) : picOkT BX77 (z77 x P n c Q m d) (s77 x P n c Q m d i (VX77 v)) [0] = true := by kernel_rfl
theorem up77 (x : MX) (P n c Q m d : Nat) (Q_ : Exit → St → Prop) : upQ Tryz.prog none (z77 x P n c Q m d) [2, 2, 3, 2, 0] b77 Q_ = fun e s => (fun e s => (e = .normal ∧ StepG Tryz.prog none (z77 x P n c Q m d) e77 s Q_) ∨ (e ≠ .normal ∧ Q_ e s)) (blockOut 0 e) s := by kernel_rfl
def b79 : Code := ((Tryz.prog.funcs[79]?).bind (·.body)).getD .skip
def l79 : Code := loopB Tryz.prog 79 0
def e79 : Code := dropC 3 b79
theorem fn79 : (Tryz.prog.funcs[79]?).map (fun f => (f.body, f.results.toList, f.ntmps)) = some (some b79, [.tmp 4], 26) := by kernel_rfl
noncomputable abbrev a79 (P n c Q m d : Nat) : List Value := [PU P n c, PU Q m d]
noncomputable def z79 (x : MX) (P n c Q m d : Nat) : St := { smSt 1 [some (.fam x.F)] [] with tmps := a79 P n c Q m d ++ List.replicate (26 - (a79 P n c Q m d).length) undef, defers := [] }
noncomputable def tm79 (v : VF) (P n c Q m d : Nat) (i : Nat) : List Value := (PU P n c :: PU Q m d :: vs v 2 3 (.int .i64 (nI i) :: vs v 6 20 []))
theorem tm79_dead {v : VF} {P n c Q m d : Nat} {i : Nat} {B : Nat → Bool} (h : ∀ i, DeadV (v i)) (hB : ∀ i, ((Nat.ble 0 i && Nat.ble i 1) || Nat.beq i 5) = true → B i = true) : deadT B 0 (tm79 v P n c Q m d i) :=
  ⟨fun e => absurd e (by rw [hB 0 rfl]; decide), ⟨fun e => absurd e (by rw [hB 1 rfl]; decide), deadT_vs h 3 (⟨fun e => absurd e (by rw [hB 5 rfl]; decide), deadT_vs h 20 (trivial)⟩)⟩⟩
noncomputable def h79 (x : MX) (P n c Q m d : Nat) : Nat → Option Ob := fun i => match i with
  | 0 => some (.fam x.F)
  | _ => none
theorem h79_ok (x : MX) (P n c Q m d : Nat) : Go.Cln.RowsIn (h79 x P n c Q m d) := by
  intro b n' w' g' t h
  unfold h79 at h
  split at h <;> first | (cases h; done) | cases h
noncomputable def s79 (x : MX) (P n c Q m d : Nat) (i : Nat) (v : VF) : St := ⟨tm79 v P n c Q m d i, [], Tr.rebuild (h79 x P n c Q m d) 1, 1, 1, [], fun _ => false, True, []⟩
def go79 (K : Given) (c : Code) (s : St) (o : List (Option Bool)) : Option (Exit × St) := (mk Tryz.prog K 200).code 79 none c { s with obl := True, orc := o }
def gd79 (K : Given) (s : St) (o : List (Option Bool)) : Option (St × Code) := down (mk Tryz.prog K 200) 79 none [2, 2, 3, 2, 0] b79 { s with obl := True, orc := o }
def WD79 (i : Nat) : Bool := Nat.beq i 4 || (Nat.ble 6 i && Nat.ble i 10)
noncomputable def VD79 (v : VF) : VF := fun i => match WD79 i with
  | true => junk
  | false => v i
def BD79 (i : Nat) : Bool := ((Nat.ble 0 i && Nat.ble i 1) || Nat.beq i 5) || WD79 i
theorem VD79_dead {v : VF} (h : ∀ i, DeadV (v i)) (i : Nat) : DeadV (VD79 v i) := by
  unfold VD79
  split
  · exact DeadV.junk
  · exact h i
theorem lvD79 (i : Nat) (h : ((Nat.ble 0 i && Nat.ble i 1) || Nat.beq i 5) = true) : BD79 i = true := by
  unfold BD79
  simp only [Bool.or_eq_true] at h ⊢
  exact .inl h
def WR79 (i : Nat) : Bool := (Nat.ble 11 i && Nat.ble i 25)
noncomputable def VR79 (v : VF) : VF := fun i => match WR79 i with
  | true => junk
  | false => v i
def BR79 (i : Nat) : Bool := ((Nat.ble 0 i && Nat.ble i 1) || Nat.beq i 5) || WR79 i
theorem VR79_dead {v : VF} (h : ∀ i, DeadV (v i)) (i : Nat) : DeadV (VR79 v i) := by
  unfold VR79
  split
  · exact DeadV.junk
  · exact h i
theorem lvR79 (i : Nat) (h : ((Nat.ble 0 i && Nat.ble i 1) || Nat.beq i 5) = true) : BR79 i = true := by
  unfold BR79
  simp only [Bool.or_eq_true] at h ⊢
  exact .inl h
def WX79 (i : Nat) : Bool := (Nat.ble 11 i && Nat.ble i 14)
noncomputable def VX79 (v : VF) : VF := fun i => match WX79 i with
  | true => junk
  | false => v i
def BX79 (i : Nat) : Bool := ((Nat.ble 0 i && Nat.ble i 1) || Nat.beq i 5) || WX79 i
theorem VX79_dead {v : VF} (h : ∀ i, DeadV (v i)) (i : Nat) : DeadV (VX79 v i) := by
  unfold VX79
  split
  · exact DeadV.junk
  · exact h i
theorem lvX79 (i : Nat) (h : ((Nat.ble 0 i && Nat.ble i 1) || Nat.beq i 5) = true) : BX79 i = true := by
  unfold BX79
  simp only [Bool.or_eq_true] at h ⊢
  exact .inl h
def pD_79 (x : MX) (P n c Q m d : Nat) (i : Nat) : Prop := (True ∧ (nI n != nI m) = false)
def pR_79 (x : MX) (P n c Q m d : Nat) (i : Nat) : Prop := (((((((True ∧ decide (nI i < nI n) = true) ∧ (0 ≤ nI i ∧ nI i < nI n)) ∧ (0 + i * 1 < (x.U P).length)) ∧ (0 ≤ nI i ∧ nI i < nI m)) ∧ (0 + i * 1 < (x.U Q).length)) ∧ ((x.U P).getD (0 + i * 1) 0 != (x.U Q).getD (0 + i * 1) 0) = false) ∧ IntKind.i64.wrap (nI i + 1) = nI i + 1)
def pN0_79 (x : MX) (P n c Q m d : Nat) (i : Nat) : Prop := (True ∧ (nI n != nI m) = true)
def pF0_79 (x : MX) (P n c Q m d : Nat) (i : Nat) : Prop := ((((((True ∧ decide (nI i < nI n) = true) ∧ (0 ≤ nI i ∧ nI i < nI n)) ∧ (0 + i * 1 < (x.U P).length)) ∧ (0 ≤ nI i ∧ nI i < nI m)) ∧ (0 + i * 1 < (x.U Q).length)) ∧ ((x.U P).getD (0 + i * 1) 0 != (x.U Q).getD (0 + i * 1) 0) = true)
theorem kD79 (x : MX) (P n c Q m d : Nat) : (gd79 KN (z79 x P n c Q m d) [some false]).map (fun r => (r.2, r.1.obl, seenInT BD79 r.1 (s79 x P n c Q m d 0 (VD79 vU)) [0])) = some (.loop l79, pD_79 x P n c Q m d 0, seenAsT BD79 (s79 x P n c Q m d 0 (VD79 vU)) [0] 1) := by kernel_rfl
theorem kN0_79 (x : MX) (P n c Q m d : Nat) : ((mk Tryz.prog KN 200).call 79 (a79 P n c Q m d) (smSt 1 [some (.fam x.F)] [some true])).map (fun r => (r.1, r.2.obl)) = some (.bool false, pN0_79 x P n c Q m d 0) := by kernel_rfl
theorem kR79 (x : MX) (P n c Q m d : Nat) (i : Nat) (v : VF) : (go79 KN l79 (s79 x P n c Q m d i v) [some true, some true, some true, some true, some true, some false, some true]).map (fun r => (r.1, r.2.obl, seenInT BR79 r.2 (s79 x P n c Q m d (i + 1) (VR79 v)) [0])) = some (.normal, pR_79 x P n c Q m d i, seenAsT BR79 (s79 x P n c Q m d (i + 1) (VR79 v)) [0] 1) := by kernel_rfl
theorem kX79 (x : MX) (P n c Q m d : Nat) (i : Nat) (v : VF) : (go79 KN l79 (s79 x P n c Q m d i v) [some false]).map (fun r => (r.1, r.2.obl, seenInT BX79 r.2 (s79 x P n c Q m d i (VX79 v)) [0])) = some (.exit 0, True ∧ decide (nI i < nI n) = false, seenAsT BX79 (s79 x P n c Q m d i (VX79 v)) [0] 1) := by kernel_rfl
theorem kF0_79 (x : MX) (P n c Q m d : Nat) (i : Nat) (v : VF) : (go79 KN l79 (s79 x P n c Q m d i v) [some true, some true, some true, some true, some true, some true]).bind (fun r => (results1 Tryz.prog r.2 [.tmp 4]).map fun q => (r.1, q.2.obl, r.2.defers, oneOf q.1)) = some (.ret, pF0_79 x P n c Q m d i, [], .bool false) := by kernel_rfl
theorem kE79 (x : MX) (P n c Q m d : Nat) (i : Nat) (v : VF) : (go79 KN e79 (s79 x P n c Q m d i v) []).bind (fun r => (results1 Tryz.prog r.2 [.tmp 4]).map fun q => (r.1, q.2.obl, r.2.defers, oneOf q.1)) = some (.ret, True, [], .bool true) := by kernel_rfl
theorem okD79 (x : MX) (P n c Q m d : Nat) (i : Nat) (v : VF) : picOkT BD79 (z79 x P n c Q m d) (s79 x P n c Q m d i (VD79 v)) [0] = true := by kernel_rfl
theorem okR79 (x : MX) (P n c Q m d : Nat) (i : Nat) (v : VF) : picOkT BR79 (z79 x P n c Q m d) (s79 x P n c Q m d i (VR79 v)) [0] = true := by kernel_rfl
theorem okX79 (x : MX) (P n c Q m d : Nat) (i : Nat) (v : VF) : picOkT BX79 (z79 x P n c Q m d) (s79 x P n c Q m d i (VX79 v)) [0] = true := by kernel_rfl
theorem up79 (x : MX) (P n c Q m d : Nat) (Q_ : Exit → St → Prop) : upQ Tryz.prog none (z79 x P n c Q m d) [2, 2, 3, 2, 0] b79 Q_ = fun e s => (fun e s => (e = .normal ∧ StepG Tryz.prog none (z79 x P n c Q m d) e79 s Q_) ∨ (e ≠ .normal ∧ Q_ e s)) (blockOut 0 e) s := by kernel_rfl
def b31 : Code := ((Tryz.prog.funcs[31]?).bind (·.body)).getD .skip
def l31 : Code := loopB Tryz.prog 31 0
def e31 : Code := dropC 3 b31
theorem fn31 : (Tryz.prog.funcs[31]?).map (fun f => (f.body, f.results.toList, f.ntmps)) = some (some b31, [.tmp 4], 26) := by kernel_rfl
noncomputable abbrev a31 (P n c Q m d : Nat) : List Value := [PP P n c, PP Q m d]
noncomputable def z31 (x : MX) (P n c Q m d : Nat) : St := { smSt 1 [some (.fam x.F)] [] with tmps := a31 P n c Q m d ++ List.replicate (26 - (a31 P n c Q m d).length) undef, defers := [] }
noncomputable def tm31 (v : VF) (P n c Q m d : Nat) (i : Nat) : List Value := (PP P n c :: PP Q m d :: vs v 2 10 (.int .i64 (nI n) :: .int .i64 (nI i) :: vs v 14 12 []))
theorem tm31_dead {v : VF} {P n c Q m d : Nat} {i : Nat} {B : Nat → Bool} (h : ∀ i, DeadV (v i)) (hB : ∀ i, ((Nat.ble 0 i && Nat.ble i 1) || (Nat.ble 12 i && Nat.ble i 13)) = true → B i = true) : deadT B 0 (tm31 v P n c Q m d i) :=
  ⟨fun e => absurd e (by rw [hB 0 rfl]; decide), ⟨fun e => absurd e (by rw [hB 1 rfl]; decide), deadT_vs h 10 (⟨fun e => absurd e (by rw [hB 12 rfl]; decide), ⟨fun e => absurd e (by rw [hB 13 rfl]; decide), deadT_vs h 12 (trivial)⟩⟩)⟩⟩
noncomputable def h31 (x : MX) (P n c Q m d : Nat) : Nat → Option Ob := fun i => match i with
  | 0 => some (.fam x.F)
  | _ => none
theorem h31_ok (x : MX) (P n c Q m d : Nat) : Go.Cln.RowsIn (h31 x P n c Q m d) := by
  intro b n' w' g' t h
  unfold h31 at h
  split at h <;> first | (cases h; done) | cases h
noncomputable def s31 (x : MX) (P n c Q m d : Nat) (i : Nat) (v : VF) : St := ⟨tm31 v P n c Q m d i, [], Tr.rebuild (h31 x P n c Q m d) 1, 1, 1, [], fun _ => false, True, []⟩
def go31 (K : Given) (c : Code) (s : St) (o : List (Option Bool)) : Option (Exit × St) := (mk Tryz.prog K 200).code 31 none c { s with obl := True, orc := o }
def gd31 (K : Given) (s : St) (o : List (Option Bool)) : Option (St × Code) := down (mk Tryz.prog K 200) 31 none [2, 2, 3, 2, 0] b31 { s with obl := True, orc := o }
def WD31 (i : Nat) : Bool := Nat.beq i 4 || (Nat.ble 6 i && Nat.ble i 11)
noncomputable def VD31 (v : VF) : VF := fun i => match WD31 i with
  | true => junk
  | false => v i
def BD31 (i : Nat) : Bool := ((Nat.ble 0 i && Nat.ble i 1) || (Nat.ble 12 i && Nat.ble i 13)) || WD31 i
theorem VD31_dead {v : VF} (h : ∀ i, DeadV (v i)) (i : Nat) : DeadV (VD31 v i) := by
  unfold VD31
  split
  · exact DeadV.junk
  · exact h i
theorem lvD31 (i : Nat) (h : ((Nat.ble 0 i && Nat.ble i 1) || (Nat.ble 12 i && Nat.ble i 13)) = true) : BD31 i = true := by
  unfold BD31
  simp only [Bool.or_eq_true] at h ⊢
  exact .inl h
def WR31 (i : Nat) : Bool := Nat.beq i 5 || (Nat.ble 14 i && Nat.ble i 18) || (Nat.ble 20 i && Nat.ble i 22) || (Nat.ble 24 i && Nat.ble i 25)
noncomputable def VR31 (v : VF) : VF := fun i => match Nat.beq i 19 with
  | true => .agg #[junk, junk]
  | false => match Nat.beq i 23 with
  | true => .agg #[junk, junk]
  | false => match WR31 i with
  | true => junk
  | false => v i
def BR31 (i : Nat) : Bool := ((Nat.ble 0 i && Nat.ble i 1) || (Nat.ble 12 i && Nat.ble i 13)) || WR31 i || Nat.beq i 19 || Nat.beq i 23
theorem VR31_dead {v : VF} (h : ∀ i, DeadV (v i)) (i : Nat) : DeadV (VR31 v i) := by
  unfold VR31
  split
  · exact ⟨rfl, fun _ => rfl, fun _ => rfl⟩
  split
  · exact ⟨rfl, fun _ => rfl, fun _ => rfl⟩
  split
  · exact DeadV.junk
  · exact h i
theorem lvR31 (i : Nat) (h : ((Nat.ble 0 i && Nat.ble i 1) || (Nat.ble 12 i && Nat.ble i 13)) = true) : BR31 i = true := by
  unfold BR31
  simp only [Bool.or_eq_true] at h ⊢
  refine .inl ?_
  refine .inl ?_
  exact .inl h
def WX31 (i : Nat) : Bool := Nat.beq i 14
noncomputable def VX31 (v : VF) : VF := fun i => match WX31 i with
  | true => junk
  | false => v i
def BX31 (i : Nat) : Bool := ((Nat.ble 0 i && Nat.ble i 1) || (Nat.ble 12 i && Nat.ble i 13)) || WX31 i
theorem VX31_dead {v : VF} (h : ∀ i, DeadV (v i)) (i : Nat) : DeadV (VX31 v i) := by
  unfold VX31
  split
  · exact DeadV.junk
  · exact h i
theorem lvX31 (i : Nat) (h : ((Nat.ble 0 i && Nat.ble i 1) || (Nat.ble 12 i && Nat.ble i 13)) = true) : BX31 i = true := by
  unfold BX31
  simp only [Bool.or_eq_true] at h ⊢
  exact .inl h
def pD_31 (x : MX) (P n c Q m d : Nat) (i : Nat) : Prop := (True ∧ (nI n != nI m) = false)
def pR_31 (x : MX) (P n c Q m d : Nat) (i : Nat) : Prop := ((((((((True ∧ decide (nI i < nI n) = true) ∧ (0 ≤ nI i ∧ nI i < nI n)) ∧ ((0 + i * 2) % 2 = 0 ∧ (0 + i * 2) / 2 < x.PN P)) ∧ (0 ≤ nI i ∧ nI i < nI m)) ∧ ((0 + i * 2) % 2 = 0 ∧ (0 + i * 2) / 2 < x.PN Q)) ∧ (x.PA P (ix2 i) == x.PA Q (ix2 i)) = true) ∧ (x.PL P (ix2 i) == x.PL Q (ix2 i)) = true) ∧ IntKind.i64.wrap (nI i + 1) = nI i + 1)
def pN0_31 (x : MX) (P n c Q m d : Nat) (i : Nat) : Prop := (True ∧ (nI n != nI m) = true)
def pF0_31 (x : MX) (P n c Q m d : Nat) (i : Nat) : Prop := ((((((True ∧ decide (nI i < nI n) = true) ∧ (0 ≤ nI i ∧ nI i < nI n)) ∧ ((0 + i * 2) % 2 = 0 ∧ (0 + i * 2) / 2 < x.PN P)) ∧ (0 ≤ nI i ∧ nI i < nI m)) ∧ ((0 + i * 2) % 2 = 0 ∧ (0 + i * 2) / 2 < x.PN Q)) ∧ (x.PA P (ix2 i) == x.PA Q (ix2 i)) = false)
def pF1_31 (x : MX) (P n c Q m d : Nat) (i : Nat) : Prop := (((((((True ∧ decide (nI i < nI n) = true) ∧ (0 ≤ nI i ∧ nI i < nI n)) ∧ ((0 + i * 2) % 2 = 0 ∧ (0 + i * 2) / 2 < x.PN P)) ∧ (0 ≤ nI i ∧ nI i < nI m)) ∧ ((0 + i * 2) % 2 = 0 ∧ (0 + i * 2) / 2 < x.PN Q)) ∧ (x.PA P (ix2 i) == x.PA Q (ix2 i)) = true) ∧ (x.PL P (ix2 i) == x.PL Q (ix2 i)) = false)
theorem kD31 (x : MX) (P n c Q m d : Nat) : (gd31 KN (z31 x P n c Q m d) [some false]).map (fun r => (r.2, r.1.obl, seenInT BD31 r.1 (s31 x P n c Q m d 0 (VD31 vU)) [0])) = some (.loop l31, pD_31 x P n c Q m d 0, seenAsT BD31 (s31 x P n c Q m d 0 (VD31 vU)) [0] 1) := by kernel_rfl
theorem kN0_31 (x : MX) (P n c Q m d : Nat) : ((mk Tryz.prog KN 200).call 31 (a31 P n c Q m d) (smSt 1 [some (.fam x.F)] [some true])).map (fun r => (r.1, r.2.obl)) = some (.bool false, pN0_31 x P n c Q m d 0) := by kernel_rfl
theorem kR31 (x : MX) (P n c Q m d : Nat) (i : Nat) (v : VF) : (go31 KN l31 (s31 x P n c Q m d i v) [some true, some true, some false, some true, some true, some false, some true, some true, some true, none, some true]).map (fun r => (r.1, r.2.obl, seenInT BR31 r.2 (s31 x P n c Q m d (i + 1) (VR31 v)) [0])) = some (.normal, pR_31 x P n c Q m d i, seenAsT BR31 (s31 x P n c Q m d (i + 1) (VR31 v)) [0] 1) := by kernel_rfl
theorem kX31 (x : MX) (P n c Q m d : Nat) (i : Nat) (v : VF) : (go31 KN l31 (s31 x P n c Q m d i v) [some false]).map (fun r => (r.1, r.2.obl, seenInT BX31 r.2 (s31 x P n c Q m d i (VX31 v)) [0])) = some (.exit 0, True ∧ decide (nI i < nI n) = false, seenAsT BX31 (s31 x P n c Q m d i (VX31 v)) [0] 1) := by kernel_rfl
theorem kF0_31 (x : MX) (P n c Q m d : Nat) (i : Nat) (v : VF) : (go31 KN l31 (s31 x P n c Q m d i v) [some true, some true, some false, some true, some true, some false, some true, some false]).bind (fun r => (results1 Tryz.prog r.2 [.tmp 4]).map fun q => (r.1, q.2.obl, r.2.defers, oneOf q.1)) = some (.ret, pF0_31 x P n c Q m d i, [], .bool false) := by kernel_rfl
theorem kF1_31 (x : MX) (P n c Q m d : Nat) (i : Nat) (v : VF) : (go31 KN l31 (s31 x P n c Q m d i v) [some true, some true, some false, some true, some true, some false, some true, some true, some false]).bind (fun r => (results1 Tryz.prog r.2 [.tmp 4]).map fun q => (r.1, q.2.obl, r.2.defers, oneOf q.1)) = some (.ret, pF1_31 x P n c Q m d i, [], .bool false) := by kernel_rfl
theorem kE31 (x : MX) (P n c Q m d : Nat) (i : Nat) (v : VF) : (go31 KN e31 (s31 x P n c Q m d i v) []).bind (fun r => (results1 Tryz.prog r.2 [.tmp 4]).map fun q => (r.1, q.2.obl, r.2.defers, oneOf q.1)) = some (.ret, True, [], .bool true) := by kernel_rfl
theorem okD31 (x : MX) (P n c Q m d : Nat) (i : Nat) (v : VF) : picOkT BD31 (z31 x P n c Q m d) (s31 x P n c Q m d i (VD31 v)) [0] = true := by kernel_rfl
theorem okR31 (x : MX) (P n c Q m d : Nat) (i : Nat) (v : VF) : picOkT BR31 (z31 x P n c Q m d) (s31 x P n c Q m d i (VR31 v)) [0] = true := by kernel_rfl
theorem okX31 (x : MX) (P n c Q m d : Nat) (i : Nat) (v : VF) : picOkT BX31 (z31 x P n c Q m d) (s31 x P n c Q m d i (VX31 v)) [0] = true := by kernel_rfl
theorem up31 (x : MX) (P n c Q m d : Nat) (Q_ : Exit → St → Prop) : upQ Tryz.prog none (z31 x P n c Q m d) [2, 2, 3, 2, 0] b31 Q_ = fun e s => (fun e s => (e = .normal ∧ StepG Tryz.prog none (z31 x P n c Q m d) e31 s Q_) ∨ (e ≠ .normal ∧ Q_ e s)) (blockOut 0 e) s := by kernel_rfl
def b33 : Code := ((Tryz.prog.funcs[33]?).bind (·.body)).getD .skip
def l33 : Code := loopB Tryz.prog 33 0
def e33 : Code := dropC 3 b33
theorem fn33 : (Tryz.prog.funcs[33]?).map (fun f => (f.body, f.results.toList, f.ntmps)) = some (some b33, [.tmp 4], 26) := by kernel_rfl
noncomputable abbrev a33 (P n c Q m d : Nat) : List Value := [PP P n c, PP Q m d]
noncomputable def z33 (x : MX) (P n c Q m d : Nat) : St := { smSt 1 [some (.fam x.F)] [] with tmps := a33 P n c Q m d ++ List.replicate (26 - (a33 P n c Q m d).length) undef, defers := [] }
noncomputable def tm33 (v : VF) (P n c Q m d : Nat) (i : Nat) : List Value := (PP P n c :: PP Q m d :: vs v 2 3 (.int .i64 (nI i) :: vs v 6 20 []))
theorem tm33_dead {v : VF} {P n c Q m d : Nat} {i : Nat} {B : Nat → Bool} (h : ∀ i, DeadV (v i)) (hB : ∀ i, ((Nat.ble 0 i && Nat.ble i 1) || Nat.beq i 5) = true → B i = true) : deadT B 0 (tm33 v P n c Q m d i) :=
  ⟨fun e => absurd e (by rw [hB 0 rfl]; decide), ⟨fun e => absurd e (by rw [hB 1 rfl]; decide), deadT_vs h 3 (⟨fun e => absurd e (by rw [hB 5 rfl]; decide), deadT_vs h 20 (trivial)⟩)⟩⟩
noncomputable def h33 (x : MX) (P n c Q m d : Nat) : Nat → Option Ob := fun i => match i with
  | 0 => some (.fam x.F)
  | _ => none
theorem h33_ok (x : MX) (P n c Q m d : Nat) : Go.Cln.RowsIn (h33 x P n c Q m d) := by
  intro b n' w' g' t h
  unfold h33 at h
  split at h <;> first | (cases h; done) | cases h
noncomputable def s33 (x : MX) (P n c Q m d : Nat) (i : Nat) (v : VF) : St := ⟨tm33 v P n c Q m d i, [], Tr.rebuild (h33 x P n c Q m d) 1, 1, 1, [], fun _ => false, True, []⟩
def go33 (K : Given) (c : Code) (s : St) (o : List (Option Bool)) : Option (Exit × St) := (mk Tryz.prog K 200).code 33 none c { s with obl := True, orc := o }
def gd33 (K : Given) (s : St) (o : List (Option Bool)) : Option (St × Code) := down (mk Tryz.prog K 200) 33 none [2, 2, 3, 2, 0] b33 { s with obl := True, orc := o }
def WD33 (i : Nat) : Bool := Nat.beq i 4 || (Nat.ble 6 i && Nat.ble i 10)
noncomputable def VD33 (v : VF) : VF := fun i => match WD33 i with
  | true => junk
  | false => v i
def BD33 (i : Nat) : Bool := ((Nat.ble 0 i && Nat.ble i 1) || Nat.beq i 5) || WD33 i
theorem VD33_dead {v : VF} (h : ∀ i, DeadV (v i)) (i : Nat) : DeadV (VD33 v i) := by
  unfold VD33
  split
  · exact DeadV.junk
  · exact h i
theorem lvD33 (i : Nat) (h : ((Nat.ble 0 i && Nat.ble i 1) || Nat.beq i 5) = true) : BD33 i = true := by
  unfold BD33
  simp only [Bool.or_eq_true] at h ⊢
  exact .inl h
def WR33 (i : Nat) : Bool := (Nat.ble 11 i && Nat.ble i 19) || (Nat.ble 21 i && Nat.ble i 23) || Nat.beq i 25
noncomputable def VR33 (v : VF) : VF := fun i => match Nat.beq i 20 with
  | true => .agg #[junk, junk]
  | false => match Nat.beq i 24 with
  | true => .agg #[junk, junk]
  | false => match WR33 i with
  | true => junk
  | false => v i
def BR33 (i : Nat) : Bool := ((Nat.ble 0 i && Nat.ble i 1) || Nat.beq i 5) || WR33 i || Nat.beq i 20 || Nat.beq i 24
theorem VR33_dead {v : VF} (h : ∀ i, DeadV (v i)) (i : Nat) : DeadV (VR33 v i) := by
  unfold VR33
  split
  · exact ⟨rfl, fun _ => rfl, fun _ => rfl⟩
  split
  · exact ⟨rfl, fun _ => rfl, fun _ => rfl⟩
  split
  · exact DeadV.junk
  · exact h i
theorem lvR33 (i : Nat) (h : ((Nat.ble 0 i && Nat.ble i 1) || Nat.beq i 5) = true) : BR33 i = true := by
  unfold BR33
  simp only [Bool.or_eq_true] at h ⊢
  refine .inl ?_
  refine .inl ?_
  exact .inl h
def WX33 (i : Nat) : Bool := (Nat.ble 11 i && Nat.ble i 14)
noncomputable def VX33 (v : VF) : VF := fun i => match WX33 i with
  | true => junk
  | false => v i
def BX33 (i : Nat) : Bool := ((Nat.ble 0 i && Nat.ble i 1) || Nat.beq i 5) || WX33 i
theorem VX33_dead {v : VF} (h : ∀ i, DeadV (v i)) (i : Nat) : DeadV (VX33 v i) := by
  unfold VX33
  split
  · exact DeadV.junk
  · exact h i
theorem lvX33 (i : Nat) (h : ((Nat.ble 0 i && Nat.ble i 1) || Nat.beq i 5) = true) : BX33 i = true := by
  unfold BX33
  simp only [Bool.or_eq_true] at h ⊢
  exact .inl h
def pD_33 (x : MX) (P n c Q m d : Nat) (i : Nat) : Prop := (True ∧ (nI n != nI m) = false)
def pR_33 (x : MX) (P n c Q m d : Nat) (i : Nat) : Prop := ((((((((True ∧ decide (nI i < nI n) = true) ∧ (0 ≤ nI i ∧ nI i < nI n)) ∧ ((0 + i * 2) % 2 = 0 ∧ (0 + i * 2) / 2 < x.PN P)) ∧ (0 ≤ nI i ∧ nI i < nI m)) ∧ ((0 + i * 2) % 2 = 0 ∧ (0 + i * 2) / 2 < x.PN Q)) ∧ (x.PA P (ix2 i) == x.PA Q (ix2 i)) = true) ∧ (x.PL P (ix2 i) == x.PL Q (ix2 i)) = true) ∧ IntKind.i64.wrap (nI i + 1) = nI i + 1)
def pN0_33 (x : MX) (P n c Q m d : Nat) (i : Nat) : Prop := (True ∧ (nI n != nI m) = true)
def pF0_33 (x : MX) (P n c Q m d : Nat) (i : Nat) : Prop := ((((((True ∧ decide (nI i < nI n) = true) ∧ (0 ≤ nI i ∧ nI i < nI n)) ∧ ((0 + i * 2) % 2 = 0 ∧ (0 + i * 2) / 2 < x.PN P)) ∧ (0 ≤ nI i ∧ nI i < nI m)) ∧ ((0 + i * 2) % 2 = 0 ∧ (0 + i * 2) / 2 < x.PN Q)) ∧ (x.PA P (ix2 i) == x.PA Q (ix2 i)) = false)
def pF1_33 (x : MX) (P n c Q m d : Nat) (i : Nat) : Prop := (((((((True ∧ decide (nI i < nI n) = true) ∧ (0 ≤ nI i ∧ nI i < nI n)) ∧ ((0 + i * 2) % 2 = 0 ∧ (0 + i * 2) / 2 < x.PN P)) ∧ (0 ≤ nI i ∧ nI i < nI m)) ∧ ((0 + i * 2) % 2 = 0 ∧ (0 + i * 2) / 2 < x.PN Q)) ∧ (x.PA P (ix2 i) == x.PA Q (ix2 i)) = true) ∧ (x.PL P (ix2 i) == x.PL Q (ix2 i)) = false)
theorem kD33 (x : MX) (P n c Q m d : Nat) : (gd33 KN (z33 x P n c Q m d) [some false]).map (fun r => (r.2, r.1.obl, seenInT BD33 r.1 (s33 x P n c Q m d 0 (VD33 vU)) [0])) = some (.loop l33, pD_33 x P n c Q m d 0, seenAsT BD33 (s33 x P n c Q m d 0 (VD33 vU)) [0] 1) := by kernel_rfl
theorem kN0_33 (x : MX) (P n c Q m d : Nat) : ((mk Tryz.prog KN 200).call 33 (a33 P n c Q m d) (smSt 1 [some (.fam x.F)] [some true])).map (fun r => (r.1, r.2.obl)) = some (.bool false, pN0_33 x P n c Q m d 0) := by kernel_rfl
theorem kR33 (x : MX) (P n c Q m d : Nat) (i : Nat) (v : VF) : (go33 KN l33 (s33 x P n c Q m d i v) [some true, some true, some false, some true, some true, some false, some true, some true, some true, none, some true]).map (fun r => (r.1, r.2.obl, seenInT BR33 r.2 (s33 x P n c Q m d (i + 1) (VR33 v)) [0])) = some (.normal, pR_33 x P n c Q m d i, seenAsT BR33 (s33 x P n c Q m d (i + 1) (VR33 v)) [0] 1) := by kernel_rfl
theorem kX33 (x : MX) (P n c Q m d : Nat) (i : Nat) (v : VF) : (go33 KN l33 (s33 x P n c Q m d i v) [some false]).map (fun r => (r.1, r.2.obl, seenInT BX33 r.2 (s33 x P n c Q m d i (VX33 v)) [0])) = some (.exit 0, True ∧ decide (nI i < nI n) = false, seenAsT BX33 (s33 x P n c Q m d i (VX33 v)) [0] 1) := by kernel_rfl
theorem kF0_33 (x : MX) (P n c Q m d : Nat) (i : Nat) (v : VF) : (go33 KN l33 (s33 x P n c Q m d i v) [some true, some true, some false, some true, some true, some false, some true, some false]).bind (fun r => (results1 Tryz.prog r.2 [.tmp 4]).map fun q => (r.1, q.2.obl, r.2.defers, oneOf q.1)) = some (.ret, pF0_33 x P n c Q m d i, [], .bool false) := by kernel_rfl
theorem kF1_33 (x : MX) (P n c Q m d : Nat) (i : Nat) (v : VF) : (go33 KN l33 (s33 x P n c Q m d i v) [some true, some true, some false, some true, some true, some false, some true, some true, some false]).bind (fun r => (results1 Tryz.prog r.2 [.tmp 4]).map fun q => (r.1, q.2.obl, r.2.defers, oneOf q.1)) = some (.ret, pF1_33 x P n c Q m d i, [], .bool false) := by kernel_rfl
theorem kE33 (x : MX) (P n c Q m d : Nat) (i : Nat) (v : VF) : (go33 KN e33 (s33 x P n c Q m d i v) []).bind (fun r => (results1 Tryz.prog r.2 [.tmp 4]).map fun q => (r.1, q.2.obl, r.2.defers, oneOf q.1)) = some (.ret, True, [], .bool true) := by kernel_rfl
theorem okD33 (x : MX) (P n c Q m d : Nat) (i : Nat) (v : VF) : picOkT BD33 (z33 x P n c Q m d) (s33 x P n c Q m d i (VD33 v)) [0] = true := by kernel_rfl
theorem okR33 (x : MX) (P n c Q m d : Nat) (i : Nat) (v : VF) : picOkT BR33 (z33 x P n c Q m d) (s33 x P n c Q m d i (VR33 v)) [0] = true := by kernel_rfl
theorem okX33 (x : MX) (P n c Q m d : Nat) (i : Nat) (v : VF) : picOkT BX33 (z33 x P n c Q m d) (s33 x P n c Q m d i (VX33 v)) [0] = true := by kernel_rfl
theorem up33 (x : MX) (P n c Q m d : Nat) (Q_ : Exit → St → Prop) : upQ Tryz.prog none (z33 x P n c Q m d) [2, 2, 3, 2, 0] b33 Q_ = fun e s => (fun e s => (e = .normal ∧ StepG Tryz.prog none (z33 x P n c Q m d) e33 s Q_) ∨ (e ≠ .normal ∧ Q_ e s)) (blockOut 0 e) s := by kernel_rfl
end
end ob
end Go.Proofs.YtopgddoncehhnaaGreat
namespace Go.Proofs.YtopgddoncehhnaaGreat
open Go.ChangeShapes Go.WideShapes Go.ChangeAt Go.RowKit Go.Cln
namespace ob
set_option linter.unusedVariables false
noncomputable section
theorem rd77 {x : MX} {P n c Q m d : Nat} (hP : numOk x P n) (hQ : numOk x Q m) : Rd Tryz.prog x.F 77 (a77 P n c Q m d) (.bool (rowE x P n Q m)) := by
  by_cases hnm : n = m
  rotate_left
  · rw [show rowE x P n Q m = false by unfold rowE; rw [beq_ne hnm]; rfl]
    exact Rd.run pg KN_ok (kN0_77 x P n c Q m d) ⟨trivial, by simp [nI]; omega⟩ rfl
  subst hnm
  rw [show rowE x P n Q n = allB (u32E x P Q) n by unfold rowE; rw [beq_self n]; rfl]
  obtain ⟨p1, p2⟩ := hP
  obtain ⟨q1, q2⟩ := hQ
  refine cmp_rd (way := [2, 2, 3, 2, 0]) (pic := fun i v => s77 x P n c Q n d i v) (e := u32E x P Q) (N := n) (v0 := VD77 vU) (s0 := z77 x P n c Q n d) rfl fn77 (fun Q_ h => StepG.downs pg KN_ok (kD77 x P n c Q n d) ⟨trivial, by simp⟩ (tm77_dead (VD77_dead vU_dead) lvD77) (h77_ok x P n c Q n d) rfl (okD77 x P n c Q n d 0 vU) h) (up77 x P n c Q n d) (fun i v hv hi he => ?_) (fun i v hv hi he => ?_) (fun v hv => ?_) (fun v hv => ?_) (VD77_dead vU_dead)
  · refine (StepG.stdT (s0 := z77 x P n c Q n d) (rd := none) pg KN_ok (kR77 x P n c Q n d i v) ?_ (show 1 ≤ 1 by decide) (tm77_dead (VR77_dead hv) lvR77) (h77_ok x P n c Q n d) rfl (okR77 x P n c Q n d (i + 1) v)).mono ?_
    · exact ⟨⟨⟨⟨⟨⟨⟨trivial, decide_eq_true (by unfold nI; omega)⟩, by unfold nI; omega⟩, by omega⟩, by unfold nI; omega⟩, by omega⟩, by unfold u32E at he; simpa using he⟩, by rw [IntKind.wrap_i64]; unfold nI; omega⟩
    · rintro ex s_ ⟨rfl, rfl⟩
      exact ⟨rfl, _, VR77_dead hv, rfl⟩
  · exact StepG.ranV (s0 := z77 x P n c Q n d) (rd := none) pg KN_ok (kF0_77 x P n c Q n d i v) ⟨⟨⟨⟨⟨⟨trivial, decide_eq_true (by unfold nI; omega)⟩, by unfold nI; omega⟩, by omega⟩, by unfold nI; omega⟩, by omega⟩, by unfold u32E at he; simpa using he⟩ (show 1 ≤ 1 by decide)
  · refine (StepG.stdT (s0 := z77 x P n c Q n d) (rd := none) pg KN_ok (kX77 x P n c Q n d n v) ⟨trivial, decide_eq_false (by omega)⟩ (show 1 ≤ 1 by decide) (tm77_dead (VX77_dead hv) lvX77) (h77_ok x P n c Q n d) rfl (okX77 x P n c Q n d n v)).mono ?_
    rintro ex s_ ⟨rfl, rfl⟩
    exact ⟨rfl, _, VX77_dead hv, rfl⟩
  · exact StepG.ranV pg KN_ok (kE77 x P n c Q n d n v) trivial (show 1 ≤ 1 by decide)
theorem rd79 {x : MX} {P n c Q m d : Nat} (hP : numOk x P n) (hQ : numOk x Q m) : Rd Tryz.prog x.F 79 (a79 P n c Q m d) (.bool (rowE x P n Q m)) := by
  by_cases hnm : n = m
  rotate_left
  · rw [show rowE x P n Q m = false by unfold rowE; rw [beq_ne hnm]; rfl]
    exact Rd.run pg KN_ok (kN0_79 x P n c Q m d) ⟨trivial, by simp [nI]; omega⟩ rfl
  subst hnm
  rw [show rowE x P n Q n = allB (u32E x P Q) n by unfold rowE; rw [beq_self n]; rfl]
  obtain ⟨p1, p2⟩ := hP
  obtain ⟨q1, q2⟩ := hQ
  refine cmp_rd (way := [2, 2, 3, 2, 0]) (pic := fun i v => s79 x P n c Q n d i v) (e := u32E x P Q) (N := n) (v0 := VD79 vU) (s0 := z79 x P n c Q n d) rfl fn79 (fun Q_ h => StepG.downs pg KN_ok (kD79 x P n c Q n d) ⟨trivial, by simp⟩ (tm79_dead (VD79_dead vU_dead) lvD79) (h79_ok x P n c Q n d) rfl (okD79 x P n c Q n d 0 vU) h) (up79 x P n c Q n d) (fun i v hv hi he => ?_) (fun i v hv hi he => ?_) (fun v hv => ?_) (fun v hv => ?_) (VD79_dead vU_dead)
  · refine (StepG.stdT (s0 := z79 x P n c Q n d) (rd := none) pg KN_ok (kR79 x P n c Q n d i v) ?_ (show 1 ≤ 1 by decide) (tm79_dead (VR79_dead hv) lvR79) (h79_ok x P n c Q n d) rfl (okR79 x P n c Q n d (i + 1) v)).mono ?_
    · exact ⟨⟨⟨⟨⟨⟨⟨trivial, decide_eq_true (by unfold nI; omega)⟩, by unfold nI; omega⟩, by omega⟩, by unfold nI; omega⟩, by omega⟩, by unfold u32E at he; simpa using he⟩, by rw [IntKind.wrap_i64]; unfold nI; omega⟩
    · rintro ex s_ ⟨rfl, rfl⟩
      exact ⟨rfl, _, VR79_dead hv, rfl⟩
  · exact StepG.ranV (s0 := z79 x P n c Q n d) (rd := none) pg KN_ok (kF0_79 x P n c Q n d i v) ⟨⟨⟨⟨⟨⟨trivial, decide_eq_true (by unfold nI; omega)⟩, by unfold nI; omega⟩, by omega⟩, by unfold nI; omega⟩, by omega⟩, by unfold u32E at he; simpa using he⟩ (show 1 ≤ 1 by decide)
  · refine (StepG.stdT (s0 := z79 x P n c Q n d) (rd := none) pg KN_ok (kX79 x P n c Q n d n v) ⟨trivial, decide_eq_false (by omega)⟩ (show 1 ≤ 1 by decide) (tm79_dead (VX79_dead hv) lvX79) (h79_ok x P n c Q n d) rfl (okX79 x P n c Q n d n v)).mono ?_
    rintro ex s_ ⟨rfl, rfl⟩
    exact ⟨rfl, _, VX79_dead hv, rfl⟩
  · exact StepG.ranV pg KN_ok (kE79 x P n c Q n d n v) trivial (show 1 ≤ 1 by decide)
theorem rd31 {x : MX} {P n c Q m d : Nat} (hP : preOk x P n) (hQ : preOk x Q m) : Rd Tryz.prog x.F 31 (a31 P n c Q m d) (.bool (presE x P n Q m)) := by
  by_cases hnm : n = m
  rotate_left
  · rw [show presE x P n Q m = false by unfold presE; rw [beq_ne hnm]; rfl]
    exact Rd.run pg KN_ok (kN0_31 x P n c Q m d) ⟨trivial, by simp [nI]; omega⟩ rfl
  subst hnm
  rw [show presE x P n Q n = allB (preE x P Q) n by unfold presE; rw [beq_self n]; rfl]
  obtain ⟨p1, p2⟩ := hP
  obtain ⟨q1, q2⟩ := hQ
  refine cmp_rd (way := [2, 2, 3, 2, 0]) (pic := fun i v => s31 x P n c Q n d i v) (e := preE x P Q) (N := n) (v0 := VD31 vU) (s0 := z31 x P n c Q n d) rfl fn31 (fun Q_ h => StepG.downs pg KN_ok (kD31 x P n c Q n d) ⟨trivial, by simp⟩ (tm31_dead (VD31_dead vU_dead) lvD31) (h31_ok x P n c Q n d) rfl (okD31 x P n c Q n d 0 vU) h) (up31 x P n c Q n d) (fun i v hv hi he => ?_) (fun i v hv hi he => ?_) (fun v hv => ?_) (fun v hv => ?_) (VD31_dead vU_dead)
  · refine (StepG.stdT (s0 := z31 x P n c Q n d) (rd := none) pg KN_ok (kR31 x P n c Q n d i v) ?_ (show 1 ≤ 1 by decide) (tm31_dead (VR31_dead hv) lvR31) (h31_ok x P n c Q n d) rfl (okR31 x P n c Q n d (i + 1) v)).mono ?_
    · unfold preE at he
      rw [Bool.and_eq_true] at he
      exact ⟨⟨⟨⟨⟨⟨⟨⟨trivial, decide_eq_true (by unfold nI; omega)⟩, by unfold nI; omega⟩, by omega, by omega⟩, by unfold nI; omega⟩, by omega, by omega⟩, he.1⟩, he.2⟩, by rw [IntKind.wrap_i64]; unfold nI; omega⟩
    · rintro ex s_ ⟨rfl, rfl⟩
      exact ⟨rfl, _, VR31_dead hv, rfl⟩
  · unfold preE at he
    cases h1 : (x.PA P (ix2 i) == x.PA Q (ix2 i)) with
    | false => exact StepG.ranV (s0 := z31 x P n c Q n d) (rd := none) pg KN_ok (kF0_31 x P n c Q n d i v) ⟨⟨⟨⟨⟨⟨trivial, decide_eq_true (by unfold nI; omega)⟩, by unfold nI; omega⟩, by omega, by omega⟩, by unfold nI; omega⟩, by omega, by omega⟩, h1⟩ (show 1 ≤ 1 by decide)
    | true =>
      rw [h1, Bool.true_and] at he
      exact StepG.ranV (s0 := z31 x P n c Q n d) (rd := none) pg KN_ok (kF1_31 x P n c Q n d i v) ⟨⟨⟨⟨⟨⟨⟨trivial, decide_eq_true (by unfold nI; omega)⟩, by unfold nI; omega⟩, by omega, by omega⟩, by unfold nI; omega⟩, by omega, by omega⟩, h1⟩, he⟩ (show 1 ≤ 1 by decide)
  · refine (StepG.stdT (s0 := z31 x P n c Q n d) (rd := none) pg KN_ok (kX31 x P n c Q n d n v) ⟨trivial, decide_eq_false (by omega)⟩ (show 1 ≤ 1 by decide) (tm31_dead (VX31_dead hv) lvX31) (h31_ok x P n c Q n d) rfl (okX31 x P n c Q n d n v)).mono ?_
    rintro ex s_ ⟨rfl, rfl⟩
    exact ⟨rfl, _, VX31_dead hv, rfl⟩
  · exact StepG.ranV pg KN_ok (kE31 x P n c Q n d n v) trivial (show 1 ≤ 1 by decide)
theorem rd33 {x : MX} {P n c Q m d : Nat} (hP : preOk x P n) (hQ : preOk x Q m) : Rd Tryz.prog x.F 33 (a33 P n c Q m d) (.bool (presE x P n Q m)) := by
  by_cases hnm : n = m
  rotate_left
  · rw [show presE x P n Q m = false by unfold presE; rw [beq_ne hnm]; rfl]
    exact Rd.run pg KN_ok (kN0_33 x P n c Q m d) ⟨trivial, by simp [nI]; omega⟩ rfl
  subst hnm
  rw [show presE x P n Q n = allB (preE x P Q) n by unfold presE; rw [beq_self n]; rfl]
  obtain ⟨p1, p2⟩ := hP
  obtain ⟨q1, q2⟩ := hQ
  refine cmp_rd (way := [2, 2, 3, 2, 0]) (pic := fun i v => s33 x P n c Q n d i v) (e := preE x P Q) (N := n) (v0 := VD33 vU) (s0 := z33 x P n c Q n d) rfl fn33 (fun Q_ h => StepG.downs pg KN_ok (kD33 x P n c Q n d) ⟨trivial, by simp⟩ (tm33_dead (VD33_dead vU_dead) lvD33) (h33_ok x P n c Q n d) rfl (okD33 x P n c Q n d 0 vU) h) (up33 x P n c Q n d) (fun i v hv hi he => ?_) (fun i v hv hi he => ?_) (fun v hv => ?_) (fun v hv => ?_) (VD33_dead vU_dead)
  · refine (StepG.stdT (s0 := z33 x P n c Q n d) (rd := none) pg KN_ok (kR33 x P n c Q n d i v) ?_ (show 1 ≤ 1 by decide) (tm33_dead (VR33_dead hv) lvR33) (h33_ok x P n c Q n d) rfl (okR33 x P n c Q n d (i + 1) v)).mono ?_
    · unfold preE at he
      rw [Bool.and_eq_true] at he
      exact ⟨⟨⟨⟨⟨⟨⟨⟨trivial, decide_eq_true (by unfold nI; omega)⟩, by unfold nI; omega⟩, by omega, by omega⟩, by unfold nI; omega⟩, by omega, by omega⟩, he.1⟩, he.2⟩, by rw [IntKind.wrap_i64]; unfold nI; omega⟩
    · rintro ex s_ ⟨rfl, rfl⟩
      exact ⟨rfl, _, VR33_dead hv, rfl⟩
  · unfold preE at he
    cases h1 : (x.PA P (ix2 i) == x.PA Q (ix2 i)) with
    | false => exact StepG.ranV (s0 := z33 x P n c Q n d) (rd := none) pg KN_ok (kF0_33 x P n c Q n d i v) ⟨⟨⟨⟨⟨⟨trivial, decide_eq_true (by unfold nI; omega)⟩, by unfold nI; omega⟩, by omega, by omega⟩, by unfold nI; omega⟩, by omega, by omega⟩, h1⟩ (show 1 ≤ 1 by decide)
    | true =>
      rw [h1, Bool.true_and] at he
      exact StepG.ranV (s0 := z33 x P n c Q n d) (rd := none) pg KN_ok (kF1_33 x P n c Q n d i v) ⟨⟨⟨⟨⟨⟨⟨trivial, decide_eq_true (by unfold nI; omega)⟩, by unfold nI; omega⟩, by omega, by omega⟩, by unfold nI; omega⟩, by omega, by omega⟩, h1⟩, he⟩ (show 1 ≤ 1 by decide)
  · refine (StepG.stdT (s0 := z33 x P n c Q n d) (rd := none) pg KN_ok (kX33 x P n c Q n d n v) ⟨trivial, decide_eq_false (by omega)⟩ (show 1 ≤ 1 by decide) (tm33_dead (VX33_dead hv) lvX33) (h33_ok x P n c Q n d) rfl (okX33 x P n c Q n d n v)).mono ?_
    rintro ex s_ ⟨rfl, rfl⟩
    exact ⟨rfl, _, VX33_dead hv, rfl⟩
  · exact StepG.ranV pg KN_ok (kE33 x P n c Q n d n v) trivial (show 1 ≤ 1 by decide)
end
end ob
end Go.Proofs.YtopgddoncehhnaaGreat
