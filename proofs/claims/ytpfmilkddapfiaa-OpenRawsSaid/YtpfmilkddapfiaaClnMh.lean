/- Read off the code by the clean reading. -/
import Derived.Test.YtpfmilkddapfiaaClnMg
set_option linter.unusedVariables false
set_option linter.unusedSimpArgs false
set_option linter.deprecated false
set_option maxRecDepth 100000
namespace Go.Proofs.Ytpfmilkddapfiaa
open Go.ChangeShapes Go.WideShapes Go.ChangeAt Go.RowKit Go.Cln
namespace ob
set_option linter.unusedVariables false
noncomputable section
def b13 : Code := ((Try.prog.funcs[13]?).bind (·.body)).getD .skip
theorem fn13 : (Try.prog.funcs[13]?).map (fun f => (f.body, f.results.toList, f.ntmps)) = some (some b13, [.tmp 2], 78) := by kernel_rfl
def l13 : Code := loopB Try.prog 13 0
def e13 : Code := sndC (sndC (sndC b13))
def r13 : Code := fstC (fstC e13)
def c13 : Code := sndC (fstC e13)
def f13 : Code := sndC e13
def o13 : Array Oper := opsC r13
theorem e13_eq : e13 = .seq (.seq (.region 9 o13 false) c13) f13 := by kernel_rfl
theorem o13_eq : List.range o13.size = [0] ++ (1 :: ([2, 3, 4] ++ [])) := by kernel_rfl
noncomputable def z13 (x : MX) (a : OV) : St := { smSt 1 [some (.fam x.F)] [] with tmps := [a.v] ++ List.replicate 77 undef, defers := [] }
noncomputable def go13 (K : Given) (c : Code) (s : St) (o : List (Option Bool)) : Option (Exit × St) := (mk Try.prog K 300).code 13 none c { s with obl := True, orc := o }
noncomputable def gd13 (K : Given) (s : St) (o : List (Option Bool)) : Option (St × Code) := down (mk Try.prog K 300) 13 none [2, 2, 3, 2, 0] b13 { s with obl := True, orc := o }
def ixq13 (i : Nat) : Nat := (0 + (nI i - 1).toNat * 2) / 2
noncomputable def tm13 (v : VF) (a : OV) (i : Nat) : List Value := (a.v :: .pointer (some ⟨1, 0, none⟩) :: v 2 :: .int .i64 (nI i) :: vs v 4 74 [])
theorem tm13_dead {v : VF} {a : OV} {i : Nat} {B : Nat → Bool} (h : ∀ i, DeadV (v i)) (hB : ∀ i, ((Nat.ble 0 i && Nat.ble i 1) || Nat.beq i 3) = true → B i = true) : deadT B 0 (tm13 v a i) :=
  dl (hB 0 rfl) (dl (hB 1 rfl) (dn (h 2) (dl (hB 3 rfl) (deadT_vs h 74 (trivial)))))
noncomputable def tm13q (v : VF) (a : OV) : List Value := (a.v :: .pointer (some ⟨1, 0, none⟩) :: vs v 2 71 (a.v :: vs v 74 4 []))
theorem tm13q_dead {v : VF} {a : OV} {B : Nat → Bool} (h : ∀ i, DeadV (v i)) (hB : ∀ i, ((Nat.ble 0 i && Nat.ble i 1) || Nat.beq i 73) = true → B i = true) : deadT B 0 (tm13q v a) :=
  dl (hB 0 rfl) (dl (hB 1 rfl) (deadT_vs h 71 (dl (hB 73 rfl) (deadT_vs h 4 (trivial)))))
noncomputable def tm13r (v : VF) (a : OV) (u : Value) : List Value := (a.v :: .pointer (some ⟨1, 0, none⟩) :: vs v 2 71 (a.v :: u :: vs v 75 3 []))
noncomputable def tm13e (v : VF) (a : OV) (u : Value) : List Value := (a.v :: .pointer (some ⟨1, 0, none⟩) :: vs v 2 75 (u :: []))
theorem tm13e_dead {v : VF} {a : OV} {u : Value} {B : Nat → Bool} (h : ∀ i, DeadV (v i)) (hB : ∀ i, ((Nat.ble 0 i && Nat.ble i 1) || Nat.beq i 77) = true → B i = true) : deadT B 0 (tm13e v a u) :=
  dl (hB 0 rfl) (dl (hB 1 rfl) (deadT_vs h 75 (dl (hB 77 rfl) (trivial))))
def WD13 (i : Nat) : Bool := Nat.beq i 2 || (Nat.ble 5 i && Nat.ble i 28)
noncomputable def VD13 (v : VF) : VF := fun i => match WD13 i with
  | true => junk
  | false => v i
def BD13 (i : Nat) : Bool := ((Nat.ble 0 i && Nat.ble i 1) || Nat.beq i 3) || WD13 i
theorem VD13_dead {v : VF} (h : ∀ i, DeadV (v i)) (i : Nat) : DeadV (VD13 v i) := jD (W := WD13) h i
theorem lvD13 (i : Nat) (h : ((Nat.ble 0 i && Nat.ble i 1) || Nat.beq i 3) = true) : BD13 i = true := jl h
def WR13 (i : Nat) : Bool := Nat.beq i 4 || (Nat.ble 29 i && Nat.ble i 39) || (Nat.ble 41 i && Nat.ble i 72)
noncomputable def VR13 (v : VF) : VF := fun i => match Nat.beq i 40 with
  | true => .agg #[junk, junk]
  | false => match WR13 i with
  | true => junk
  | false => v i
def BR13 (i : Nat) : Bool := ((Nat.ble 0 i && Nat.ble i 1) || Nat.beq i 3) || WR13 i || Nat.beq i 40
theorem VR13_dead {v : VF} (h : ∀ i, DeadV (v i)) (i : Nat) : DeadV (VR13 v i) := by
  unfold VR13
  split
  · exact ⟨rfl, fun _ => rfl, fun _ => rfl⟩
  split
  · exact DeadV.junk
  · exact h i
theorem lvR13 (i : Nat) (h : ((Nat.ble 0 i && Nat.ble i 1) || Nat.beq i 3) = true) : BR13 i = true := jl (jl h)
def WS13 (i : Nat) : Bool := Nat.beq i 4 || (Nat.ble 29 i && Nat.ble i 39) || (Nat.ble 41 i && Nat.ble i 60) || (Nat.ble 71 i && Nat.ble i 72)
noncomputable def VS13 (v : VF) : VF := fun i => match Nat.beq i 40 with
  | true => .agg #[junk, junk]
  | false => match Nat.beq i 61 with
  | true => undef
  | false => match Nat.beq i 62 with
  | true => undef
  | false => match Nat.beq i 63 with
  | true => undef
  | false => match Nat.beq i 64 with
  | true => undef
  | false => match Nat.beq i 65 with
  | true => undef
  | false => match Nat.beq i 66 with
  | true => undef
  | false => match Nat.beq i 67 with
  | true => undef
  | false => match Nat.beq i 68 with
  | true => undef
  | false => match Nat.beq i 69 with
  | true => undef
  | false => match Nat.beq i 70 with
  | true => undef
  | false => match WS13 i with
  | true => junk
  | false => v i
def BS13 (i : Nat) : Bool := ((Nat.ble 0 i && Nat.ble i 1) || Nat.beq i 3) || WS13 i || Nat.beq i 40 || Nat.beq i 61 || Nat.beq i 62 || Nat.beq i 63 || Nat.beq i 64 || Nat.beq i 65 || Nat.beq i 66 || Nat.beq i 67 || Nat.beq i 68 || Nat.beq i 69 || Nat.beq i 70
theorem VS13_dead {v : VF} (h : ∀ i, DeadV (v i)) (i : Nat) : DeadV (VS13 v i) := by
  unfold VS13
  split
  · exact ⟨rfl, fun _ => rfl, fun _ => rfl⟩
  split
  · exact ⟨rfl, fun _ => rfl, fun _ => rfl⟩
  split
  · exact ⟨rfl, fun _ => rfl, fun _ => rfl⟩
  split
  · exact ⟨rfl, fun _ => rfl, fun _ => rfl⟩
  split
  · exact ⟨rfl, fun _ => rfl, fun _ => rfl⟩
  split
  · exact ⟨rfl, fun _ => rfl, fun _ => rfl⟩
  split
  · exact ⟨rfl, fun _ => rfl, fun _ => rfl⟩
  split
  · exact ⟨rfl, fun _ => rfl, fun _ => rfl⟩
  split
  · exact ⟨rfl, fun _ => rfl, fun _ => rfl⟩
  split
  · exact ⟨rfl, fun _ => rfl, fun _ => rfl⟩
  split
  · exact ⟨rfl, fun _ => rfl, fun _ => rfl⟩
  split
  · exact DeadV.junk
  · exact h i
theorem lvS13 (i : Nat) (h : ((Nat.ble 0 i && Nat.ble i 1) || Nat.beq i 3) = true) : BS13 i = true := jl (jl (jl (jl (jl (jl (jl (jl (jl (jl (jl (jl h)))))))))))
def WX13 (i : Nat) : Bool := (Nat.ble 29 i && Nat.ble i 33)
noncomputable def VX13 (v : VF) : VF := fun i => match WX13 i with
  | true => junk
  | false => v i
def BX13 (i : Nat) : Bool := ((Nat.ble 0 i && Nat.ble i 1) || Nat.beq i 3) || WX13 i
theorem VX13_dead {v : VF} (h : ∀ i, DeadV (v i)) (i : Nat) : DeadV (VX13 v i) := jD (W := WX13) h i
theorem lvX13 (i : Nat) (h : ((Nat.ble 0 i && Nat.ble i 1) || Nat.beq i 3) = true) : BX13 i = true := jl h
def WQ13 (i : Nat) : Bool := Nat.beq i 3
noncomputable def VQ13 (v : VF) : VF := fun i => match WQ13 i with
  | true => junk
  | false => v i
def BQ13 (i : Nat) : Bool := ((Nat.ble 0 i && Nat.ble i 1) || Nat.beq i 73) || WQ13 i
theorem VQ13_dead {v : VF} (h : ∀ i, DeadV (v i)) (i : Nat) : DeadV (VQ13 v i) := jD (W := WQ13) h i
theorem lvQ13 (i : Nat) (h : ((Nat.ble 0 i && Nat.ble i 1) || Nat.beq i 73) = true) : BQ13 i = true := jl h
def WE13 (i : Nat) : Bool := (Nat.ble 74 i && Nat.ble i 76)
noncomputable def VE13 (v : VF) : VF := fun i => match Nat.beq i 73 with
  | true => .agg #[junk, junk, junk, junk]
  | false => match WE13 i with
  | true => junk
  | false => v i
def BE13 (i : Nat) : Bool := ((Nat.ble 0 i && Nat.ble i 1) || Nat.beq i 77) || WE13 i || Nat.beq i 73
theorem VE13_dead {v : VF} (h : ∀ i, DeadV (v i)) (i : Nat) : DeadV (VE13 v i) := by
  unfold VE13
  split
  · exact ⟨rfl, fun _ => rfl, fun _ => rfl⟩
  split
  · exact DeadV.junk
  · exact h i
theorem lvE13 (i : Nat) (h : ((Nat.ble 0 i && Nat.ble i 1) || Nat.beq i 77) = true) : BE13 i = true := jl (jl h)
def WF13 (i : Nat) : Bool := false
noncomputable def VF13 (v : VF) : VF := fun i => match WF13 i with
  | true => junk
  | false => v i
def BF13 (i : Nat) : Bool := ((Nat.ble 0 i && Nat.ble i 1) || Nat.beq i 77) || WF13 i
theorem VF13_dead {v : VF} (h : ∀ i, DeadV (v i)) (i : Nat) : DeadV (VF13 v i) := jD (W := WF13) h i
theorem lvF13 (i : Nat) (h : ((Nat.ble 0 i && Nat.ble i 1) || Nat.beq i 77) = true) : BF13 i = true := jl h
noncomputable def s13 (x : MX) (a : OV) (i : Nat) (v : VF) : St := ⟨tm13 v a i, [], Tr.rebuild (g23 x a) 2, 2, 1, [], fun _ => false, True, []⟩
noncomputable def s13q (x : MX) (a : OV) (v : VF) : St := ⟨tm13q v a, [], Tr.rebuild (g23 x a) 2, 2, 1, [], fun _ => false, True, []⟩
noncomputable def s13r (x : MX) (a : OV) (u : Value) (v : VF) : St := ⟨tm13r v a u, [], Tr.rebuild (g23 x a) 2, 2, 1, [], fun _ => false, True, []⟩
noncomputable def s13e (x : MX) (a : OV) (u : Value) (v : VF) : St := ⟨tm13e v a u, [], Tr.rebuild (g23 x a) 2, 2, 1, [], fun _ => false, True, []⟩
theorem k13e0 (x : MX) (a : OV) : ((mk Try.prog KN 200).call 13 [a.v] (smSt 1 [some (.fam x.F)] [some true])).map (fun r => (r.1, r.2.obl)) = some (.int .i64 2, (True ∧ (a.asn == 0) = true)) := by kernel_rfl
theorem k13e1 (x : MX) (a : OV) : ((mk Try.prog KN 200).call 13 [a.v] (smSt 1 [some (.fam x.F)] [some false, none, none, none, some true])).map (fun r => (r.1, r.2.obl)) = some (.int .i64 2, ((True ∧ (a.asn == 0) = false) ∧ (a.hold == 1) = true)) := by kernel_rfl
theorem k13e2 (x : MX) (a : OV) : ((mk Try.prog KN 200).call 13 [a.v] (smSt 1 [some (.fam x.F)] [some false, none, none, none, some false, none, none, none, some true])).map (fun r => (r.1, r.2.obl)) = some (.int .i64 2, (((True ∧ (a.asn == 0) = false) ∧ (a.hold == 1) = false) ∧ (a.hold == 2) = true)) := by kernel_rfl
theorem k13e3 (x : MX) (a : OV) : ((mk Try.prog KN 200).call 13 [a.v] (smSt 1 [some (.fam x.F)] [some false, none, none, none, some false, none, none, none, some false, none, none, none, some true])).map (fun r => (r.1, r.2.obl)) = some (.int .i64 2, ((((True ∧ (a.asn == 0) = false) ∧ (a.hold == 1) = false) ∧ (a.hold == 2) = false) ∧ (a.id == 0) = true)) := by kernel_rfl
theorem k13e4 (x : MX) (a : OV) : ((mk Try.prog KN 200).call 13 [a.v] (smSt 1 [some (.fam x.F)] [some false, none, none, none, some false, none, none, none, some false, none, none, none, some false, none, none, none, none, some true])).map (fun r => (r.1, r.2.obl)) = some (.int .i64 2, (((((True ∧ (a.asn == 0) = false) ∧ (a.hold == 1) = false) ∧ (a.hold == 2) = false) ∧ (a.id == 0) = false) ∧ decide (nI a.n > 8) = true)) := by kernel_rfl
theorem kD13 (x : MX) (a : OV) : (gd13 KN (z13 x a) [some false, none, none, none, some false, none, none, none, some false, none, none, none, some false, none, none, none, none, some false]).map (fun r => (r.2, r.1.obl, seenInT BD13 r.1 (s13 x a 0 (VD13 vU)) [0, 1])) = some (.loop l13, (((((True ∧ (a.asn == 0) = false) ∧ (a.hold == 1) = false) ∧ (a.hold == 2) = false) ∧ (a.id == 0) = false) ∧ decide (nI a.n > 8) = false), seenAsT BD13 (s13 x a 0 (VD13 vU)) [0, 1] 2) := by kernel_rfl
theorem okD13 (x0 x : MX) (a : OV) (i : Nat) (v : VF) : picOkT BD13 (z13 x0 a) (s13 x a i (VD13 v)) [0, 1] = true := by kernel_rfl
noncomputable def p13R0 (x : MX) (a : OV) (i : Nat) : Prop := (((((((((True ∧ decide (nI i < nI a.n) = true) ∧ (0 ≤ nI i ∧ nI i < nI a.n)) ∧ ((0 + i * 2) % 2 = 0 ∧ (0 + i * 2) / 2 < x.CN a.P)) ∧ IntKind.i64.wrap (x.CK a.P (ix2 i)) = x.CK a.P (ix2 i)) ∧ ((x.CK a.P (ix2 i)) == 0) = true) ∧ ((x.CK a.P (ix2 i)) == 0) = true) ∧ ((x.CK a.P (ix2 i)) == 0) = true) ∧ ((x.CK a.P (ix2 i)) == 0) = true) ∧ ((x.CK a.P (ix2 i)) == 0) = true)
theorem k13R0 (x : MX) (a : OV) (i : Nat) (v : VF) : (go13 KN l13 (s13 x a i v) [some true, some true, some false, some true, some true, some true, some true, some true, some true, some true]).bind (fun r => (results1 Try.prog r.2 [.tmp 2]).map fun q => (r.1, q.2.obl, r.2.defers, oneOf q.1)) = some (.ret, p13R0 x a i, [], .int .i64 2) := by kernel_rfl
noncomputable def p13R1 (x : MX) (a : OV) (i : Nat) : Prop := (((((((((((((((True ∧ decide (nI i < nI a.n) = true) ∧ (0 ≤ nI i ∧ nI i < nI a.n)) ∧ ((0 + i * 2) % 2 = 0 ∧ (0 + i * 2) / 2 < x.CN a.P)) ∧ IntKind.i64.wrap (x.CK a.P (ix2 i)) = x.CK a.P (ix2 i)) ∧ ((x.CK a.P (ix2 i)) == 0) = false) ∧ ((x.CK a.P (ix2 i)) == 0) = false) ∧ ((x.CK a.P (ix2 i)) == 0) = false) ∧ IntKind.i64.wrap (x.CK a.P (ix2 i)) = x.CK a.P (ix2 i)) ∧ ((x.CK a.P (ix2 i)) == 0) = false) ∧ ((x.CK a.P (ix2 i)) == 0) = false) ∧ ((x.CK a.P (ix2 i)) == 65) = true) ∧ ((x.CK a.P (ix2 i)) == 65) = true) ∧ ((x.CK a.P (ix2 i)) == 65) = true) ∧ ((x.CK a.P (ix2 i)) == 65) = true) ∧ ((x.CK a.P (ix2 i)) == 65) = true)
theorem k13R1 (x : MX) (a : OV) (i : Nat) (v : VF) : (go13 KN l13 (s13 x a i v) [some true, some true, some false, some true, some true, some false, some false, some false, some true, some false, some false, some true, some true, some true, some true, some true]).bind (fun r => (results1 Try.prog r.2 [.tmp 2]).map fun q => (r.1, q.2.obl, r.2.defers, oneOf q.1)) = some (.ret, p13R1 x a i, [], .int .i64 2) := by kernel_rfl
noncomputable def p13R2 (x : MX) (a : OV) (i : Nat) : Prop := ((((((((((((((((((((True ∧ decide (nI i < nI a.n) = true) ∧ (0 ≤ nI i ∧ nI i < nI a.n)) ∧ ((0 + i * 2) % 2 = 0 ∧ (0 + i * 2) / 2 < x.CN a.P)) ∧ IntKind.i64.wrap (x.CK a.P (ix2 i)) = x.CK a.P (ix2 i)) ∧ ((x.CK a.P (ix2 i)) == 0) = false) ∧ ((x.CK a.P (ix2 i)) == 0) = false) ∧ ((x.CK a.P (ix2 i)) == 0) = false) ∧ IntKind.i64.wrap (x.CK a.P (ix2 i)) = x.CK a.P (ix2 i)) ∧ ((x.CK a.P (ix2 i)) == 0) = false) ∧ ((x.CK a.P (ix2 i)) == 0) = false) ∧ ((x.CK a.P (ix2 i)) == 65) = false) ∧ ((x.CK a.P (ix2 i)) == 65) = false) ∧ ((x.CK a.P (ix2 i)) == 65) = false) ∧ ((x.CK a.P (ix2 i)) == 65) = false) ∧ ((x.CK a.P (ix2 i)) == 65) = false) ∧ decide (nI (x.CM a.P (ix2 i)) > 100) = true) ∧ decide (nI (x.CM a.P (ix2 i)) > 100) = true) ∧ decide (nI (x.CM a.P (ix2 i)) > 100) = true) ∧ decide (nI (x.CM a.P (ix2 i)) > 100) = true) ∧ decide (nI (x.CM a.P (ix2 i)) > 100) = true)
theorem k13R2 (x : MX) (a : OV) (i : Nat) (v : VF) : (go13 KN l13 (s13 x a i v) [some true, some true, some false, some true, some true, some false, some false, some false, some true, some false, some false, some false, some false, some false, some false, some false, some true, some true, some true, some true, some true]).bind (fun r => (results1 Try.prog r.2 [.tmp 2]).map fun q => (r.1, q.2.obl, r.2.defers, oneOf q.1)) = some (.ret, p13R2 x a i, [], .int .i64 2) := by kernel_rfl
noncomputable def p13R3 (x : MX) (a : OV) (i : Nat) : Prop := (((((((((((((((((((((((((((((((((((True ∧ decide (nI i < nI a.n) = true) ∧ (0 ≤ nI i ∧ nI i < nI a.n)) ∧ ((0 + i * 2) % 2 = 0 ∧ (0 + i * 2) / 2 < x.CN a.P)) ∧ IntKind.i64.wrap (x.CK a.P (ix2 i)) = x.CK a.P (ix2 i)) ∧ ((x.CK a.P (ix2 i)) == 0) = false) ∧ ((x.CK a.P (ix2 i)) == 0) = false) ∧ ((x.CK a.P (ix2 i)) == 0) = false) ∧ IntKind.i64.wrap (x.CK a.P (ix2 i)) = x.CK a.P (ix2 i)) ∧ ((x.CK a.P (ix2 i)) == 0) = false) ∧ ((x.CK a.P (ix2 i)) == 0) = false) ∧ ((x.CK a.P (ix2 i)) == 65) = false) ∧ ((x.CK a.P (ix2 i)) == 65) = false) ∧ ((x.CK a.P (ix2 i)) == 65) = false) ∧ ((x.CK a.P (ix2 i)) == 65) = false) ∧ ((x.CK a.P (ix2 i)) == 65) = false) ∧ decide (nI (x.CM a.P (ix2 i)) > 100) = false) ∧ decide (nI (x.CM a.P (ix2 i)) > 100) = false) ∧ decide (nI (x.CM a.P (ix2 i)) > 100) = false) ∧ decide (nI i > 0) = true) ∧ decide (nI i > 0) = true) ∧ decide (nI i > 0) = true) ∧ decide (nI i > 0) = true) ∧ IntKind.i64.wrap (nI i - 1) = nI i - 1) ∧ decide (nI i > 0) = true) ∧ (0 ≤ nI i - 1 ∧ nI i - 1 < nI a.n)) ∧ decide (nI i > 0) = true) ∧ decide (nI i > 0) = true) ∧ ((0 + (nI i - 1).toNat * 2) % 2 = 0 ∧ (0 + (nI i - 1).toNat * 2) / 2 < x.CN a.P)) ∧ decide (nI i > 0) = true) ∧ decide (nI i > 0) = true) ∧ decide (nI i > 0) = true) ∧ decide (nI (x.CM a.P (ix2 i)) > 100) = false) ∧ decide (nI i > 0) = true) ∧ decide (nI (x.CM a.P (ix2 i)) > 100) = false) ∧ decide (x.CK a.P (ixq13 i) ≥ x.CK a.P (ix2 i)) = true)
theorem k13R3 (x : MX) (a : OV) (i : Nat) (v : VF) : (go13 KN l13 (s13 x a i v) [some true, some true, some false, some true, some true, some false, some false, some false, some true, some false, some false, some false, some false, some false, some false, some false, some false, some false, some false, some true, some true, some true, some true, some true, some true, some true, some true, some true, some false, some true, some true, some true, some true, some false, some true, some false, some true]).bind (fun r => (results1 Try.prog r.2 [.tmp 2]).map fun q => (r.1, q.2.obl, r.2.defers, oneOf q.1)) = some (.ret, p13R3 x a i, [], .int .i64 2) := by kernel_rfl
noncomputable def p13R4 (x : MX) (a : OV) (i : Nat) : Prop := ((((((((((((((((((((((((((((((((True ∧ decide (nI i < nI a.n) = true) ∧ (0 ≤ nI i ∧ nI i < nI a.n)) ∧ ((0 + i * 2) % 2 = 0 ∧ (0 + i * 2) / 2 < x.CN a.P)) ∧ IntKind.i64.wrap (x.CK a.P (ix2 i)) = x.CK a.P (ix2 i)) ∧ ((x.CK a.P (ix2 i)) == 0) = false) ∧ ((x.CK a.P (ix2 i)) == 0) = false) ∧ ((x.CK a.P (ix2 i)) == 0) = false) ∧ IntKind.i64.wrap (x.CK a.P (ix2 i)) = x.CK a.P (ix2 i)) ∧ ((x.CK a.P (ix2 i)) == 0) = false) ∧ ((x.CK a.P (ix2 i)) == 0) = false) ∧ ((x.CK a.P (ix2 i)) == 65) = false) ∧ ((x.CK a.P (ix2 i)) == 65) = false) ∧ ((x.CK a.P (ix2 i)) == 65) = false) ∧ ((x.CK a.P (ix2 i)) == 65) = false) ∧ ((x.CK a.P (ix2 i)) == 65) = false) ∧ decide (nI (x.CM a.P (ix2 i)) > 100) = false) ∧ decide (nI (x.CM a.P (ix2 i)) > 100) = false) ∧ decide (nI (x.CM a.P (ix2 i)) > 100) = false) ∧ decide (nI i > 0) = false) ∧ decide (nI i > 0) = false) ∧ decide (nI i > 0) = false) ∧ decide (nI i > 0) = false) ∧ decide (nI i > 0) = false) ∧ decide (nI i > 0) = false) ∧ decide (nI i > 0) = false) ∧ decide (nI i > 0) = false) ∧ decide (nI i > 0) = false) ∧ decide (nI i > 0) = false) ∧ decide (nI (x.CM a.P (ix2 i)) > 100) = false) ∧ decide (nI i > 0) = false) ∧ decide (nI (x.CM a.P (ix2 i)) > 100) = false) ∧ IntKind.i64.wrap (nI i + 1) = nI i + 1)
theorem k13R4 (x : MX) (a : OV) (i : Nat) (v : VF) : (go13 KN l13 (s13 x a i v) [some true, some true, some false, some true, some true, some false, some false, some false, some true, some false, some false, some false, some false, some false, some false, some false, some false, some false, some false, some false, some false, some false, some false, some false, some false, some false, some false, some false, some false, some false, some false, some false, none, some true]).map (fun r => (r.1, r.2.obl, seenInT BS13 r.2 (s13 x a (i + 1) (VS13 v)) [0, 1])) = some (.normal, p13R4 x a i, seenAsT BS13 (s13 x a (i + 1) (VS13 v)) [0, 1] 3) := by kernel_rfl
noncomputable def p13R5 (x : MX) (a : OV) (i : Nat) : Prop := ((((((((((((((((((((((((((((((((((((True ∧ decide (nI i < nI a.n) = true) ∧ (0 ≤ nI i ∧ nI i < nI a.n)) ∧ ((0 + i * 2) % 2 = 0 ∧ (0 + i * 2) / 2 < x.CN a.P)) ∧ IntKind.i64.wrap (x.CK a.P (ix2 i)) = x.CK a.P (ix2 i)) ∧ ((x.CK a.P (ix2 i)) == 0) = false) ∧ ((x.CK a.P (ix2 i)) == 0) = false) ∧ ((x.CK a.P (ix2 i)) == 0) = false) ∧ IntKind.i64.wrap (x.CK a.P (ix2 i)) = x.CK a.P (ix2 i)) ∧ ((x.CK a.P (ix2 i)) == 0) = false) ∧ ((x.CK a.P (ix2 i)) == 0) = false) ∧ ((x.CK a.P (ix2 i)) == 65) = false) ∧ ((x.CK a.P (ix2 i)) == 65) = false) ∧ ((x.CK a.P (ix2 i)) == 65) = false) ∧ ((x.CK a.P (ix2 i)) == 65) = false) ∧ ((x.CK a.P (ix2 i)) == 65) = false) ∧ decide (nI (x.CM a.P (ix2 i)) > 100) = false) ∧ decide (nI (x.CM a.P (ix2 i)) > 100) = false) ∧ decide (nI (x.CM a.P (ix2 i)) > 100) = false) ∧ decide (nI i > 0) = true) ∧ decide (nI i > 0) = true) ∧ decide (nI i > 0) = true) ∧ decide (nI i > 0) = true) ∧ IntKind.i64.wrap (nI i - 1) = nI i - 1) ∧ decide (nI i > 0) = true) ∧ (0 ≤ nI i - 1 ∧ nI i - 1 < nI a.n)) ∧ decide (nI i > 0) = true) ∧ decide (nI i > 0) = true) ∧ ((0 + (nI i - 1).toNat * 2) % 2 = 0 ∧ (0 + (nI i - 1).toNat * 2) / 2 < x.CN a.P)) ∧ decide (nI i > 0) = true) ∧ decide (nI i > 0) = true) ∧ decide (nI i > 0) = true) ∧ decide (nI (x.CM a.P (ix2 i)) > 100) = false) ∧ decide (nI i > 0) = true) ∧ decide (nI (x.CM a.P (ix2 i)) > 100) = false) ∧ decide (x.CK a.P (ixq13 i) ≥ x.CK a.P (ix2 i)) = false) ∧ IntKind.i64.wrap (nI i + 1) = nI i + 1)
theorem k13R5 (x : MX) (a : OV) (i : Nat) (v : VF) : (go13 KN l13 (s13 x a i v) [some true, some true, some false, some true, some true, some false, some false, some false, some true, some false, some false, some false, some false, some false, some false, some false, some false, some false, some false, some true, some true, some true, some true, some true, some true, some true, some true, some true, some false, some true, some true, some true, some true, some false, some true, some false, some false, some true]).map (fun r => (r.1, r.2.obl, seenInT BR13 r.2 (s13 x a (i + 1) (VR13 v)) [0, 1])) = some (.normal, p13R5 x a i, seenAsT BR13 (s13 x a (i + 1) (VR13 v)) [0, 1] 3) := by kernel_rfl
theorem ok13R (x0 x : MX) (a : OV) (i : Nat) (v : VF) : picOkT BR13 (z13 x0 a) (s13 x a i (VR13 v)) [0, 1] = true := by kernel_rfl
theorem ok13S (x0 x : MX) (a : OV) (i : Nat) (v : VF) : picOkT BS13 (z13 x0 a) (s13 x a i (VS13 v)) [0, 1] = true := by kernel_rfl
theorem k13X (x : MX) (a : OV) (i : Nat) (v : VF) : (go13 KN l13 (s13 x a i v) [some false]).map (fun r => (r.1, r.2.obl, seenInT BX13 r.2 (s13 x a i (VX13 v)) [0, 1])) = some (.exit 0, True ∧ decide (nI i < nI a.n) = false, seenAsT BX13 (s13 x a i (VX13 v)) [0, 1] 2) := by kernel_rfl
theorem ok13X (x0 x : MX) (a : OV) (i : Nat) (v : VF) : picOkT BX13 (z13 x0 a) (s13 x a i (VX13 v)) [0, 1] = true := by kernel_rfl
theorem k13q (x : MX) (a : OV) (i : Nat) (v : VF) : (runSeq Try.prog KN (mk Try.prog KN 200) o13 [0] { s13 x a i v with obl := True, orc := [] }).map (fun r => (r.obl, seenInT BQ13 r (s13q x a (VQ13 v)) [0, 1])) = some (True, seenAsT BQ13 (s13q x a (VQ13 v)) [0, 1] 2) := by kernel_rfl
theorem ok13q (x0 x : MX) (a : OV) (v : VF) : picOkT BQ13 (z13 x0 a) (s13q x a (VQ13 v)) [0, 1] = true := by kernel_rfl
theorem k13e (x : MX) (a : OV) (P n c : Nat) (v : VF) : (runSeq Try.prog KN (mk Try.prog KN 200) o13 [2, 3, 4] { s13r x a (PB_ P n c) v with obl := True, orc := [some true] }).map (fun r => (r.obl, seenInT BE13 r (s13e x a (.bool (decide (nI n + 2 > 255))) (VE13 v)) [0, 1])) = some (True ∧ IntKind.i64.wrap (nI n + 2) = nI n + 2, seenAsT BE13 (s13e x a (.bool (decide (nI n + 2 > 255))) (VE13 v)) [0, 1] 2) := by kernel_rfl
theorem ok13e (x0 x : MX) (a : OV) (n : Nat) (v : VF) : picOkT BE13 (z13 x0 a) (s13e x a (.bool (decide (nI n + 2 > 255))) (VE13 v)) [0, 1] = true := by kernel_rfl
theorem k13t (x : MX) (a : OV) (b : Bool) (v : VF) : (go13 KN c13 (s13e x a (.bool b) v) [some true]).bind (fun r => (results1 Try.prog r.2 [.tmp 2]).map fun q => (r.1, q.2.obl, r.2.defers, oneOf q.1)) = some (.ret, True ∧ b = true, [], .int .i64 3) := by kernel_rfl
theorem k13f (x : MX) (a : OV) (b : Bool) (v : VF) : (go13 KN c13 (s13e x a (.bool b) v) [some false]).map (fun r => (r.1, r.2.obl, seenInT BF13 r.2 (s13e x a (.bool false) (VF13 v)) [0, 1])) = some (.normal, True ∧ b = false, seenAsT BF13 (s13e x a (.bool false) (VF13 v)) [0, 1] 2) := by kernel_rfl
theorem ok13f (x0 x : MX) (a : OV) (b : Bool) (v : VF) : picOkT BF13 (z13 x0 a) (s13e x a (.bool b) (VF13 v)) [0, 1] = true := by kernel_rfl
theorem k13g (x : MX) (a : OV) (b : Bool) (v : VF) : (go13 KN f13 (s13e x a (.bool b) v) []).bind (fun r => (results1 Try.prog r.2 [.tmp 2]).map fun q => (r.1, q.2.obl, r.2.defers, oneOf q.1)) = some (.ret, True, [], .int .i64 0) := by kernel_rfl
theorem up13 (x : MX) (a : OV) (ρ0 : Nat → PB) (W0 : World) (Q_ : Exit → St → Prop) : upW Try.prog none (z13 x a) ρ0 W0 [2, 2, 3, 2, 0] b13 Q_ = fun e s => (fun e s => (e = .normal ∧ StepW Try.prog none (z13 x a) ρ0 W0 e13 s Q_) ∨ (e ≠ .normal ∧ Q_ e s)) (blockOut 0 e) s := by kernel_rfl
end
end ob
end Go.Proofs.Ytpfmilkddapfiaa
namespace Go.Proofs.Ytpfmilkddapfiaa
open Go.ChangeShapes Go.WideShapes Go.ChangeAt Go.RowKit Go.Cln
namespace ob
set_option linter.unusedVariables false
noncomputable section
theorem runLoopE {P : Program} {rd : Option Nat} {s0 : St} {ρ0 : Nat → PB} {w0 : World} {c : Code} {id N : Nat} {I : Nat → St → Prop} {J R : St → Prop}
    (h : ∀ i s, i < N → I i s → StepW P rd s0 ρ0 w0 c s fun e s' => (e = .normal ∧ I (i + 1) s') ∨ (e = .ret ∧ R s')) (hx : ∀ s, I N s → StepW P rd s0 ρ0 w0 c s fun e s' => e = .exit id ∧ J s') {s : St} (h0 : I 0 s) : StepW P rd s0 ρ0 w0 (.loop c) s fun e s' => (e = .exit id ∧ J s') ∨ (e = .ret ∧ R s') := by
  refine StepW.loop (fun q s => ∃ i, q = N - i ∧ i ≤ N ∧ I i s) ?_ N s ⟨0, by omega, Nat.zero_le _, h0⟩
  rintro q s ⟨i, rfl, hi, hI⟩
  by_cases e : i = N
  · subst e
    refine (hx s hI).mono ?_
    rintro e s' ⟨rfl, hj⟩
    exact .inr ⟨(by intro h; cases h), .inl ⟨rfl, hj⟩⟩
  · refine (h i s (by omega) hI).mono ?_
    rintro e s' (⟨rfl, hj⟩ | ⟨rfl, hj⟩)
    · exact .inl ⟨rfl, N - (i + 1), by omega, i + 1, rfl, by omega, hj⟩
    · exact .inr ⟨(by intro h; cases h), .inr ⟨rfl, hj⟩⟩
noncomputable def capW (x : MX) (P i : Nat) : Bool := ((x.CK P i) == 0) || (((x.CK P i) == 65) || (decide (nI (x.CM P i) > 100) || (decide (nI i > 0) && decide (x.CK P (i - 1) ≥ x.CK P i))))
def earlyW (a : OV) : Bool := (a.asn == 0) || ((a.hold == 1) || ((a.hold == 2) || ((a.id == 0) || decide (nI a.n > 8))))
noncomputable def check13 (x : MX) (a : OV) : Int := bif earlyW a then 2 else bif allB (fun i => !capW x a.P i) a.n then (bif decide (nI (acc29 x a a.n).length + 2 > 255) then 3 else 0) else 2
def Q13 (v : Int) : Exit → St → Prop := fun e s' => leaves? e = true ∧ s'.defers = [] ∧ ResV Try.prog [.tmp 2] (.int .i64 v) s'
theorem ixq13_eq {i : Nat} (h : 0 < i) : ixq13 i = i - 1 := by unfold ixq13 nI; omega
theorem acc29_len {x : MX} {a : OV} (hO : capOk x a.P a.n) : ∀ i, i ≤ a.n → (acc29 x a i).length ≤ 6 + i * 1002 := by
  obtain ⟨p1, p2, p3⟩ := hO
  intro i
  induction i with
  | zero => intro _; exact Nat.le_refl _
  | succ i ih =>
    intro hi
    have := ih (by omega)
    obtain ⟨b1, b2⟩ := p3 i (by omega)
    have hr : (rowK x a.P i).length = x.CM a.P i := by have := rowK_len (x := x) (P := a.P) (i := i) (by rw [ix3_eq]; exact b1); rwa [ix3_eq] at this
    unfold acc29
    rw [List.length_append, List.length_append, two29_len, hr]
    omega
theorem set13 (a : OV) (u : Value) (v : VF) : setL (tm13q v a) 74 u = tm13r v a u := by kernel_rfl
theorem g13q (x : MX) (a : OV) (v : VF) : (s13q x a v).heap.get 0 = some (.fam x.F) := by kernel_rfl
theorem g13r (x : MX) (a : OV) (u : Value) (v : VF) : (s13r x a u v).heap.get 0 = some (.fam x.F) := by kernel_rfl
theorem end13 {x0 x : MX} {a : OV} {i : Nat} {v : VF} {ρ0 : Nat → PB} {W0 : World} (hO : capOk x a.P a.n) (hv : ∀ j, DeadV (v j)) : StepW Try.prog none (z13 x0 a) ρ0 W0 e13 (s13 x a i v) (Q13 (bif decide (nI (acc29 x a a.n).length + 2 > 255) then 3 else 0)) := by
  rw [e13_eq]
  refine StepW.seq (StepW.seq (StepW.region ?_))
  rw [o13_eq]
  refine StepO.run pg KN_ok (k13q x a i v) trivial (show 1 ≤ 2 by decide) (tm13q_dead (VQ13_dead hv) lvQ13) (g23_ok x a) rfl (ok13q x0 x a v) ?_
  refine StepO.call' (F := x.F) (g := 29) (vs := [a.v]) (f := .func 29) (args := #[.tmp 73]) (dst := some 74) pg (by kernel_rfl) trivial rfl rfl fn29 rfl (g13q x a _) rfl (laid29 hO) ?_
  rintro F' v' hf ⟨y, P, c, rfl, rfl, hk, hs⟩
  refine ⟨s13r y a (PB_ P (acc29 x a a.n).length c) (VQ13 v), ⟨rfl, rfl, rfl, rfl, rfl, (set13 a _ _).symm, g13r y a _ _, fun j hj => ?_⟩, ?_⟩
  · show (Tr.rebuild _ _).get j = (Tr.rebuild _ _).get j
    rw [Tr.get_rebuild _ _ _ (by decide), Tr.get_rebuild _ _ _ (by decide)]
    split
    · rcases j with _ | _ | j
      · exact absurd rfl hj
      · rfl
      · rfl
    · rfl
  have hl := acc29_len hO a.n (Nat.le_refl _)
  obtain ⟨p1, p2, p3⟩ := hO
  refine StepO.run pg KN_ok (k13e y a P _ c (VQ13 v)) ⟨trivial, by rw [IntKind.wrap_i64]; unfold nI; omega⟩ (show 1 ≤ 2 by decide) (tm13e_dead (VE13_dead (VQ13_dead hv)) lvE13) (g23_ok y a) rfl (ok13e x0 y a _ _) ?_
  refine StepO.nil (.inl ⟨rfl, ?_⟩)
  generalize decide (nI (acc29 x a a.n).length + 2 > 255) = b
  cases b with
  | true =>
    refine ((StepG.ranV (s0 := z13 x0 a) (rd := none) pg KN_ok (k13t y a true _) ⟨trivial, rfl⟩ (show 1 ≤ 2 by decide)).at ρ0 W0).mono ?_
    rintro e s ⟨rfl, h1, h2⟩
    exact .inr ⟨(by intro h; cases h), rfl, h1, h2⟩
  | false =>
    refine ((StepG.stdT (s0 := z13 x0 a) (rd := none) pg KN_ok (k13f y a false _) ⟨trivial, rfl⟩ (show 1 ≤ 2 by decide) (tm13e_dead (VF13_dead (VE13_dead (VQ13_dead hv))) lvF13) (g23_ok y a) rfl (ok13f x0 y a _ _)).at ρ0 W0).mono ?_
    rintro e s ⟨rfl, rfl⟩
    refine .inl ⟨rfl, ?_⟩
    refine ((StepG.ranV (s0 := z13 x0 a) (rd := none) pg KN_ok (k13g y a false _) trivial (show 1 ≤ 2 by decide)).at ρ0 W0).mono ?_
    rintro e s ⟨rfl, h1, h2⟩
    exact ⟨rfl, h1, h2⟩
theorem rd13 {x : MX} {a : OV} (hO : capOk x a.P a.n) (hK : ∀ i, i < a.n → 0 ≤ x.CK a.P i ∧ x.CK a.P i ≤ 255) : Rd Try.prog x.F 13 [a.v] (.int .i64 (check13 x a)) := by
  unfold check13 earlyW
  cases h1 : (a.asn == 0) with
  | true => exact Rd.run pg KN_ok (k13e0 x a) ⟨trivial, h1⟩ rfl
  | false =>
  cases h2 : (a.hold == 1) with
  | true => exact Rd.run pg KN_ok (k13e1 x a) ⟨⟨trivial, h1⟩, h2⟩ rfl
  | false =>
  cases h3 : (a.hold == 2) with
  | true => exact Rd.run pg KN_ok (k13e2 x a) ⟨⟨⟨trivial, h1⟩, h2⟩, h3⟩ rfl
  | false =>
  cases h4 : (a.id == 0) with
  | true => exact Rd.run pg KN_ok (k13e3 x a) ⟨⟨⟨⟨trivial, h1⟩, h2⟩, h3⟩, h4⟩ rfl
  | false =>
  cases h5 : decide (nI a.n > 8) with
  | true => exact Rd.run pg KN_ok (k13e4 x a) ⟨⟨⟨⟨⟨trivial, h1⟩, h2⟩, h3⟩, h4⟩, h5⟩ rfl
  | false =>
  have hO' := hO
  obtain ⟨p1, p2, p3⟩ := hO'
  show Rd Try.prog x.F 13 [a.v] (.int .i64 (bif allB (fun i => !capW x a.P i) a.n then (bif decide (nI (acc29 x a a.n).length + 2 > 255) then 3 else 0) else 2))
  cases hf : Try.prog.funcs[13]? with
  | none => have := fn13; rw [hf] at this; cases this
  | some fn =>
  have hfn := fn13
  rw [hf] at hfn
  simp only [Option.map_some, Option.some.injEq, Prod.mk.injEq] at hfn
  obtain ⟨q1, q2, q3⟩ := hfn
  refine Rd.ofG hf q1 q2 rfl ?_
  rw [q3]
  show StepG Try.prog none (z13 x a) b13 (z13 x a) (Q13 (bif allB (fun i => !capW x a.P i) a.n then (bif decide (nI (acc29 x a a.n).length + 2 > 255) then 3 else 0) else 2))
  refine StepW.all fun ρ0 W0 _ => ?_
  refine StepW.downs pg KN_ok (kD13 x a) ⟨⟨⟨⟨⟨trivial, h1⟩, h2⟩, h3⟩, h4⟩, h5⟩ (tm13_dead (VD13_dead vU_dead) lvD13) (g23_ok x a) rfl (okD13 x x a 0 vU) ?_
  rw [up13]
  refine (runLoopE (id := 0) (N := a.n) (I := fun i s => (∀ j, j < i → capW x a.P j = false) ∧ ∃ v, (∀ j, DeadV (v j)) ∧ s = s13 x a i v) (J := fun s => (∀ j, j < a.n → capW x a.P j = false) ∧ ∃ v, (∀ j, DeadV (v j)) ∧ s = s13 x a a.n v) (R := fun s => (∃ j, j < a.n ∧ capW x a.P j = true) ∧ s.defers = [] ∧ ResV Try.prog [.tmp 2] (.int .i64 2) s) ?_ ?_ ⟨fun j hj => absurd hj (Nat.not_lt_zero j), VD13 vU, VD13_dead vU_dead, rfl⟩).mono ?_
  · rintro i s hi ⟨hb, v, hv, rfl⟩
    obtain ⟨m1, m2⟩ := hK i hi
    have hi2 : i ≤ 1000 := by omega
    have e2 := ix2_eq i
    have c1 : decide (nI i < nI a.n) = true := decide_eq_true (by unfold nI; omega)
    have c2 : 0 ≤ nI i ∧ nI i < nI a.n := by unfold nI; omega
    have c3 : (0 + i * 2) % 2 = 0 ∧ (0 + i * 2) / 2 < x.CN a.P := by omega
    have c4 : IntKind.i64.wrap (x.CK a.P (ix2 i)) = x.CK a.P (ix2 i) := by rw [e2, IntKind.wrap_i64]; omega
    have cw : IntKind.i64.wrap (nI i + 1) = nI i + 1 := by rw [IntKind.wrap_i64]; unfold nI; omega
    have cW : capW x a.P i = (((x.CK a.P (ix2 i)) == 0) || (((x.CK a.P (ix2 i)) == 65) || (decide (nI (x.CM a.P (ix2 i)) > 100) || (decide (nI i > 0) && decide (x.CK a.P (i - 1) ≥ x.CK a.P (ix2 i)))))) := by rw [e2]; rfl
    have bad : capW x a.P i = true → ∀ s', (s'.defers = [] ∧ ResV Try.prog [.tmp 2] (.int .i64 2) s') → ((∃ j, j < a.n ∧ capW x a.P j = true) ∧ s'.defers = [] ∧ ResV Try.prog [.tmp 2] (.int .i64 2) s') := fun hc s' h => ⟨⟨i, hi, hc⟩, h⟩
    cases g1 : ((x.CK a.P (ix2 i)) == 0) with
    | true =>
      refine ((StepG.ranV (s0 := z13 x a) (rd := none) pg KN_ok (k13R0 x a i v) ⟨⟨⟨⟨⟨⟨⟨⟨⟨trivial, c1⟩, c2⟩, c3⟩, c4⟩, g1⟩, g1⟩, g1⟩, g1⟩, g1⟩ (show 1 ≤ 2 by decide)).at ρ0 W0).mono ?_
      rintro e s ⟨rfl, h1, h2⟩
      exact .inr ⟨rfl, bad (by rw [cW, g1]; rfl) _ ⟨h1, h2⟩⟩
    | false =>
    cases g2 : ((x.CK a.P (ix2 i)) == 65) with
    | true =>
      refine ((StepG.ranV (s0 := z13 x a) (rd := none) pg KN_ok (k13R1 x a i v) ⟨⟨⟨⟨⟨⟨⟨⟨⟨⟨⟨⟨⟨⟨⟨trivial, c1⟩, c2⟩, c3⟩, c4⟩, g1⟩, g1⟩, g1⟩, c4⟩, g1⟩, g1⟩, g2⟩, g2⟩, g2⟩, g2⟩, g2⟩ (show 1 ≤ 2 by decide)).at ρ0 W0).mono ?_
      rintro e s ⟨rfl, h1, h2⟩
      exact .inr ⟨rfl, bad (by rw [cW, g1, g2]; rfl) _ ⟨h1, h2⟩⟩
    | false =>
    cases g3 : decide (nI (x.CM a.P (ix2 i)) > 100) with
    | true =>
      refine ((StepG.ranV (s0 := z13 x a) (rd := none) pg KN_ok (k13R2 x a i v) ⟨⟨⟨⟨⟨⟨⟨⟨⟨⟨⟨⟨⟨⟨⟨⟨⟨⟨⟨⟨trivial, c1⟩, c2⟩, c3⟩, c4⟩, g1⟩, g1⟩, g1⟩, c4⟩, g1⟩, g1⟩, g2⟩, g2⟩, g2⟩, g2⟩, g2⟩, g3⟩, g3⟩, g3⟩, g3⟩, g3⟩ (show 1 ≤ 2 by decide)).at ρ0 W0).mono ?_
      rintro e s ⟨rfl, h1, h2⟩
      exact .inr ⟨rfl, bad (by rw [cW, g1, g2, g3]; rfl) _ ⟨h1, h2⟩⟩
    | false =>
    cases g4 : decide (nI i > 0) with
    | false =>
      refine ((StepG.stdT (s0 := z13 x a) (rd := none) pg KN_ok (k13R4 x a i v) ⟨⟨⟨⟨⟨⟨⟨⟨⟨⟨⟨⟨⟨⟨⟨⟨⟨⟨⟨⟨⟨⟨⟨⟨⟨⟨⟨⟨⟨⟨⟨⟨trivial, c1⟩, c2⟩, c3⟩, c4⟩, g1⟩, g1⟩, g1⟩, c4⟩, g1⟩, g1⟩, g2⟩, g2⟩, g2⟩, g2⟩, g2⟩, g3⟩, g3⟩, g3⟩, g4⟩, g4⟩, g4⟩, g4⟩, g4⟩, g4⟩, g4⟩, g4⟩, g4⟩, g4⟩, g3⟩, g4⟩, g3⟩, cw⟩ (show 1 ≤ 2 by decide) (tm13_dead (VS13_dead hv) lvS13) (g23_ok x a) rfl (ok13S x x a (i + 1) v)).at ρ0 W0).mono ?_
      rintro e s ⟨rfl, rfl⟩
      refine .inl ⟨rfl, fun j hj => ?_, VS13 v, VS13_dead hv, rfl⟩
      rcases Nat.lt_succ_iff_lt_or_eq.1 hj with h | rfl
      · exact hb j h
      · rw [cW, g1, g2, g3, g4]; rfl
    | true =>
    have h0 : 0 < i := by have := of_decide_eq_true g4; unfold nI at this; omega
    have c5 : IntKind.i64.wrap (nI i - 1) = nI i - 1 := by rw [IntKind.wrap_i64]; unfold nI; omega
    have c6 : 0 ≤ nI i - 1 ∧ nI i - 1 < nI a.n := by unfold nI; omega
    have c7 : (0 + (nI i - 1).toNat * 2) % 2 = 0 ∧ (0 + (nI i - 1).toNat * 2) / 2 < x.CN a.P := by unfold nI; omega
    cases g5 : decide (x.CK a.P (ixq13 i) ≥ x.CK a.P (ix2 i)) with
    | true =>
      refine ((StepG.ranV (s0 := z13 x a) (rd := none) pg KN_ok (k13R3 x a i v) ⟨⟨⟨⟨⟨⟨⟨⟨⟨⟨⟨⟨⟨⟨⟨⟨⟨⟨⟨⟨⟨⟨⟨⟨⟨⟨⟨⟨⟨⟨⟨⟨⟨⟨⟨trivial, c1⟩, c2⟩, c3⟩, c4⟩, g1⟩, g1⟩, g1⟩, c4⟩, g1⟩, g1⟩, g2⟩, g2⟩, g2⟩, g2⟩, g2⟩, g3⟩, g3⟩, g3⟩, g4⟩, g4⟩, g4⟩, g4⟩, c5⟩, g4⟩, c6⟩, g4⟩, g4⟩, c7⟩, g4⟩, g4⟩, g4⟩, g3⟩, g4⟩, g3⟩, g5⟩ (show 1 ≤ 2 by decide)).at ρ0 W0).mono ?_
      rintro e s ⟨rfl, h1, h2⟩
      refine .inr ⟨rfl, bad (by rw [cW, g1, g2, g3, g4]; rw [ixq13_eq h0] at g5; rw [g5]; rfl) _ ⟨h1, h2⟩⟩
    | false =>
      refine ((StepG.stdT (s0 := z13 x a) (rd := none) pg KN_ok (k13R5 x a i v) ⟨⟨⟨⟨⟨⟨⟨⟨⟨⟨⟨⟨⟨⟨⟨⟨⟨⟨⟨⟨⟨⟨⟨⟨⟨⟨⟨⟨⟨⟨⟨⟨⟨⟨⟨⟨trivial, c1⟩, c2⟩, c3⟩, c4⟩, g1⟩, g1⟩, g1⟩, c4⟩, g1⟩, g1⟩, g2⟩, g2⟩, g2⟩, g2⟩, g2⟩, g3⟩, g3⟩, g3⟩, g4⟩, g4⟩, g4⟩, g4⟩, c5⟩, g4⟩, c6⟩, g4⟩, g4⟩, c7⟩, g4⟩, g4⟩, g4⟩, g3⟩, g4⟩, g3⟩, g5⟩, cw⟩ (show 1 ≤ 2 by decide) (tm13_dead (VR13_dead hv) lvR13) (g23_ok x a) rfl (ok13R x x a (i + 1) v)).at ρ0 W0).mono ?_
      rintro e s ⟨rfl, rfl⟩
      refine .inl ⟨rfl, fun j hj => ?_, VR13 v, VR13_dead hv, rfl⟩
      rcases Nat.lt_succ_iff_lt_or_eq.1 hj with h | rfl
      · exact hb j h
      · rw [cW, g1, g2, g3, g4]; rw [ixq13_eq h0] at g5; rw [g5]; rfl
  · rintro s ⟨hb, v, hv, rfl⟩
    refine ((StepG.stdT (s0 := z13 x a) (rd := none) pg KN_ok (k13X x a a.n v) ⟨trivial, decide_eq_false (by omega)⟩ (show 1 ≤ 2 by decide) (tm13_dead (VX13_dead hv) lvX13) (g23_ok x a) rfl (ok13X x x a a.n v)).at ρ0 W0).mono ?_
    rintro e s ⟨rfl, rfl⟩
    exact ⟨rfl, hb, VX13 v, VX13_dead hv, rfl⟩
  · rintro e s (⟨rfl, hb, v, hv, rfl⟩ | ⟨rfl, ⟨j, hj, hc⟩, h1, h2⟩)
    · refine .inl ⟨rfl, ?_⟩
      have : allB (fun i => !capW x a.P i) a.n = true := allB_all fun j hj => by rw [hb j hj]; rfl
      rw [this]
      exact end13 hO hv
    · refine .inr ⟨(by intro h; cases h), rfl, h1, ?_⟩
      have : allB (fun i => !capW x a.P i) a.n = false := allB_no (by rw [hc]; rfl) hj
      rw [this]
      exact h2
end
end ob
end Go.Proofs.Ytpfmilkddapfiaa
