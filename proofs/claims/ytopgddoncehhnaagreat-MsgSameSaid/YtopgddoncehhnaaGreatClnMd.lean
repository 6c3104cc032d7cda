/- Read off the code by the clean reading. -/
import Derived.Test.YtopgddoncehhnaaGreatClnMc
set_option linter.unusedVariables false
set_option linter.unusedSimpArgs false
set_option linter.deprecated false
set_option maxRecDepth 100000
namespace Go.Proofs.YtopgddoncehhnaaGreat
open Go.ChangeShapes Go.WideShapes Go.ChangeAt Go.RowKit Go.Cln
namespace ob
set_option linter.unusedVariables false
noncomputable section
def bodF : Code := ((Tryz.prog.funcs[4]?).bind (·.body)).getD .skip
def lF0 : Code := loopB Tryz.prog 4 0
def lF1 : Code := loopB Tryz.prog 4 1
def restF : Code := dropC 2 bodF
def tailF : Code := dropC 1 restF
theorem fn4 : (Tryz.prog.funcs[4]?).map (fun f => (f.body, f.results.toList, f.ntmps)) = some (some bodF, [.tmp 2], 82) := by kernel_rfl
noncomputable def zF (x : MX) (a : MV) : St := { smSt 1 [some (.fam x.F)] [] with tmps := [a.v] ++ List.replicate (82 - [a.v].length) undef, defers := [] }
noncomputable def hF (x : MX) (a : MV) : Nat → Option Ob := fun i => match i with
  | 0 => some (.fam x.F)
  | 1 => some (.cells (.lit a.l) 39)
  | _ => none
theorem hF_ok (x : MX) (a : MV) : Go.Cln.RowsIn (hF x a) := by
  intro b n' w' g' t h
  unfold hF at h
  split at h <;> first | (cases h; done) | cases h
noncomputable def tmFA (v : VF) (a : MV) (i : Nat) : List Value := (a.v :: .pointer (some ⟨1, 0, none⟩) :: v 2 :: .int .i64 (nI i) :: vs v 4 78 [])
theorem tmFA_dead {v : VF} {a : MV} {i : Nat} {B : Nat → Bool} (h : ∀ i, DeadV (v i)) (hB : ∀ i, ((Nat.ble 0 i && Nat.ble i 1) || Nat.beq i 3) = true → B i = true) : deadT B 0 (tmFA v a i) :=
  ⟨fun e => absurd e (by rw [hB 0 rfl]; decide), ⟨fun e => absurd e (by rw [hB 1 rfl]; decide), ⟨fun _ => h 2, ⟨fun e => absurd e (by rw [hB 3 rfl]; decide), deadT_vs h 78 (trivial)⟩⟩⟩⟩
noncomputable def tmFB (v : VF) (a : MV) (i : Nat) : List Value := (a.v :: .pointer (some ⟨1, 0, none⟩) :: v 2 :: v 3 :: .int .i64 (nI i) :: vs v 5 77 [])
theorem tmFB_dead {v : VF} {a : MV} {i : Nat} {B : Nat → Bool} (h : ∀ i, DeadV (v i)) (hB : ∀ i, ((Nat.ble 0 i && Nat.ble i 1) || Nat.beq i 4) = true → B i = true) : deadT B 0 (tmFB v a i) :=
  ⟨fun e => absurd e (by rw [hB 0 rfl]; decide), ⟨fun e => absurd e (by rw [hB 1 rfl]; decide), ⟨fun _ => h 2, ⟨fun _ => h 3, ⟨fun e => absurd e (by rw [hB 4 rfl]; decide), deadT_vs h 77 (trivial)⟩⟩⟩⟩⟩
def WDA (i : Nat) : Bool := Nat.beq i 2
noncomputable def VDA (v : VF) : VF := fun i => match WDA i with
  | true => junk
  | false => v i
def BDA (i : Nat) : Bool := ((Nat.ble 0 i && Nat.ble i 1) || Nat.beq i 3) || WDA i
theorem VDA_dead {v : VF} (h : ∀ i, DeadV (v i)) (i : Nat) : DeadV (VDA v i) := by
  unfold VDA
  split
  · exact DeadV.junk
  · exact h i
theorem lvDA (i : Nat) (h : ((Nat.ble 0 i && Nat.ble i 1) || Nat.beq i 3) = true) : BDA i = true := by
  unfold BDA
  simp only [Bool.or_eq_true] at h ⊢
  exact .inl h
def WRA (i : Nat) : Bool := (Nat.ble 6 i && Nat.ble i 22)
noncomputable def VRA (v : VF) : VF := fun i => match WRA i with
  | true => junk
  | false => v i
def BRA (i : Nat) : Bool := ((Nat.ble 0 i && Nat.ble i 1) || Nat.beq i 3) || WRA i
theorem VRA_dead {v : VF} (h : ∀ i, DeadV (v i)) (i : Nat) : DeadV (VRA v i) := by
  unfold VRA
  split
  · exact DeadV.junk
  · exact h i
theorem lvRA (i : Nat) (h : ((Nat.ble 0 i && Nat.ble i 1) || Nat.beq i 3) = true) : BRA i = true := by
  unfold BRA
  simp only [Bool.or_eq_true] at h ⊢
  exact .inl h
def WXA (i : Nat) : Bool := (Nat.ble 6 i && Nat.ble i 11)
noncomputable def VXA (v : VF) : VF := fun i => match WXA i with
  | true => junk
  | false => v i
def BXA (i : Nat) : Bool := ((Nat.ble 0 i && Nat.ble i 1) || Nat.beq i 3) || WXA i
theorem VXA_dead {v : VF} (h : ∀ i, DeadV (v i)) (i : Nat) : DeadV (VXA v i) := by
  unfold VXA
  split
  · exact DeadV.junk
  · exact h i
theorem lvXA (i : Nat) (h : ((Nat.ble 0 i && Nat.ble i 1) || Nat.beq i 3) = true) : BXA i = true := by
  unfold BXA
  simp only [Bool.or_eq_true] at h ⊢
  exact .inl h
def WDB (i : Nat) : Bool := Nat.beq i 3
noncomputable def VDB (v : VF) : VF := fun i => match WDB i with
  | true => junk
  | false => v i
def BDB (i : Nat) : Bool := ((Nat.ble 0 i && Nat.ble i 1) || Nat.beq i 4) || WDB i
theorem VDB_dead {v : VF} (h : ∀ i, DeadV (v i)) (i : Nat) : DeadV (VDB v i) := by
  unfold VDB
  split
  · exact DeadV.junk
  · exact h i
theorem lvDB (i : Nat) (h : ((Nat.ble 0 i && Nat.ble i 1) || Nat.beq i 4) = true) : BDB i = true := by
  unfold BDB
  simp only [Bool.or_eq_true] at h ⊢
  exact .inl h
def WRB (i : Nat) : Bool := (Nat.ble 23 i && Nat.ble i 41)
noncomputable def VRB (v : VF) : VF := fun i => match WRB i with
  | true => junk
  | false => v i
def BRB (i : Nat) : Bool := ((Nat.ble 0 i && Nat.ble i 1) || Nat.beq i 4) || WRB i
theorem VRB_dead {v : VF} (h : ∀ i, DeadV (v i)) (i : Nat) : DeadV (VRB v i) := by
  unfold VRB
  split
  · exact DeadV.junk
  · exact h i
theorem lvRB (i : Nat) (h : ((Nat.ble 0 i && Nat.ble i 1) || Nat.beq i 4) = true) : BRB i = true := by
  unfold BRB
  simp only [Bool.or_eq_true] at h ⊢
  exact .inl h
def WXB (i : Nat) : Bool := (Nat.ble 23 i && Nat.ble i 29)
noncomputable def VXB (v : VF) : VF := fun i => match WXB i with
  | true => junk
  | false => v i
def BXB (i : Nat) : Bool := ((Nat.ble 0 i && Nat.ble i 1) || Nat.beq i 4) || WXB i
theorem VXB_dead {v : VF} (h : ∀ i, DeadV (v i)) (i : Nat) : DeadV (VXB v i) := by
  unfold VXB
  split
  · exact DeadV.junk
  · exact h i
theorem lvXB (i : Nat) (h : ((Nat.ble 0 i && Nat.ble i 1) || Nat.beq i 4) = true) : BXB i = true := by
  unfold BXB
  simp only [Bool.or_eq_true] at h ⊢
  exact .inl h
noncomputable def sFA (x : MX) (a : MV) (i : Nat) (v : VF) : St := ⟨tmFA v a i, [], Tr.rebuild (hF x a) 2, 2, 1, [], fun _ => false, True, []⟩
noncomputable def sFB (x : MX) (a : MV) (i : Nat) (v : VF) : St := ⟨tmFB v a i, [], Tr.rebuild (hF x a) 2, 2, 1, [], fun _ => false, True, []⟩
def goF (c : Code) (s : St) (o : List (Option Bool)) : Option (Exit × St) := (mk Tryz.prog KN 200).code 4 none c { s with obl := True, orc := o }
def gdF (way : List Nat) (c : Code) (s : St) (o : List (Option Bool)) : Option (St × Code) := down (mk Tryz.prog KN 200) 4 none way c { s with obl := True, orc := o }
def fewA (x : MX) (P i : Nat) : Bool := !(decide (nI (x.CM P (ix3 i)) > 200))
def fewB (x : MX) (P i : Nat) : Bool := !(decide (nI (x.LM P (ix3 i)) > 60))
def fewE (x : MX) (a : MV) : Bool := allB (fewA x a.op.P) a.op.n && (allB (fewB x a.at_.P) a.at_.n && (decide (nI a.op.n ≤ 60) && (decide (nI a.gn ≤ 150) && (decide (nI a.nn ≤ 150) && (decide (nI a.at_.n ≤ 20) && (decide (nI a.at_.m ≤ 60) && decide (nI a.dn ≤ 600)))))))
end
end ob
end Go.Proofs.YtopgddoncehhnaaGreat
namespace Go.Proofs.YtopgddoncehhnaaGreat
open Go.ChangeShapes Go.WideShapes Go.ChangeAt Go.RowKit Go.Cln
namespace ob
set_option linter.unusedVariables false
noncomputable section
theorem kRA (x : MX) (a : MV) (i : Nat) (v : VF) : (goF lF0 (sFA x a i v) [some true, some true, some false, none, some true, some false, some true]).map (fun r => (r.1, r.2.obl, seenInT BRA r.2 (sFA x a (i + 1) (VRA v)) [0, 1])) = some (.normal, (((((True ∧ decide (nI i < nI a.op.n) = true) ∧ (0 ≤ nI i ∧ nI i < nI a.op.n)) ∧ ((0 + i * 2 + 1) % 2 = 1 ∧ (0 + i * 2 + 1) / 2 < x.CN a.op.P)) ∧ decide (nI (x.CM a.op.P (ix3 i)) > 200) = false) ∧ IntKind.i64.wrap (nI i + 1) = nI i + 1), seenAsT BRA (sFA x a (i + 1) (VRA v)) [0, 1] 2) := by kernel_rfl
theorem kXA (x : MX) (a : MV) (i : Nat) (v : VF) : (goF lF0 (sFA x a i v) [some false]).map (fun r => (r.1, r.2.obl, seenInT BXA r.2 (sFA x a i (VXA v)) [0, 1])) = some (.exit 0, True ∧ decide (nI i < nI a.op.n) = false, seenAsT BXA (sFA x a i (VXA v)) [0, 1] 2) := by kernel_rfl
theorem kFA (x : MX) (a : MV) (i : Nat) (v : VF) : (goF lF0 (sFA x a i v) [some true, some true, some false, none, some true, some true]).bind (fun r => (results1 Tryz.prog r.2 [.tmp 2]).map fun q => (r.1, q.2.obl, r.2.defers, oneOf q.1)) = some (.ret, ((((True ∧ decide (nI i < nI a.op.n) = true) ∧ (0 ≤ nI i ∧ nI i < nI a.op.n)) ∧ ((0 + i * 2 + 1) % 2 = 1 ∧ (0 + i * 2 + 1) / 2 < x.CN a.op.P)) ∧ decide (nI (x.CM a.op.P (ix3 i)) > 200) = true), [], .bool false) := by kernel_rfl
theorem okDA (x : MX) (a : MV) (i : Nat) (v : VF) : picOkT BDA (zF x a) (sFA x a i (VDA v)) [0, 1] = true := by kernel_rfl
theorem okRA (x : MX) (a : MV) (i : Nat) (v : VF) : picOkT BRA (zF x a) (sFA x a i (VRA v)) [0, 1] = true := by kernel_rfl
theorem okXA (x : MX) (a : MV) (i : Nat) (v : VF) : picOkT BXA (zF x a) (sFA x a i (VXA v)) [0, 1] = true := by kernel_rfl
theorem kRB (x : MX) (a : MV) (i : Nat) (v : VF) : (goF lF1 (sFB x a i v) [some true, some true, some false, none, some true, some false, some true]).map (fun r => (r.1, r.2.obl, seenInT BRB r.2 (sFB x a (i + 1) (VRB v)) [0, 1])) = some (.normal, (((((True ∧ decide (nI i < nI a.at_.n) = true) ∧ (0 ≤ nI i ∧ nI i < nI a.at_.n)) ∧ ((0 + i * 2 + 1) % 2 = 1 ∧ (0 + i * 2 + 1) / 2 < x.LN a.at_.P)) ∧ decide (nI (x.LM a.at_.P (ix3 i)) > 60) = false) ∧ IntKind.i64.wrap (nI i + 1) = nI i + 1), seenAsT BRB (sFB x a (i + 1) (VRB v)) [0, 1] 2) := by kernel_rfl
theorem kXB (x : MX) (a : MV) (i : Nat) (v : VF) : (goF lF1 (sFB x a i v) [some false]).map (fun r => (r.1, r.2.obl, seenInT BXB r.2 (sFB x a i (VXB v)) [0, 1])) = some (.exit 2, True ∧ decide (nI i < nI a.at_.n) = false, seenAsT BXB (sFB x a i (VXB v)) [0, 1] 2) := by kernel_rfl
theorem kFB (x : MX) (a : MV) (i : Nat) (v : VF) : (goF lF1 (sFB x a i v) [some true, some true, some false, none, some true, some true]).bind (fun r => (results1 Tryz.prog r.2 [.tmp 2]).map fun q => (r.1, q.2.obl, r.2.defers, oneOf q.1)) = some (.ret, ((((True ∧ decide (nI i < nI a.at_.n) = true) ∧ (0 ≤ nI i ∧ nI i < nI a.at_.n)) ∧ ((0 + i * 2 + 1) % 2 = 1 ∧ (0 + i * 2 + 1) / 2 < x.LN a.at_.P)) ∧ decide (nI (x.LM a.at_.P (ix3 i)) > 60) = true), [], .bool false) := by kernel_rfl
theorem okDB (x : MX) (a : MV) (i : Nat) (v : VF) : picOkT BDB (zF x a) (sFB x a i (VDB v)) [0, 1] = true := by kernel_rfl
theorem okRB (x : MX) (a : MV) (i : Nat) (v : VF) : picOkT BRB (zF x a) (sFB x a i (VRB v)) [0, 1] = true := by kernel_rfl
theorem okXB (x : MX) (a : MV) (i : Nat) (v : VF) : picOkT BXB (zF x a) (sFB x a i (VXB v)) [0, 1] = true := by kernel_rfl
theorem kDA (x : MX) (a : MV) : (gdF [2, 3, 2, 0] bodF (zF x a) []).map (fun r => (r.2, r.1.obl, seenInT BDA r.1 (sFA x a 0 (VDA vU)) [0, 1])) = some (.loop lF0, True, seenAsT BDA (sFA x a 0 (VDA vU)) [0, 1] 2) := by kernel_rfl
theorem kDB (x : MX) (a : MV) (i : Nat) (v : VF) : (gdF [3, 2, 0] restF (sFA x a i v) []).map (fun r => (r.2, r.1.obl, seenInT BDB r.1 (sFB x a 0 (VDB v)) [0, 1])) = some (.loop lF1, True, seenAsT BDB (sFB x a 0 (VDB v)) [0, 1] 2) := by kernel_rfl
theorem upA (x : MX) (a : MV) (Q_ : Exit → St → Prop) : upQ Tryz.prog none (zF x a) [2, 3, 2, 0] bodF Q_ = fun e s => (fun e s => (e = .normal ∧ StepG Tryz.prog none (zF x a) restF s Q_) ∨ (e ≠ .normal ∧ Q_ e s)) (blockOut 0 e) s := by kernel_rfl
theorem upB (x : MX) (a : MV) (Q_ : Exit → St → Prop) : upQ Tryz.prog none (zF x a) [3, 2, 0] restF Q_ = fun e s => (fun e s => (e = .normal ∧ StepG Tryz.prog none (zF x a) tailF s Q_) ∨ (e ≠ .normal ∧ Q_ e s)) (blockOut 2 e) s := by kernel_rfl
theorem kT0 (x : MX) (a : MV) (i : Nat) (v : VF) : (goF tailF (sFB x a i v) [some false]).bind (fun r => (results1 Tryz.prog r.2 [.tmp 2]).map fun q => (r.1, q.2.obl, r.2.defers, oneOf q.1)) = some (.ret, (True ∧ decide (nI a.op.n ≤ 60) = false), [], .bool false) := by kernel_rfl
theorem kT1 (x : MX) (a : MV) (i : Nat) (v : VF) : (goF tailF (sFB x a i v) [some true, none, none, none, none, some false]).bind (fun r => (results1 Tryz.prog r.2 [.tmp 2]).map fun q => (r.1, q.2.obl, r.2.defers, oneOf q.1)) = some (.ret, ((True ∧ decide (nI a.op.n ≤ 60) = true) ∧ decide (nI a.gn ≤ 150) = false), [], .bool false) := by kernel_rfl
theorem kT2 (x : MX) (a : MV) (i : Nat) (v : VF) : (goF tailF (sFB x a i v) [some true, none, none, none, none, some true, none, none, none, none, some false]).bind (fun r => (results1 Tryz.prog r.2 [.tmp 2]).map fun q => (r.1, q.2.obl, r.2.defers, oneOf q.1)) = some (.ret, (((True ∧ decide (nI a.op.n ≤ 60) = true) ∧ decide (nI a.gn ≤ 150) = true) ∧ decide (nI a.nn ≤ 150) = false), [], .bool false) := by kernel_rfl
theorem kT3 (x : MX) (a : MV) (i : Nat) (v : VF) : (goF tailF (sFB x a i v) [some true, none, none, none, none, some true, none, none, none, none, some true, none, none, none, none, none, some false]).bind (fun r => (results1 Tryz.prog r.2 [.tmp 2]).map fun q => (r.1, q.2.obl, r.2.defers, oneOf q.1)) = some (.ret, ((((True ∧ decide (nI a.op.n ≤ 60) = true) ∧ decide (nI a.gn ≤ 150) = true) ∧ decide (nI a.nn ≤ 150) = true) ∧ decide (nI a.at_.n ≤ 20) = false), [], .bool false) := by kernel_rfl
theorem kT4 (x : MX) (a : MV) (i : Nat) (v : VF) : (goF tailF (sFB x a i v) [some true, none, none, none, none, some true, none, none, none, none, some true, none, none, none, none, none, some true, none, none, none, none, none, some false]).bind (fun r => (results1 Tryz.prog r.2 [.tmp 2]).map fun q => (r.1, q.2.obl, r.2.defers, oneOf q.1)) = some (.ret, (((((True ∧ decide (nI a.op.n ≤ 60) = true) ∧ decide (nI a.gn ≤ 150) = true) ∧ decide (nI a.nn ≤ 150) = true) ∧ decide (nI a.at_.n ≤ 20) = true) ∧ decide (nI a.at_.m ≤ 60) = false), [], .bool false) := by kernel_rfl
theorem kT5 (x : MX) (a : MV) (i : Nat) (v : VF) : (goF tailF (sFB x a i v) [some true, none, none, none, none, some true, none, none, none, none, some true, none, none, none, none, none, some true, none, none, none, none, none, some true]).bind (fun r => (results1 Tryz.prog r.2 [.tmp 2]).map fun q => (r.1, q.2.obl, r.2.defers, oneOf q.1)) = some (.ret, (((((True ∧ decide (nI a.op.n ≤ 60) = true) ∧ decide (nI a.gn ≤ 150) = true) ∧ decide (nI a.nn ≤ 150) = true) ∧ decide (nI a.at_.n ≤ 20) = true) ∧ decide (nI a.at_.m ≤ 60) = true), [], .bool (decide (nI a.dn ≤ 600))) := by kernel_rfl
def fewOk (x : MX) (a : MV) : Prop := a.op.n ≤ x.CN a.op.P ∧ a.at_.n ≤ x.LN a.at_.P ∧ (a.op.n : Int) ≤ 9223372036854775807 ∧ (a.at_.n : Int) ≤ 9223372036854775807
theorem rd4 {x : MX} {a : MV} (h : fewOk x a) : Rd Tryz.prog x.F 4 [a.v] (.bool (fewE x a)) := by
  obtain ⟨h1, h2, h3, h4⟩ := h
  refine rd_fn (s0 := zF x a) rfl fn4 rfl ?_
  refine StepG.downs pg KN_ok (kDA x a) trivial (tmFA_dead (VDA_dead vU_dead) lvDA) (hF_ok x a) rfl (okDA x a 0 vU) ?_
  rw [upA]
  refine (cmpLoop (pic := fun i v => sFA x a i v) (e := fewA x a.op.P) (N := a.op.n) (id := 0) (QD := fun s => s.defers = [] ∧ ResV Tryz.prog [.tmp 2] (.bool false) s) ?_ ?_ ?_ (VDA_dead vU_dead)).mono ?_
  · intro i v hv hi he
    unfold fewA at he
    refine (StepG.stdT (s0 := zF x a) (rd := none) pg KN_ok (kRA x a i v) ?_ (show 1 ≤ 2 by decide) (tmFA_dead (VRA_dead hv) lvRA) (hF_ok x a) rfl (okRA x a (i + 1) v)).mono ?_
    · exact ⟨⟨⟨⟨⟨trivial, decide_eq_true (by unfold nI; omega)⟩, by unfold nI; omega⟩, ⟨by omega, by omega⟩⟩, by simpa using he⟩, by rw [IntKind.wrap_i64]; unfold nI; omega⟩
    · rintro ex s_ ⟨rfl, rfl⟩
      exact ⟨rfl, _, VRA_dead hv, rfl⟩
  · intro i v hv hi he
    unfold fewA at he
    exact StepG.ranV (s0 := zF x a) (rd := none) pg KN_ok (kFA x a i v) ⟨⟨⟨⟨trivial, decide_eq_true (by unfold nI; omega)⟩, by unfold nI; omega⟩, ⟨by omega, by omega⟩⟩, by simpa using he⟩ (show 1 ≤ 2 by decide)
  · intro v hv
    refine (StepG.stdT (s0 := zF x a) (rd := none) pg KN_ok (kXA x a a.op.n v) ⟨trivial, decide_eq_false (by omega)⟩ (show 1 ≤ 2 by decide) (tmFA_dead (VXA_dead hv) lvXA) (hF_ok x a) rfl (okXA x a a.op.n v)).mono ?_
    rintro ex s_ ⟨rfl, rfl⟩
    exact ⟨rfl, _, VXA_dead hv, rfl⟩
  · rintro ex s (⟨rfl, e1, v, hv, rfl⟩ | ⟨rfl, e1, hq⟩)
    · refine .inl ⟨by simp [blockOut], ?_⟩
      refine StepG.downs pg KN_ok (kDB x a a.op.n v) trivial (tmFB_dead (VDB_dead hv) lvDB) (hF_ok x a) rfl (okDB x a 0 v) ?_
      rw [upB]
      refine (cmpLoop (pic := fun i v => sFB x a i v) (e := fewB x a.at_.P) (N := a.at_.n) (id := 2) (QD := fun s => s.defers = [] ∧ ResV Tryz.prog [.tmp 2] (.bool false) s) ?_ ?_ ?_ (VDB_dead hv)).mono ?_
      · intro i v hv hi he
        unfold fewB at he
        refine (StepG.stdT (s0 := zF x a) (rd := none) pg KN_ok (kRB x a i v) ?_ (show 1 ≤ 2 by decide) (tmFB_dead (VRB_dead hv) lvRB) (hF_ok x a) rfl (okRB x a (i + 1) v)).mono ?_
        · exact ⟨⟨⟨⟨⟨trivial, decide_eq_true (by unfold nI; omega)⟩, by unfold nI; omega⟩, ⟨by omega, by omega⟩⟩, by simpa using he⟩, by rw [IntKind.wrap_i64]; unfold nI; omega⟩
        · rintro ex s_ ⟨rfl, rfl⟩
          exact ⟨rfl, _, VRB_dead hv, rfl⟩
      · intro i v hv hi he
        unfold fewB at he
        exact StepG.ranV (s0 := zF x a) (rd := none) pg KN_ok (kFB x a i v) ⟨⟨⟨⟨trivial, decide_eq_true (by unfold nI; omega)⟩, by unfold nI; omega⟩, ⟨by omega, by omega⟩⟩, by simpa using he⟩ (show 1 ≤ 2 by decide)
      · intro v hv
        refine (StepG.stdT (s0 := zF x a) (rd := none) pg KN_ok (kXB x a a.at_.n v) ⟨trivial, decide_eq_false (by omega)⟩ (show 1 ≤ 2 by decide) (tmFB_dead (VXB_dead hv) lvXB) (hF_ok x a) rfl (okXB x a a.at_.n v)).mono ?_
        rintro ex s_ ⟨rfl, rfl⟩
        exact ⟨rfl, _, VXB_dead hv, rfl⟩
      · rintro ex s (⟨rfl, e2, v2, hv2, rfl⟩ | ⟨rfl, e2, hq⟩)
        · refine .inl ⟨by simp [blockOut], ?_⟩
          by_cases g0 : (decide (nI a.op.n ≤ 60)) = true
          rotate_left
          · have g0 : (decide (nI a.op.n ≤ 60)) = false := Bool.eq_false_iff.2 g0
            rw [show fewE x a = false by simp only [fewE, e1, e2, g0, Bool.false_and, Bool.true_and]]
            exact (StepG.ranV pg KN_ok (kT0 x a a.at_.n v2) ⟨trivial, g0⟩ (show 1 ≤ 2 by decide)).mono fun e s h => ⟨by rw [h.1]; rfl, h.2⟩
          by_cases g1 : (decide (nI a.gn ≤ 150)) = true
          rotate_left
          · have g1 : (decide (nI a.gn ≤ 150)) = false := Bool.eq_false_iff.2 g1
            rw [show fewE x a = false by simp only [fewE, e1, e2, g0, g1, Bool.false_and, Bool.true_and]]
            exact (StepG.ranV pg KN_ok (kT1 x a a.at_.n v2) ⟨⟨trivial, g0⟩, g1⟩ (show 1 ≤ 2 by decide)).mono fun e s h => ⟨by rw [h.1]; rfl, h.2⟩
          by_cases g2 : (decide (nI a.nn ≤ 150)) = true
          rotate_left
          · have g2 : (decide (nI a.nn ≤ 150)) = false := Bool.eq_false_iff.2 g2
            rw [show fewE x a = false by simp only [fewE, e1, e2, g0, g1, g2, Bool.false_and, Bool.true_and]]
            exact (StepG.ranV pg KN_ok (kT2 x a a.at_.n v2) ⟨⟨⟨trivial, g0⟩, g1⟩, g2⟩ (show 1 ≤ 2 by decide)).mono fun e s h => ⟨by rw [h.1]; rfl, h.2⟩
          by_cases g3 : (decide (nI a.at_.n ≤ 20)) = true
          rotate_left
          · have g3 : (decide (nI a.at_.n ≤ 20)) = false := Bool.eq_false_iff.2 g3
            rw [show fewE x a = false by simp only [fewE, e1, e2, g0, g1, g2, g3, Bool.false_and, Bool.true_and]]
            exact (StepG.ranV pg KN_ok (kT3 x a a.at_.n v2) ⟨⟨⟨⟨trivial, g0⟩, g1⟩, g2⟩, g3⟩ (show 1 ≤ 2 by decide)).mono fun e s h => ⟨by rw [h.1]; rfl, h.2⟩
          by_cases g4 : (decide (nI a.at_.m ≤ 60)) = true
          rotate_left
          · have g4 : (decide (nI a.at_.m ≤ 60)) = false := Bool.eq_false_iff.2 g4
            rw [show fewE x a = false by simp only [fewE, e1, e2, g0, g1, g2, g3, g4, Bool.false_and, Bool.true_and]]
            exact (StepG.ranV pg KN_ok (kT4 x a a.at_.n v2) ⟨⟨⟨⟨⟨trivial, g0⟩, g1⟩, g2⟩, g3⟩, g4⟩ (show 1 ≤ 2 by decide)).mono fun e s h => ⟨by rw [h.1]; rfl, h.2⟩
          rw [show fewE x a = decide (nI a.dn ≤ 600) by simp only [fewE, e1, e2, g0, g1, g2, g3, g4, Bool.true_and]]
          exact (StepG.ranV pg KN_ok (kT5 x a a.at_.n v2) ⟨⟨⟨⟨⟨trivial, g0⟩, g1⟩, g2⟩, g3⟩, g4⟩ (show 1 ≤ 2 by decide)).mono fun e s h => ⟨by rw [h.1]; rfl, h.2⟩
        · refine .inr ⟨by simp [blockOut], rfl, hq.1, ?_⟩
          rw [show fewE x a = false by simp only [fewE, e1, e2, Bool.true_and, Bool.false_and]]
          exact hq.2
    · refine .inr ⟨by simp [blockOut], rfl, hq.1, ?_⟩
      rw [show fewE x a = false by simp only [fewE, e1, Bool.false_and]]
      exact hq.2
end
end ob
end Go.Proofs.YtopgddoncehhnaaGreat
namespace Go.Proofs.YtopgddoncehhnaaGreat
open Go.ChangeShapes Go.WideShapes Go.ChangeAt Go.RowKit Go.Cln
namespace ob
set_option linter.unusedVariables false
noncomputable section
noncomputable def mvOf (l : List Value) : Option MV := match l with
  | [.int .i64 xk, .int .u32 xo1, .int .u16 xo2, .int .u32 xo3, .slice (some ⟨xP1, 0, some 1003⟩) xn1 xc1, .slice (some ⟨xP2, 0, some 1004⟩) xn2 xc2, .slice (some ⟨xP3, 0, some 1004⟩) xn3 xc3, .int .u8 xa1, .slice (some ⟨xP4, 0, some 1002⟩) xn4 xc4, .int .u32 xa2, .bool xa3, .int .u32 xa4, .bool xa5, .int .u32 xa6, .slice (some ⟨xP5, 0, some 1001⟩) xn5 xc5, .int .u8 xd1, .int .u8 xd2, .slice (some ⟨xP6, 0, some 1000⟩) xn6 xc6] => some ⟨xk, ⟨xo1, xo2, xo3, xP1, xn1, xc1⟩, xP2, xn2, xc2, xP3, xn3, xc3, ⟨xa1, xP4, xn4, xc4, xa2, xa3, xa4, xa5, xa6, xP5, xn5, xc5⟩, xd1, xd2, xP6, xn6, xc6⟩
  | _ => none
theorem mvOf_eq {l : List Value} {m : MV} (h : mvOf l = some m) : l = m.l := by
  unfold mvOf at h
  split at h
  · cases h; rfl
  · cases h
noncomputable def T4 (x : MX) (f : FuncId) (args : List Value) : Option (Value × Prop) :=
  if f == 4 then (match args with
    | [.agg a] => (match mvOf a.toList with
      | some A => some (.bool (fewE x A), fewOk x A)
      | none => none)
    | _ => none)
  else if f == 6 || f == 7 then (match args with
    | [.agg a, .agg b] => (match mvOf a.toList with
      | some A => (match mvOf b.toList with
        | some B => some (.bool (msgE x A B), msgOk x A ∧ msgOk x B)
        | none => none)
      | none => none)
    | _ => none)
  else none
theorem far_v (a : MV) : farV a.v = true := rfl
theorem T4_ok (x : MX) (f : FuncId) (args : List Value) (r : Value × Prop) (h : T4 x f args = some r) : flat r.1 = true ∧ args.all farV = true ∧ (r.2 → Rd Tryz.prog x.F f args r.1) := by
  unfold T4 at h
  split at h
  · rename_i hf
    have hf : f = 4 := by simpa using hf
    subst hf
    split at h
    · split at h
      · rename_i a A ha
        cases h
        have ea := agg_eq (mvOf_eq ha)
        subst ea
        exact ⟨rfl, by show (farV A.v && true) = true; rw [far_v]; rfl, fun hp => rd4 hp⟩
      · cases h
    · cases h
  · split at h
    · rename_i _ hf
      have hf : f = 6 ∨ f = 7 := by simpa using hf
      split at h
      · split at h
        · rename_i a b A ha
          split at h
          · rename_i B hb
            cases h
            have ea := agg_eq (mvOf_eq ha)
            have eb := agg_eq (mvOf_eq hb)
            subst ea
            subst eb
            refine ⟨rfl, by show (farV A.v && (farV B.v && true)) = true; rw [far_v, far_v]; rfl, fun hp => ?_⟩
            rcases hf with rfl | rfl
            · exact rd6 hp.1 hp.2
            · exact rd7 hp.1 hp.2
          · cases h
        · cases h
      · cases h
    · cases h
noncomputable def K4 (x : MX) : Given := { Given.rds (Given.one 5 (.bool true)) x.F (T4 x) with fits := true }
theorem K4_ok (x : MX) : GivenOk Tryz.prog (K4 x) := frames_fits ((GivenOk.one (P := Tryz.prog) (f := 5) (v := .bool true) rfl works).rds (T4_ok x)) true
end
end ob
end Go.Proofs.YtopgddoncehhnaaGreat
namespace Go.Proofs.YtopgddoncehhnaaGreat
open Go.ChangeShapes Go.WideShapes Go.ChangeAt Go.RowKit Go.Cln
namespace ob
set_option linter.unusedVariables false
noncomputable section
theorem m1 (x : MX) (a b : MV) : (call_ (K4 x) x 3 [a.v, b.v] [some true]).map (fun r => (r.1, r.2.obl)) = some (.bool true, (True ∧ (x.F = x.F ∧ fewOk x a)) ∧ (!(fewE x a)) = true) := by kernel_rfl
theorem m2 (x : MX) (a b : MV) : (call_ (K4 x) x 3 [a.v, b.v] [some false, none, none, none, some true]).map (fun r => (r.1, r.2.obl)) = some (.bool true, (((True ∧ (x.F = x.F ∧ fewOk x a)) ∧ (!(fewE x a)) = false) ∧ (x.F = x.F ∧ fewOk x b)) ∧ (!(fewE x b)) = true) := by kernel_rfl
theorem m3 (x : MX) (a b : MV) : (call_ (K4 x) x 3 [a.v, b.v] [some false, none, none, none, some false, some true, some true, some true, some true, some true, some true]).map (fun r => (r.1, r.2.obl)) = some (.bool true,
    ((((((((((((True ∧ (x.F = x.F ∧ fewOk x a)) ∧ (!(fewE x a)) = false) ∧ (x.F = x.F ∧ fewOk x b)) ∧ (!(fewE x b)) = false) ∧ (x.F = x.F ∧ msgOk x a ∧ msgOk x b)) ∧ (x.F = x.F ∧ msgOk x a ∧ msgOk x b)) ∧ (msgE x a b == msgE x a b) = true) ∧ (msgE x a b == msgE x a b) = true) ∧ (msgE x a b == msgE x a b) = true) ∧ (x.F = x.F ∧ msgOk x a ∧ msgOk x a)) ∧ (msgE x a b == msgE x a b) = true) ∧ msgE x a a = true) ∧ msgE x a a = true) := by kernel_rfl
end
end ob
end Go.Proofs.YtopgddoncehhnaaGreat
